import Derived.Test.YtedfdbcoinfjaaaTmt
namespace Go.Proofs.Ytedfdbcoinfjaaa
open Go.RowKit Go.Proofs.Ytedfdbcoinfjaaa.Ds

theorem tall_any (h : Int) (r : Bool) (hr : decide (0 ≤ h ∧ h ≤ 10) = r) (w : World) : Calls Try.prog 14 #[.int .i64 h] w fun e w' => e = .returned (.bool r) ∧ w' = w := by
  by_cases h0 : 0 ≤ h
  · by_cases h1 : h ≤ 10
    · obtain rfl : true = r := by rw [← hr]; simp [h0, h1]
      have g0 : h ≥ 0 := h0
      go_enter Try.func14, Try.ntmps14
      go_wp2
      go_ret
      exact ⟨rfl, rfl⟩
    · obtain rfl : false = r := by rw [← hr]; simp [h1]
      have g0 : h ≥ 0 := h0
      go_enter Try.func14, Try.ntmps14
      go_wp2
      go_ret
      exact ⟨rfl, rfl⟩
  · obtain rfl : false = r := by rw [← hr]; simp [h0]
    have g0 : ¬ h ≥ 0 := h0
    go_enter Try.func14, Try.ntmps14
    go_wp2
    go_ret
    exact ⟨rfl, rfl⟩
theorem wrap_pow {k : Nat} (hk : k ≤ 62) : IntKind.i64.wrap ((2 : Int) ^ k) = ((2 ^ k : Nat) : Int) := by
  have : 2 ^ k ≤ 2 ^ 62 := Nat.pow_le_pow_right (by decide) hk
  rw [IntKind.wrap_i64]
  have e : ((2 : Int) ^ k) = ((2 ^ k : Nat) : Int) := by simp
  rw [e]
  generalize 2 ^ k = q at *
  omega
theorem len_any (k : Nat) (hk : k ≤ 10) (w : World) : Calls Try.prog 15 #[.int .i64 (k : Int)] w fun e w' => e = .returned (.int .i64 ((2 ^ k : Nat) : Int)) ∧ w' = w := by
  have hw : IntKind.i64.wrap ((2 : Int) ^ k) = (2 : Int) ^ k := by rw [wrap_pow (by omega)]; simp
  have h0 : (0 : Int) ≤ (k : Int) := by omega
  have h1 : (k : Int) ≤ 64 := by omega
  go_enter Try.func15, Try.ntmps15
  go_wp2
  go_ret
  refine ⟨?_, rfl⟩
  simp

set_option maxRecDepth 100000 in
theorem long_any (k : Nat) (hk : k ≤ 60) (w : World) : Calls Try.prog 13 #[.int .i64 (k : Int)] w fun e w' => e = .returned (.int .i64 ((2 ^ k : Nat) : Int)) ∧ w' = w := by
  go_enter Try.func13, Try.ntmps13
  go_wp2
  go_loopw [3, 4] (fun n s wr => ∃ (i q : Nat), s = .int .i64 (i : Int) ∧ n = .int .i64 (q : Int) ∧ i ≤ k ∧ Hid (2 ^ i = q) ∧ wr = w) (fun _ s _ => k - (intOf s).toNat)
  case atStart => exact ⟨0, 1, rfl, rfl, Nat.zero_le _, rfl, rfl⟩
  case round =>
    obtain ⟨i, q, rfl, rfl, hi, HQ, hwr⟩ := hrel
    have hwy := hwr.symm
    subst hwy
    clear hwr
    by_cases h1 : i < k
    · have hq : 2 * q ≤ 2 ^ 61 := by
        have : 2 ^ i ≤ 2 ^ 60 := Nat.pow_le_pow_right (by decide) (by omega)
        rw [← HQ.out]; omega
      have z1 : (i : Int) < (k : Int) := by omega
      go_wp2
      go_roundw
      case rel => exact ⟨i + 1, 2 * q, by go_num, by go_num, by omega, by rw [Hid, Nat.pow_succ, HQ.out]; omega, by first | rfl | trivial⟩
      case measure => simp [intOf]; omega
    · obtain rfl : i = k := by omega
      go_wp2
      go_ret
      exact ⟨by rw [HQ.out]; rfl, rfl⟩
end Go.Proofs.Ytedfdbcoinfjaaa

import Derived.Test.YtfofdbcmaokkcaaSbm
import Derived.Test.YtfofdbcmaokkcaaRmk
namespace Go.Proofs.Ytfofdbcmaokkcaa
open Go.RowKit Go.Proofs.Ytfofdbcmaokkcaa.Ds

theorem pow_pos' {x : Int} (h : 1 ≤ x) (n : Nat) : 1 ≤ x ^ n := by
  have := Int.pow_pos (n := x) (m := n) (by omega)
  omega
theorem pow_mono {x : Int} (h : 1 ≤ x) {i n : Nat} (hi : i ≤ n) : x ^ i ≤ x ^ n := Sb.pow_up h hi
theorem ret_n {a b : Int} (h : a = b) : Ending.returned (.int .i64 a) = .returned (.int .i64 b) := by rw [h]

/-- the reference's power, up to a limit -/
def lim (x : Int) : Int := if x ≤ 1073741824 then x else 1073741825
theorem rpow_any (x : Int) (n : Nat) (hn : n ≤ 4096) (hx : 1 ≤ x) (h : x ≤ 1073741824) (r : Int) (hr : lim (x ^ n) = r) (w : World) :
    Calls Try.prog 14 #[.int .i64 x, .int .i64 (n : Int)] w fun e w' => e = .returned (.int .i64 r) ∧ w' = w := by
  have HR : Hid (lim (x ^ n) = r) := hr
  clear hr
  go_enter Try.func14, Try.ntmps14
  go_wp2
  go_loop [5, 6] (fun a c => ∃ i : Nat, i ≤ n ∧ a = .int .i64 (x ^ i) ∧ c = .int .i64 (i : Int) ∧ x ^ i ≤ 1152921504606846976) (fun _ c => n - (intOf c).toNat)
  case atStart => exact ⟨0, Nat.zero_le _, by simp, rfl, by simp⟩
  case round =>
    obtain ⟨i, hi, rfl, rfl, hle⟩ := hrel
    obtain ⟨P, hP⟩ : ∃ P, x ^ i = P := ⟨_, rfl⟩
    have hP0 : 1 ≤ P := by rw [← hP]; exact pow_pos' hx i
    rw [hP] at hle
    by_cases c2 : 1073741824 < P
    · have hr : r = 1073741825 := by
        rw [← HR.out, lim, if_neg]
        have := pow_mono hx hi
        omega
      subst hr
      rw [hP]
      clear HR hP
      by_cases c : i < n
      · go_wp2
        go_ret
        exact ⟨rfl, rfl⟩
      · have : i = n := by omega
        subst this
        go_wp2
        go_ret
        exact ⟨rfl, rfl⟩
    · by_cases c : i < n
      · have HE : Hid (x ^ (i + 1) = P * x) := by show _ = _; rw [Int.pow_succ, hP]
        have b0 : 0 ≤ P * x := Int.mul_nonneg (by omega) (by omega)
        have b1 : P * x ≤ 1073741824 * 1073741824 := Int.mul_le_mul (by omega) h (by omega) (by omega)
        rw [hP]
        clear hP
        go_wp2
        go_round
        case rel => exact ⟨i + 1, c, by rw [HE.out], by go_num, by rw [HE.out]; omega⟩
        case measure => simp [intOf]; omega
      · have : i = n := by omega
        subst this
        have hr : r = P := by
          rw [← HR.out, lim, if_pos] <;> omega
        subst hr
        rw [hP]
        clear HR hP
        go_wp2
        go_ret
        exact ⟨rfl, rfl⟩

/-! ### a loss -/
end Go.Proofs.Ytfofdbcmaokkcaa

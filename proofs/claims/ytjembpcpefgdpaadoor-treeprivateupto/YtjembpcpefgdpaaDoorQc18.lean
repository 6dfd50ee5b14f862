import Derived.Test.YtjembpcpefgdpaaDoorQc15
import Derived.Test.YtjembpcpefgdpaaDoorQc17
import Derived.Test.YtjembpcpefgdpaaDoorQc16
namespace Go.Proofs.YtjembpcpefgdpaaDoor
open Go.RowKit Go.Proofs.YtjembpcpefgdpaaDoor.Ds

theorem ret_n {a b : Int} (h : a = b) : Ending.returned (.int .i64 a) = .returned (.int .i64 b) := by rw [h]

/-- into -/
theorem into_any (n lo hi : Int) (w : World) :
    Calls Tryd.prog 50 #[.int .i64 n, .int .i64 lo, .int .i64 hi] w fun e w' => e = .returned (.int .i64 (plcT lo hi n)) ∧ w' = w := by
  go_enter Tryd.func50, Tryd.ntmps50
  go_wp2
  all_goals
    go_ret
    refine ⟨ret_n ?_, rfl⟩
    unfold plcT
    first | omega | (split at * <;> omega)

/-- power, of what is not too much -/
theorem npow_any (x : Int) (n : Nat) (hn : n ≤ 4096) (hx : 1 ≤ x) (h : x ^ n ≤ 1073741824) (w : World) :
    Calls Tryd.prog 61 #[.int .i64 x, .int .i64 (n : Int)] w fun e w' => e = .returned (.int .i64 (x ^ n)) ∧ w' = w := by
  have H : Hid (x ^ n ≤ 1073741824) := h
  clear h
  go_enter Tryd.func61, Tryd.ntmps61
  go_wp2
  go_loop [5, 7] (fun a c => ∃ i : Nat, i ≤ n ∧ a = .int .i64 (x ^ i) ∧ c = .int .i64 (i : Int)) (fun _ c => n - (intOf c).toNat)
  case atStart => exact ⟨0, Nat.zero_le _, by simp, rfl⟩
  case round =>
    obtain ⟨i, hi, rfl, rfl⟩ := hrel
    obtain ⟨P, hP⟩ : ∃ P, x ^ i = P := ⟨_, rfl⟩
    by_cases c : i < n
    · have b1 := Int.le_trans (pow_mono hx (show i + 1 ≤ n from c)) H.out
      have b0 := pow_pos' hx (i + 1)
      have HE : Hid (x ^ (i + 1) = P * x) := by show x ^ (i + 1) = P * x; rw [Int.pow_succ, hP]
      rw [HE.out] at b1 b0
      rw [hP]
      clear hP H
      go_wp2
      go_round
      case rel => exact ⟨i + 1, c, by rw [HE.out], by go_num⟩
      case measure => simp [intOf]; omega
    · have : i = n := by omega
      subst this
      go_wp2
      go_ret
      exact ⟨rfl, rfl⟩

/-- much -/
theorem much_any (u d : Int) (n : Nat) (hn : n ≤ 4096) (hd : 1 ≤ d) (hu2 : u ≤ 1073741824) (hdu : d ≤ u) (r : Bool) (hn1 : 1 ≤ n) (hr : decide (1073741824 < (u + d) * u ^ n) = r) (w : World) :
    Calls Tryd.prog 48 #[rv u d, .int .i64 (n : Int)] w fun e w' => e = .returned (.bool r) ∧ Below w.heap.size w w' := by
  have hu : 1 ≤ u := by omega
  have HR : Hid (decide (1073741824 < (u + d) * u ^ n) = r) := hr
  clear hr
  have HB := ba w (.cells #[.int .i64 u, .int .i64 d] 23)
  go_enter Tryd.func48, Tryd.ntmps48
  go_wp2
  go_loop [5, 12] (fun a c => ∃ i : Nat, i ≤ n ∧ a = .int .i64 ((u + d) * u ^ i) ∧ c = .int .i64 (i : Int) ∧ (i = 0 ∨ (u + d) * u ^ i ≤ 1073741824)) (fun _ c => n - (intOf c).toNat)
  case atStart => exact ⟨0, Nat.zero_le _, by simp, rfl, .inl rfl⟩
  case round =>
    obtain ⟨i, hi, rfl, rfl, hle⟩ := hrel
    obtain ⟨P, hP⟩ : ∃ P, (u + d) * u ^ i = P := ⟨_, rfl⟩
    have hP0 : 0 ≤ P := by rw [← hP]; exact Int.mul_nonneg (by omega) (pow_nn (by omega) _)
    have hP1 : P ≤ 2147483648 := by
      rcases hle with rfl | h
      · rw [← hP]; simp; omega
      · omega
    by_cases c : i < n
    · have HE : Hid ((u + d) * u ^ (i + 1) = P * u) := by show _ = _; rw [Int.pow_succ, ← Int.mul_assoc, hP]
      have b0 : 0 ≤ P * u := Int.mul_nonneg hP0 (by omega)
      have b1 : P * u ≤ 2147483648 * 1073741824 := Int.mul_le_mul hP1 hu2 (by omega) (by omega)
      rw [hP]
      clear hle hP
      by_cases c2 : 1073741824 < P * u
      · have hr : r = true := by
          rw [← HR.out, decide_eq_true_iff]
          obtain ⟨k, hk⟩ := Nat.le.dest (show i + 1 ≤ n from c)
          rw [← hk, Int.pow_add, ← Int.mul_assoc, HE.out]
          have h1 := pow_pos' hu k
          have h2 := Int.mul_le_mul_of_nonneg_left h1 b0
          omega
        subst hr
        clear HE HR
        go_wp2
        go_ret
        exact ⟨rfl, HB⟩
      · have c3 : P * u ≤ 1073741824 := by omega
        go_wp2
        go_round
        case rel => exact ⟨i + 1, c, by rw [HE.out], by go_num, .inr (by rw [HE.out]; exact c3)⟩
        case measure => simp [intOf]; omega
    · have : i = n := by omega
      subst this
      have hr : r = false := by
        rw [← HR.out, decide_eq_false_iff_not]
        rcases hle with rfl | h <;> omega
      subst hr
      clear HR hle hP hP0 hP1
      go_wp2
      go_ret
      exact ⟨rfl, HB⟩

/-- the reference's power, up to a limit -/
def lim (x : Int) : Int := if x ≤ 1073741824 then x else 1073741825
theorem rpow_any (x : Int) (n : Nat) (hn : n ≤ 4096) (hx : 1 ≤ x) (h : x ≤ 1073741824) (r : Int) (hr : lim (x ^ n) = r) (w : World) :
    Calls Tryd.prog 38 #[.int .i64 x, .int .i64 (n : Int)] w fun e w' => e = .returned (.int .i64 r) ∧ w' = w := by
  have HR : Hid (lim (x ^ n) = r) := hr
  clear hr
  go_enter Tryd.func38, Tryd.ntmps38
  go_wp2
  go_loop [5, 6] (fun a c => ∃ i : Nat, i ≤ n ∧ a = .int .i64 (x ^ i) ∧ c = .int .i64 (i : Int) ∧ x ^ i ≤ 1152921504606846976) (fun _ c => n - (intOf c).toNat)
  case atStart => exact ⟨0, Nat.zero_le _, by simp, rfl, by simp⟩
  case round =>
    obtain ⟨i, hi, rfl, rfl, hle⟩ := hrel
    obtain ⟨P, hP⟩ : ∃ P, x ^ i = P := ⟨_, rfl⟩
    have hP0 : 1 ≤ P := by rw [← hP]; exact pow_pos' hx i
    rw [hP] at hle
    by_cases c2 : 1073741824 < P
    · have hr : r = 1073741825 := by
        rw [← HR.out, lim, if_neg]
        have := pow_mono hx hi
        omega
      subst hr
      rw [hP]
      clear HR hP
      by_cases c : i < n
      · go_wp2
        go_ret
        exact ⟨rfl, rfl⟩
      · have : i = n := by omega
        subst this
        go_wp2
        go_ret
        exact ⟨rfl, rfl⟩
    · by_cases c : i < n
      · have HE : Hid (x ^ (i + 1) = P * x) := by show _ = _; rw [Int.pow_succ, hP]
        have b0 : 0 ≤ P * x := Int.mul_nonneg (by omega) (by omega)
        have b1 : P * x ≤ 1073741824 * 1073741824 := Int.mul_le_mul (by omega) h (by omega) (by omega)
        rw [hP]
        clear hP
        go_wp2
        go_round
        case rel => exact ⟨i + 1, c, by rw [HE.out], by go_num, by rw [HE.out]; omega⟩
        case measure => simp [intOf]; omega
      · have : i = n := by omega
        subst this
        have hr : r = P := by
          rw [← HR.out, lim, if_pos] <;> omega
        subst hr
        rw [hP]
        clear HR hP
        go_wp2
        go_ret
        exact ⟨rfl, rfl⟩

/-! ### a loss -/
theorem noLoss_any (u d er : Int) (h : lossE u d = er) (w : World) :
    Calls Tryd.prog 46 #[rv u d] w fun e w' => e = .returned (.int .i64 er) ∧ Below w.heap.size w w' := by
  obtain ⟨b, hb⟩ : ∃ b, Rt.rightB u d = b := ⟨_, rfl⟩
  rw [lossE, hb] at h
  have HB := ba w (.cells #[.int .i64 u, .int .i64 d] 23)
  have kc := right_any u d b hb (w.alloc (.cells #[.int .i64 u, .int .i64 d] 23))
  clear hb
  cases b with
  | false =>
    simp at h; subst h
    go_enter Tryd.func46, Tryd.ntmps46
    go_wp2_with fail
    refine kc.mono ?_
    rintro e w1 ⟨rfl, hb1⟩
    have G1 := bt HB hb1
    go_wp2
    go_ret
    exact ⟨rfl, G1⟩
  | true =>
    simp at h
    by_cases c : u < d
    · rw [if_pos c] at h
      subst h
      go_enter Tryd.func46, Tryd.ntmps46
      go_wp2_with fail
      refine kc.mono ?_
      rintro e w1 ⟨rfl, hb1⟩
      have G1 := bt HB hb1
      obtain ⟨hc1, hf1⟩ := bcell hb1
      go_wp2
      go_ret
      exact ⟨rfl, G1⟩
    · rw [if_neg c] at h
      subst h
      go_enter Tryd.func46, Tryd.ntmps46
      go_wp2_with fail
      refine kc.mono ?_
      rintro e w1 ⟨rfl, hb1⟩
      have G1 := bt HB hb1
      obtain ⟨hc1, hf1⟩ := bcell hb1
      go_wp2
      go_ret
      exact ⟨rfl, G1⟩
end Go.Proofs.YtjembpcpefgdpaaDoor

namespace Go.Proofs.YtjembpcpefgdpaaDoor
open Go.RowKit Go.Proofs.YtjembpcpefgdpaaDoor.Ds

/-- the reference's: what is wrong with a loss -/
theorem rloss_any (u d er : Int) (h : lossE u d = er) (w : World) :
    Calls Tryd.prog 36 #[rv u d] w fun e w' => e = .returned (.int .i64 er) ∧ Below w.heap.size w w' := by
  obtain ⟨b, hb⟩ : ∃ b, Rt.rightB u d = b := ⟨_, rfl⟩
  rw [lossE, hb] at h
  have HB := ba w (.cells #[.int .i64 u, .int .i64 d] 23)
  have kc := refRight_any u d b hb (w.alloc (.cells #[.int .i64 u, .int .i64 d] 23))
  clear hb
  cases b with
  | false =>
    simp at h; subst h
    go_enter Tryd.func36, Tryd.ntmps36
    go_wp2_with fail
    refine kc.mono ?_
    rintro e w1 ⟨rfl, hb1⟩
    have G1 := bt HB hb1
    go_wp2
    go_ret
    exact ⟨rfl, G1⟩
  | true =>
    simp at h
    by_cases c : u < d
    · rw [if_pos c] at h
      subst h
      go_enter Tryd.func36, Tryd.ntmps36
      go_wp2_with fail
      refine kc.mono ?_
      rintro e w1 ⟨rfl, hb1⟩
      have G1 := bt HB hb1
      obtain ⟨hc1, hf1⟩ := bcell hb1
      go_wp2
      go_ret
      exact ⟨rfl, G1⟩
    · rw [if_neg c] at h
      subst h
      go_enter Tryd.func36, Tryd.ntmps36
      go_wp2_with fail
      refine kc.mono ?_
      rintro e w1 ⟨rfl, hb1⟩
      have G1 := bt HB hb1
      obtain ⟨hc1, hf1⟩ := bcell hb1
      go_wp2
      go_ret
      exact ⟨rfl, G1⟩

end Go.Proofs.YtjembpcpefgdpaaDoor

import Derived.Test.YtjnclbhpdaonhaaBad
import Derived.Test.YtjnclbhpdaonhaaDmr
namespace Go.Proofs.Ytjnclbhpdaonhaa
open Go.RowKit Go.Proofs.Ytjnclbhpdaonhaa.Ds

set_option maxHeartbeats 1000000 in
theorem wrongB_any (B nb : Nat) (v : Value) (bits : List Int) (times : Int) (w : World) (hv : Ints w B nb v bits) (r : Int) (hr : wrB bits times = r) :
    Calls Try.prog 20 #[v, .int .i64 times] w fun e w' => e = .returned (.int .i64 r) ∧ w' = w := by
  obtain ⟨a, c, rfl, hc, hl, hxx⟩ := hv
  have HX : Hid (bits ≠ [] → ∃ b o, a = some ⟨b, o, none⟩ ∧ b < B ∧ b ≠ nb ∧ ∀ i z, bits[i]? = some z → w.cell? ⟨b, o + i, none⟩ = some (.int .i64 z)) := hxx
  have HR : Hid (wrB bits times = r) := hr
  clear hxx hr
  by_cases h1 : 65536 < bits.length
  · obtain rfl : r = 5 := by rw [← HR.out]; simp [wrB, h1]
    go_enter Try.func20, Try.ntmps20
    go_wp2
    go_ret
    exact ⟨rfl, rfl⟩
  by_cases h2 : times < 0
  · obtain rfl : r = 3 := by rw [← HR.out]; simp [wrB, h1, h2]
    go_enter Try.func20, Try.ntmps20
    go_wp2
    go_ret
    exact ⟨rfl, rfl⟩
  by_cases h3 : 4096 < times
  · obtain rfl : r = 3 := by rw [← HR.out]; simp [wrB, h1, h3]
    go_enter Try.func20, Try.ntmps20
    go_wp2
    go_ret
    exact ⟨rfl, rfl⟩
  have HR2 : Hid ((if badB bits = true then 3 else 0) = r) := by
    have h := HR.out
    unfold wrB at h
    rw [if_neg h1] at h
    rw [Hid, ← h]
    by_cases hb : badB bits = true
    · rw [if_pos hb, if_pos (.inr (.inr hb))]
    · rw [if_neg hb, if_neg]
      rintro (h | h | h)
      · exact h2 h
      · exact h3 h
      · exact hb h
  go_enter Try.func20, Try.ntmps20
  go_wp2
  go_loop [18] (fun s => ∃ i : Nat, s = .int .i64 (i : Int) ∧ i ≤ bits.length ∧ Hid ((bits.take i).all okB = true)) (fun s => bits.length - (intOf s).toNat)
  case atStart => exact ⟨0, rfl, Nat.zero_le _, by simp [Hid]⟩
  case round =>
    obtain ⟨i, rfl, hix, HA⟩ := hrel
    by_cases h4 : i < bits.length
    · obtain ⟨b, o, rfl, hb, hn, hcell⟩ := HX.out (ne_of_lt h4)
      obtain ⟨z, hz⟩ := get_lt h4
      have cx1 := hcell i z hz
      have HZ : Hid (bits[i]? = some z) := hz
      clear hcell HX hz
      by_cases h5 : z < 0
      · obtain rfl : r = 3 := by
          have hf : okB z = false := by simp [okB]; omega
          rw [← HR2.out, if_pos]
          rw [bad_all, all_false HZ.out hf]; rfl
        go_wp2
        go_ret
        exact ⟨rfl, rfl⟩
      by_cases h6 : 1 < z
      · obtain rfl : r = 3 := by
          have hf : okB z = false := by simp [okB]; omega
          rw [← HR2.out, if_pos]
          rw [bad_all, all_false HZ.out hf]; rfl
        go_wp2
        go_ret
        exact ⟨rfl, rfl⟩
      have hk : Hid (okB z = true) := by simp [Hid, okB]; omega
      go_wp2
      go_round
      case rel => exact ⟨i + 1, by go_num, h4, by rw [Hid, all_take HZ.out, HA.out, hk.out]; rfl⟩
      case measure => simp [intOf]; omega
    · obtain rfl : r = 0 := by
        have hA : bits.all okB = true := by have := HA.out; rwa [List.take_of_length_le (by omega)] at this
        rw [← HR2.out, if_neg]
        rw [bad_all, hA]; simp
      clear HX
      go_wp2
      go_ret
      exact ⟨rfl, rfl⟩

/-- the place behind so many bits -/
def plF (T : Int) : Nat → Int
  | 0 => 1
  | k + 1 => 2 * plF T k % T
theorem plF_bd {T : Int} (hT : 2 ≤ T) (k : Nat) : 0 ≤ plF T k ∧ plF T k < T := by
  cases k with
  | zero => simp only [plF]; omega
  | succ k => exact ⟨Int.emod_nonneg _ (by omega), Int.emod_lt_of_pos _ (by omega)⟩

set_option maxHeartbeats 1000000 in
theorem digit_any (x T : Int) (k : Nat) (w : World) (hT : 2 ≤ T ∧ T ≤ 1073741824) (hx : 0 ≤ x ∧ x < T) (hk : k ≤ 65536) (r : Int) (hr : (if T ≤ 2 * rm T (plF T k) x then 1 else 0) = r) :
    Calls Try.prog 34 #[.int .i64 x, .int .i64 T, .int .i64 ((k : Int) + 1)] w fun e w' => e = .returned (.int .i64 r) ∧ w' = w := by
  have HR : Hid ((if T ≤ 2 * rm T (plF T k) x then 1 else 0) = r) := hr
  have HX : Hid (rm T 1 x = x) := by rw [Hid, rm, Int.mul_one, Int.emod_eq_of_lt hx.1 hx.2]
  have hT0 : ¬ T = 0 := by omega
  clear hr
  go_enter Try.func34, Try.ntmps34
  go_wp2
  go_loop [0, 7, 8] (fun xv dv iv => ∃ (i : Nat) (y d : Int), xv = .int .i64 y ∧ dv = .int .i64 d ∧ iv = .int .i64 (i : Int) ∧ i ≤ k + 1 ∧ 0 ≤ y ∧ y < T ∧ Hid (y = rm T (plF T i) x) ∧ Hid (i = k + 1 → d = r)) (fun _ _ iv => k + 1 - (intOf iv).toNat)
  case atStart => exact ⟨0, x, 0, rfl, rfl, rfl, Nat.zero_le _, hx.1, hx.2, HX.out.symm, fun h => by omega⟩
  case round =>
    obtain ⟨i, y, d, rfl, rfl, rfl, hi, hy0, hy1, HY, HD⟩ := hrel
    by_cases h1 : i < k + 1
    · have h2 : (2 * y) % T = rm T (plF T (i + 1)) x := by rw [HY.out, plF, rm_next]
      have h3 := dbl_emod (T := T) (r := y) ⟨hy0, hy1⟩
      have h4 : (2 * y) / T = if T ≤ 2 * y then 1 else 0 := by
        by_cases c : T ≤ 2 * y
        · rw [if_pos c, show 2 * y = (2 * y - T) + T * 1 by omega, Int.add_mul_ediv_left _ _ (by omega), Int.ediv_eq_zero_of_lt (by omega) (by omega)]; rfl
        · rw [if_neg c, Int.ediv_eq_zero_of_lt (by omega) (by omega)]
      have h5 : 0 ≤ (2 * y) % T ∧ (2 * y) % T < T := ⟨Int.emod_nonneg _ (by omega), Int.emod_lt_of_pos _ (by omega)⟩
      have h6 : 0 ≤ (2 * y) / T ∧ (2 * y) / T ≤ 1 := by rw [h4]; split <;> omega
      have HY2 : Hid ((2 * y) % T = rm T (plF T (i + 1)) x) := h2
      have HD2 : Hid (i + 1 = k + 1 → (2 * y) / T = r) := fun e => by
        rw [h4, ← HR.out, HY.out, show i = k by omega]
      have hik : (i : Int) < (k : Int) + 1 := by omega
      clear h2 h3 h4
      go_wp2
      go_round
      case rel => exact ⟨i + 1, (2 * y) % T, (2 * y) / T, rfl, rfl, by go_num, h1, h5.1, h5.2, HY2, HD2⟩
      case measure => simp [intOf]; omega
    · obtain rfl : d = r := HD.out (by omega)
      have hik : ¬ (i : Int) < (k : Int) + 1 := by omega
      go_wp2
      go_ret
      exact ⟨rfl, rfl⟩
end Go.Proofs.Ytjnclbhpdaonhaa

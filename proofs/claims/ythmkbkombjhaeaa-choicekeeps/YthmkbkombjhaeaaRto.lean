import Derived.Test.YthmkbkombjhaeaaRmk
import Derived.Deep.RegionHeld3
namespace Go.Proofs.Ythmkbkombjhaeaa
open Go.RowKit Go.Proofs.Ythmkbkombjhaeaa.Ds

set_option maxHeartbeats 400000 in
theorem right_any (u d : Int) (b : Bool) (hb : Rt.rightB u d = b) (w : World) :
    Calls Try.prog 43 #[rv u d] w fun e w' => e = .returned (.bool b) ∧ Below w.heap.size w w' := by
  have HB : Hid (Rt.rightB u d = b) := hb
  clear hb
  by_cases c : 0 ≤ u ∧ u ≤ 1073741824 ∧ 1 ≤ d ∧ d ≤ 1073741824
  · obtain ⟨c1, c2, c3, c4⟩ := c
    obtain ⟨x, rfl⟩ := Int.eq_ofNat_of_zero_le c1
    obtain ⟨y, rfl⟩ := Int.eq_ofNat_of_zero_le (show 0 ≤ d by omega)
    have hbb : b = (((Nat.gcd x y : Nat) : Int) == 1) := by
      rw [← HB.out]; unfold Rt.rightB; rw [Bool.eq_iff_iff]; simp [Rt.mx]; omega
    subst hbb
    clear HB
    go_enter Try.func43, Try.ntmps43
    go_wp2_with (go_at_call 51; refine (divisor_any _ _ (by omega) (by omega) _).mono ?_; rintro e w' ⟨rfl, hbl⟩)
    go_ret
    exact ⟨rfl, bt (ba _ _) hbl⟩
  · have hbb : b = false := by
      rw [← HB.out]; unfold Rt.rightB Rt.mx; exact decide_eq_false (fun h => c ⟨h.1, h.2.1, h.2.2.1, h.2.2.2.1⟩)
    subst hbb
    clear HB
    by_cases c1 : u < 0
    · clear c
      go_enter Try.func43, Try.ntmps43
      go_wp2
      go_ret
      exact ⟨rfl, ba _ _⟩
    by_cases c2 : 1073741824 < u
    · clear c
      go_enter Try.func43, Try.ntmps43
      go_wp2
      go_ret
      exact ⟨rfl, ba _ _⟩
    by_cases c3 : d < 1
    · clear c
      go_enter Try.func43, Try.ntmps43
      go_wp2
      go_ret
      exact ⟨rfl, ba _ _⟩
    · have c4 : 1073741824 < d := by omega
      clear c
      go_enter Try.func43, Try.ntmps43
      go_wp2
      go_ret
      exact ⟨rfl, ba _ _⟩

set_option maxHeartbeats 400000 in
theorem refRight_any (u d : Int) (b : Bool) (hb : Rt.rightB u d = b) (w : World) :
    Calls Try.prog 40 #[rv u d] w fun e w' => e = .returned (.bool b) ∧ Below w.heap.size w w' := by
  have HB : Hid (Rt.rightB u d = b) := hb
  clear hb
  by_cases c : 0 ≤ u ∧ u ≤ 1073741824 ∧ 1 ≤ d ∧ d ≤ 1073741824
  · obtain ⟨c1, c2, c3, c4⟩ := c
    obtain ⟨x, rfl⟩ := Int.eq_ofNat_of_zero_le c1
    obtain ⟨y, rfl⟩ := Int.eq_ofNat_of_zero_le (show 0 ≤ d by omega)
    have hbb : b = (((Nat.gcd x y : Nat) : Int) == 1) := by
      rw [← HB.out]; unfold Rt.rightB; rw [Bool.eq_iff_iff]; simp [Rt.mx]; omega
    subst hbb
    clear HB
    go_enter Try.func40, Try.ntmps40
    go_wp2_with (go_at_call 54; refine (refDivisor_any _ _ (by omega) (by omega) (by omega) _).mono ?_; rintro e w' ⟨rfl, rfl⟩)
    go_ret
    exact ⟨rfl, ba _ _⟩
  · have hbb : b = false := by
      rw [← HB.out]; unfold Rt.rightB Rt.mx; exact decide_eq_false (fun h => c ⟨h.1, h.2.1, h.2.2.1, h.2.2.2.1⟩)
    subst hbb
    clear HB
    by_cases c1 : u < 0
    · clear c
      go_enter Try.func40, Try.ntmps40
      go_wp2
      go_ret
      exact ⟨rfl, ba _ _⟩
    by_cases c3 : d < 1
    · clear c
      go_enter Try.func40, Try.ntmps40
      go_wp2
      go_ret
      exact ⟨rfl, ba _ _⟩
    by_cases c2 : 1073741824 < u
    · clear c
      go_enter Try.func40, Try.ntmps40
      go_wp2
      go_ret
      exact ⟨rfl, ba _ _⟩
    · have c4 : 1073741824 < d := by omega
      clear c
      go_enter Try.func40, Try.ntmps40
      go_wp2
      go_ret
      exact ⟨rfl, ba _ _⟩

end Go.Proofs.Ythmkbkombjhaeaa

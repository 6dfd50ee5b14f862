import Derived.Test.YtihgoaceinpkpaaPow
import Derived.Test.YtihgoaceinpkpaaRat
namespace Go.Proofs.Ytihgoaceinpkpaa
open Go.RowKit

theorem make24 : Rt.mkT 2 4 = (1, 2, 0) := by decide +kernel
theorem alive_any (w : World) : Calls Try.prog 23 #[] w fun x w' => x = .returned (.bool true) ∧ Below w.heap.size w w' := by
  go_enter Try.func23, Try.ntmps23
  go_wp2_with fail
  refine (make_any 2 4 1 2 0 (by omega) (by omega) make24 _).mono ?_
  rintro x1 w1 ⟨rfl, hb1⟩
  go_wp2_with fail
  go_ret
  exact ⟨by simp, bal hb1 _⟩

set_option maxHeartbeats 400000 in
theorem two_any (p : Bool) (a b c d n m : Int) (ok : Bool) (h : Rt.twoT p a b c d = (n, m, ok)) (w : World) :
    Calls Try.prog 24 #[.bool p, rv a b, rv c d] w fun x w' => x = .returned (.tuple #[rv n m, .bool ok]) ∧ Below w.heap.size w w' := by
  cases p with
  | true =>
    obtain ⟨n1, m1, e1, h1⟩ : ∃ n m e, Rt.plusT a b c d = (n, m, e) := ⟨_, _, _, rfl⟩
    unfold Rt.twoT at h
    rw [if_pos rfl, h1] at h
    simp only [Prod.mk.injEq] at h
    obtain ⟨rfl, rfl, rfl⟩ := h
    have H1 : Hid (Rt.plusT a b c d = (n1, m1, e1)) := h1
    clear h1
    go_enter Try.func24, Try.ntmps24
    go_wp2_with fail
    refine (plus_any a b c d n1 m1 e1 H1.out _).mono ?_
    rintro x1 w1 ⟨rfl, hb1⟩
    have G1 := bt (bal (bal (ba _ _) _) _) hb1
    obtain ⟨hc1, hf1⟩ := bcell hb1
    have hz1 : w.heap.size + 1 + 1 < w1.heap.size := by have := hb1.size; simp at this; omega
    go_wp2_with fail
    exact bodyPost_ret (v := .tuple #[rv n1 m1, .bool (e1 == 0)]) (by simp [results, Try.results24, go_sem, hc1, hz1]) rfl ⟨rfl, bal (bs (bs G1 (by simp; omega) _) (by simp; omega) _) _⟩
  | false =>
    obtain ⟨n1, m1, e1, h1⟩ : ∃ n m e, Rt.timesT a b c d = (n, m, e) := ⟨_, _, _, rfl⟩
    unfold Rt.twoT at h
    rw [if_neg (by decide), h1] at h
    simp only [Prod.mk.injEq] at h
    obtain ⟨rfl, rfl, rfl⟩ := h
    have H1 : Hid (Rt.timesT a b c d = (n1, m1, e1)) := h1
    clear h1
    go_enter Try.func24, Try.ntmps24
    go_wp2_with fail
    refine (times_any a b c d n1 m1 e1 H1.out _).mono ?_
    rintro x1 w1 ⟨rfl, hb1⟩
    have G1 := bt (bal (bal (ba _ _) _) _) hb1
    obtain ⟨hc1, hf1⟩ := bcell hb1
    have hz1 : w.heap.size + 1 + 1 < w1.heap.size := by have := hb1.size; simp at this; omega
    go_wp2_with fail
    exact bodyPost_ret (v := .tuple #[rv n1 m1, .bool (e1 == 0)]) (by simp [results, Try.results24, go_sem, hc1, hz1]) rfl ⟨rfl, bal (bs (bs G1 (by simp; omega) _) (by simp; omega) _) _⟩
end Go.Proofs.Ytihgoaceinpkpaa

import Derived.Test.YtkolmadahacoeaaGreatQq19
import Derived.Test.YtkolmadahacoeaaGreatQq14
import Derived.Test.YtkolmadahacoeaaGreatQq18
import Derived.Test.YtkolmadahacoeaaGreatQq15
namespace Go.Proofs.YtkolmadahacoeaaGreat.K.P
open Go.RowKit
theorem nan_any (a : Int) (w : World) : Calls Tryz.prog 180 #[.int .i64 a] w fun x w' => x = .returned (.bool false) ∧ w' = w := by
 go_enter Tryz.func180, Tryz.ntmps180
 go_wp2
 go_ret
 exact ⟨rfl, rfl⟩
theorem compare_any (a b k : Int) (h : (if a < b then -1 else if b < a then 1 else 0) = k) (w : World) : Calls Tryz.prog 161 #[.int .i64 a, .int .i64 b] w fun x w' => x = .returned (.int .i64 k) ∧ w' = w := by
 have H : Hid ((if a < b then -1 else if b < a then 1 else 0) = k) := h
 clear h
 by_cases c1 : a < b
 ·have hk : -1 = k := by rw [← H.out, if_pos c1]
  subst hk; clear H
  go_enter Tryz.func161, Tryz.ntmps161
  go_wp2_with (go_at_call 180; refine (nan_any _ _).mono ?_; rintro e w' ⟨rfl, rfl⟩)
  go_ret
  exact ⟨rfl, rfl⟩
 by_cases c2 : b < a
 ·have hk : 1 = k := by rw [← H.out, if_neg c1, if_pos c2]
  subst hk; clear H
  go_enter Tryz.func161, Tryz.ntmps161
  go_wp2_with (go_at_call 180; refine (nan_any _ _).mono ?_; rintro e w' ⟨rfl, rfl⟩)
  go_ret
  exact ⟨rfl, rfl⟩
 ·have hk : 0 = k := by rw [← H.out, if_neg c1, if_neg c2]
  subst hk; clear H
  go_enter Tryz.func161, Tryz.ntmps161
  go_wp2_with (go_at_call 180; refine (nan_any _ _).mono ?_; rintro e w' ⟨rfl, rfl⟩)
  go_ret
  exact ⟨rfl, rfl⟩
set_option maxHeartbeats 400000 in
theorem order_any (a b c d k e : Int) (h : Rt.orderT a b c d = (k, e)) (w : World) :
  Calls Tryz.prog 150 #[rv a b, rv c d] w fun x w' => x = .returned (.tuple #[.int .i64 k, .int .i64 e]) ∧ Below w.heap.size w w' := by
 have H : Hid (Rt.orderT a b c d = (k, e)) := h
 clear h
 by_cases r : Rt.rightB a b = true ∧ Rt.rightB c d = true
 ·obtain ⟨r1, r2⟩ := r
  have hm := H.out
  unfold Rt.orderT at hm
  rw [if_pos ⟨r1, r2⟩] at hm
  simp only [Prod.mk.injEq] at hm
  obtain ⟨hk, rfl⟩ := hm
  have HK : Hid ((if a * d < c * b then -1 else if c * b < a * d then 1 else 0) = k) := hk
  have R1 : Hid (Rt.rightB a b = true) := r1
  have R2 : Hid (Rt.rightB c d = true) := r2
  clear hk r1 r2 H
  obtain ⟨a1, a2, b1, b2⟩ := Rt.right_bd R1.out
  obtain ⟨c1, c2, d1, d2⟩ := Rt.right_bd R2.out
  obtain ⟨p1, p2⟩ := Rt.mul_bd a1 a2 c1 c2
  obtain ⟨p3, p4⟩ := Rt.mul_bd (a := b) (b := d) (by omega) b2 (by omega) d2
  obtain ⟨p5, p6⟩ := Rt.mul_bd (a := a) (b := d) (by omega) a2 (by omega) d2
  obtain ⟨p7, p8⟩ := Rt.mul_bd (a := c) (b := b) (by omega) c2 (by omega) b2
  obtain ⟨p9, p10⟩ := Rt.mul_bd (a := b) (b := c) (by omega) b2 (by omega) c2
  go_enter Tryz.func150, Tryz.ntmps150
  go_wp2_with fail
  refine (right_any a b true R1.out _).mono ?_
  rintro e1 w1 ⟨rfl, hb1⟩
  obtain ⟨hc1, hf1⟩ := bcell hb1
  go_wp2_with fail
  refine (right_any c d true R2.out _).mono ?_
  rintro e2 w2 ⟨rfl, hb2⟩
  have F2 := bt hb1 hb2
  clear hc1 hf1 hb1 hb2
  obtain ⟨hc2, hf2⟩ := bcell F2
  have G2 := bt (bal (ba _ _) _) F2
  go_wp2_with fail
  refine (compare_any (a * d) (c * b) k HK.out _).mono ?_
  rintro e3 w3 ⟨rfl, rfl⟩
  go_wp2_with fail
  go_ret2
  exact ⟨rfl, G2⟩
 ·have hr := H.out
  unfold Rt.orderT at hr
  rw [if_neg r] at hr
  simp only [Prod.mk.injEq] at hr
  obtain ⟨rfl, rfl⟩ := hr
  have r' : Rt.rightB a b = false ∨ (Rt.rightB a b = true ∧ Rt.rightB c d = false) := by
   cases h1 : Rt.rightB a b <;> cases h2 : Rt.rightB c d <;> simp_all
  clear r H
  rcases r' with r1 | ⟨r1, r2⟩
  ·have R1 : Hid (Rt.rightB a b = false) := r1
   clear r1
   go_enter Tryz.func150, Tryz.ntmps150
   go_wp2_with fail
   refine (right_any a b false R1.out _).mono ?_
   rintro e1 w1 ⟨rfl, hb1⟩
   have G1 := bt (bal (ba _ _) _) hb1
   obtain ⟨hc1, hf1⟩ := bcell hb1
   go_wp2_with fail
   go_ret2
   exact ⟨rfl, G1⟩
  ·have R1 : Hid (Rt.rightB a b = true) := r1
   have R2 : Hid (Rt.rightB c d = false) := r2
   clear r1 r2
   go_enter Tryz.func150, Tryz.ntmps150
   go_wp2_with fail
   refine (right_any a b true R1.out _).mono ?_
   rintro e1 w1 ⟨rfl, hb1⟩
   obtain ⟨hc1, hf1⟩ := bcell hb1
   go_wp2_with fail
   refine (right_any c d false R2.out _).mono ?_
   rintro e2 w2 ⟨rfl, hb2⟩
   have F2 := bt hb1 hb2
   clear hc1 hf1 hb1 hb2
   have G1 := bt (bal (ba _ _) _) F2
   obtain ⟨hc1, hf1⟩ := bcell F2
   go_wp2_with fail
   go_ret2
   exact ⟨rfl, G1⟩
end Go.Proofs.YtkolmadahacoeaaGreat.K.P
namespace Go.Proofs.YtkolmadahacoeaaGreat
open Go.RowKit Go.Proofs.YtkolmadahacoeaaGreat.Ds
def flatF (fs : List Fl) : List Value := fs.flatMap fun f => [f.1.1, f.2.1]
theorem flatF_one (fs : List Fl) (f : Fl) : flatF (fs ++ [f]) = flatF fs ++ [f.1.1, f.2.1] := by simp [flatF]
def Fwr (w : World) (lo : Nat) (v : Value) (fs : List Fl) : Prop :=
 w.ownsRow lo 78 2 v fs.length (flatF fs) ∧ ∀ f ∈ fs, ∃ m, Ints w w.heap.size m f.1.1 f.1.2 ∧ PartsN w w.heap.size m f.2.1 f.2.2 ∧ ∀ g, v.ownBlock = some g → m = g
theorem Fwr.nil (w : World) (lo : Nat) : Fwr w lo (.slice none 0 0) [] := ⟨⟨rfl, .inl ⟨rfl, rfl⟩⟩, fun t ht => by cases ht⟩
theorem Fwr.keep {w w' : World} {lo : Nat} {v : Value} {fs : List Fl} (h : Fwr w lo v fs) (hb : Below w.heap.size w w') : Fwr w' lo v fs :=
 ⟨owns_below h.1 hb, fun t ht => let ⟨m, h1, h2, h3⟩ := h.2 t ht; ⟨m, h1.at2 hb, h2.at2 hb, h3⟩⟩
theorem Fwr.slice {w : World} {lo : Nat} {v : Value} {fs : List Fl} (h : Fwr w lo v fs) : ∃ a c, v = .slice a fs.length c := owns_slice h.1
theorem Fwr.lt {w : World} {lo : Nat} {v : Value} {fs : List Fl} (h : Fwr w lo v fs) : ∀ g, v.ownBlock = some g → lo ≤ g ∧ g < w.heap.size := h.1.lt
theorem Fwr.app {W w' : World} {lo : Nat} {v v' : Value} {fs : List Fl} {f : Fl} {m : Nat} (h : Fwr W lo v fs) (hown : w'.ownsRow lo 78 2 v' (fs.length + 1) (flatF fs ++ [f.1.1, f.2.1])) (hg : W.grownBy w' v.ownBlock)
  (hat : v'.ownBlock = v.ownBlock ∨ v'.ownBlock = some W.heap.size) (hi : Ints W W.heap.size m f.1.1 f.1.2) (hp : PartsN W W.heap.size m f.2.1 f.2.2) (hm : ∀ g, v.ownBlock = some g → m = g) : Fwr w' lo v' (fs ++ [f]) := by
 refine ⟨by rw [flatF_one]; simpa using hown, fun t ht => ?_⟩
 have key : ∀ (m : Nat) (t : Fl), Ints W W.heap.size m t.1.1 t.1.2 → PartsN W W.heap.size m t.2.1 t.2.2 → (∀ g, v.ownBlock = some g → m = g) → ∃ m', Ints w' w'.heap.size m' t.1.1 t.1.2 ∧ PartsN w' w'.heap.size m' t.2.1 t.2.2 ∧ ∀ g, v'.ownBlock = some g → m' = g := by
  intro m t h1 h3 h2
  rcases hat with hat | hat
  ·exact ⟨m, h1.grow hg (Nat.le_refl _) h2 (.inl rfl), h3.grow hg h2 (.inl rfl), by rw [hat]; exact h2⟩
  ·exact ⟨W.heap.size, h1.grow hg (Nat.le_refl _) h2 (.inr (Nat.le_refl _)), h3.grow hg h2 (.inr (Nat.le_refl _)), by rw [hat]; intro g e; simpa using e⟩
 rcases List.mem_append.1 ht with ht | ht
 ·obtain ⟨m, h1, h2, h3⟩ := h.2 t ht
  exact key m t h1 h2 h3
 ·obtain rfl : t = f := by simpa using ht
  exact key m t hi hp hm
theorem refMost_any (a b c d : Int) (ha0 : 0 ≤ a) (ha : a ≤ 1073741824) (hb0 : 0 ≤ b) (hb : b ≤ 1073741824) (hc0 : 0 ≤ c) (hc : c ≤ 1073741824) (hd0 : 0 ≤ d) (hd : d ≤ 1073741824) (r : Bool) (hr : decide (a * d ≤ c * b) = r) (w : World) :
  Calls Tryz.prog 10 #[rv a b, rv c d] w fun e w' => e = .returned (.bool r) ∧ Below w.heap.size w w' := by
 have b1 := Rt.mul_bd ha0 ha hd0 hd
 have b2 := Rt.mul_bd hc0 hc hb0 hb
 obtain ⟨P, hP⟩ : ∃ P, a * d = P := ⟨_, rfl⟩
 obtain ⟨Q, hQ⟩ : ∃ Q, c * b = Q := ⟨_, rfl⟩
 rw [hP] at b1
 rw [hQ] at b2
 rw [hP, hQ] at hr
 by_cases h : P ≤ Q
 ·have hh : decide (P ≤ Q) = true := decide_eq_true h
  obtain rfl : true = r := by rw [← hr, hh]
  clear hr
  go_enter Tryz.func10, Tryz.ntmps10
  go_wp2
  go_ret
  exact ⟨rfl, bal (ba _ _) _⟩
 ·have hh : decide (P ≤ Q) = false := decide_eq_false h
  obtain rfl : false = r := by rw [← hr, hh]
  clear hr
  go_enter Tryz.func10, Tryz.ntmps10
  go_wp2
  go_ret
  exact ⟨rfl, bal (ba _ _) _⟩
end Go.Proofs.YtkolmadahacoeaaGreat

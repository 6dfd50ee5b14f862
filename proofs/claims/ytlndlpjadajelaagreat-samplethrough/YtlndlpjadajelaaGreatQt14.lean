import Derived.Test.YtlndlpjadajelaaGreatQt10
import Derived.Test.YtlndlpjadajelaaGreatQt12
import Derived.Test.YtlndlpjadajelaaGreatQt01
import Derived.Test.YtlndlpjadajelaaGreatQt13
import Derived.Test.YtlndlpjadajelaaGreatQt07
import Derived.RangeFuncNested
import Derived.RangeFuncBound
import Derived.RangeFuncCalls
import Derived.RangeFuncLeaves
import Derived.Shelf.Abstract
import Derived.Shelf.RegionOpen
import Derived.WalkKit
import Derived.OwnWalkIn
import Derived.TacticsInMore
import Derived.LoopNIn
import Derived.LoopIn
namespace Go.Proofs.YtlndlpjadajelaaGreat
open Go.RowKit Go.Proofs.YtlndlpjadajelaaGreat.Ds

theorem plusLit (a b c d : Int) (p q : Nat) (w : World) (a1 : 0 ≤ a) (a2 : a ≤ 1073741824) (b1 : 1 ≤ b) (b2 : b ≤ 1073741824) (c1 : 0 ≤ c) (c2 : c ≤ 1073741824) (d1 : 1 ≤ d) (d2 : d ≤ 1073741824)
    (k1 : w.cell? ⟨p, 0, none⟩ = some (.int .i64 a)) (k2 : w.cell? ⟨p, 1, none⟩ = some (.int .i64 b)) (k3 : w.cell? ⟨q, 0, none⟩ = some (.int .i64 c)) (k4 : w.cell? ⟨q, 1, none⟩ = some (.int .i64 d)) :
    Calls Tryz.prog 120 #[.pointer (some ⟨p, 0, none⟩), .pointer (some ⟨q, 0, none⟩)] w fun x w' => x = .returned (.tuple #[.int .i64 (a * d + c * b), .int .i64 (b * d)]) ∧ Below w.heap.size w w' := by
  obtain ⟨p1, p2⟩ := Rt.mul_bd a1 a2 c1 c2
  obtain ⟨p3, p4⟩ := Rt.mul_bd (a := b) (b := d) (by omega) b2 (by omega) d2
  obtain ⟨p5, p6⟩ := Rt.mul_bd (a := a) (b := d) (by omega) a2 (by omega) d2
  obtain ⟨p7, p8⟩ := Rt.mul_bd (a := c) (b := b) (by omega) c2 (by omega) b2
  obtain ⟨p9, p10⟩ := Rt.mul_bd (a := b) (b := c) (by omega) b2 (by omega) c2
  go_enter Tryz.func120, Tryz.ntmps120
  go_wp2
  go_quiet (fail)
  go_wp2
  go_ret2
  exact ⟨rfl, below_drewN (Below.refl _ _) _⟩

set_option maxHeartbeats 400000 in
theorem plusReckon (a b c d n m e : Int) (r1 : Rt.rightB a b = true) (r2 : Rt.rightB c d = true) (hm : Rt.mkT (a * d + c * b) (b * d) = (n, m, e)) (p q : Nat) (w : World) (hp : p < w.heap.size) (hq : q < w.heap.size)
    (k1 : w.cell? ⟨p, 0, none⟩ = some (.int .i64 a)) (k2 : w.cell? ⟨p, 1, none⟩ = some (.int .i64 b)) (k3 : w.cell? ⟨q, 0, none⟩ = some (.int .i64 c)) (k4 : w.cell? ⟨q, 1, none⟩ = some (.int .i64 d)) :
    Calls Tryz.prog 117 #[rv a b, rv c d, .func (.func 120) #[] #[.pointer (some ⟨p, 0, none⟩), .pointer (some ⟨q, 0, none⟩)]] w fun x w' => x = .returned (.tuple #[rv n m, .int .i64 e]) ∧ Below w.heap.size w w' := by
  have HM : Hid (Rt.mkT (a * d + c * b) (b * d) = (n, m, e)) := hm
  have R1 : Hid (Rt.rightB a b = true) := r1
  have R2 : Hid (Rt.rightB c d = true) := r2
  obtain ⟨a1, a2, b1, b2⟩ := Rt.right_bd r1
  obtain ⟨c1, c2, d1, d2⟩ := Rt.right_bd r2
  clear r1 r2 hm
  obtain ⟨p1, p2⟩ := Rt.mul_bd a1 a2 c1 c2
  obtain ⟨p3, p4⟩ := Rt.mul_bd (a := b) (b := d) (by omega) b2 (by omega) d2
  obtain ⟨p5, p6⟩ := Rt.mul_bd (a := a) (b := d) (by omega) a2 (by omega) d2
  obtain ⟨p7, p8⟩ := Rt.mul_bd (a := c) (b := b) (by omega) c2 (by omega) b2
  obtain ⟨p9, p10⟩ := Rt.mul_bd (a := b) (b := c) (by omega) b2 (by omega) c2
  go_enter Tryz.func117, Tryz.ntmps117
  go_wp2_with fail
  refine (right_any a b true R1.out _).mono ?_
  rintro e1 w1 ⟨rfl, hb1⟩
  obtain ⟨hc1, hf1⟩ := bcell hb1
  go_wp2_with fail
  refine (right_any c d true R2.out _).mono ?_
  rintro e2 w2 ⟨rfl, hb2⟩
  have F2 := bt hb1 hb2
  clear hc1 hf1 hb1 hb2
  have G2 := bt (bal (bal (ba _ _) _) _) F2
  go_wp2_with fail
  refine (plusLit a b c d p q _ a1 a2 b1 b2 c1 c2 d1 d2 ((G2.cell (p := ⟨p, 0, none⟩) hp).trans k1) ((G2.cell (p := ⟨p, 1, none⟩) hp).trans k2) ((G2.cell (p := ⟨q, 0, none⟩) hq).trans k3) ((G2.cell (p := ⟨q, 1, none⟩) hq).trans k4)).mono ?_
  rintro e3 w3 ⟨rfl, hb3⟩
  go_wp2_with fail
  refine (rmake_any (a * d + c * b) (b * d) n m e (by omega) (by omega) HM.out _).mono ?_
  rintro e4 w4 ⟨rfl, hb4⟩
  have F4 := bt (bt F2 hb3) hb4
  have G4 := bt (bal (bal (ba _ _) _) _) F4
  clear F2 hb3 hb4 G2
  obtain ⟨hc4, hf4⟩ := bcell F4
  go_wp2_with fail
  exact bodyPost_ret (v := .tuple #[rv n m, .int .i64 e]) (by simp [results, Tryz.results117, go_sem, hc4]) rfl ⟨rfl, bs (bs G4 (by simp; omega) _) (by simp; omega) _⟩

theorem minusLit (a b c d : Int) (p q : Nat) (w : World) (a1 : 0 ≤ a) (a2 : a ≤ 1073741824) (b1 : 1 ≤ b) (b2 : b ≤ 1073741824) (c1 : 0 ≤ c) (c2 : c ≤ 1073741824) (d1 : 1 ≤ d) (d2 : d ≤ 1073741824)
    (k1 : w.cell? ⟨p, 0, none⟩ = some (.int .i64 a)) (k2 : w.cell? ⟨p, 1, none⟩ = some (.int .i64 b)) (k3 : w.cell? ⟨q, 0, none⟩ = some (.int .i64 c)) (k4 : w.cell? ⟨q, 1, none⟩ = some (.int .i64 d)) :
    Calls Tryz.prog 119 #[.pointer (some ⟨p, 0, none⟩), .pointer (some ⟨q, 0, none⟩)] w fun x w' => x = .returned (.tuple #[.int .i64 (a * d - c * b), .int .i64 (b * d)]) ∧ Below w.heap.size w w' := by
  obtain ⟨p1, p2⟩ := Rt.mul_bd a1 a2 c1 c2
  obtain ⟨p3, p4⟩ := Rt.mul_bd (a := b) (b := d) (by omega) b2 (by omega) d2
  obtain ⟨p5, p6⟩ := Rt.mul_bd (a := a) (b := d) (by omega) a2 (by omega) d2
  obtain ⟨p7, p8⟩ := Rt.mul_bd (a := c) (b := b) (by omega) c2 (by omega) b2
  obtain ⟨p9, p10⟩ := Rt.mul_bd (a := b) (b := c) (by omega) b2 (by omega) c2
  go_enter Tryz.func119, Tryz.ntmps119
  go_wp2
  go_quiet (fail)
  go_wp2
  go_ret2
  exact ⟨rfl, below_drewN (Below.refl _ _) _⟩

set_option maxHeartbeats 400000 in
theorem minusReckon (a b c d n m e : Int) (r1 : Rt.rightB a b = true) (r2 : Rt.rightB c d = true) (hm : Rt.mkT (a * d - c * b) (b * d) = (n, m, e)) (p q : Nat) (w : World) (hp : p < w.heap.size) (hq : q < w.heap.size)
    (k1 : w.cell? ⟨p, 0, none⟩ = some (.int .i64 a)) (k2 : w.cell? ⟨p, 1, none⟩ = some (.int .i64 b)) (k3 : w.cell? ⟨q, 0, none⟩ = some (.int .i64 c)) (k4 : w.cell? ⟨q, 1, none⟩ = some (.int .i64 d)) :
    Calls Tryz.prog 117 #[rv a b, rv c d, .func (.func 119) #[] #[.pointer (some ⟨p, 0, none⟩), .pointer (some ⟨q, 0, none⟩)]] w fun x w' => x = .returned (.tuple #[rv n m, .int .i64 e]) ∧ Below w.heap.size w w' := by
  have HM : Hid (Rt.mkT (a * d - c * b) (b * d) = (n, m, e)) := hm
  have R1 : Hid (Rt.rightB a b = true) := r1
  have R2 : Hid (Rt.rightB c d = true) := r2
  obtain ⟨a1, a2, b1, b2⟩ := Rt.right_bd r1
  obtain ⟨c1, c2, d1, d2⟩ := Rt.right_bd r2
  clear r1 r2 hm
  obtain ⟨p1, p2⟩ := Rt.mul_bd a1 a2 c1 c2
  obtain ⟨p3, p4⟩ := Rt.mul_bd (a := b) (b := d) (by omega) b2 (by omega) d2
  obtain ⟨p5, p6⟩ := Rt.mul_bd (a := a) (b := d) (by omega) a2 (by omega) d2
  obtain ⟨p7, p8⟩ := Rt.mul_bd (a := c) (b := b) (by omega) c2 (by omega) b2
  obtain ⟨p9, p10⟩ := Rt.mul_bd (a := b) (b := c) (by omega) b2 (by omega) c2
  go_enter Tryz.func117, Tryz.ntmps117
  go_wp2_with fail
  refine (right_any a b true R1.out _).mono ?_
  rintro e1 w1 ⟨rfl, hb1⟩
  obtain ⟨hc1, hf1⟩ := bcell hb1
  go_wp2_with fail
  refine (right_any c d true R2.out _).mono ?_
  rintro e2 w2 ⟨rfl, hb2⟩
  have F2 := bt hb1 hb2
  clear hc1 hf1 hb1 hb2
  have G2 := bt (bal (bal (ba _ _) _) _) F2
  go_wp2_with fail
  refine (minusLit a b c d p q _ a1 a2 b1 b2 c1 c2 d1 d2 ((G2.cell (p := ⟨p, 0, none⟩) hp).trans k1) ((G2.cell (p := ⟨p, 1, none⟩) hp).trans k2) ((G2.cell (p := ⟨q, 0, none⟩) hq).trans k3) ((G2.cell (p := ⟨q, 1, none⟩) hq).trans k4)).mono ?_
  rintro e3 w3 ⟨rfl, hb3⟩
  go_wp2_with fail
  refine (rmake_any (a * d - c * b) (b * d) n m e (by omega) (by omega) HM.out _).mono ?_
  rintro e4 w4 ⟨rfl, hb4⟩
  have F4 := bt (bt F2 hb3) hb4
  have G4 := bt (bal (bal (ba _ _) _) _) F4
  clear F2 hb3 hb4 G2
  obtain ⟨hc4, hf4⟩ := bcell F4
  go_wp2_with fail
  exact bodyPost_ret (v := .tuple #[rv n m, .int .i64 e]) (by simp [results, Tryz.results117, go_sem, hc4]) rfl ⟨rfl, bs (bs G4 (by simp; omega) _) (by simp; omega) _⟩

set_option maxHeartbeats 400000 in
theorem plus_any (a b c d n m e : Int) (h : Rt.plusT a b c d = (n, m, e)) (w : World) :
    Calls Tryz.prog 67 #[rv a b, rv c d] w fun x w' => x = .returned (.tuple #[rv n m, .int .i64 e]) ∧ Below w.heap.size w w' := by
  have H : Hid (Rt.plusT a b c d = (n, m, e)) := h
  clear h
  by_cases r : Rt.rightB a b = true ∧ Rt.rightB c d = true
  · obtain ⟨r1, r2⟩ := r
    have hm : Rt.mkT (a * d + c * b) (b * d) = (n, m, e) := by rw [← H.out]; unfold Rt.plusT; rw [if_pos ⟨r1, r2⟩]
    have HM : Hid (Rt.mkT (a * d + c * b) (b * d) = (n, m, e)) := hm
    have R1 : Hid (Rt.rightB a b = true) := r1
    have R2 : Hid (Rt.rightB c d = true) := r2
    clear hm r1 r2 H
    go_enter Tryz.func67, Tryz.ntmps67
    go_wp2_with fail
    refine (plusReckon a b c d n m e R1.out R2.out HM.out w.heap.size (w.heap.size + 1) _ (by simp <;> omega) (by simp <;> omega) (by simp [go_sem]) (by simp [go_sem]) (by simp [go_sem]) (by simp [go_sem])).mono ?_
    rintro e1 w1 ⟨rfl, hb1⟩
    have G1 := bt (bal (bal (ba _ _) _) _) hb1
    obtain ⟨hc1, hf1⟩ := bcell hb1
    go_wp2_with fail
    exact bodyPost_ret (v := .tuple #[rv n m, .int .i64 e]) (by simp [results, Tryz.results67, go_sem, hc1]) rfl ⟨rfl, bs (bs G1 (by simp; omega) _) (by simp; omega) _⟩
  · have hr : (0, 0, 2) = (n, m, e) := by rw [← H.out]; unfold Rt.plusT; rw [if_neg r]
    simp only [Prod.mk.injEq] at hr
    obtain ⟨rfl, rfl, rfl⟩ := hr
    have r' : Rt.rightB a b = false ∨ (Rt.rightB a b = true ∧ Rt.rightB c d = false) := by
      cases h1 : Rt.rightB a b <;> cases h2 : Rt.rightB c d <;> simp_all
    have R : Hid (Rt.rightB a b = false ∨ (Rt.rightB a b = true ∧ Rt.rightB c d = false)) := r'
    clear r r' H
    go_enter Tryz.func67, Tryz.ntmps67
    go_wp2_with fail
    refine (reckonNo a b c d _ R.out _).mono ?_
    rintro e1 w1 ⟨rfl, hb1⟩
    have G1 := bt (bal (bal (ba _ _) _) _) hb1
    obtain ⟨hc1, hf1⟩ := bcell hb1
    go_wp2_with fail
    exact bodyPost_ret (v := .tuple #[rv 0 0, .int .i64 2]) (by simp [results, Tryz.results67, go_sem, hc1]) rfl ⟨rfl, bs (bs G1 (by simp; omega) _) (by simp; omega) _⟩

set_option maxHeartbeats 400000 in
theorem minus_any (a b c d n m e : Int) (h : Rt.minusT a b c d = (n, m, e)) (w : World) :
    Calls Tryz.prog 66 #[rv a b, rv c d] w fun x w' => x = .returned (.tuple #[rv n m, .int .i64 e]) ∧ Below w.heap.size w w' := by
  have H : Hid (Rt.minusT a b c d = (n, m, e)) := h
  clear h
  by_cases r : Rt.rightB a b = true ∧ Rt.rightB c d = true
  · obtain ⟨r1, r2⟩ := r
    have hm : Rt.mkT (a * d - c * b) (b * d) = (n, m, e) := by rw [← H.out]; unfold Rt.minusT; rw [if_pos ⟨r1, r2⟩]
    have HM : Hid (Rt.mkT (a * d - c * b) (b * d) = (n, m, e)) := hm
    have R1 : Hid (Rt.rightB a b = true) := r1
    have R2 : Hid (Rt.rightB c d = true) := r2
    clear hm r1 r2 H
    go_enter Tryz.func66, Tryz.ntmps66
    go_wp2_with fail
    refine (minusReckon a b c d n m e R1.out R2.out HM.out w.heap.size (w.heap.size + 1) _ (by simp <;> omega) (by simp <;> omega) (by simp [go_sem]) (by simp [go_sem]) (by simp [go_sem]) (by simp [go_sem])).mono ?_
    rintro e1 w1 ⟨rfl, hb1⟩
    have G1 := bt (bal (bal (ba _ _) _) _) hb1
    obtain ⟨hc1, hf1⟩ := bcell hb1
    go_wp2_with fail
    exact bodyPost_ret (v := .tuple #[rv n m, .int .i64 e]) (by simp [results, Tryz.results66, go_sem, hc1]) rfl ⟨rfl, bs (bs G1 (by simp; omega) _) (by simp; omega) _⟩
  · have hr : (0, 0, 2) = (n, m, e) := by rw [← H.out]; unfold Rt.minusT; rw [if_neg r]
    simp only [Prod.mk.injEq] at hr
    obtain ⟨rfl, rfl, rfl⟩ := hr
    have r' : Rt.rightB a b = false ∨ (Rt.rightB a b = true ∧ Rt.rightB c d = false) := by
      cases h1 : Rt.rightB a b <;> cases h2 : Rt.rightB c d <;> simp_all
    have R : Hid (Rt.rightB a b = false ∨ (Rt.rightB a b = true ∧ Rt.rightB c d = false)) := r'
    clear r r' H
    go_enter Tryz.func66, Tryz.ntmps66
    go_wp2_with fail
    refine (reckonNo a b c d _ R.out _).mono ?_
    rintro e1 w1 ⟨rfl, hb1⟩
    have G1 := bt (bal (bal (ba _ _) _) _) hb1
    obtain ⟨hc1, hf1⟩ := bcell hb1
    go_wp2_with fail
    exact bodyPost_ret (v := .tuple #[rv 0 0, .int .i64 2]) (by simp [results, Tryz.results66, go_sem, hc1]) rfl ⟨rfl, bs (bs G1 (by simp; omega) _) (by simp; omega) _⟩

end Go.Proofs.YtlndlpjadajelaaGreat

namespace Go.Proofs.YtlndlpjadajelaaGreat
open Go.RowKit Go.Proofs.YtlndlpjadajelaaGreat.Ds

/-- a fraction in a cell of one's own -/
def Fc (b : Nat) (n m : Int) (W : World) : Prop :=
  W.cell? ⟨b, 0, none⟩ = some (.int .i64 n) ∧ W.cell? ⟨b, 1, none⟩ = some (.int .i64 m) ∧ W.frozen? ⟨b, 0, none⟩ = false ∧ W.frozen? ⟨b, 1, none⟩ = false
theorem fc_new (w : World) (n m : Int) : Fc w.heap.size n m (w.alloc (.cells #[.int .i64 n, .int .i64 m] 23)) := by
  refine ⟨?_, ?_, ?_, ?_⟩ <;> simp [go_sem]
theorem Fc.at {b : Nat} {n m : Int} {W W' : World} (h : Fc b n m W) (hb : Below W.heap.size W W') (hl : b < W.heap.size) : Fc b n m W' := by
  obtain ⟨h1, h2, h3, h4⟩ := h
  obtain ⟨hc, hf⟩ := bcell hb
  exact ⟨(hc _ 0 hl).trans h1, (hc _ 1 hl).trans h2, (hf _ 0 hl).trans h3, (hf _ 1 hl).trans h4⟩
theorem Fc.set {b : Nat} {n m : Int} {W : World} (h : Fc b n m W) (n' m' : Int) : Fc b n' m' ((W.setCell ⟨b, 0, none⟩ (.int .i64 n')).setCell ⟨b, 1, none⟩ (.int .i64 m')) := by
  obtain ⟨h1, h2, h3, h4⟩ := h
  refine ⟨(sc_other (by simp)).trans (sc_same h1), sc_same (u := .int .i64 m) ((sc_other (by simp)).trans h2), ?_, ?_⟩
  · rw [sc_frozen, sc_frozen]; exact h3
  · rw [sc_frozen, sc_frozen]; exact h4
theorem Fc.beside {b b' : Nat} {n m : Int} {W : World} (h : Fc b n m W) (hne : b ≠ b') (o : Nat) (u : Value) : Fc b n m (W.setCell ⟨b', o, none⟩ u) := by
  obtain ⟨h1, h2, h3, h4⟩ := h
  refine ⟨(sc_other (by simp)).trans h1, (sc_other (by simp)).trans h2, ?_, ?_⟩
  · rw [sc_frozen]; exact h3
  · rw [sc_frozen]; exact h4

theorem hide_alive : hideT 2 1 0 1 0 = ([([0], 2), ([1], 1)], 0) := by decide

theorem alive_any (w : World) : Calls Tryz.prog 11 #[] w fun x w' => x = .returned (.bool true) ∧ Below w.heap.size w w' := by
  have kc := hide_fr 2 1 0 1 0 _ 0 hide_alive
  go_enter Tryz.func11, Tryz.ntmps11
  go_wp2_with fail
  refine (kc _).mono ?_
  rintro x w1 ⟨v, us, rfl, hr, ho, hb, _⟩
  clear kc
  obtain ⟨a, c, rfl⟩ := ho.slice
  have hl : us.length = 2 := by have := congrArg List.length hr; simpa [rd] using this
  have hbw : Below w.heap.size w w1 := hb
  rw [hl]
  clear hr ho hl
  go_wp2
  go_ret
  exact ⟨rfl, hbw⟩
end Go.Proofs.YtlndlpjadajelaaGreat

namespace Go.Proofs.YtlndlpjadajelaaGreat
open Go.RowKit Go.Proofs.YtlndlpjadajelaaGreat.Ds

/-- what is wrong with a chance -/
theorem swrong_any (u d er : Int) (h : Sb.chE u d = er) (w : World) :
    Calls Tryz.prog 65 #[rv u d] w fun e w' => e = .returned (.int .i64 er) ∧ Below w.heap.size w w' := by
  obtain ⟨b, hb⟩ : ∃ b, Rt.rightB u d = b := ⟨_, rfl⟩
  rw [Sb.chE, hb] at h
  have HB := ba w (.cells #[.int .i64 u, .int .i64 d] 23)
  have kc := right_any u d b hb (w.alloc (.cells #[.int .i64 u, .int .i64 d] 23))
  clear hb
  cases b with
  | false =>
    simp at h; subst h
    go_enter Tryz.func65, Tryz.ntmps65
    go_wp2_with fail
    refine kc.mono ?_
    rintro e w1 ⟨rfl, hb1⟩
    have G1 := bt HB hb1
    go_wp2
    go_ret
    exact ⟨rfl, G1⟩
  | true =>
    simp at h
    by_cases c : d < u
    · rw [if_pos c] at h
      subst h
      go_enter Tryz.func65, Tryz.ntmps65
      go_wp2_with fail
      refine kc.mono ?_
      rintro e w1 ⟨rfl, hb1⟩
      have G1 := bt HB hb1
      obtain ⟨hc1, hf1⟩ := bcell hb1
      go_wp2
      go_ret
      exact ⟨rfl, G1⟩
    · rw [if_neg c] at h
      subst h
      go_enter Tryz.func65, Tryz.ntmps65
      go_wp2_with fail
      refine kc.mono ?_
      rintro e w1 ⟨rfl, hb1⟩
      have G1 := bt HB hb1
      obtain ⟨hc1, hf1⟩ := bcell hb1
      go_wp2
      go_ret
      exact ⟨rfl, G1⟩


set_option maxHeartbeats 1000000 in
theorem slost_any (u d x y n m er : Int) (h : Sb.losT u d x y = (n, m, er)) (w : World) :
    Calls Tryz.prog 26 #[rv u d, rv x y] w fun e w' => e = .returned (.tuple #[rv n m, .int .i64 er]) ∧ Below w.heap.size w w' := by
  obtain ⟨e0, he0⟩ : ∃ e0, Sb.chE u d = e0 := ⟨_, rfl⟩
  rw [Sb.losT, he0] at h
  have kc := swrong_any u d e0 he0
  obtain ⟨W0, hW0⟩ : ∃ W0, ((w.alloc (.cells #[.int .i64 u, .int .i64 d] 23)).alloc (.cells #[.int .i64 x, .int .i64 y] 23)).alloc (.cells #[.int .i64 0, .int .i64 0] 23) = W0 := ⟨_, rfl⟩
  have G0 : Below w.heap.size w W0 := hW0 ▸ bal (bal (ba _ _) _) _
  have s0 : w.heap.size + 1 + 1 < W0.heap.size := by rw [← hW0]; simp
  have A0 : Hid (Fc w.heap.size u d W0) := hW0 ▸ ((fc_new w u d).at (ba _ _) (by simp)).at (ba _ _) (by simp; omega)
  have B0 : Hid (Fc (w.heap.size + 1) x y W0) := by
    have := (fc_new (w.alloc (.cells #[.int .i64 u, .int .i64 d] 23)) x y).at (ba _ (.cells #[.int .i64 0, .int .i64 0] 23)) (by simp)
    rw [hW0] at this
    rw [Hid]
    simpa using this
  have C0 : Hid (Fc (w.heap.size + 1 + 1) 0 0 W0) := by
    have := fc_new ((w.alloc (.cells #[.int .i64 u, .int .i64 d] 23)).alloc (.cells #[.int .i64 x, .int .i64 y] 23)) 0 0
    rw [hW0] at this
    rw [Hid]
    simpa using this
  go_enter Tryz.func26, Tryz.ntmps26
  obtain ⟨z1, z2, _, _⟩ := A0.out
  have HL : Hid _ := h
  clear h
  go_wp2_with fail
  clear hW0 z1 z2
  have h := HL.out
  clear HL
  refine (kc _).mono ?_
  rintro e w1 ⟨rfl, hb1⟩
  have G1 := bt G0 hb1
  have s1 : w.heap.size + 1 + 1 < w1.heap.size := Nat.lt_of_lt_of_le s0 hb1.size
  have A1 : Hid (Fc w.heap.size u d w1) := A0.out.at hb1 (by omega)
  have B1 : Hid (Fc (w.heap.size + 1) x y w1) := B0.out.at hb1 (by omega)
  have C1 : Hid (Fc (w.heap.size + 1 + 1) 0 0 w1) := C0.out.at hb1 s0
  clear A0 B0 C0 kc hb1
  by_cases c : e0 = 0
  · subst c
    rw [if_neg (by simp)] at h
    obtain ⟨a, b, e1, h1⟩ : ∃ a b e1, Rt.minusT x y 1 1 = (a, b, e1) := ⟨_, _, _, rfl⟩
    rw [h1] at h
    simp only at h
    have km := minus_any x y 1 1 a b e1 h1
    obtain ⟨W1, hW1⟩ : ∃ W1, w1.alloc (.cells #[.int .i64 1, .int .i64 1] 23) = W1 := ⟨_, rfl⟩
    have hbW1 : Below w1.heap.size w1 W1 := hW1 ▸ ba _ _
    have s1' : w1.heap.size < W1.heap.size := by rw [← hW1]; simp
    have A2 : Hid (Fc w.heap.size u d W1) := A1.out.at hbW1 (by omega)
    have B2 : Hid (Fc (w.heap.size + 1) x y W1) := B1.out.at hbW1 (by omega)
    have C2 : Hid (Fc (w.heap.size + 1 + 1) 0 0 W1) := C1.out.at hbW1 s1
    have D2 : Hid (Fc w1.heap.size 1 1 W1) := hW1 ▸ fc_new w1 1 1
    have HH : Hid (Rt.minusT x y 1 1 = (a, b, e1)) := h1
    have G2 := bt G1 hbW1
    obtain ⟨b1, b2, _, _⟩ := B2.out
    obtain ⟨d1, d2, _, _⟩ := D2.out
    clear A1 B1 C1 h1 he0 hbW1
    have HL : Hid _ := h
    clear h
    go_wp2_with fail
    clear hW1
    have h := HL.out
    clear HL
    refine (km _).mono ?_
    rintro e w2 ⟨rfl, hb2⟩
    have hs2 := hb2.size
    obtain ⟨W2, hW2⟩ : ∃ W2, w2.alloc (.cells #[.int .i64 a, .int .i64 b] 23) = W2 := ⟨_, rfl⟩
    have hbW2 : Below w2.heap.size w2 W2 := hW2 ▸ ba _ _
    have s2' : w2.heap.size < W2.heap.size := by rw [← hW2]; simp
    have hbb := bt hb2 hbW2
    have A3 : Hid (Fc w.heap.size u d W2) := A2.out.at hbb (by omega)
    have C3 : Hid (Fc (w.heap.size + 1 + 1) 0 0 W2) := C2.out.at hbb (by omega)
    have D3 : Hid (Fc w1.heap.size 1 1 W2) := D2.out.at hbb s1'
    have E3 : Hid (Fc w2.heap.size a b W2) := hW2 ▸ fc_new w2 a b
    have G3 := bt G2 hbb
    obtain ⟨a1, a2, _, _⟩ := A3.out
    obtain ⟨g1, g2, _, _⟩ := E3.out
    obtain ⟨c1, c2, c3, c4⟩ := C3.out
    clear A2 B2 C2 D2 b1 b2 d1 d2 km hbb hbW2 hb2
    by_cases k1 : e1 = 0
    · subst k1
      rw [if_neg (by simp)] at h
      obtain ⟨a', b', e2, h2⟩ : ∃ a' b' e2, Rt.timesT u d a b = (a', b', e2) := ⟨_, _, _, rfl⟩
      rw [h2] at h
      simp only at h
      have kt := times_any u d a b a' b' e2 h2
      clear h2 c1 c2 c3 c4
      have HL : Hid _ := h
      clear h
      go_wp2_with fail
      clear hW2
      have h := HL.out
      clear HL
      refine (kt _).mono ?_
      rintro e w3 ⟨rfl, hb3⟩
      have hs3 := hb3.size
      obtain ⟨W3, hW3⟩ : ∃ W3, w3.alloc (.cells #[.int .i64 a', .int .i64 b'] 23) = W3 := ⟨_, rfl⟩
      have hbW3 : Below w3.heap.size w3 W3 := hW3 ▸ ba _ _
      have s3' : w3.heap.size < W3.heap.size := by rw [← hW3]; simp
      have hbb := bt hb3 hbW3
      have C4 : Hid (Fc (w.heap.size + 1 + 1) 0 0 W3) := C3.out.at hbb (by omega)
      have D4 : Hid (Fc w1.heap.size 1 1 W3) := D3.out.at hbb (by omega)
      have E4 : Hid (Fc w3.heap.size a' b' W3) := hW3 ▸ fc_new w3 a' b'
      have G4 := bt G3 hbb
      obtain ⟨d1, d2, _, _⟩ := D4.out
      obtain ⟨g1', g2', _, _⟩ := E4.out
      obtain ⟨c1, c2, c3, c4⟩ := C4.out
      clear A3 C3 D3 E3 a1 a2 g1 g2 kt hbb hbW3 hb3
      by_cases k2 : e2 = 0
      · subst k2
        rw [if_neg (by simp)] at h
        have kp := plus_any 1 1 a' b' n m er h
        clear h c1 c2 c3 c4
        go_wp2_with fail
        clear hW3
        refine (kp _).mono ?_
        rintro e w4 ⟨rfl, hb4⟩
        have C5 : Hid (Fc (w.heap.size + 1 + 1) 0 0 w4) := C4.out.at hb4 (by omega)
        obtain ⟨c1, c2, c3, c4⟩ := C5.out
        have G5 := bt G4 hb4
        go_wp2_with fail
        exact bodyPost_ret (v := .tuple #[rv n m, .int .i64 er]) (by simp [results, Tryz.results26, go_sem, c1, c2]) rfl ⟨rfl, bs (bs G5 (by dsimp only; omega) _) (by dsimp only; omega) _⟩
      · have h5 : (e2 == 0) = false := by simpa using k2
        have h6 : (e2 != 0) = true := by simpa using k2
        rw [if_pos k2] at h
        simp only [Prod.mk.injEq] at h
        obtain ⟨rfl, rfl, rfl⟩ := h
        go_wp2_with fail
        clear hW3
        exact bodyPost_ret (v := .tuple #[rv 0 0, .int .i64 e2]) (by simp [results, Tryz.results26, go_sem, c1, c2]) rfl ⟨rfl, bs (bs G4 (by dsimp only; omega) _) (by dsimp only; omega) _⟩
    · have h5 : (e1 == 0) = false := by simpa using k1
      have h6 : (e1 != 0) = true := by simpa using k1
      rw [if_pos k1] at h
      simp only [Prod.mk.injEq] at h
      obtain ⟨rfl, rfl, rfl⟩ := h
      go_wp2_with fail
      clear hW2
      exact bodyPost_ret (v := .tuple #[rv 0 0, .int .i64 e1]) (by simp [results, Tryz.results26, go_sem, c1, c2]) rfl ⟨rfl, bs (bs G3 (by dsimp only; omega) _) (by dsimp only; omega) _⟩
  · have h5 : (e0 == 0) = false := by simpa using c
    have h6 : (e0 != 0) = true := by simpa using c
    rw [if_pos c] at h
    simp only [Prod.mk.injEq] at h
    obtain ⟨rfl, rfl, rfl⟩ := h
    obtain ⟨c1, c2, c3, c4⟩ := C1.out
    go_wp2_with fail
    exact bodyPost_ret (v := .tuple #[rv 0 0, .int .i64 e0]) (by simp [results, Tryz.results26, go_sem, c1, c2]) rfl ⟨rfl, bs (bs G1 (by dsimp only; omega) _) (by dsimp only; omega) _⟩
end Go.Proofs.YtlndlpjadajelaaGreat

namespace Go.Proofs.YtlndlpjadajelaaGreat
open Go.RowKit Go.Proofs.YtlndlpjadajelaaGreat.Ds

theorem powT_one {d m : Int} (h1 : 1 ≤ d) (h2 : d ≤ 1073741824) (h3 : 0 ≤ m) (h4 : m ≤ 10) : (Rt.powT 1 d m).2.2 = if 1073741824 < d ^ m.toNat then 4 else 0 := by
  have hr : Rt.rightB 1 d = true := by
    unfold Rt.rightB Rt.mx
    simp
    omega
  unfold Rt.powT Rt.mx
  rw [if_pos hr, if_neg (by omega), Int.one_pow]
  by_cases c : 1073741824 < d ^ m.toNat
  · rw [if_pos (.inr c), if_pos c]
  · rw [if_neg (by omega), if_neg c]

theorem smuch_any (d m er : Int) (h1 : 1 ≤ d) (h2 : d ≤ 1073741824) (h3 : 0 ≤ m) (h4 : m ≤ 10) (h : (if 1073741824 < d ^ m.toNat then 4 else 0) = er) (w : World) :
    Calls Tryz.prog 112 #[.int .i64 d, .int .i64 m] w fun e w' => e = .returned (.int .i64 er) ∧ Below w.heap.size w w' := by
  rw [← powT_one h1 h2 h3 h4] at h
  obtain ⟨p, q, e0, hp⟩ : ∃ p q e0, Rt.powT 1 d m = (p, q, e0) := ⟨_, _, _, rfl⟩
  rw [hp] at h
  simp only at h
  subst h
  have kc := power_any 1 d m p q e0 hp
  clear hp
  go_enter Tryz.func112, Tryz.ntmps112
  go_wp2_with fail
  refine (kc _).mono ?_
  rintro e w1 ⟨rfl, hb1⟩
  have G1 := bal hb1 (.cells #[.int .i64 p, .int .i64 q] 23)
  go_wp2
  go_ret
  exact ⟨rfl, G1⟩

/-- what Subsets leaves -/
def SubP (w : World) (l : List Pt) (er : Int) (e : Ending) (w' : World) : Prop :=
  ∃ v us, e = .returned (.tuple #[v, .int .i64 er]) ∧ rd us = l ∧ OwnN w' w.heap.size v us ∧ Below w.heap.size w w' ∧ Frs w.heap.size us
theorem SubP.err {w w' : World} {er : Int} (hb : Below w.heap.size w w') : SubP w [] er (.returned (.tuple #[.slice none 0 0, .int .i64 er])) w' :=
  ⟨_, [], rfl, rfl, .inl ⟨rfl, rfl⟩, hb, Frs.nil _⟩

set_option maxHeartbeats 1000000 in
theorem subsets_any (u d m : Int) (l : List Pt) (er : Int) (h : Sb.subT u d m = (l, er)) (w : World) :
    Calls Tryz.prog 59 #[rv u d, .int .i64 m] w (SubP w l er) := by
  obtain ⟨e0, he0⟩ : ∃ e0, Sb.chE u d = e0 := ⟨_, rfl⟩
  rw [Sb.subT, he0] at h
  have kc := swrong_any u d e0 he0
  by_cases c : e0 = 0
  · subst c
    obtain ⟨hr, hu, hud, hd1, hd⟩ := Sb.ch_ok he0
    rw [if_neg (by simp)] at h
    by_cases c1 : m < 0 ∨ 10 < m
    · rw [if_pos c1] at h
      simp only [Prod.mk.injEq] at h
      obtain ⟨rfl, rfl⟩ := h
      clear he0 hr
      by_cases c2 : m < 0
      · clear c1
        go_enter Tryz.func59, Tryz.ntmps59
        go_wp2_with fail
        refine (kc _).mono ?_
        rintro e w1 ⟨rfl, hb1⟩
        have G1 := bt (ba _ _) hb1
        go_wp2
        exact bodyPost_ret (v := .tuple #[.slice none 0 0, .int .i64 5]) (by simp [results, Tryz.results59, go_sem]) rfl (SubP.err G1)
      · have c3 : 10 < m := by omega
        clear c1
        go_enter Tryz.func59, Tryz.ntmps59
        go_wp2_with fail
        refine (kc _).mono ?_
        rintro e w1 ⟨rfl, hb1⟩
        have G1 := bt (ba _ _) hb1
        go_wp2
        exact bodyPost_ret (v := .tuple #[.slice none 0 0, .int .i64 5]) (by simp [results, Tryz.results59, go_sem]) rfl (SubP.err G1)
    · rw [if_neg c1] at h
      have c2 : 0 ≤ m := by omega
      have c3 : m ≤ 10 := by omega
      obtain ⟨k, rfl⟩ := Int.eq_ofNat_of_zero_le c2
      obtain ⟨em, hem⟩ : ∃ em : Int, (if 1073741824 < d ^ ((k : Int)).toNat then 4 else 0) = em := ⟨_, rfl⟩
      have km := smuch_any d k em hd1 hd c2 c3 hem
      by_cases c4 : 1073741824 < d ^ ((k : Int)).toNat
      · rw [if_pos c4] at h hem
        simp only [Prod.mk.injEq] at h
        obtain ⟨rfl, rfl⟩ := h
        subst hem
        clear he0 hr c1 c4
        go_enter Tryz.func59, Tryz.ntmps59
        go_wp2_with fail
        refine (kc _).mono ?_
        rintro e w1 ⟨rfl, hb1⟩
        have G1 := bt (ba _ _) hb1
        obtain ⟨hc1, hf1⟩ := bcell hb1
        go_wp2_with fail
        refine (km _).mono ?_
        rintro e w2 ⟨rfl, hb2⟩
        have G2 := bt G1 hb2
        go_wp2
        exact bodyPost_ret (v := .tuple #[.slice none 0 0, .int .i64 4]) (by simp [results, Tryz.results59, go_sem]) rfl (SubP.err G2)
      · rw [if_neg c4] at h hem
        subst hem
        rw [Int.toNat_natCast] at h c4
        have kw := weighed_any u d k (by omega) hu hud hd1 hd (by omega)
        have HM : Hid (makeT (Sb.lst u d k) = (l, er)) := h
        clear he0 hr c1 c4 h
        go_enter Tryz.func59, Tryz.ntmps59
        go_wp2_with fail
        refine (kc _).mono ?_
        rintro e w1 ⟨rfl, hb1⟩
        have G1 := bt (ba _ _) hb1
        obtain ⟨hc1, hf1⟩ := bcell hb1
        go_wp2_with fail
        refine (km _).mono ?_
        rintro e w2 ⟨rfl, hb2⟩
        have G2 := bt G1 hb2
        obtain ⟨hc2, hf2⟩ := bcell hb2
        have hz1 : w.heap.size < w1.heap.size := by have := hb1.size; simp at this; omega
        go_wp2_with fail
        refine (kw _).mono ?_
        rintro e w3 ⟨v3, ts, rfl, q1, q2, hb3⟩
        have G3 := bt G2 hb3
        have kk := make_fr w3.heap.size v3 ts w3 (Nat.le_refl _) q2 l er (by rw [q1]; exact HM.out)
        obtain ⟨a3, n3, rfl, _⟩ := q2
        clear q1 kw hc1 hf1 hc2 hf2
        go_wp2_with fail
        refine kk.mono ?_
        rintro e w4 ⟨v4, us, rfl, r1, r2, r3, r4⟩
        have G4 := bt G3 r3
        have hs := G3.size
        obtain ⟨a4, n4, rfl⟩ := r2.slice
        have HZ : Hid (SubP w l er (.returned (.tuple #[.slice a4 us.length n4, .int .i64 er])) w4) := ⟨_, us, rfl, r1, r2.mono hs, G4, r4.mono hs⟩
        clear r1 r2 r3 r4 kk
        go_wp2
        exact bodyPost_ret (v := .tuple #[.slice a4 us.length n4, .int .i64 er]) (by simp [results, Tryz.results59, go_sem]) rfl HZ.out
  · simp only [ne_eq, c, not_false_eq_true, if_true, Prod.mk.injEq] at h
    obtain ⟨rfl, rfl⟩ := h
    have c1 : (e0 == 0) = false := by simpa using c
    have c2 : (e0 != 0) = true := by simpa using c
    clear he0
    go_enter Tryz.func59, Tryz.ntmps59
    go_wp2_with fail
    refine (kc _).mono ?_
    rintro e w1 ⟨rfl, hb1⟩
    have G1 := bt (ba _ _) hb1
    go_wp2
    exact bodyPost_ret (v := .tuple #[.slice none 0 0, .int .i64 e0]) (by simp [results, Tryz.results59, go_sem]) rfl (SubP.err G1)

end Go.Proofs.YtlndlpjadajelaaGreat

namespace Go.Proofs.YtlndlpjadajelaaGreat
open Go.RowKit Go.Shelf Go.Proofs.YtlndlpjadajelaaGreat.Ds

/-- whose first outcome comes first -/
def sideT : List Tr → List Tr → Int
  | [], _ => 1
  | _ :: _, [] => -1
  | a :: _, b :: _ => cmpT a.2.1 b.2.1

theorem Parts.nil_len {w : World} {B : Nat} {a : Option Addr} {c : Nat} {ts : List Tr} (h : Parts w B (.slice a 0 c) ts) : ts = [] := by
  obtain ⟨_, _, hv, _⟩ := h
  simp only [Value.slice.injEq] at hv
  exact List.length_eq_zero_iff.1 hv.2.1.symm

theorem Parts.len {w : World} {B : Nat} {a : Option Addr} {n c : Nat} {ts : List Tr} (h : Parts w B (.slice a n c) ts) : n = ts.length := by
  obtain ⟨_, _, hv, _⟩ := h
  simp only [Value.slice.injEq] at hv
  exact hv.2.1

set_option maxHeartbeats 1000000 in
theorem first_any (B : Nat) (u v : Value) (ts us : List Tr) (w : World) (hB : B ≤ w.heap.size) (hp : Parts w B u ts) (hq : Parts w B v us) (r : Int) (hr : sideT ts us = r) :
    Calls Tryz.prog 88 #[u, v] w fun e w' => e = .returned (.int .i64 r) ∧ Below w.heap.size w w' := by
  have HP : Hid (Parts w B u ts) := hp
  have HQ : Hid (Parts w B v us) := hq
  obtain ⟨a, c, rfl, hc, hl, _⟩ := hp
  obtain ⟨a2, c2, rfl, hc2, hl2, _⟩ := hq
  cases ts with
  | nil =>
    simp only [sideT] at hr
    subst hr
    go_enter Tryz.func88, Tryz.ntmps88
    go_wp2
    go_ret
    exact ⟨rfl, Below.refl _ _⟩
  | cons t ts =>
    have z0 : (((t :: ts).length : Int) == 0) = false := by simp; omega
    cases us with
    | nil =>
      simp only [sideT] at hr
      subst hr
      go_enter Tryz.func88, Tryz.ntmps88
      go_wp2
      go_ret
      exact ⟨rfl, Below.refl _ _⟩
    | cons s us =>
      have z1 : (((s :: us).length : Int) == 0) = false := by simp; omega
      obtain ⟨b, o, sa, sc, xs, k, rfl, hb, hs, c1, c2', hI⟩ := HP.out.get hB (Below.refl _ w) (i := 0) (by simp)
      obtain ⟨b2, o2, sa2, sc2, xs2, k2, rfl, hb2, hs2, d1, d2, hI2⟩ := HQ.out.get hB (Below.refl _ w) (i := 0) (by simp)
      simp at hs hs2
      subst hs hs2
      have HI : Hid (Ints w B B (.slice sa xs.length sc) xs) := hI
      have HI2 : Hid (Ints w B B (.slice sa2 xs2.length sc2) xs2) := hI2
      have HR : Hid (cmpT xs xs2 = r) := hr
      simp only [Nat.zero_mul, Nat.add_zero] at c1 c2' d1 d2
      have y0 : (0 : Int) < (((.slice sa xs.length sc, xs, k) :: ts : List Tr).length : Int) := by simp <;> omega
      have y1 : (0 : Int) < (((.slice sa2 xs2.length sc2, xs2, k2) :: us : List Tr).length : Int) := by simp <;> omega
      obtain ⟨n1, hn1⟩ : ∃ n, ((.slice sa xs.length sc, xs, k) :: ts : List Tr).length = n := ⟨_, rfl⟩
      obtain ⟨n2, hn2⟩ : ∃ n, ((.slice sa2 xs2.length sc2, xs2, k2) :: us : List Tr).length = n := ⟨_, rfl⟩
      rw [hn1] at z0 y0 ⊢
      rw [hn2] at z1 y1 ⊢
      have x0 : 0 < n1 := by omega
      have x1 : 0 < n2 := by omega
      clear hI hI2 hr HP HQ hc hl hc2 hl2 hn1 hn2
      go_enter Tryz.func88, Tryz.ntmps88
      go_wp2_with fail
      go_region_held3 (fun w' => Below w.heap.size w w' ∧ w'.cell? ⟨b, o, none⟩ = some (.slice sa xs.length sc) ∧ w'.cell? ⟨b, o + 1, none⟩ = some (.int .i64 k) ∧ w'.cell? ⟨b2, o2, none⟩ = some (.slice sa2 xs2.length sc2) ∧ w'.cell? ⟨b2, o2 + 1, none⟩ = some (.int .i64 k2))
        ((go_split_ands; refine ⟨?_, ?_, ?_, ?_, ?_⟩ <;> first | (simp [go_sem, *]; done) | (exact (Below.refl _ _).drew) | (exact bt (Below.refl _ _).drew hb1)))
        ((go_at_call 150; refine (order_b B B B _ _ _ _ xs xs2 _ ?_ ?_ ?_ r HR.out).mono ?_; (show B ≤ w.heap.size; omega); (exact HI.out.keep (Below.refl _ _).drew); (exact HI2.out.keep (Below.refl _ _).drew); rintro x1 w1 ⟨rfl, hb1⟩; obtain ⟨hc1, hf1⟩ := bcell hb1; have e1 : w1.cell? ⟨b, o, none⟩ = some (.slice sa xs.length sc) := (hc1 _ _ hb).trans c1; have e2 : w1.cell? ⟨b, o + 1, none⟩ = some (.int .i64 k) := (hc1 _ _ hb).trans c2'; have e3 : w1.cell? ⟨b2, o2, none⟩ = some (.slice sa2 xs2.length sc2) := (hc1 _ _ hb2).trans d1; have e4 : w1.cell? ⟨b2, o2 + 1, none⟩ = some (.int .i64 k2) := (hc1 _ _ hb2).trans d2; clear hc1 hf1))
      rename_i hHeld
      go_wp2
      go_ret
      exact ⟨rfl, hHeld.1⟩

/-- all that two may be, in order -/
def mrg : List Tr → List Tr → List (Tr × Tr)
  | [], [] => []
  | [], b :: bs => (no, b) :: mrg [] bs
  | a :: az, [] => (a, no) :: mrg az []
  | a :: az, b :: bs => if cmpT a.2.1 b.2.1 < 0 then (a, no) :: mrg az (b :: bs) else if 0 < cmpT a.2.1 b.2.1 then (no, b) :: mrg (a :: az) bs else (a, b) :: mrg az bs
termination_by az bs => az.length + bs.length

theorem Parts.tail {w : World} {B : Nat} {b o n c : Nat} {t : Tr} {ts : List Tr} (h : Parts w B (.slice (some ⟨b, o, none⟩) n c) (t :: ts)) (A : Option Addr) (hA : 1 < c → A = some ⟨b, o + 2, none⟩) : Parts w B (.slice A ts.length (c - 1)) ts := by
  obtain ⟨a', c', hv, hc, hl, hi, hx⟩ := h
  simp only [Value.slice.injEq] at hv
  obtain ⟨rfl, rfl, rfl⟩ := hv
  simp only [List.length_cons] at hc hl
  refine ⟨A, c - 1, rfl, by omega, by omega, fun u hu => hi u (by simp [hu]), fun hne => ?_⟩
  have hpos : 0 < ts.length := List.length_pos_iff.2 hne
  obtain ⟨b', o', he, hb, hcell⟩ := hx (by simp)
  simp only [Option.some.injEq, Addr.mk.injEq, and_true] at he
  obtain ⟨rfl, rfl⟩ := he
  refine ⟨b, o + 2, hA (by omega), hb, fun i u hu => ?_⟩
  have := hcell (i + 1) u (by simpa using hu)
  rw [show o + 2 + i * 2 = o + (i + 1) * 2 by omega]
  exact this
end Go.Proofs.YtlndlpjadajelaaGreat

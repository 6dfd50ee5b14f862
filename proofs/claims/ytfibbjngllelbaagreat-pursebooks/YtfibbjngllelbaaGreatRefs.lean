import Derived.Test.YtfibbjngllelbaaGreatMake
namespace Go.Proofs.YtfibbjngllelbaaGreat
open Go.RowKit
/-! ### the document's answer: what is done with two -/

set_option maxHeartbeats 400000 in
theorem refTimes_any (a b c d n m e : Int) (h : Rt.timesT a b c d = (n, m, e)) (w : World) :
    Calls Tryz.prog 21 #[rv a b, rv c d] w fun x w' => x = .returned (.tuple #[rv n m, .int .i64 e]) ∧ Below w.heap.size w w' := by
  have H : Hid (Rt.timesT a b c d = (n, m, e)) := h
  clear h
  by_cases r : Rt.rightB a b = true ∧ Rt.rightB c d = true
  · obtain ⟨r1, r2⟩ := r
    have hm : Rt.mkT (a * c) (b * d) = (n, m, e) := by rw [← H.out]; unfold Rt.timesT; rw [if_pos ⟨r1, r2⟩]
    have HM : Hid (Rt.mkT (a * c) (b * d) = (n, m, e)) := hm
    have R1 : Hid (Rt.rightB a b = true) := r1
    have R2 : Hid (Rt.rightB c d = true) := r2
    clear hm r1 r2 H
    obtain ⟨a1, a2, b1, b2⟩ := Rt.right_bd R1.out
    obtain ⟨c1, c2, d1, d2⟩ := Rt.right_bd R2.out
    obtain ⟨p1, p2⟩ := Rt.mul_bd a1 a2 c1 c2
    obtain ⟨p3, p4⟩ := Rt.mul_bd (a := b) (b := d) (by omega) b2 (by omega) d2
    obtain ⟨p5, p6⟩ := Rt.mul_bd (a := a) (b := d) (by omega) a2 (by omega) d2
    obtain ⟨p7, p8⟩ := Rt.mul_bd (a := c) (b := b) (by omega) c2 (by omega) b2
    obtain ⟨p9, p10⟩ := Rt.mul_bd (a := b) (b := c) (by omega) b2 (by omega) c2
    go_enter Tryz.func21, Tryz.ntmps21
    go_wp2_with fail
    refine (refRight_any a b true R1.out _).mono ?_
    rintro e1 w1 ⟨rfl, hb1⟩
    obtain ⟨hc1, hf1⟩ := bcell hb1
    go_wp2_with fail
    refine (refRight_any c d true R2.out _).mono ?_
    rintro e2 w2 ⟨rfl, hb2⟩
    have F2 := bt hb1 hb2
    clear hc1 hf1 hb1 hb2
    obtain ⟨hc2, hf2⟩ := bcell F2
    go_wp2_with fail
    refine (refMake_any (a * c) (b * d) n m e (by omega) (by omega) HM.out _).mono ?_
    rintro e4 w4 ⟨rfl, hb4⟩
    have F4 := bt F2 hb4
    have G4 := bt (bal (bal (ba _ _) _) _) F4
    clear F2 hb4 hc2 hf2
    obtain ⟨hc4, hf4⟩ := bcell F4
    go_wp2_with fail
    exact bodyPost_ret (v := .tuple #[rv n m, .int .i64 e]) (by simp [results, Tryz.results21, go_sem, hc4]) rfl ⟨rfl, bs (bs G4 (by simp; omega) _) (by simp; omega) _⟩
  · have hr : (0, 0, 2) = (n, m, e) := by rw [← H.out]; unfold Rt.timesT; rw [if_neg r]
    simp only [Prod.mk.injEq] at hr
    obtain ⟨rfl, rfl, rfl⟩ := hr
    have r' : Rt.rightB a b = false ∨ (Rt.rightB a b = true ∧ Rt.rightB c d = false) := by
      cases h1 : Rt.rightB a b <;> cases h2 : Rt.rightB c d <;> simp_all
    clear r H
    rcases r' with r1 | ⟨r1, r2⟩
    · have R1 : Hid (Rt.rightB a b = false) := r1
      clear r1
      go_enter Tryz.func21, Tryz.ntmps21
      go_wp2_with fail
      refine (refRight_any a b false R1.out _).mono ?_
      rintro e1 w1 ⟨rfl, hb1⟩
      have G1 := bt (bal (bal (ba _ _) _) _) hb1
      obtain ⟨hc1, hf1⟩ := bcell hb1
      go_wp2_with fail
      exact bodyPost_ret (v := .tuple #[rv 0 0, .int .i64 2]) (by simp [results, Tryz.results21, go_sem, hc1]) rfl ⟨rfl, bs (bs G1 (by simp; omega) _) (by simp; omega) _⟩
    · have R1 : Hid (Rt.rightB a b = true) := r1
      have R2 : Hid (Rt.rightB c d = false) := r2
      clear r1 r2
      go_enter Tryz.func21, Tryz.ntmps21
      go_wp2_with fail
      refine (refRight_any a b true R1.out _).mono ?_
      rintro e1 w1 ⟨rfl, hb1⟩
      obtain ⟨hc1, hf1⟩ := bcell hb1
      go_wp2_with fail
      refine (refRight_any c d false R2.out _).mono ?_
      rintro e2 w2 ⟨rfl, hb2⟩
      have F2 := bt hb1 hb2
      clear hc1 hf1 hb1 hb2
      have G1 := bt (bal (bal (ba _ _) _) _) F2
      obtain ⟨hc1, hf1⟩ := bcell F2
      go_wp2_with fail
      exact bodyPost_ret (v := .tuple #[rv 0 0, .int .i64 2]) (by simp [results, Tryz.results21, go_sem, hc1]) rfl ⟨rfl, bs (bs G1 (by simp; omega) _) (by simp; omega) _⟩

theorem nan_any (a : Int) (w : World) : Calls Tryz.prog 99 #[.int .i64 a] w fun x w' => x = .returned (.bool false) ∧ w' = w := by
  go_enter Tryz.func99, Tryz.ntmps99
  go_wp2
  go_ret
  exact ⟨rfl, rfl⟩
theorem compare_any (a b k : Int) (h : (if a < b then -1 else if b < a then 1 else 0) = k) (w : World) : Calls Tryz.prog 80 #[.int .i64 a, .int .i64 b] w fun x w' => x = .returned (.int .i64 k) ∧ w' = w := by
  have H : Hid ((if a < b then -1 else if b < a then 1 else 0) = k) := h
  clear h
  by_cases c1 : a < b
  · have hk : -1 = k := by rw [← H.out, if_pos c1]
    subst hk; clear H
    go_enter Tryz.func80, Tryz.ntmps80
    go_wp2_with (go_at_call 99; refine (nan_any _ _).mono ?_; rintro e w' ⟨rfl, rfl⟩)
    go_ret
    exact ⟨rfl, rfl⟩
  by_cases c2 : b < a
  · have hk : 1 = k := by rw [← H.out, if_neg c1, if_pos c2]
    subst hk; clear H
    go_enter Tryz.func80, Tryz.ntmps80
    go_wp2_with (go_at_call 99; refine (nan_any _ _).mono ?_; rintro e w' ⟨rfl, rfl⟩)
    go_ret
    exact ⟨rfl, rfl⟩
  · have hk : 0 = k := by rw [← H.out, if_neg c1, if_neg c2]
    subst hk; clear H
    go_enter Tryz.func80, Tryz.ntmps80
    go_wp2_with (go_at_call 99; refine (nan_any _ _).mono ?_; rintro e w' ⟨rfl, rfl⟩)
    go_ret
    exact ⟨rfl, rfl⟩

set_option maxHeartbeats 400000 in
theorem order_any (a b c d k e : Int) (h : Rt.orderT a b c d = (k, e)) (w : World) :
    Calls Tryz.prog 59 #[rv a b, rv c d] w fun x w' => x = .returned (.tuple #[.int .i64 k, .int .i64 e]) ∧ Below w.heap.size w w' := by
  have H : Hid (Rt.orderT a b c d = (k, e)) := h
  clear h
  by_cases r : Rt.rightB a b = true ∧ Rt.rightB c d = true
  · obtain ⟨r1, r2⟩ := r
    have hm := H.out
    unfold Rt.orderT at hm
    rw [if_pos ⟨r1, r2⟩] at hm
    simp only [Prod.mk.injEq] at hm
    obtain ⟨hk, rfl⟩ := hm
    have HK : Hid ((if a * d < c * b then -1 else if c * b < a * d then 1 else 0) = k) := hk
    have R1 : Hid (Rt.rightB a b = true) := r1
    have R2 : Hid (Rt.rightB c d = true) := r2
    clear hk r1 r2 H
    obtain ⟨a1, a2, b1, b2⟩ := Rt.right_bd R1.out
    obtain ⟨c1, c2, d1, d2⟩ := Rt.right_bd R2.out
    obtain ⟨p1, p2⟩ := Rt.mul_bd a1 a2 c1 c2
    obtain ⟨p3, p4⟩ := Rt.mul_bd (a := b) (b := d) (by omega) b2 (by omega) d2
    obtain ⟨p5, p6⟩ := Rt.mul_bd (a := a) (b := d) (by omega) a2 (by omega) d2
    obtain ⟨p7, p8⟩ := Rt.mul_bd (a := c) (b := b) (by omega) c2 (by omega) b2
    obtain ⟨p9, p10⟩ := Rt.mul_bd (a := b) (b := c) (by omega) b2 (by omega) c2
    go_enter Tryz.func59, Tryz.ntmps59
    go_wp2_with fail
    refine (right_any a b true R1.out _).mono ?_
    rintro e1 w1 ⟨rfl, hb1⟩
    obtain ⟨hc1, hf1⟩ := bcell hb1
    go_wp2_with fail
    refine (right_any c d true R2.out _).mono ?_
    rintro e2 w2 ⟨rfl, hb2⟩
    have F2 := bt hb1 hb2
    clear hc1 hf1 hb1 hb2
    obtain ⟨hc2, hf2⟩ := bcell F2
    have G2 := bt (bal (ba _ _) _) F2
    go_wp2_with fail
    refine (compare_any (a * d) (c * b) k HK.out _).mono ?_
    rintro e3 w3 ⟨rfl, rfl⟩
    go_wp2_with fail
    go_ret2
    exact ⟨rfl, G2⟩
  · have hr := H.out
    unfold Rt.orderT at hr
    rw [if_neg r] at hr
    simp only [Prod.mk.injEq] at hr
    obtain ⟨rfl, rfl⟩ := hr
    have r' : Rt.rightB a b = false ∨ (Rt.rightB a b = true ∧ Rt.rightB c d = false) := by
      cases h1 : Rt.rightB a b <;> cases h2 : Rt.rightB c d <;> simp_all
    clear r H
    rcases r' with r1 | ⟨r1, r2⟩
    · have R1 : Hid (Rt.rightB a b = false) := r1
      clear r1
      go_enter Tryz.func59, Tryz.ntmps59
      go_wp2_with fail
      refine (right_any a b false R1.out _).mono ?_
      rintro e1 w1 ⟨rfl, hb1⟩
      have G1 := bt (bal (ba _ _) _) hb1
      obtain ⟨hc1, hf1⟩ := bcell hb1
      go_wp2_with fail
      go_ret2
      exact ⟨rfl, G1⟩
    · have R1 : Hid (Rt.rightB a b = true) := r1
      have R2 : Hid (Rt.rightB c d = false) := r2
      clear r1 r2
      go_enter Tryz.func59, Tryz.ntmps59
      go_wp2_with fail
      refine (right_any a b true R1.out _).mono ?_
      rintro e1 w1 ⟨rfl, hb1⟩
      obtain ⟨hc1, hf1⟩ := bcell hb1
      go_wp2_with fail
      refine (right_any c d false R2.out _).mono ?_
      rintro e2 w2 ⟨rfl, hb2⟩
      have F2 := bt hb1 hb2
      clear hc1 hf1 hb1 hb2
      have G1 := bt (bal (ba _ _) _) F2
      obtain ⟨hc1, hf1⟩ := bcell F2
      go_wp2_with fail
      go_ret2
      exact ⟨rfl, G1⟩

end Go.Proofs.YtfibbjngllelbaaGreat

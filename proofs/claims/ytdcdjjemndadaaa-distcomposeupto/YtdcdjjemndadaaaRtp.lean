import Derived.Test.YtdcdjjemndadaaaLawFars
import Derived.Test.YtdcdjjemndadaaaRat
namespace Go.Proofs.Ytdcdjjemndadaaa
open Go.RowKit

set_option maxHeartbeats 400000 in
theorem refRight_any (u d : Int) (b : Bool) (hb : Rt.rightB u d = b) (w : World) :
    Calls Try.prog 76 #[rv u d] w fun e w' => e = .returned (.bool b) ∧ Below w.heap.size w w' := by
  have HB : Hid (Rt.rightB u d = b) := hb
  clear hb
  by_cases c : 0 ≤ u ∧ u ≤ 1073741824 ∧ 1 ≤ d ∧ d ≤ 1073741824
  · obtain ⟨c1, c2, c3, c4⟩ := c
    obtain ⟨x, rfl⟩ := Int.eq_ofNat_of_zero_le c1
    obtain ⟨y, rfl⟩ := Int.eq_ofNat_of_zero_le (show 0 ≤ d by omega)
    have hbb : b = (((Nat.gcd x y : Nat) : Int) == 1) := by
      rw [← HB.out]; unfold Rt.rightB; rw [Bool.eq_iff_iff]; simp [Rt.mx]; omega
    subst hbb
    clear HB
    go_enter Try.func76, Try.ntmps76
    go_wp2_with (go_at_call 54; refine (refDivisor_any _ _ (by omega) (by omega) (by omega) _).mono ?_; rintro e w' ⟨rfl, rfl⟩)
    go_ret
    exact ⟨rfl, ba _ _⟩
  · have hbb : b = false := by
      rw [← HB.out]; unfold Rt.rightB Rt.mx; exact decide_eq_false (fun h => c ⟨h.1, h.2.1, h.2.2.1, h.2.2.2.1⟩)
    subst hbb
    clear HB
    by_cases c1 : u < 0
    · clear c
      go_enter Try.func76, Try.ntmps76
      go_wp2
      go_ret
      exact ⟨rfl, ba _ _⟩
    by_cases c3 : d < 1
    · clear c
      go_enter Try.func76, Try.ntmps76
      go_wp2
      go_ret
      exact ⟨rfl, ba _ _⟩
    by_cases c2 : 1073741824 < u
    · clear c
      go_enter Try.func76, Try.ntmps76
      go_wp2
      go_ret
      exact ⟨rfl, ba _ _⟩
    · have c4 : 1073741824 < d := by omega
      clear c
      go_enter Try.func76, Try.ntmps76
      go_wp2
      go_ret
      exact ⟨rfl, ba _ _⟩

set_option maxHeartbeats 400000 in
theorem refTimes_any (a b c d n m e : Int) (h : Rt.timesT a b c d = (n, m, e)) (w : World) :
    Calls Try.prog 33 #[rv a b, rv c d] w fun x w' => x = .returned (.tuple #[rv n m, .int .i64 e]) ∧ Below w.heap.size w w' := by
  have H : Hid (Rt.timesT a b c d = (n, m, e)) := h
  clear h
  by_cases r : Rt.rightB a b = true ∧ Rt.rightB c d = true
  · obtain ⟨r1, r2⟩ := r
    have hm : Rt.mkT (a * c) (b * d) = (n, m, e) := by rw [← H.out]; unfold Rt.timesT; rw [if_pos ⟨r1, r2⟩]
    have HM : Hid (Rt.mkT (a * c) (b * d) = (n, m, e)) := hm
    have R1 : Hid (Rt.rightB a b = true) := r1
    have R2 : Hid (Rt.rightB c d = true) := r2
    clear hm r1 r2 H
    obtain ⟨a1, a2, b1, b2⟩ := Rt.right_bd R1.out
    obtain ⟨c1, c2, d1, d2⟩ := Rt.right_bd R2.out
    obtain ⟨p1, p2⟩ := Rt.mul_bd a1 a2 c1 c2
    obtain ⟨p3, p4⟩ := Rt.mul_bd (a := b) (b := d) (by omega) b2 (by omega) d2
    obtain ⟨p5, p6⟩ := Rt.mul_bd (a := a) (b := d) (by omega) a2 (by omega) d2
    obtain ⟨p7, p8⟩ := Rt.mul_bd (a := c) (b := b) (by omega) c2 (by omega) b2
    obtain ⟨p9, p10⟩ := Rt.mul_bd (a := b) (b := c) (by omega) b2 (by omega) c2
    go_enter Try.func33, Try.ntmps33
    go_wp2_with fail
    refine (refRight_any a b true R1.out _).mono ?_
    rintro e1 w1 ⟨rfl, hb1⟩
    obtain ⟨hc1, hf1⟩ := bcell hb1
    go_wp2_with fail
    refine (refRight_any c d true R2.out _).mono ?_
    rintro e2 w2 ⟨rfl, hb2⟩
    have F2 := bt hb1 hb2
    clear hc1 hf1 hb1 hb2
    obtain ⟨hc2, hf2⟩ := bcell F2
    go_wp2_with fail
    refine (rrefMake_any (a * c) (b * d) n m e (by omega) (by omega) HM.out _).mono ?_
    rintro e4 w4 ⟨rfl, hb4⟩
    have F4 := bt F2 hb4
    have G4 := bt (bal (bal (ba _ _) _) _) F4
    clear F2 hb4 hc2 hf2
    obtain ⟨hc4, hf4⟩ := bcell F4
    go_wp2_with fail
    exact bodyPost_ret (v := .tuple #[rv n m, .int .i64 e]) (by simp [results, Try.results33, go_sem, hc4]) rfl ⟨rfl, bs (bs G4 (by simp; omega) _) (by simp; omega) _⟩
  · have hr : (0, 0, 2) = (n, m, e) := by rw [← H.out]; unfold Rt.timesT; rw [if_neg r]
    simp only [Prod.mk.injEq] at hr
    obtain ⟨rfl, rfl, rfl⟩ := hr
    have r' : Rt.rightB a b = false ∨ (Rt.rightB a b = true ∧ Rt.rightB c d = false) := by
      cases h1 : Rt.rightB a b <;> cases h2 : Rt.rightB c d <;> simp_all
    clear r H
    rcases r' with r1 | ⟨r1, r2⟩
    · have R1 : Hid (Rt.rightB a b = false) := r1
      clear r1
      go_enter Try.func33, Try.ntmps33
      go_wp2_with fail
      refine (refRight_any a b false R1.out _).mono ?_
      rintro e1 w1 ⟨rfl, hb1⟩
      have G1 := bt (bal (bal (ba _ _) _) _) hb1
      obtain ⟨hc1, hf1⟩ := bcell hb1
      go_wp2_with fail
      exact bodyPost_ret (v := .tuple #[rv 0 0, .int .i64 2]) (by simp [results, Try.results33, go_sem, hc1]) rfl ⟨rfl, bs (bs G1 (by simp; omega) _) (by simp; omega) _⟩
    · have R1 : Hid (Rt.rightB a b = true) := r1
      have R2 : Hid (Rt.rightB c d = false) := r2
      clear r1 r2
      go_enter Try.func33, Try.ntmps33
      go_wp2_with fail
      refine (refRight_any a b true R1.out _).mono ?_
      rintro e1 w1 ⟨rfl, hb1⟩
      obtain ⟨hc1, hf1⟩ := bcell hb1
      go_wp2_with fail
      refine (refRight_any c d false R2.out _).mono ?_
      rintro e2 w2 ⟨rfl, hb2⟩
      have F2 := bt hb1 hb2
      clear hc1 hf1 hb1 hb2
      have G1 := bt (bal (bal (ba _ _) _) _) F2
      obtain ⟨hc1, hf1⟩ := bcell F2
      go_wp2_with fail
      exact bodyPost_ret (v := .tuple #[rv 0 0, .int .i64 2]) (by simp [results, Try.results33, go_sem, hc1]) rfl ⟨rfl, bs (bs G1 (by simp; omega) _) (by simp; omega) _⟩

set_option maxHeartbeats 400000 in
theorem refPlus_any (a b c d n m e : Int) (h : Rt.plusT a b c d = (n, m, e)) (w : World) :
    Calls Try.prog 35 #[rv a b, rv c d] w fun x w' => x = .returned (.tuple #[rv n m, .int .i64 e]) ∧ Below w.heap.size w w' := by
  have H : Hid (Rt.plusT a b c d = (n, m, e)) := h
  clear h
  by_cases r : Rt.rightB a b = true ∧ Rt.rightB c d = true
  · obtain ⟨r1, r2⟩ := r
    have hm : Rt.mkT (a * d + c * b) (b * d) = (n, m, e) := by rw [← H.out]; unfold Rt.plusT; rw [if_pos ⟨r1, r2⟩]
    have HM : Hid (Rt.mkT (a * d + c * b) (b * d) = (n, m, e)) := hm
    have R1 : Hid (Rt.rightB a b = true) := r1
    have R2 : Hid (Rt.rightB c d = true) := r2
    clear hm r1 r2 H
    obtain ⟨a1, a2, b1, b2⟩ := Rt.right_bd R1.out
    obtain ⟨c1, c2, d1, d2⟩ := Rt.right_bd R2.out
    obtain ⟨p1, p2⟩ := Rt.mul_bd a1 a2 c1 c2
    obtain ⟨p3, p4⟩ := Rt.mul_bd (a := b) (b := d) (by omega) b2 (by omega) d2
    obtain ⟨p5, p6⟩ := Rt.mul_bd (a := a) (b := d) (by omega) a2 (by omega) d2
    obtain ⟨p7, p8⟩ := Rt.mul_bd (a := c) (b := b) (by omega) c2 (by omega) b2
    obtain ⟨p9, p10⟩ := Rt.mul_bd (a := b) (b := c) (by omega) b2 (by omega) c2
    go_enter Try.func35, Try.ntmps35
    go_wp2_with fail
    refine (refRight_any a b true R1.out _).mono ?_
    rintro e1 w1 ⟨rfl, hb1⟩
    obtain ⟨hc1, hf1⟩ := bcell hb1
    go_wp2_with fail
    refine (refRight_any c d true R2.out _).mono ?_
    rintro e2 w2 ⟨rfl, hb2⟩
    have F2 := bt hb1 hb2
    clear hc1 hf1 hb1 hb2
    obtain ⟨hc2, hf2⟩ := bcell F2
    go_wp2_with fail
    refine (rrefMake_any (a * d + c * b) (b * d) n m e (by omega) (by omega) HM.out _).mono ?_
    rintro e4 w4 ⟨rfl, hb4⟩
    have F4 := bt F2 hb4
    have G4 := bt (bal (bal (ba _ _) _) _) F4
    clear F2 hb4 hc2 hf2
    obtain ⟨hc4, hf4⟩ := bcell F4
    go_wp2_with fail
    exact bodyPost_ret (v := .tuple #[rv n m, .int .i64 e]) (by simp [results, Try.results35, go_sem, hc4]) rfl ⟨rfl, bs (bs G4 (by simp; omega) _) (by simp; omega) _⟩
  · have hr : (0, 0, 2) = (n, m, e) := by rw [← H.out]; unfold Rt.plusT; rw [if_neg r]
    simp only [Prod.mk.injEq] at hr
    obtain ⟨rfl, rfl, rfl⟩ := hr
    have r' : Rt.rightB a b = false ∨ (Rt.rightB a b = true ∧ Rt.rightB c d = false) := by
      cases h1 : Rt.rightB a b <;> cases h2 : Rt.rightB c d <;> simp_all
    clear r H
    rcases r' with r1 | ⟨r1, r2⟩
    · have R1 : Hid (Rt.rightB a b = false) := r1
      clear r1
      go_enter Try.func35, Try.ntmps35
      go_wp2_with fail
      refine (refRight_any a b false R1.out _).mono ?_
      rintro e1 w1 ⟨rfl, hb1⟩
      have G1 := bt (bal (bal (ba _ _) _) _) hb1
      obtain ⟨hc1, hf1⟩ := bcell hb1
      go_wp2_with fail
      exact bodyPost_ret (v := .tuple #[rv 0 0, .int .i64 2]) (by simp [results, Try.results35, go_sem, hc1]) rfl ⟨rfl, bs (bs G1 (by simp; omega) _) (by simp; omega) _⟩
    · have R1 : Hid (Rt.rightB a b = true) := r1
      have R2 : Hid (Rt.rightB c d = false) := r2
      clear r1 r2
      go_enter Try.func35, Try.ntmps35
      go_wp2_with fail
      refine (refRight_any a b true R1.out _).mono ?_
      rintro e1 w1 ⟨rfl, hb1⟩
      obtain ⟨hc1, hf1⟩ := bcell hb1
      go_wp2_with fail
      refine (refRight_any c d false R2.out _).mono ?_
      rintro e2 w2 ⟨rfl, hb2⟩
      have F2 := bt hb1 hb2
      clear hc1 hf1 hb1 hb2
      have G1 := bt (bal (bal (ba _ _) _) _) F2
      obtain ⟨hc1, hf1⟩ := bcell F2
      go_wp2_with fail
      exact bodyPost_ret (v := .tuple #[rv 0 0, .int .i64 2]) (by simp [results, Try.results35, go_sem, hc1]) rfl ⟨rfl, bs (bs G1 (by simp; omega) _) (by simp; omega) _⟩

end Go.Proofs.Ytdcdjjemndadaaa

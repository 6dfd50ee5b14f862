import Derived.Test.YtfibbjngllelbaaGreatOps
namespace Go.Proofs.YtfibbjngllelbaaGreat
open Go.RowKit

set_option maxHeartbeats 400000 in
theorem reckonNo (a b c d : Int) (f : Value) (h : Rt.rightB a b = false ∨ (Rt.rightB a b = true ∧ Rt.rightB c d = false)) (w : World) :
    Calls Tryz.prog 60 #[rv a b, rv c d, f] w fun x w' => x = .returned (.tuple #[rv 0 0, .int .i64 2]) ∧ Below w.heap.size w w' := by
  rcases h with r1 | ⟨r1, r2⟩
  · have R1 : Hid (Rt.rightB a b = false) := r1
    clear r1
    go_enter Tryz.func60, Tryz.ntmps60
    go_wp2_with fail
    refine (right_any a b false R1.out _).mono ?_
    rintro e1 w1 ⟨rfl, hb1⟩
    have G1 := bt (bal (bal (ba _ _) _) _) hb1
    obtain ⟨hc1, hf1⟩ := bcell hb1
    go_wp2_with fail
    exact bodyPost_ret (v := .tuple #[rv 0 0, .int .i64 2]) (by simp [results, Tryz.results60, go_sem, hc1]) rfl ⟨rfl, bs (bs G1 (by simp; omega) _) (by simp; omega) _⟩
  · have R1 : Hid (Rt.rightB a b = true) := r1
    have R2 : Hid (Rt.rightB c d = false) := r2
    clear r1 r2
    go_enter Tryz.func60, Tryz.ntmps60
    go_wp2_with fail
    refine (right_any a b true R1.out _).mono ?_
    rintro e1 w1 ⟨rfl, hb1⟩
    obtain ⟨hc1, hf1⟩ := bcell hb1
    go_wp2_with fail
    refine (right_any c d false R2.out _).mono ?_
    rintro e2 w2 ⟨rfl, hb2⟩
    have F2 := bt hb1 hb2
    clear hc1 hf1 hb1 hb2
    have G2 := bt (bal (bal (ba _ _) _) _) F2
    obtain ⟨hc1, hf1⟩ := bcell F2
    go_wp2_with fail
    exact bodyPost_ret (v := .tuple #[rv 0 0, .int .i64 2]) (by simp [results, Tryz.results60, go_sem, hc1]) rfl ⟨rfl, bs (bs G2 (by simp; omega) _) (by simp; omega) _⟩

set_option maxHeartbeats 400000 in
theorem times_any (a b c d n m e : Int) (h : Rt.timesT a b c d = (n, m, e)) (w : World) :
    Calls Tryz.prog 46 #[rv a b, rv c d] w fun x w' => x = .returned (.tuple #[rv n m, .int .i64 e]) ∧ Below w.heap.size w w' := by
  have H : Hid (Rt.timesT a b c d = (n, m, e)) := h
  clear h
  by_cases r : Rt.rightB a b = true ∧ Rt.rightB c d = true
  · obtain ⟨r1, r2⟩ := r
    have hm : Rt.mkT (a * c) (b * d) = (n, m, e) := by rw [← H.out]; unfold Rt.timesT; rw [if_pos ⟨r1, r2⟩]
    have HM : Hid (Rt.mkT (a * c) (b * d) = (n, m, e)) := hm
    have R1 : Hid (Rt.rightB a b = true) := r1
    have R2 : Hid (Rt.rightB c d = true) := r2
    clear hm r1 r2 H
    go_enter Tryz.func46, Tryz.ntmps46
    go_wp2_with fail
    refine (timesReckon a b c d n m e R1.out R2.out HM.out w.heap.size (w.heap.size + 1) _ (by simp <;> omega) (by simp <;> omega) (by simp [go_sem]) (by simp [go_sem]) (by simp [go_sem]) (by simp [go_sem])).mono ?_
    rintro e1 w1 ⟨rfl, hb1⟩
    have G1 := bt (bal (bal (ba _ _) _) _) hb1
    obtain ⟨hc1, hf1⟩ := bcell hb1
    go_wp2_with fail
    exact bodyPost_ret (v := .tuple #[rv n m, .int .i64 e]) (by simp [results, Tryz.results46, go_sem, hc1]) rfl ⟨rfl, bs (bs G1 (by simp; omega) _) (by simp; omega) _⟩
  · have hr : (0, 0, 2) = (n, m, e) := by rw [← H.out]; unfold Rt.timesT; rw [if_neg r]
    simp only [Prod.mk.injEq] at hr
    obtain ⟨rfl, rfl, rfl⟩ := hr
    have r' : Rt.rightB a b = false ∨ (Rt.rightB a b = true ∧ Rt.rightB c d = false) := by
      cases h1 : Rt.rightB a b <;> cases h2 : Rt.rightB c d <;> simp_all
    have R : Hid (Rt.rightB a b = false ∨ (Rt.rightB a b = true ∧ Rt.rightB c d = false)) := r'
    clear r r' H
    go_enter Tryz.func46, Tryz.ntmps46
    go_wp2_with fail
    refine (reckonNo a b c d _ R.out _).mono ?_
    rintro e1 w1 ⟨rfl, hb1⟩
    have G1 := bt (bal (bal (ba _ _) _) _) hb1
    obtain ⟨hc1, hf1⟩ := bcell hb1
    go_wp2_with fail
    exact bodyPost_ret (v := .tuple #[rv 0 0, .int .i64 2]) (by simp [results, Tryz.results46, go_sem, hc1]) rfl ⟨rfl, bs (bs G1 (by simp; omega) _) (by simp; omega) _⟩

end Go.Proofs.YtfibbjngllelbaaGreat

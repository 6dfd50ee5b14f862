import Derived.Test.YtcmhokfeadeffaaPow
import Derived.Test.YtcmhokfeadeffaaNso
namespace Go.Proofs.Ytcmhokfeadeffaa
open Go.RowKit Go.Proofs.Ytcmhokfeadeffaa.Ds

/-- the reference's: what is wrong with a loss -/
theorem rloss_any (u d er : Int) (h : lossE u d = er) (w : World) :
    Calls Try.prog 24 #[rv u d] w fun e w' => e = .returned (.int .i64 er) ∧ Below w.heap.size w w' := by
  obtain ⟨b, hb⟩ : ∃ b, Rt.rightB u d = b := ⟨_, rfl⟩
  rw [lossE, hb] at h
  have HB := ba w (.cells #[.int .i64 u, .int .i64 d] 23)
  have kc := refRight_any u d b hb (w.alloc (.cells #[.int .i64 u, .int .i64 d] 23))
  clear hb
  cases b with
  | false =>
    simp at h; subst h
    go_enter Try.func24, Try.ntmps24
    go_wp2_with fail
    refine kc.mono ?_
    rintro e w1 ⟨rfl, hb1⟩
    have G1 := bt HB hb1
    go_wp2
    go_ret
    exact ⟨rfl, G1⟩
  | true =>
    simp at h
    by_cases c : u < d
    · rw [if_pos c] at h
      subst h
      go_enter Try.func24, Try.ntmps24
      go_wp2_with fail
      refine kc.mono ?_
      rintro e w1 ⟨rfl, hb1⟩
      have G1 := bt HB hb1
      obtain ⟨hc1, hf1⟩ := bcell hb1
      go_wp2
      go_ret
      exact ⟨rfl, G1⟩
    · rw [if_neg c] at h
      subst h
      go_enter Try.func24, Try.ntmps24
      go_wp2_with fail
      refine kc.mono ?_
      rintro e w1 ⟨rfl, hb1⟩
      have G1 := bt HB hb1
      obtain ⟨hc1, hf1⟩ := bcell hb1
      go_wp2
      go_ret
      exact ⟨rfl, G1⟩

theorem lost_any (u d n p q er : Int) (h : lostT u d n = (p, q, er)) (w : World) :
    Calls Try.prog 12 #[rv u d, .int .i64 n] w fun e w' => e = .returned (.tuple #[rv p q, .int .i64 er]) ∧ Below w.heap.size w w' := by
  obtain ⟨e0, he0⟩ : ∃ e0, lossE u d = e0 := ⟨_, rfl⟩
  rw [lostT, he0] at h
  have kc := noLoss_any u d e0 he0
  by_cases c : e0 = 0
  · subst c
    simp at h
    have kp := power_any u d n p q er h
    clear h he0
    go_enter Try.func12, Try.ntmps12
    go_wp2_with fail
    refine (kc _).mono ?_
    rintro e w1 ⟨rfl, hb1⟩
    have G1 := bt (bal (ba _ _) _) hb1
    obtain ⟨hc1, hf1⟩ := bcell hb1
    go_wp2_with fail
    refine (kp _).mono ?_
    rintro e w2 ⟨rfl, hb2⟩
    have G2 := bt G1 hb2
    obtain ⟨hc2, hf2⟩ := bcell hb2
    have hz1 : w.heap.size + 1 < w1.heap.size := by have := hb1.size; simp at this; omega
    go_wp2_with fail
    exact bodyPost_ret (v := .tuple #[rv p q, .int .i64 er]) (by simp [results, Try.results12, go_sem, hc1, hc2, hz1]) rfl ⟨rfl, bs (bs G2 (by simp) _) (by simp) _⟩
  · simp only [ne_eq, c, not_false_eq_true, if_true, Prod.mk.injEq] at h
    obtain ⟨rfl, rfl, rfl⟩ := h
    have c1 : (e0 == 0) = false := by simpa using c
    have c2 : (e0 != 0) = true := by simpa using c
    go_enter Try.func12, Try.ntmps12
    go_wp2_with fail
    refine (kc _).mono ?_
    rintro e w1 ⟨rfl, hb1⟩
    have G1 := bt (bal (ba _ _) _) hb1
    obtain ⟨hc1, hf1⟩ := bcell hb1
    go_wp2_with fail
    exact bodyPost_ret (v := .tuple #[rv 0 0, .int .i64 e0]) (by simp [results, Try.results12, go_sem, hc1]) rfl ⟨rfl, bs (bs G1 (by simp) _) (by simp) _⟩

theorem rlost_any (u d n p q er : Int) (h : lostT u d n = (p, q, er)) (w : World) :
    Calls Try.prog 13 #[rv u d, .int .i64 n] w fun e w' => e = .returned (.tuple #[rv p q, .int .i64 er]) ∧ Below w.heap.size w w' := by
  obtain ⟨e0, he0⟩ : ∃ e0, lossE u d = e0 := ⟨_, rfl⟩
  rw [lostT, he0] at h
  have kc := rloss_any u d e0 he0
  by_cases c : e0 = 0
  · subst c
    simp at h
    have kp := refPower_any u d n p q er h
    clear h he0
    go_enter Try.func13, Try.ntmps13
    go_wp2_with fail
    refine (kc _).mono ?_
    rintro e w1 ⟨rfl, hb1⟩
    have G1 := bt (bal (ba _ _) _) hb1
    obtain ⟨hc1, hf1⟩ := bcell hb1
    go_wp2_with fail
    refine (kp _).mono ?_
    rintro e w2 ⟨rfl, hb2⟩
    have G2 := bt G1 hb2
    obtain ⟨hc2, hf2⟩ := bcell hb2
    have hz1 : w.heap.size + 1 < w1.heap.size := by have := hb1.size; simp at this; omega
    go_wp2_with fail
    exact bodyPost_ret (v := .tuple #[rv p q, .int .i64 er]) (by simp [results, Try.results13, go_sem, hc1, hc2, hz1]) rfl ⟨rfl, bs (bs G2 (by simp) _) (by simp) _⟩
  · simp only [ne_eq, c, not_false_eq_true, if_true, Prod.mk.injEq] at h
    obtain ⟨rfl, rfl, rfl⟩ := h
    have c1 : (e0 == 0) = false := by simpa using c
    have c2 : (e0 != 0) = true := by simpa using c
    go_enter Try.func13, Try.ntmps13
    go_wp2_with fail
    refine (kc _).mono ?_
    rintro e w1 ⟨rfl, hb1⟩
    have G1 := bt (bal (ba _ _) _) hb1
    obtain ⟨hc1, hf1⟩ := bcell hb1
    go_wp2_with fail
    exact bodyPost_ret (v := .tuple #[rv 0 0, .int .i64 e0]) (by simp [results, Try.results13, go_sem, hc1]) rfl ⟨rfl, bs (bs G1 (by simp) _) (by simp) _⟩

end Go.Proofs.Ytcmhokfeadeffaa

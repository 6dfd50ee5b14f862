import Derived.Test.YtlndlpjadajelaaGreatQl18
namespace Go.Proofs.YtlndlpjadajelaaGreat
open Go.RowKit Go.Proofs.YtlndlpjadajelaaGreat.Ds

/-! ### what the law reckons with -/
set_option maxHeartbeats 400000 in
theorem rrefMake_any (u d n m e : Int) (hu : u ≤ 9223372036854775807) (hd : d ≤ 9223372036854775807) (h : Rt.mkT u d = (n, m, e)) (w : World) :
    Calls Tryz.prog 43 #[.int .i64 u, .int .i64 d] w fun x w' => x = .returned (.tuple #[rv n m, .int .i64 e]) ∧ Below w.heap.size w w' := by
  have H : Hid (Rt.mkT u d = (n, m, e)) := h
  clear h
  by_cases c1 : u < 0
  · have hr : (0, 0, 3) = (n, m, e) := by rw [← H.out]; unfold Rt.mkT; rw [if_pos (.inl c1)]
    simp only [Prod.mk.injEq] at hr
    obtain ⟨rfl, rfl, rfl⟩ := hr
    go_enter Tryz.func43, Tryz.ntmps43
    go_wp2
    exact bodyPost_ret (v := .tuple #[rv 0 0, .int .i64 3]) (by simp [results, Tryz.results43, go_sem]) rfl ⟨rfl, ba _ _⟩
  by_cases c2 : d < 1
  · have hr : (0, 0, 3) = (n, m, e) := by rw [← H.out]; unfold Rt.mkT; rw [if_pos (.inr c2)]
    simp only [Prod.mk.injEq] at hr
    obtain ⟨rfl, rfl, rfl⟩ := hr
    go_enter Tryz.func43, Tryz.ntmps43
    go_wp2
    exact bodyPost_ret (v := .tuple #[rv 0 0, .int .i64 3]) (by simp [results, Tryz.results43, go_sem]) rfl ⟨rfl, ba _ _⟩
  have hm := Rt.mkT_of u d n m e (by omega) (by omega) H.out
  clear H
  obtain ⟨x, rfl⟩ := Int.eq_ofNat_of_zero_le (show 0 ≤ u by omega)
  obtain ⟨y, rfl⟩ := Int.eq_ofNat_of_zero_le (show 0 ≤ d by omega)
  rw [show Int.gcd (x : Int) (y : Int) = Nat.gcd x y from rfl] at hm
  have hg1 : 1 ≤ Nat.gcd x y := Nat.gcd_pos_of_pos_right _ (by omega)
  have hg2 : Nat.gcd x y ≤ y := Nat.gcd_le_right _ (by omega)
  have q1 : 0 ≤ (x : Int) / (Nat.gcd x y : Nat) := Int.ediv_nonneg (by omega) (by omega)
  have q2 : 0 ≤ (y : Int) / (Nat.gcd x y : Nat) := Int.ediv_nonneg (by omega) (by omega)
  have q3 : (x : Int) / (Nat.gcd x y : Nat) ≤ 9223372036854775807 := Int.le_trans (Int.ediv_le_self _ (by omega)) hu
  have q4 : (y : Int) / (Nat.gcd x y : Nat) ≤ 9223372036854775807 := Int.le_trans (Int.ediv_le_self _ (by omega)) hd
  rcases hm with ⟨hc, rfl, rfl, rfl⟩ | ⟨hc1, hc2, rfl, rfl, rfl⟩
  · have hc' : 1073741824 < (x : Int) / (Nat.gcd x y : Nat) ∨ ((x : Int) / (Nat.gcd x y : Nat) ≤ 1073741824 ∧ 1073741824 < (y : Int) / (Nat.gcd x y : Nat)) := by omega
    clear hc
    rcases hc' with hc1 | ⟨hc1, hc2⟩
    all_goals
      go_enter Tryz.func43, Tryz.ntmps43
      go_wp2_with (go_at_call 56; refine (refDivisor_any _ _ (by omega) (by omega) (by omega) _).mono ?_; rintro e w' ⟨rfl, rfl⟩)
      generalize Nat.gcd x y = g at *
      go_wp2
      exact bodyPost_ret (v := .tuple #[rv 0 0, .int .i64 4]) (by simp [results, Tryz.results43, go_sem]) rfl ⟨rfl, ba _ _⟩
  · go_enter Tryz.func43, Tryz.ntmps43
    go_wp2_with (go_at_call 56; refine (refDivisor_any _ _ (by omega) (by omega) (by omega) _).mono ?_; rintro e w' ⟨rfl, rfl⟩)
    go_wp2
    go_region
    all_goals go_wp2
    exact bodyPost_ret (v := .tuple #[rv (x / (Nat.gcd x y : Nat)) (y / (Nat.gcd x y : Nat)), .int .i64 0]) (by simp [results, Tryz.results43, go_sem]) rfl ⟨rfl, (ba _ _).drew⟩
set_option maxHeartbeats 400000 in
theorem refTimes_any (a b c d n m e : Int) (h : Rt.timesT a b c d = (n, m, e)) (w : World) :
    Calls Tryz.prog 14 #[rv a b, rv c d] w fun x w' => x = .returned (.tuple #[rv n m, .int .i64 e]) ∧ Below w.heap.size w w' := by
  have H : Hid (Rt.timesT a b c d = (n, m, e)) := h
  clear h
  by_cases r : Rt.rightB a b = true ∧ Rt.rightB c d = true
  · obtain ⟨r1, r2⟩ := r
    have hm : Rt.mkT (a * c) (b * d) = (n, m, e) := by rw [← H.out]; unfold Rt.timesT; rw [if_pos ⟨r1, r2⟩]
    have HM : Hid (Rt.mkT (a * c) (b * d) = (n, m, e)) := hm
    have R1 : Hid (Rt.rightB a b = true) := r1
    have R2 : Hid (Rt.rightB c d = true) := r2
    clear hm r1 r2 H
    obtain ⟨a1, a2, b1, b2⟩ := Rt.right_bd R1.out
    obtain ⟨c1, c2, d1, d2⟩ := Rt.right_bd R2.out
    obtain ⟨p1, p2⟩ := Rt.mul_bd a1 a2 c1 c2
    obtain ⟨p3, p4⟩ := Rt.mul_bd (a := b) (b := d) (by omega) b2 (by omega) d2
    obtain ⟨p5, p6⟩ := Rt.mul_bd (a := a) (b := d) (by omega) a2 (by omega) d2
    obtain ⟨p7, p8⟩ := Rt.mul_bd (a := c) (b := b) (by omega) c2 (by omega) b2
    obtain ⟨p9, p10⟩ := Rt.mul_bd (a := b) (b := c) (by omega) b2 (by omega) c2
    go_enter Tryz.func14, Tryz.ntmps14
    go_wp2_with fail
    refine (refRight_any a b true R1.out _).mono ?_
    rintro e1 w1 ⟨rfl, hb1⟩
    obtain ⟨hc1, hf1⟩ := bcell hb1
    go_wp2_with fail
    refine (refRight_any c d true R2.out _).mono ?_
    rintro e2 w2 ⟨rfl, hb2⟩
    have F2 := bt hb1 hb2
    clear hc1 hf1 hb1 hb2
    obtain ⟨hc2, hf2⟩ := bcell F2
    go_wp2_with fail
    refine (rrefMake_any (a * c) (b * d) n m e (by omega) (by omega) HM.out _).mono ?_
    rintro e4 w4 ⟨rfl, hb4⟩
    have F4 := bt F2 hb4
    have G4 := bt (bal (bal (ba _ _) _) _) F4
    clear F2 hb4 hc2 hf2
    obtain ⟨hc4, hf4⟩ := bcell F4
    go_wp2_with fail
    exact bodyPost_ret (v := .tuple #[rv n m, .int .i64 e]) (by simp [results, Tryz.results14, go_sem, hc4]) rfl ⟨rfl, bs (bs G4 (by simp; omega) _) (by simp; omega) _⟩
  · have hr : (0, 0, 2) = (n, m, e) := by rw [← H.out]; unfold Rt.timesT; rw [if_neg r]
    simp only [Prod.mk.injEq] at hr
    obtain ⟨rfl, rfl, rfl⟩ := hr
    have r' : Rt.rightB a b = false ∨ (Rt.rightB a b = true ∧ Rt.rightB c d = false) := by
      cases h1 : Rt.rightB a b <;> cases h2 : Rt.rightB c d <;> simp_all
    clear r H
    rcases r' with r1 | ⟨r1, r2⟩
    · have R1 : Hid (Rt.rightB a b = false) := r1
      clear r1
      go_enter Tryz.func14, Tryz.ntmps14
      go_wp2_with fail
      refine (refRight_any a b false R1.out _).mono ?_
      rintro e1 w1 ⟨rfl, hb1⟩
      have G1 := bt (bal (bal (ba _ _) _) _) hb1
      obtain ⟨hc1, hf1⟩ := bcell hb1
      go_wp2_with fail
      exact bodyPost_ret (v := .tuple #[rv 0 0, .int .i64 2]) (by simp [results, Tryz.results14, go_sem, hc1]) rfl ⟨rfl, bs (bs G1 (by simp; omega) _) (by simp; omega) _⟩
    · have R1 : Hid (Rt.rightB a b = true) := r1
      have R2 : Hid (Rt.rightB c d = false) := r2
      clear r1 r2
      go_enter Tryz.func14, Tryz.ntmps14
      go_wp2_with fail
      refine (refRight_any a b true R1.out _).mono ?_
      rintro e1 w1 ⟨rfl, hb1⟩
      obtain ⟨hc1, hf1⟩ := bcell hb1
      go_wp2_with fail
      refine (refRight_any c d false R2.out _).mono ?_
      rintro e2 w2 ⟨rfl, hb2⟩
      have F2 := bt hb1 hb2
      clear hc1 hf1 hb1 hb2
      have G1 := bt (bal (bal (ba _ _) _) _) F2
      obtain ⟨hc1, hf1⟩ := bcell F2
      go_wp2_with fail
      exact bodyPost_ret (v := .tuple #[rv 0 0, .int .i64 2]) (by simp [results, Tryz.results14, go_sem, hc1]) rfl ⟨rfl, bs (bs G1 (by simp; omega) _) (by simp; omega) _⟩

theorem refMost_any (a b c d : Int) (ha0 : 0 ≤ a) (ha : a ≤ 1073741824) (hb0 : 0 ≤ b) (hb : b ≤ 1073741824) (hc0 : 0 ≤ c) (hc : c ≤ 1073741824) (hd0 : 0 ≤ d) (hd : d ≤ 1073741824) (r : Bool) (hr : decide (a * d ≤ c * b) = r) (w : World) :
    Calls Tryz.prog 15 #[rv a b, rv c d] w fun e w' => e = .returned (.bool r) ∧ Below w.heap.size w w' := by
  have b1 := Rt.mul_bd ha0 ha hd0 hd
  have b2 := Rt.mul_bd hc0 hc hb0 hb
  obtain ⟨P, hP⟩ : ∃ P, a * d = P := ⟨_, rfl⟩
  obtain ⟨Q, hQ⟩ : ∃ Q, c * b = Q := ⟨_, rfl⟩
  rw [hP] at b1
  rw [hQ] at b2
  rw [hP, hQ] at hr
  by_cases h : P ≤ Q
  · have hh : decide (P ≤ Q) = true := decide_eq_true h
    obtain rfl : true = r := by rw [← hr, hh]
    clear hr
    go_enter Tryz.func15, Tryz.ntmps15
    go_wp2
    go_ret
    exact ⟨rfl, bal (ba _ _) _⟩
  · have hh : decide (P ≤ Q) = false := decide_eq_false h
    obtain rfl : false = r := by rw [← hr, hh]
    clear hr
    go_enter Tryz.func15, Tryz.ntmps15
    go_wp2
    go_ret
    exact ⟨rfl, bal (ba _ _) _⟩

end Go.Proofs.YtlndlpjadajelaaGreat

import Derived.Test.YtfofdbcmaokkcaaPow
namespace Go.Proofs.Ytfofdbcmaokkcaa
open Go.RowKit Go.Proofs.Ytfofdbcmaokkcaa.Ds

theorem plusLit (a b c d : Int) (p q : Nat) (w : World) (a1 : 0 ≤ a) (a2 : a ≤ 1073741824) (b1 : 1 ≤ b) (b2 : b ≤ 1073741824) (c1 : 0 ≤ c) (c2 : c ≤ 1073741824) (d1 : 1 ≤ d) (d2 : d ≤ 1073741824)
    (k1 : w.cell? ⟨p, 0, none⟩ = some (.int .i64 a)) (k2 : w.cell? ⟨p, 1, none⟩ = some (.int .i64 b)) (k3 : w.cell? ⟨q, 0, none⟩ = some (.int .i64 c)) (k4 : w.cell? ⟨q, 1, none⟩ = some (.int .i64 d)) :
    Calls Try.prog 36 #[.pointer (some ⟨p, 0, none⟩), .pointer (some ⟨q, 0, none⟩)] w fun x w' => x = .returned (.tuple #[.int .i64 (a * d + c * b), .int .i64 (b * d)]) ∧ Below w.heap.size w w' := by
  obtain ⟨p1, p2⟩ := Rt.mul_bd a1 a2 c1 c2
  obtain ⟨p3, p4⟩ := Rt.mul_bd (a := b) (b := d) (by omega) b2 (by omega) d2
  obtain ⟨p5, p6⟩ := Rt.mul_bd (a := a) (b := d) (by omega) a2 (by omega) d2
  obtain ⟨p7, p8⟩ := Rt.mul_bd (a := c) (b := b) (by omega) c2 (by omega) b2
  obtain ⟨p9, p10⟩ := Rt.mul_bd (a := b) (b := c) (by omega) b2 (by omega) c2
  go_enter Try.func36, Try.ntmps36
  go_wp2
  go_quiet (fail)
  go_wp2
  go_ret2
  exact ⟨rfl, below_drewN (Below.refl _ _) _⟩

set_option maxHeartbeats 400000 in
theorem plusReckon (a b c d n m e : Int) (r1 : Rt.rightB a b = true) (r2 : Rt.rightB c d = true) (hm : Rt.mkT (a * d + c * b) (b * d) = (n, m, e)) (p q : Nat) (w : World) (hp : p < w.heap.size) (hq : q < w.heap.size)
    (k1 : w.cell? ⟨p, 0, none⟩ = some (.int .i64 a)) (k2 : w.cell? ⟨p, 1, none⟩ = some (.int .i64 b)) (k3 : w.cell? ⟨q, 0, none⟩ = some (.int .i64 c)) (k4 : w.cell? ⟨q, 1, none⟩ = some (.int .i64 d)) :
    Calls Try.prog 33 #[rv a b, rv c d, .func (.func 36) #[] #[.pointer (some ⟨p, 0, none⟩), .pointer (some ⟨q, 0, none⟩)]] w fun x w' => x = .returned (.tuple #[rv n m, .int .i64 e]) ∧ Below w.heap.size w w' := by
  have HM : Hid (Rt.mkT (a * d + c * b) (b * d) = (n, m, e)) := hm
  have R1 : Hid (Rt.rightB a b = true) := r1
  have R2 : Hid (Rt.rightB c d = true) := r2
  obtain ⟨a1, a2, b1, b2⟩ := Rt.right_bd r1
  obtain ⟨c1, c2, d1, d2⟩ := Rt.right_bd r2
  clear r1 r2 hm
  obtain ⟨p1, p2⟩ := Rt.mul_bd a1 a2 c1 c2
  obtain ⟨p3, p4⟩ := Rt.mul_bd (a := b) (b := d) (by omega) b2 (by omega) d2
  obtain ⟨p5, p6⟩ := Rt.mul_bd (a := a) (b := d) (by omega) a2 (by omega) d2
  obtain ⟨p7, p8⟩ := Rt.mul_bd (a := c) (b := b) (by omega) c2 (by omega) b2
  obtain ⟨p9, p10⟩ := Rt.mul_bd (a := b) (b := c) (by omega) b2 (by omega) c2
  go_enter Try.func33, Try.ntmps33
  go_wp2_with fail
  refine (right_any a b true R1.out _).mono ?_
  rintro e1 w1 ⟨rfl, hb1⟩
  obtain ⟨hc1, hf1⟩ := bcell hb1
  go_wp2_with fail
  refine (right_any c d true R2.out _).mono ?_
  rintro e2 w2 ⟨rfl, hb2⟩
  have F2 := bt hb1 hb2
  clear hc1 hf1 hb1 hb2
  have G2 := bt (bal (bal (ba _ _) _) _) F2
  go_wp2_with fail
  refine (plusLit a b c d p q _ a1 a2 b1 b2 c1 c2 d1 d2 ((G2.cell (p := ⟨p, 0, none⟩) hp).trans k1) ((G2.cell (p := ⟨p, 1, none⟩) hp).trans k2) ((G2.cell (p := ⟨q, 0, none⟩) hq).trans k3) ((G2.cell (p := ⟨q, 1, none⟩) hq).trans k4)).mono ?_
  rintro e3 w3 ⟨rfl, hb3⟩
  go_wp2_with fail
  refine (rmake_any (a * d + c * b) (b * d) n m e (by omega) (by omega) HM.out _).mono ?_
  rintro e4 w4 ⟨rfl, hb4⟩
  have F4 := bt (bt F2 hb3) hb4
  have G4 := bt (bal (bal (ba _ _) _) _) F4
  clear F2 hb3 hb4 G2
  obtain ⟨hc4, hf4⟩ := bcell F4
  go_wp2_with fail
  exact bodyPost_ret (v := .tuple #[rv n m, .int .i64 e]) (by simp [results, Try.results33, go_sem, hc4]) rfl ⟨rfl, bs (bs G4 (by simp; omega) _) (by simp; omega) _⟩

theorem minusLit (a b c d : Int) (p q : Nat) (w : World) (a1 : 0 ≤ a) (a2 : a ≤ 1073741824) (b1 : 1 ≤ b) (b2 : b ≤ 1073741824) (c1 : 0 ≤ c) (c2 : c ≤ 1073741824) (d1 : 1 ≤ d) (d2 : d ≤ 1073741824)
    (k1 : w.cell? ⟨p, 0, none⟩ = some (.int .i64 a)) (k2 : w.cell? ⟨p, 1, none⟩ = some (.int .i64 b)) (k3 : w.cell? ⟨q, 0, none⟩ = some (.int .i64 c)) (k4 : w.cell? ⟨q, 1, none⟩ = some (.int .i64 d)) :
    Calls Try.prog 34 #[.pointer (some ⟨p, 0, none⟩), .pointer (some ⟨q, 0, none⟩)] w fun x w' => x = .returned (.tuple #[.int .i64 (a * d - c * b), .int .i64 (b * d)]) ∧ Below w.heap.size w w' := by
  obtain ⟨p1, p2⟩ := Rt.mul_bd a1 a2 c1 c2
  obtain ⟨p3, p4⟩ := Rt.mul_bd (a := b) (b := d) (by omega) b2 (by omega) d2
  obtain ⟨p5, p6⟩ := Rt.mul_bd (a := a) (b := d) (by omega) a2 (by omega) d2
  obtain ⟨p7, p8⟩ := Rt.mul_bd (a := c) (b := b) (by omega) c2 (by omega) b2
  obtain ⟨p9, p10⟩ := Rt.mul_bd (a := b) (b := c) (by omega) b2 (by omega) c2
  go_enter Try.func34, Try.ntmps34
  go_wp2
  go_quiet (fail)
  go_wp2
  go_ret2
  exact ⟨rfl, below_drewN (Below.refl _ _) _⟩

set_option maxHeartbeats 400000 in
theorem minusReckon (a b c d n m e : Int) (r1 : Rt.rightB a b = true) (r2 : Rt.rightB c d = true) (hm : Rt.mkT (a * d - c * b) (b * d) = (n, m, e)) (p q : Nat) (w : World) (hp : p < w.heap.size) (hq : q < w.heap.size)
    (k1 : w.cell? ⟨p, 0, none⟩ = some (.int .i64 a)) (k2 : w.cell? ⟨p, 1, none⟩ = some (.int .i64 b)) (k3 : w.cell? ⟨q, 0, none⟩ = some (.int .i64 c)) (k4 : w.cell? ⟨q, 1, none⟩ = some (.int .i64 d)) :
    Calls Try.prog 33 #[rv a b, rv c d, .func (.func 34) #[] #[.pointer (some ⟨p, 0, none⟩), .pointer (some ⟨q, 0, none⟩)]] w fun x w' => x = .returned (.tuple #[rv n m, .int .i64 e]) ∧ Below w.heap.size w w' := by
  have HM : Hid (Rt.mkT (a * d - c * b) (b * d) = (n, m, e)) := hm
  have R1 : Hid (Rt.rightB a b = true) := r1
  have R2 : Hid (Rt.rightB c d = true) := r2
  obtain ⟨a1, a2, b1, b2⟩ := Rt.right_bd r1
  obtain ⟨c1, c2, d1, d2⟩ := Rt.right_bd r2
  clear r1 r2 hm
  obtain ⟨p1, p2⟩ := Rt.mul_bd a1 a2 c1 c2
  obtain ⟨p3, p4⟩ := Rt.mul_bd (a := b) (b := d) (by omega) b2 (by omega) d2
  obtain ⟨p5, p6⟩ := Rt.mul_bd (a := a) (b := d) (by omega) a2 (by omega) d2
  obtain ⟨p7, p8⟩ := Rt.mul_bd (a := c) (b := b) (by omega) c2 (by omega) b2
  obtain ⟨p9, p10⟩ := Rt.mul_bd (a := b) (b := c) (by omega) b2 (by omega) c2
  go_enter Try.func33, Try.ntmps33
  go_wp2_with fail
  refine (right_any a b true R1.out _).mono ?_
  rintro e1 w1 ⟨rfl, hb1⟩
  obtain ⟨hc1, hf1⟩ := bcell hb1
  go_wp2_with fail
  refine (right_any c d true R2.out _).mono ?_
  rintro e2 w2 ⟨rfl, hb2⟩
  have F2 := bt hb1 hb2
  clear hc1 hf1 hb1 hb2
  have G2 := bt (bal (bal (ba _ _) _) _) F2
  go_wp2_with fail
  refine (minusLit a b c d p q _ a1 a2 b1 b2 c1 c2 d1 d2 ((G2.cell (p := ⟨p, 0, none⟩) hp).trans k1) ((G2.cell (p := ⟨p, 1, none⟩) hp).trans k2) ((G2.cell (p := ⟨q, 0, none⟩) hq).trans k3) ((G2.cell (p := ⟨q, 1, none⟩) hq).trans k4)).mono ?_
  rintro e3 w3 ⟨rfl, hb3⟩
  go_wp2_with fail
  refine (rmake_any (a * d - c * b) (b * d) n m e (by omega) (by omega) HM.out _).mono ?_
  rintro e4 w4 ⟨rfl, hb4⟩
  have F4 := bt (bt F2 hb3) hb4
  have G4 := bt (bal (bal (ba _ _) _) _) F4
  clear F2 hb3 hb4 G2
  obtain ⟨hc4, hf4⟩ := bcell F4
  go_wp2_with fail
  exact bodyPost_ret (v := .tuple #[rv n m, .int .i64 e]) (by simp [results, Try.results33, go_sem, hc4]) rfl ⟨rfl, bs (bs G4 (by simp; omega) _) (by simp; omega) _⟩

set_option maxHeartbeats 400000 in
theorem plus_any (a b c d n m e : Int) (h : Rt.plusT a b c d = (n, m, e)) (w : World) :
    Calls Try.prog 20 #[rv a b, rv c d] w fun x w' => x = .returned (.tuple #[rv n m, .int .i64 e]) ∧ Below w.heap.size w w' := by
  have H : Hid (Rt.plusT a b c d = (n, m, e)) := h
  clear h
  by_cases r : Rt.rightB a b = true ∧ Rt.rightB c d = true
  · obtain ⟨r1, r2⟩ := r
    have hm : Rt.mkT (a * d + c * b) (b * d) = (n, m, e) := by rw [← H.out]; unfold Rt.plusT; rw [if_pos ⟨r1, r2⟩]
    have HM : Hid (Rt.mkT (a * d + c * b) (b * d) = (n, m, e)) := hm
    have R1 : Hid (Rt.rightB a b = true) := r1
    have R2 : Hid (Rt.rightB c d = true) := r2
    clear hm r1 r2 H
    go_enter Try.func20, Try.ntmps20
    go_wp2_with fail
    refine (plusReckon a b c d n m e R1.out R2.out HM.out w.heap.size (w.heap.size + 1) _ (by simp <;> omega) (by simp <;> omega) (by simp [go_sem]) (by simp [go_sem]) (by simp [go_sem]) (by simp [go_sem])).mono ?_
    rintro e1 w1 ⟨rfl, hb1⟩
    have G1 := bt (bal (bal (ba _ _) _) _) hb1
    obtain ⟨hc1, hf1⟩ := bcell hb1
    go_wp2_with fail
    exact bodyPost_ret (v := .tuple #[rv n m, .int .i64 e]) (by simp [results, Try.results20, go_sem, hc1]) rfl ⟨rfl, bs (bs G1 (by simp; omega) _) (by simp; omega) _⟩
  · have hr : (0, 0, 2) = (n, m, e) := by rw [← H.out]; unfold Rt.plusT; rw [if_neg r]
    simp only [Prod.mk.injEq] at hr
    obtain ⟨rfl, rfl, rfl⟩ := hr
    have r' : Rt.rightB a b = false ∨ (Rt.rightB a b = true ∧ Rt.rightB c d = false) := by
      cases h1 : Rt.rightB a b <;> cases h2 : Rt.rightB c d <;> simp_all
    have R : Hid (Rt.rightB a b = false ∨ (Rt.rightB a b = true ∧ Rt.rightB c d = false)) := r'
    clear r r' H
    go_enter Try.func20, Try.ntmps20
    go_wp2_with fail
    refine (reckonNo a b c d _ R.out _).mono ?_
    rintro e1 w1 ⟨rfl, hb1⟩
    have G1 := bt (bal (bal (ba _ _) _) _) hb1
    obtain ⟨hc1, hf1⟩ := bcell hb1
    go_wp2_with fail
    exact bodyPost_ret (v := .tuple #[rv 0 0, .int .i64 2]) (by simp [results, Try.results20, go_sem, hc1]) rfl ⟨rfl, bs (bs G1 (by simp; omega) _) (by simp; omega) _⟩

set_option maxHeartbeats 400000 in
theorem minus_any (a b c d n m e : Int) (h : Rt.minusT a b c d = (n, m, e)) (w : World) :
    Calls Try.prog 18 #[rv a b, rv c d] w fun x w' => x = .returned (.tuple #[rv n m, .int .i64 e]) ∧ Below w.heap.size w w' := by
  have H : Hid (Rt.minusT a b c d = (n, m, e)) := h
  clear h
  by_cases r : Rt.rightB a b = true ∧ Rt.rightB c d = true
  · obtain ⟨r1, r2⟩ := r
    have hm : Rt.mkT (a * d - c * b) (b * d) = (n, m, e) := by rw [← H.out]; unfold Rt.minusT; rw [if_pos ⟨r1, r2⟩]
    have HM : Hid (Rt.mkT (a * d - c * b) (b * d) = (n, m, e)) := hm
    have R1 : Hid (Rt.rightB a b = true) := r1
    have R2 : Hid (Rt.rightB c d = true) := r2
    clear hm r1 r2 H
    go_enter Try.func18, Try.ntmps18
    go_wp2_with fail
    refine (minusReckon a b c d n m e R1.out R2.out HM.out w.heap.size (w.heap.size + 1) _ (by simp <;> omega) (by simp <;> omega) (by simp [go_sem]) (by simp [go_sem]) (by simp [go_sem]) (by simp [go_sem])).mono ?_
    rintro e1 w1 ⟨rfl, hb1⟩
    have G1 := bt (bal (bal (ba _ _) _) _) hb1
    obtain ⟨hc1, hf1⟩ := bcell hb1
    go_wp2_with fail
    exact bodyPost_ret (v := .tuple #[rv n m, .int .i64 e]) (by simp [results, Try.results18, go_sem, hc1]) rfl ⟨rfl, bs (bs G1 (by simp; omega) _) (by simp; omega) _⟩
  · have hr : (0, 0, 2) = (n, m, e) := by rw [← H.out]; unfold Rt.minusT; rw [if_neg r]
    simp only [Prod.mk.injEq] at hr
    obtain ⟨rfl, rfl, rfl⟩ := hr
    have r' : Rt.rightB a b = false ∨ (Rt.rightB a b = true ∧ Rt.rightB c d = false) := by
      cases h1 : Rt.rightB a b <;> cases h2 : Rt.rightB c d <;> simp_all
    have R : Hid (Rt.rightB a b = false ∨ (Rt.rightB a b = true ∧ Rt.rightB c d = false)) := r'
    clear r r' H
    go_enter Try.func18, Try.ntmps18
    go_wp2_with fail
    refine (reckonNo a b c d _ R.out _).mono ?_
    rintro e1 w1 ⟨rfl, hb1⟩
    have G1 := bt (bal (bal (ba _ _) _) _) hb1
    obtain ⟨hc1, hf1⟩ := bcell hb1
    go_wp2_with fail
    exact bodyPost_ret (v := .tuple #[rv 0 0, .int .i64 2]) (by simp [results, Try.results18, go_sem, hc1]) rfl ⟨rfl, bs (bs G1 (by simp; omega) _) (by simp; omega) _⟩

set_option maxHeartbeats 400000 in
theorem refMake_any (u d n m e : Int) (hu : u ≤ 9223372036854775807) (hd : d ≤ 9223372036854775807) (h : Rt.mkT u d = (n, m, e)) (w : World) :
    Calls Try.prog 37 #[.int .i64 u, .int .i64 d] w fun x w' => x = .returned (.tuple #[rv n m, .int .i64 e]) ∧ Below w.heap.size w w' := by
  have H : Hid (Rt.mkT u d = (n, m, e)) := h
  clear h
  by_cases c1 : u < 0
  · have hr : (0, 0, 3) = (n, m, e) := by rw [← H.out]; unfold Rt.mkT; rw [if_pos (.inl c1)]
    simp only [Prod.mk.injEq] at hr
    obtain ⟨rfl, rfl, rfl⟩ := hr
    go_enter Try.func37, Try.ntmps37
    go_wp2
    exact bodyPost_ret (v := .tuple #[rv 0 0, .int .i64 3]) (by simp [results, Try.results37, go_sem]) rfl ⟨rfl, ba _ _⟩
  by_cases c2 : d < 1
  · have hr : (0, 0, 3) = (n, m, e) := by rw [← H.out]; unfold Rt.mkT; rw [if_pos (.inr c2)]
    simp only [Prod.mk.injEq] at hr
    obtain ⟨rfl, rfl, rfl⟩ := hr
    go_enter Try.func37, Try.ntmps37
    go_wp2
    exact bodyPost_ret (v := .tuple #[rv 0 0, .int .i64 3]) (by simp [results, Try.results37, go_sem]) rfl ⟨rfl, ba _ _⟩
  have hm := Rt.mkT_of u d n m e (by omega) (by omega) H.out
  clear H
  obtain ⟨x, rfl⟩ := Int.eq_ofNat_of_zero_le (show 0 ≤ u by omega)
  obtain ⟨y, rfl⟩ := Int.eq_ofNat_of_zero_le (show 0 ≤ d by omega)
  rw [show Int.gcd (x : Int) (y : Int) = Nat.gcd x y from rfl] at hm
  have hg1 : 1 ≤ Nat.gcd x y := Nat.gcd_pos_of_pos_right _ (by omega)
  have hg2 : Nat.gcd x y ≤ y := Nat.gcd_le_right _ (by omega)
  have q1 : 0 ≤ (x : Int) / (Nat.gcd x y : Nat) := Int.ediv_nonneg (by omega) (by omega)
  have q2 : 0 ≤ (y : Int) / (Nat.gcd x y : Nat) := Int.ediv_nonneg (by omega) (by omega)
  have q3 : (x : Int) / (Nat.gcd x y : Nat) ≤ 9223372036854775807 := Int.le_trans (Int.ediv_le_self _ (by omega)) hu
  have q4 : (y : Int) / (Nat.gcd x y : Nat) ≤ 9223372036854775807 := Int.le_trans (Int.ediv_le_self _ (by omega)) hd
  rcases hm with ⟨hc, rfl, rfl, rfl⟩ | ⟨hc1, hc2, rfl, rfl, rfl⟩
  · have hc' : 1073741824 < (x : Int) / (Nat.gcd x y : Nat) ∨ ((x : Int) / (Nat.gcd x y : Nat) ≤ 1073741824 ∧ 1073741824 < (y : Int) / (Nat.gcd x y : Nat)) := by omega
    clear hc
    rcases hc' with hc1 | ⟨hc1, hc2⟩
    all_goals
      go_enter Try.func37, Try.ntmps37
      go_wp2_with (go_at_call 47; refine (refDivisor_any _ _ (by omega) (by omega) (by omega) _).mono ?_; rintro e w' ⟨rfl, rfl⟩)
      generalize Nat.gcd x y = g at *
      go_wp2
      exact bodyPost_ret (v := .tuple #[rv 0 0, .int .i64 4]) (by simp [results, Try.results37, go_sem]) rfl ⟨rfl, ba _ _⟩
  · go_enter Try.func37, Try.ntmps37
    go_wp2_with (go_at_call 47; refine (refDivisor_any _ _ (by omega) (by omega) (by omega) _).mono ?_; rintro e w' ⟨rfl, rfl⟩)
    go_wp2
    go_region
    all_goals go_wp2
    exact bodyPost_ret (v := .tuple #[rv (x / (Nat.gcd x y : Nat)) (y / (Nat.gcd x y : Nat)), .int .i64 0]) (by simp [results, Try.results37, go_sem]) rfl ⟨rfl, (ba _ _).drew⟩

set_option maxHeartbeats 400000 in
theorem refTimes_any (a b c d n m e : Int) (h : Rt.timesT a b c d = (n, m, e)) (w : World) :
    Calls Try.prog 22 #[rv a b, rv c d] w fun x w' => x = .returned (.tuple #[rv n m, .int .i64 e]) ∧ Below w.heap.size w w' := by
  have H : Hid (Rt.timesT a b c d = (n, m, e)) := h
  clear h
  by_cases r : Rt.rightB a b = true ∧ Rt.rightB c d = true
  · obtain ⟨r1, r2⟩ := r
    have hm : Rt.mkT (a * c) (b * d) = (n, m, e) := by rw [← H.out]; unfold Rt.timesT; rw [if_pos ⟨r1, r2⟩]
    have HM : Hid (Rt.mkT (a * c) (b * d) = (n, m, e)) := hm
    have R1 : Hid (Rt.rightB a b = true) := r1
    have R2 : Hid (Rt.rightB c d = true) := r2
    clear hm r1 r2 H
    obtain ⟨a1, a2, b1, b2⟩ := Rt.right_bd R1.out
    obtain ⟨c1, c2, d1, d2⟩ := Rt.right_bd R2.out
    obtain ⟨p1, p2⟩ := Rt.mul_bd a1 a2 c1 c2
    obtain ⟨p3, p4⟩ := Rt.mul_bd (a := b) (b := d) (by omega) b2 (by omega) d2
    obtain ⟨p5, p6⟩ := Rt.mul_bd (a := a) (b := d) (by omega) a2 (by omega) d2
    obtain ⟨p7, p8⟩ := Rt.mul_bd (a := c) (b := b) (by omega) c2 (by omega) b2
    obtain ⟨p9, p10⟩ := Rt.mul_bd (a := b) (b := c) (by omega) b2 (by omega) c2
    go_enter Try.func22, Try.ntmps22
    go_wp2_with fail
    refine (refRight_any a b true R1.out _).mono ?_
    rintro e1 w1 ⟨rfl, hb1⟩
    obtain ⟨hc1, hf1⟩ := bcell hb1
    go_wp2_with fail
    refine (refRight_any c d true R2.out _).mono ?_
    rintro e2 w2 ⟨rfl, hb2⟩
    have F2 := bt hb1 hb2
    clear hc1 hf1 hb1 hb2
    obtain ⟨hc2, hf2⟩ := bcell F2
    go_wp2_with fail
    refine (refMake_any (a * c) (b * d) n m e (by omega) (by omega) HM.out _).mono ?_
    rintro e4 w4 ⟨rfl, hb4⟩
    have F4 := bt F2 hb4
    have G4 := bt (bal (bal (ba _ _) _) _) F4
    clear F2 hb4 hc2 hf2
    obtain ⟨hc4, hf4⟩ := bcell F4
    go_wp2_with fail
    exact bodyPost_ret (v := .tuple #[rv n m, .int .i64 e]) (by simp [results, Try.results22, go_sem, hc4]) rfl ⟨rfl, bs (bs G4 (by simp; omega) _) (by simp; omega) _⟩
  · have hr : (0, 0, 2) = (n, m, e) := by rw [← H.out]; unfold Rt.timesT; rw [if_neg r]
    simp only [Prod.mk.injEq] at hr
    obtain ⟨rfl, rfl, rfl⟩ := hr
    have r' : Rt.rightB a b = false ∨ (Rt.rightB a b = true ∧ Rt.rightB c d = false) := by
      cases h1 : Rt.rightB a b <;> cases h2 : Rt.rightB c d <;> simp_all
    clear r H
    rcases r' with r1 | ⟨r1, r2⟩
    · have R1 : Hid (Rt.rightB a b = false) := r1
      clear r1
      go_enter Try.func22, Try.ntmps22
      go_wp2_with fail
      refine (refRight_any a b false R1.out _).mono ?_
      rintro e1 w1 ⟨rfl, hb1⟩
      have G1 := bt (bal (bal (ba _ _) _) _) hb1
      obtain ⟨hc1, hf1⟩ := bcell hb1
      go_wp2_with fail
      exact bodyPost_ret (v := .tuple #[rv 0 0, .int .i64 2]) (by simp [results, Try.results22, go_sem, hc1]) rfl ⟨rfl, bs (bs G1 (by simp; omega) _) (by simp; omega) _⟩
    · have R1 : Hid (Rt.rightB a b = true) := r1
      have R2 : Hid (Rt.rightB c d = false) := r2
      clear r1 r2
      go_enter Try.func22, Try.ntmps22
      go_wp2_with fail
      refine (refRight_any a b true R1.out _).mono ?_
      rintro e1 w1 ⟨rfl, hb1⟩
      obtain ⟨hc1, hf1⟩ := bcell hb1
      go_wp2_with fail
      refine (refRight_any c d false R2.out _).mono ?_
      rintro e2 w2 ⟨rfl, hb2⟩
      have F2 := bt hb1 hb2
      clear hc1 hf1 hb1 hb2
      have G1 := bt (bal (bal (ba _ _) _) _) F2
      obtain ⟨hc1, hf1⟩ := bcell F2
      go_wp2_with fail
      exact bodyPost_ret (v := .tuple #[rv 0 0, .int .i64 2]) (by simp [results, Try.results22, go_sem, hc1]) rfl ⟨rfl, bs (bs G1 (by simp; omega) _) (by simp; omega) _⟩

set_option maxHeartbeats 400000 in
theorem refPlus_any (a b c d n m e : Int) (h : Rt.plusT a b c d = (n, m, e)) (w : World) :
    Calls Try.prog 23 #[rv a b, rv c d] w fun x w' => x = .returned (.tuple #[rv n m, .int .i64 e]) ∧ Below w.heap.size w w' := by
  have H : Hid (Rt.plusT a b c d = (n, m, e)) := h
  clear h
  by_cases r : Rt.rightB a b = true ∧ Rt.rightB c d = true
  · obtain ⟨r1, r2⟩ := r
    have hm : Rt.mkT (a * d + c * b) (b * d) = (n, m, e) := by rw [← H.out]; unfold Rt.plusT; rw [if_pos ⟨r1, r2⟩]
    have HM : Hid (Rt.mkT (a * d + c * b) (b * d) = (n, m, e)) := hm
    have R1 : Hid (Rt.rightB a b = true) := r1
    have R2 : Hid (Rt.rightB c d = true) := r2
    clear hm r1 r2 H
    obtain ⟨a1, a2, b1, b2⟩ := Rt.right_bd R1.out
    obtain ⟨c1, c2, d1, d2⟩ := Rt.right_bd R2.out
    obtain ⟨p1, p2⟩ := Rt.mul_bd a1 a2 c1 c2
    obtain ⟨p3, p4⟩ := Rt.mul_bd (a := b) (b := d) (by omega) b2 (by omega) d2
    obtain ⟨p5, p6⟩ := Rt.mul_bd (a := a) (b := d) (by omega) a2 (by omega) d2
    obtain ⟨p7, p8⟩ := Rt.mul_bd (a := c) (b := b) (by omega) c2 (by omega) b2
    obtain ⟨p9, p10⟩ := Rt.mul_bd (a := b) (b := c) (by omega) b2 (by omega) c2
    go_enter Try.func23, Try.ntmps23
    go_wp2_with fail
    refine (refRight_any a b true R1.out _).mono ?_
    rintro e1 w1 ⟨rfl, hb1⟩
    obtain ⟨hc1, hf1⟩ := bcell hb1
    go_wp2_with fail
    refine (refRight_any c d true R2.out _).mono ?_
    rintro e2 w2 ⟨rfl, hb2⟩
    have F2 := bt hb1 hb2
    clear hc1 hf1 hb1 hb2
    obtain ⟨hc2, hf2⟩ := bcell F2
    go_wp2_with fail
    refine (refMake_any (a * d + c * b) (b * d) n m e (by omega) (by omega) HM.out _).mono ?_
    rintro e4 w4 ⟨rfl, hb4⟩
    have F4 := bt F2 hb4
    have G4 := bt (bal (bal (ba _ _) _) _) F4
    clear F2 hb4 hc2 hf2
    obtain ⟨hc4, hf4⟩ := bcell F4
    go_wp2_with fail
    exact bodyPost_ret (v := .tuple #[rv n m, .int .i64 e]) (by simp [results, Try.results23, go_sem, hc4]) rfl ⟨rfl, bs (bs G4 (by simp; omega) _) (by simp; omega) _⟩
  · have hr : (0, 0, 2) = (n, m, e) := by rw [← H.out]; unfold Rt.plusT; rw [if_neg r]
    simp only [Prod.mk.injEq] at hr
    obtain ⟨rfl, rfl, rfl⟩ := hr
    have r' : Rt.rightB a b = false ∨ (Rt.rightB a b = true ∧ Rt.rightB c d = false) := by
      cases h1 : Rt.rightB a b <;> cases h2 : Rt.rightB c d <;> simp_all
    clear r H
    rcases r' with r1 | ⟨r1, r2⟩
    · have R1 : Hid (Rt.rightB a b = false) := r1
      clear r1
      go_enter Try.func23, Try.ntmps23
      go_wp2_with fail
      refine (refRight_any a b false R1.out _).mono ?_
      rintro e1 w1 ⟨rfl, hb1⟩
      have G1 := bt (bal (bal (ba _ _) _) _) hb1
      obtain ⟨hc1, hf1⟩ := bcell hb1
      go_wp2_with fail
      exact bodyPost_ret (v := .tuple #[rv 0 0, .int .i64 2]) (by simp [results, Try.results23, go_sem, hc1]) rfl ⟨rfl, bs (bs G1 (by simp; omega) _) (by simp; omega) _⟩
    · have R1 : Hid (Rt.rightB a b = true) := r1
      have R2 : Hid (Rt.rightB c d = false) := r2
      clear r1 r2
      go_enter Try.func23, Try.ntmps23
      go_wp2_with fail
      refine (refRight_any a b true R1.out _).mono ?_
      rintro e1 w1 ⟨rfl, hb1⟩
      obtain ⟨hc1, hf1⟩ := bcell hb1
      go_wp2_with fail
      refine (refRight_any c d false R2.out _).mono ?_
      rintro e2 w2 ⟨rfl, hb2⟩
      have F2 := bt hb1 hb2
      clear hc1 hf1 hb1 hb2
      have G1 := bt (bal (bal (ba _ _) _) _) F2
      obtain ⟨hc1, hf1⟩ := bcell F2
      go_wp2_with fail
      exact bodyPost_ret (v := .tuple #[rv 0 0, .int .i64 2]) (by simp [results, Try.results23, go_sem, hc1]) rfl ⟨rfl, bs (bs G1 (by simp; omega) _) (by simp; omega) _⟩

set_option maxHeartbeats 400000 in
theorem refMinus_any (a b c d n m e : Int) (h : Rt.minusT a b c d = (n, m, e)) (w : World) :
    Calls Try.prog 21 #[rv a b, rv c d] w fun x w' => x = .returned (.tuple #[rv n m, .int .i64 e]) ∧ Below w.heap.size w w' := by
  have H : Hid (Rt.minusT a b c d = (n, m, e)) := h
  clear h
  by_cases r : Rt.rightB a b = true ∧ Rt.rightB c d = true
  · obtain ⟨r1, r2⟩ := r
    have hm : Rt.mkT (a * d - c * b) (b * d) = (n, m, e) := by rw [← H.out]; unfold Rt.minusT; rw [if_pos ⟨r1, r2⟩]
    have HM : Hid (Rt.mkT (a * d - c * b) (b * d) = (n, m, e)) := hm
    have R1 : Hid (Rt.rightB a b = true) := r1
    have R2 : Hid (Rt.rightB c d = true) := r2
    clear hm r1 r2 H
    obtain ⟨a1, a2, b1, b2⟩ := Rt.right_bd R1.out
    obtain ⟨c1, c2, d1, d2⟩ := Rt.right_bd R2.out
    obtain ⟨p1, p2⟩ := Rt.mul_bd a1 a2 c1 c2
    obtain ⟨p3, p4⟩ := Rt.mul_bd (a := b) (b := d) (by omega) b2 (by omega) d2
    obtain ⟨p5, p6⟩ := Rt.mul_bd (a := a) (b := d) (by omega) a2 (by omega) d2
    obtain ⟨p7, p8⟩ := Rt.mul_bd (a := c) (b := b) (by omega) c2 (by omega) b2
    obtain ⟨p9, p10⟩ := Rt.mul_bd (a := b) (b := c) (by omega) b2 (by omega) c2
    go_enter Try.func21, Try.ntmps21
    go_wp2_with fail
    refine (refRight_any a b true R1.out _).mono ?_
    rintro e1 w1 ⟨rfl, hb1⟩
    obtain ⟨hc1, hf1⟩ := bcell hb1
    go_wp2_with fail
    refine (refRight_any c d true R2.out _).mono ?_
    rintro e2 w2 ⟨rfl, hb2⟩
    have F2 := bt hb1 hb2
    clear hc1 hf1 hb1 hb2
    obtain ⟨hc2, hf2⟩ := bcell F2
    go_wp2_with fail
    refine (refMake_any (a * d - c * b) (b * d) n m e (by omega) (by omega) HM.out _).mono ?_
    rintro e4 w4 ⟨rfl, hb4⟩
    have F4 := bt F2 hb4
    have G4 := bt (bal (bal (ba _ _) _) _) F4
    clear F2 hb4 hc2 hf2
    obtain ⟨hc4, hf4⟩ := bcell F4
    go_wp2_with fail
    exact bodyPost_ret (v := .tuple #[rv n m, .int .i64 e]) (by simp [results, Try.results21, go_sem, hc4]) rfl ⟨rfl, bs (bs G4 (by simp; omega) _) (by simp; omega) _⟩
  · have hr : (0, 0, 2) = (n, m, e) := by rw [← H.out]; unfold Rt.minusT; rw [if_neg r]
    simp only [Prod.mk.injEq] at hr
    obtain ⟨rfl, rfl, rfl⟩ := hr
    have r' : Rt.rightB a b = false ∨ (Rt.rightB a b = true ∧ Rt.rightB c d = false) := by
      cases h1 : Rt.rightB a b <;> cases h2 : Rt.rightB c d <;> simp_all
    clear r H
    rcases r' with r1 | ⟨r1, r2⟩
    · have R1 : Hid (Rt.rightB a b = false) := r1
      clear r1
      go_enter Try.func21, Try.ntmps21
      go_wp2_with fail
      refine (refRight_any a b false R1.out _).mono ?_
      rintro e1 w1 ⟨rfl, hb1⟩
      have G1 := bt (bal (bal (ba _ _) _) _) hb1
      obtain ⟨hc1, hf1⟩ := bcell hb1
      go_wp2_with fail
      exact bodyPost_ret (v := .tuple #[rv 0 0, .int .i64 2]) (by simp [results, Try.results21, go_sem, hc1]) rfl ⟨rfl, bs (bs G1 (by simp; omega) _) (by simp; omega) _⟩
    · have R1 : Hid (Rt.rightB a b = true) := r1
      have R2 : Hid (Rt.rightB c d = false) := r2
      clear r1 r2
      go_enter Try.func21, Try.ntmps21
      go_wp2_with fail
      refine (refRight_any a b true R1.out _).mono ?_
      rintro e1 w1 ⟨rfl, hb1⟩
      obtain ⟨hc1, hf1⟩ := bcell hb1
      go_wp2_with fail
      refine (refRight_any c d false R2.out _).mono ?_
      rintro e2 w2 ⟨rfl, hb2⟩
      have F2 := bt hb1 hb2
      clear hc1 hf1 hb1 hb2
      have G1 := bt (bal (bal (ba _ _) _) _) F2
      obtain ⟨hc1, hf1⟩ := bcell F2
      go_wp2_with fail
      exact bodyPost_ret (v := .tuple #[rv 0 0, .int .i64 2]) (by simp [results, Try.results21, go_sem, hc1]) rfl ⟨rfl, bs (bs G1 (by simp; omega) _) (by simp; omega) _⟩
end Go.Proofs.Ytfofdbcmaokkcaa

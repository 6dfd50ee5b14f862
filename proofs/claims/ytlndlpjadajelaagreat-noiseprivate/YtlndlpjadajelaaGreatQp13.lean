import Derived.Test.YtlndlpjadajelaaGreatQp12
import Derived.Test.YtlndlpjadajelaaGreatQp01
namespace Go.Proofs.YtlndlpjadajelaaGreat
open Go.RowKit Go.Proofs.YtlndlpjadajelaaGreat.Ds

/-! ### the same just where nothing is likelier -/
def grow (g : Int) (l : List Pt) : List Pt := l.map fun p => (p.1, g * p.2)
theorem grow_wt (g : Int) (l : List Pt) (o : List Int) : wt (grow g l) o = g * wt l o := by
  induction l with
  | nil => simp [grow]
  | cons p l ih =>
    simp only [grow, List.map_cons] at *
    rw [wt_cons, wt_cons, ih, Int.mul_add]
    simp only
    split <;> simp
theorem grow_rise {g : Int} {l : List Pt} (h : Rise l) : Rise (grow g l) := by
  unfold Rise grow
  rw [List.pairwise_map]
  exact h
theorem grow_pos {g : Int} {l : List Pt} (hg : 0 < g) (h : Pos l) : Pos (grow g l) := by
  intro p hp
  obtain ⟨q, hq, rfl⟩ := List.mem_map.1 hp
  exact Int.mul_pos hg (h q hq)

theorem prop_same {l m : List Pt} (hl : Dis l) (hm : Dis m) (h : ∀ o, wt l o * tot m = wt m o * tot l) : l = m := by
  have tl := tot_pos2 hl.pos hl.ne
  have tm := tot_pos2 hm.pos hm.ne
  obtain ⟨A, hA⟩ := Int.eq_ofNat_of_zero_le (Int.le_of_lt tl)
  obtain ⟨B, hB⟩ := Int.eq_ofNat_of_zero_le (Int.le_of_lt tm)
  have h1 : grow (B : Int) l = grow (A : Int) m := by
    refine rise_uniq (grow_rise hl.rise) (grow_pos (by omega) hl.pos) (grow_rise hm.rise) (grow_pos (by omega) hm.pos) fun o => ?_
    rw [grow_wt, grow_wt, ← hB, ← hA, Int.mul_comm, h o, Int.mul_comm]
  have h2 : B * dv l = A * dv m := by rw [← dv_mul, ← dv_mul]; exact congrArg dv h1
  rw [hl.one, hm.one] at h2
  have h3 : tot l = tot m := by omega
  refine rise_uniq hl.rise hl.pos hm.rise hm.pos fun o => ?_
  have h4 := h o
  rw [h3] at h4
  exact Int.eq_of_mul_eq_mul_right (by omega) h4

theorem right_same {n : Int} (h : Rt.rightB n n = true) (hn : 0 < n) : n = 1 := by
  unfold Rt.rightB at h
  obtain ⟨_, _, _, _, h5⟩ := of_decide_eq_true h
  rw [Int.gcd_self] at h5
  omega

theorem far_one {l m : List Pt} {n d : Int} (h : farT l m = (n, d, 0)) : (n = 1 ∧ d = 1) ↔ l = m := by
  obtain ⟨hl, hm, hs, hn, hd, hr, hb, hle⟩ := far_told h
  constructor
  · rintro ⟨rfl, rfl⟩
    refine prop_same hl hm fun o => ?_
    by_cases ho : 0 < wt l o
    · obtain ⟨h1, h2⟩ := hb.2 o ho
      omega
    · have h1 := ((Nn.of_pos hl.pos).wt_le o).1
      have h2 := ((Nn.of_pos hm.pos).wt_le o).1
      have h3 : ¬ 0 < wt m o := fun k => ho ((hs o).2 k)
      rw [show wt l o = 0 by omega, show wt m o = 0 by omega, Int.zero_mul, Int.zero_mul]
  · rintro rfl
    have h1 := hle 1 1 (by omega) (by omega) ⟨by omega, fun o _ => ⟨by omega, by omega⟩⟩
    have h2 := hb.1
    obtain rfl : n = d := by omega
    have := right_same hr hn
    exact ⟨this, this⟩
theorem far_ge {l m : List Pt} {n d : Int} (h : farT l m = (n, d, 0)) : ¬ n < d := by
  have := (far_told h).2.2.2.2.2.2.1.1
  omega

/-! ### Apart, by the outcomes of the first -/
def sumL (f : List Int → Int) : List Pt → Int
  | [] => 0
  | p :: l => f p.1 + sumL f l
theorem sumL_nn {f : List Int → Int} (h : ∀ o, 0 ≤ f o) (l : List Pt) : 0 ≤ sumL f l := by
  induction l with
  | nil => simp [sumL]
  | cons p l ih => have := h p.1; simp only [sumL]; omega
theorem sumL_zero {f : List Int → Int} {l : List Pt} (h : ∀ p ∈ l, f p.1 = 0) : sumL f l = 0 := by
  induction l with
  | nil => rfl
  | cons p l ih => rw [sumL, h p (by simp), ih fun q hq => h q (by simp [hq])]; rfl
theorem sumL_le {f g : List Int → Int} {l : List Pt} (h : ∀ p ∈ l, f p.1 ≤ g p.1) : sumL f l ≤ sumL g l := by
  induction l with
  | nil => simp [sumL]
  | cons p l ih => have h1 := h p (by simp); have h2 := ih fun q hq => h q (by simp [hq]); simp only [sumL]; omega
theorem sumL_add (f g : List Int → Int) (l : List Pt) : sumL (fun o => f o + g o) l = sumL f l + sumL g l := by
  induction l with
  | nil => rfl
  | cons p l ih => simp only [sumL, ih]; omega
theorem sumL_mul (f : List Int → Int) (c : Int) (l : List Pt) : sumL (fun o => f o * c) l = sumL f l * c := by
  induction l with
  | nil => simp [sumL]
  | cons p l ih => simp only [sumL, ih, Int.add_mul]
theorem sumL_pos {f : List Int → Int} (hf : ∀ o, 0 ≤ f o) {l : List Pt} (h : sumL f l = 0) : ∀ p ∈ l, f p.1 = 0 := by
  induction l with
  | nil => intro p hp; cases hp
  | cons q l ih =>
    rw [sumL] at h
    have h1 := hf q.1
    have h2 := sumL_nn hf l
    intro p hp
    rcases List.mem_cons.1 hp with rfl | hp
    · omega
    · exact ih (by omega) p hp
/-- what another list has not adds nothing -/
theorem sumL_sub {f : List Int → Int} (hf : ∀ o, 0 ≤ f o) {l m : List Pt} (hl : Rise l) (hm : Rise m) (hz : ∀ o, (∀ p ∈ m, p.1 ≠ o) → f o = 0) : sumL f l ≤ sumL f m := by
  have key : ∀ l m : List Pt, Rise l → Rise m → (∀ p ∈ l, (∀ q ∈ m, q.1 ≠ p.1) → f p.1 = 0) → sumL f l ≤ sumL f m := by
    intro l m
    induction l, m using mrgP.induct with
    | case1 => intros; exact Int.le_refl _
    | case2 b bs ih => intro _ _ _; have := sumL_nn hf (b :: bs); simpa [sumL] using this
    | case3 a az ih => intro _ _ h; rw [sumL_zero fun p hp => h p hp (by intro q hq; cases hq)]; simp [sumL]
    | case4 a az b bs h ih =>
      intro h1 h2 h3
      have h4 : f a.1 = 0 := h3 a (by simp) fun q hq => by
        rcases List.mem_cons.1 hq with rfl | hq
        · exact (ltL_ne h).symm
        · exact (ltL_ne (ltL_trans h ((List.pairwise_cons.1 h2).1 q hq))).symm
      have := ih (rise_tail h1) h2 fun p hp hq => h3 p (by simp [hp]) hq
      rw [sumL, h4]; omega
    | case5 a az b bs hn h ih =>
      intro h1 h2 h3
      have hba : ltL b.1 a.1 := by unfold ltL; rw [cmpT_swap]; omega
      have := ih h1 (rise_tail h2) fun p hp hq => h3 p hp fun q hq' => by
        rcases List.mem_cons.1 hq' with rfl | hq'
        · rcases List.mem_cons.1 hp with rfl | hp
          · exact ltL_ne hba
          · exact ltL_ne (ltL_trans hba ((List.pairwise_cons.1 h1).1 p hp))
        · exact hq q hq'
      have hb := hf b.1
      rw [show sumL f (b :: bs) = f b.1 + sumL f bs from rfl]; omega
    | case6 a az b bs hn h ih =>
      intro h1 h2 h3
      have hab : a.1 = b.1 := (cmpT_zero _ _).1 (by omega)
      have := ih (rise_tail h1) (rise_tail h2) fun p hp hq => h3 p (by simp [hp]) fun q hq' => by
        rcases List.mem_cons.1 hq' with rfl | hq'
        · rw [← hab]; exact tail_ne h1 hp
        · exact hq q hq'
      rw [sumL, sumL, hab]; omega
  exact key l m hl hm fun p _ hq => hz p.1 hq

/-- by how much one is likelier -/
def gap (l m : List Pt) (o : List Int) : Int := max 0 (wt l o * tot m - wt m o * tot l)
def Ap (l m : List Pt) : Int := sumL (gap l m) l
theorem gap_nn (l m : List Pt) (o : List Int) : 0 ≤ gap l m o := by unfold gap; omega

theorem apW_append (Ta Tb : Int) (l m : List (Int × Int)) : apW Ta Tb (l ++ m) = apW Ta Tb l + apW Ta Tb m := by
  induction l with
  | nil => simp [apW]
  | cons p l ih => simp only [List.cons_append, apW, ih]; omega
theorem ap_is {l m : List Pt} (hl : Dis l) (hm : Dis m) : apS (tot l) (tot m) (mrgP l m) = Ap l m := by
  rw [ap_outs hl hm, outsT, List.map_append, apW_append, List.map_map]
  have h1 : ∀ k : List Pt, apW (tot l) (tot m) (k.map (ow l m ∘ fun x => x.1)) = sumL (gap l m) k := by
    intro k
    induction k with
    | nil => rfl
    | cons p k ih => rw [List.map_cons, apW, ih]; rfl
  have tl := tot_pos2 hl.pos hl.ne
  have h2 : ∀ k : List Pt, (∀ p ∈ k, wt l p.1 = 0) → apW (tot l) (tot m) ((k.map (·.1)).map (ow l m)) = 0 := by
    intro k
    induction k with
    | nil => intro _; rfl
    | cons p k ih =>
      intro h
      rw [List.map_cons, List.map_cons, apW, ih fun q hq => h q (by simp [hq])]
      have h3 : 0 ≤ wt m p.1 * tot l := Int.mul_nonneg ((Nn.of_pos hm.pos).wt_le p.1).1 (by omega)
      simp only [ow, h p (by simp), Int.zero_mul]
      omega
  rw [h1, h2 _ (fun p hp => by simpa using (List.mem_filter.1 hp).2), Ap]
  omega

theorem apart_told {l m : List Pt} {n d : Int} (h : apartT l m = (n, d, 0)) :
    Dis l ∧ Dis m ∧ 0 ≤ n ∧ 1 ≤ d ∧ Rt.rightB n d = true ∧ n * (tot l * tot m) = Ap l m * d := by
  have he : twoE l m = 0 := by
    by_cases he : twoE l m = 0
    · exact he
    · rw [apartT, if_neg he] at h; simp only [Prod.mk.injEq] at h; exact absurd h.2.2 he
  obtain ⟨hl, hm⟩ := twoE_ok he
  have tl := tot_pos2 hl.pos hl.ne
  have tm := tot_pos2 hm.pos hm.ne
  have tp := Int.mul_pos tl tm
  rw [apartT, if_pos he, ap_is hl hm] at h
  obtain ⟨h1, h2, h3, h4⟩ := mkT_told (sumL_nn (gap_nn l m) l) (by omega) h
  exact ⟨hl, hm, h2, h3, h4, h1⟩

theorem ap_zero {l m : List Pt} (hl : Dis l) (hm : Dis m) : Ap l m = 0 ↔ l = m := by
  have nl := Nn.of_pos hl.pos
  have nm := Nn.of_pos hm.pos
  have tl := tot_pos2 hl.pos hl.ne
  have tm := tot_pos2 hm.pos hm.ne
  constructor
  · intro h
    have h' : Ap m l = 0 := by rw [← ap_is hm hl, apS_swap, ap_is hl hm]; exact h
    have k1 := sumL_pos (gap_nn l m) h
    have k2 := sumL_pos (gap_nn m l) h'
    have key1 : ∀ o, 0 < wt l o → wt l o * tot m ≤ wt m o * tot l := by
      intro o ho
      obtain ⟨p, hp, rfl⟩ := wt_pos_mem ho
      have := k1 p hp
      unfold gap at this
      omega
    have key2 : ∀ o, 0 < wt m o → wt m o * tot l ≤ wt l o * tot m := by
      intro o ho
      obtain ⟨p, hp, rfl⟩ := wt_pos_mem ho
      have := k2 p hp
      unfold gap at this
      omega
    refine prop_same hl hm fun o => ?_
    have b1 := (nl.wt_le o).1
    have b2 := (nm.wt_le o).1
    by_cases h1 : 0 < wt l o
    · have a1 := key1 o h1
      have a2 := Int.mul_pos h1 tm
      by_cases h2 : 0 < wt m o
      · have := key2 o h2; omega
      · rw [show wt m o = 0 by omega, Int.zero_mul] at a1; omega
    · by_cases h2 : 0 < wt m o
      · have a1 := key2 o h2
        have a2 := Int.mul_pos h2 tl
        rw [show wt l o = 0 by omega, Int.zero_mul] at a1; omega
      · rw [show wt l o = 0 by omega, show wt m o = 0 by omega, Int.zero_mul, Int.zero_mul]
  · rintro rfl
    exact sumL_zero fun p _ => by unfold gap; omega
theorem apart_zero {l m : List Pt} {n d : Int} (h : apartT l m = (n, d, 0)) : n = 0 ↔ l = m := by
  obtain ⟨hl, hm, h1, h2, _, h3⟩ := apart_told h
  have tp := Int.mul_pos (tot_pos2 hl.pos hl.ne) (tot_pos2 hm.pos hm.ne)
  rw [← ap_zero hl hm]
  constructor
  · rintro rfl
    rw [Int.zero_mul] at h3
    rcases Int.mul_eq_zero.1 h3.symm with h | h
    · exact h
    · omega
  · intro h0
    rw [h0, Int.zero_mul] at h3
    rcases Int.mul_eq_zero.1 h3 with h | h
    · exact h
    · omega
theorem apart_le {l m : List Pt} {n d : Int} (h : apartT l m = (n, d, 0)) : ¬ d < n := by
  obtain ⟨hl, hm, h1, h2, _, h3⟩ := apart_told h
  have tl := tot_pos2 hl.pos hl.ne
  have tm := tot_pos2 hm.pos hm.ne
  have tp := Int.mul_pos tl tm
  have h4 : Ap l m ≤ tot l * tot m := by rw [← ap_is hl hm]; exact apS_le (Nn.of_pos hl.pos) (Nn.of_pos hm.pos) (by omega) (by omega)
  have h5 : Ap l m * d ≤ tot l * tot m * d := Int.mul_le_mul_of_nonneg_right h4 (by omega)
  rw [← h3, Int.mul_comm (tot l * tot m) d] at h5
  have := Int.le_of_mul_le_mul_right h5 tp
  omega

theorem ap_tri {l m k : List Pt} (hl : Dis l) (hm : Dis m) (hk : Dis k) : Ap l k * tot m ≤ Ap l m * tot k + Ap m k * tot l := by
  have tl := tot_pos2 hl.pos hl.ne
  have tm := tot_pos2 hm.pos hm.ne
  have tk := tot_pos2 hk.pos hk.ne
  have h1 : sumL (gap m k) l ≤ Ap m k := sumL_sub (gap_nn m k) hl.rise hm.rise fun o ho => by
    have h2 : wt m o = 0 := wt_none ho
    have h3 : 0 ≤ wt k o * tot m := Int.mul_nonneg ((Nn.of_pos hk.pos).wt_le o).1 (by omega)
    unfold gap
    rw [h2, Int.zero_mul]
    omega
  have h2 : sumL (fun o => gap l k o * tot m) l ≤ sumL (fun o => gap l m o * tot k + gap m k o * tot l) l := by
    refine sumL_le fun p _ => ?_
    have e1 : (wt l p.1 * tot k - wt k p.1 * tot l) * tot m = (wt l p.1 * tot m - wt m p.1 * tot l) * tot k + (wt m p.1 * tot k - wt k p.1 * tot m) * tot l := by
      simp only [Int.sub_mul]
      have a1 : wt l p.1 * tot k * tot m = wt l p.1 * tot m * tot k := Int.mul_right_comm _ _ _
      have a2 : wt k p.1 * tot l * tot m = wt k p.1 * tot m * tot l := Int.mul_right_comm _ _ _
      have a3 : wt m p.1 * tot l * tot k = wt m p.1 * tot k * tot l := Int.mul_right_comm _ _ _
      omega
    have g1 : 0 ≤ gap l m p.1 * tot k := Int.mul_nonneg (gap_nn _ _ _) (by omega)
    have g2 : 0 ≤ gap m k p.1 * tot l := Int.mul_nonneg (gap_nn _ _ _) (by omega)
    have g3 : (wt l p.1 * tot m - wt m p.1 * tot l) * tot k ≤ gap l m p.1 * tot k := Int.mul_le_mul_of_nonneg_right (by unfold gap; omega) (by omega)
    have g4 : (wt m p.1 * tot k - wt k p.1 * tot m) * tot l ≤ gap m k p.1 * tot l := Int.mul_le_mul_of_nonneg_right (by unfold gap; omega) (by omega)
    by_cases hz : 0 ≤ wt l p.1 * tot k - wt k p.1 * tot l
    · rw [show gap l k p.1 = wt l p.1 * tot k - wt k p.1 * tot l by unfold gap; omega, e1]; omega
    · rw [show gap l k p.1 = 0 by unfold gap; omega, Int.zero_mul]; omega
  rw [sumL_mul, sumL_add, sumL_mul, sumL_mul] at h2
  have h3 : sumL (gap m k) l * tot l ≤ Ap m k * tot l := Int.mul_le_mul_of_nonneg_right h1 (by omega)
  unfold Ap at *
  omega

/-! ### what the law asks -/
theorem times_told {a b c d n m e : Int} (h1 : Rt.rightB a b = true) (h2 : Rt.rightB c d = true) (h : Rt.timesT a b c d = (n, m, e)) (he : e = 0) : n * (b * d) = a * c * m ∧ 0 ≤ n ∧ 1 ≤ m := by
  subst he
  rw [Rt.timesT, if_pos ⟨h1, h2⟩] at h
  have b1 := Rt.right_bd h1
  have b2 := Rt.right_bd h2
  obtain ⟨e1, e2, e3, _⟩ := mkT_told (Int.mul_nonneg b1.1 b2.1) (Int.mul_pos (a := b) (b := d) (by omega) (by omega)) h
  exact ⟨e1, e2, e3⟩
theorem plus_told {a b c d n m e : Int} (h1 : Rt.rightB a b = true) (h2 : Rt.rightB c d = true) (h : Rt.plusT a b c d = (n, m, e)) (he : e = 0) : n * (b * d) = (a * d + c * b) * m ∧ 0 ≤ n ∧ 1 ≤ m := by
  subst he
  rw [Rt.plusT, if_pos ⟨h1, h2⟩] at h
  have b1 := Rt.right_bd h1
  have b2 := Rt.right_bd h2
  have p1 : 0 ≤ a * d := Int.mul_nonneg b1.1 (by omega)
  have p2 : 0 ≤ c * b := Int.mul_nonneg b2.1 (by omega)
  obtain ⟨e1, e2, e3, _⟩ := mkT_told (show 0 ≤ a * d + c * b by omega) (Int.mul_pos (a := b) (b := d) (by omega) (by omega)) h
  exact ⟨e1, e2, e3⟩

theorem metric_far {l m k : List Pt} {n1 d1 n3 d3 n4 d4 e4 n5 d5 e5 : Int} (h1 : farT l m = (n1, d1, 0)) (h3 : farT m k = (n3, d3, 0)) (h4 : farT l k = (n4, d4, e4)) (h5 : Rt.timesT n1 d1 n3 d3 = (n5, d5, e5)) :
    e4 ≠ 6 ∧ (e4 ≠ 0 ∨ e5 ≠ 0 ∨ n4 * d5 ≤ n5 * d4) := by
  obtain ⟨hl, hm, s1, a1, a2, r1, b1, _⟩ := far_told h1
  obtain ⟨_, hk, s3, a3, a4, r3, b3, _⟩ := far_told h3
  have hs : Sup l k := fun o => (s1 o).trans (s3 o)
  have he : twoE l k = 0 := by
    have x1 : twoE l m = 0 := by
      by_cases he : twoE l m = 0
      · exact he
      · rw [farT, if_neg he] at h1; simp only [Prod.mk.injEq] at h1; exact absurd h1.2.2 he
    have x2 : twoE m k = 0 := by
      by_cases he : twoE m k = 0
      · exact he
      · rw [farT, if_neg he] at h3; simp only [Prod.mk.injEq] at h3; exact absurd h3.2.2 he
    unfold twoE at *
    by_cases y1 : (ownT l).2 = 0 <;> by_cases y2 : (ownT m).2 = 0 <;> simp_all
  refine ⟨far_not hl hk he hs h4, ?_⟩
  by_cases z4 : e4 = 0
  · by_cases z5 : e5 = 0
    · subst z4
      obtain ⟨_, _, _, c1, c2, _, _, hle⟩ := far_told h4
      obtain ⟨t1, t2, t3⟩ := times_told r1 r3 h5 z5
      have hb := (b1.trans hl hm hk s1 b3 a1 a2 a3 a4).scale (Int.mul_pos a2 a4) (by omega) t1
      have hp : 0 < n5 := by
        by_cases hn : n5 = 0
        · rw [hn, Int.zero_mul] at t1
          have := Int.mul_pos (Int.mul_pos a1 a3) (show 0 < d5 by omega)
          omega
        · omega
      exact .inr (.inr (hle n5 d5 hp (by omega) hb))
    · exact .inr (.inl z5)
  · exact .inl z4

theorem metric_apart {l m k : List Pt} {n1 d1 n3 d3 n4 d4 e4 n5 d5 e5 : Int} (h1 : apartT l m = (n1, d1, 0)) (h3 : apartT m k = (n3, d3, 0)) (h4 : apartT l k = (n4, d4, e4)) (h5 : Rt.plusT n1 d1 n3 d3 = (n5, d5, e5)) :
    e4 ≠ 0 ∨ e5 ≠ 0 ∨ n4 * d5 ≤ n5 * d4 := by
  obtain ⟨hl, hm, a1, a2, r1, g1⟩ := apart_told h1
  obtain ⟨_, hk, a3, a4, r3, g3⟩ := apart_told h3
  by_cases z4 : e4 = 0
  · by_cases z5 : e5 = 0
    · subst z4
      obtain ⟨_, _, c1, c2, _, g4⟩ := apart_told h4
      obtain ⟨t1, t2, t3⟩ := plus_told r1 r3 h5 z5
      refine .inr (.inr ?_)
      have tri := ap_tri hl hm hk
      have tl := tot_pos2 hl.pos hl.ne
      have tm := tot_pos2 hm.pos hm.ne
      have tk := tot_pos2 hk.pos hk.ne
      generalize tot l = A at *
      generalize tot m = B at *
      generalize tot k = C at *
      generalize Ap l m = x at *
      generalize Ap m k = y at *
      generalize Ap l k = z at *
      have q : 0 < A * B * C * (d1 * d3) := Int.mul_pos (Int.mul_pos (Int.mul_pos tl tm) tk) (Int.mul_pos (by omega) (by omega))
      refine Int.le_of_mul_le_mul_right ?_ q
      have w1 : n4 * d5 * (A * B * C * (d1 * d3)) = z * B * (d4 * d5 * d1 * d3) := by
        have : n4 * d5 * (A * B * C * (d1 * d3)) = n4 * (A * C) * (B * d5 * (d1 * d3)) := by ac_rfl
        rw [this, g4]; ac_rfl
      have w2 : n5 * d4 * (A * B * C * (d1 * d3)) = (x * C + y * A) * (d4 * d5 * d1 * d3) := by
        have : n5 * d4 * (A * B * C * (d1 * d3)) = n5 * (d1 * d3) * (d4 * (A * B * C)) := by ac_rfl
        rw [this, t1, Int.add_mul, Int.add_mul, Int.add_mul]
        have u1 : n1 * d3 * d5 * (d4 * (A * B * C)) = n1 * (A * B) * (C * d3 * d5 * d4) := by ac_rfl
        have u2 : n3 * d1 * d5 * (d4 * (A * B * C)) = n3 * (B * C) * (A * d1 * d5 * d4) := by ac_rfl
        rw [u1, u2, g1, g3]
        have u3 : x * d1 * (C * d3 * d5 * d4) = x * C * (d4 * d5 * d1 * d3) := by ac_rfl
        have u4 : y * d3 * (A * d1 * d5 * d4) = y * A * (d4 * d5 * d1 * d3) := by ac_rfl
        rw [u3, u4]
      rw [w1, w2]
      exact Int.mul_le_mul_of_nonneg_right tri (Int.mul_nonneg (Int.mul_nonneg (Int.mul_nonneg (by omega) (by omega)) (by omega)) (by omega))
    · exact .inr (.inl z5)
  · exact .inl z4

theorem mk_bd {U D n d e : Int} (hU : 0 ≤ U) (hD : 1 ≤ D) (h : Rt.mkT U D = (n, d, e)) : 0 ≤ n ∧ n ≤ 1073741824 ∧ 0 ≤ d ∧ d ≤ 1073741824 := by
  rcases mkT_err hU hD h with rfl | ⟨_, rfl, rfl⟩
  · have := Rt.right_bd (mkT_told hU hD h).2.2.2; omega
  · omega
theorem far_bd {l m : List Pt} {n d e : Int} (h : farT l m = (n, d, e)) : 0 ≤ n ∧ n ≤ 1073741824 ∧ 0 ≤ d ∧ d ≤ 1073741824 := by
  by_cases he : twoE l m = 0
  · obtain ⟨hl, hm⟩ := twoE_ok he
    rcases far_is hl hm he with ⟨_, h1⟩ | ⟨_, U, D, hU, hD, h1, _⟩
    · rw [h1] at h; simp only [Prod.mk.injEq] at h; omega
    · rw [h1] at h; exact mk_bd (Int.le_of_lt hU) hD h
  · rw [farT, if_neg he] at h; simp only [Prod.mk.injEq] at h; omega
theorem apart_bd {l m : List Pt} {n d e : Int} (h : apartT l m = (n, d, e)) : 0 ≤ n ∧ n ≤ 1073741824 ∧ 0 ≤ d ∧ d ≤ 1073741824 := by
  by_cases he : twoE l m = 0
  · obtain ⟨hl, hm⟩ := twoE_ok he
    rw [apartT, if_pos he] at h
    exact mk_bd (apS_nn _ _ _) (Int.mul_pos (tot_pos2 hl.pos hl.ne) (tot_pos2 hm.pos hm.ne)) h
  · rw [apartT, if_neg he] at h; simp only [Prod.mk.injEq] at h; omega
theorem times_bd {a b c d n m e : Int} (h : Rt.timesT a b c d = (n, m, e)) : 0 ≤ n ∧ n ≤ 1073741824 ∧ 0 ≤ m ∧ m ≤ 1073741824 := by
  unfold Rt.timesT at h
  split at h
  · rename_i hr
    have b1 := Rt.right_bd hr.1
    have b2 := Rt.right_bd hr.2
    exact mk_bd (Int.mul_nonneg b1.1 b2.1) (Int.mul_pos (a := b) (b := d) (by omega) (by omega)) h
  · simp only [Prod.mk.injEq] at h; omega
theorem plus_bd {a b c d n m e : Int} (h : Rt.plusT a b c d = (n, m, e)) : 0 ≤ n ∧ n ≤ 1073741824 ∧ 0 ≤ m ∧ m ≤ 1073741824 := by
  unfold Rt.plusT at h
  split at h
  · rename_i hr
    have b1 := Rt.right_bd hr.1
    have b2 := Rt.right_bd hr.2
    have p1 : 0 ≤ a * d := Int.mul_nonneg b1.1 (by omega)
    have p2 : 0 ≤ c * b := Int.mul_nonneg b2.1 (by omega)
    exact mk_bd (show 0 ≤ a * d + c * b by omega) (Int.mul_pos (a := b) (b := d) (by omega) (by omega)) h
  · simp only [Prod.mk.injEq] at h; omega
end Go.Proofs.YtlndlpjadajelaaGreat

namespace Go.Proofs.YtlndlpjadajelaaGreat
open Go.Proofs.YtlndlpjadajelaaGreat.Ds

/-! ### WHAT CHAPTER 6 SAYS, ON LISTS -/
/-- what is wrong with a loss -/
def lossE (u d : Int) : Int := if Rt.rightB u d = true then (if u < d then 3 else 0) else 2
/-- d, k times, times u, R - k times -/
def gk (u d : Int) (R k : Nat) : Int := d ^ k * u ^ (R - k)
/-- what a place weighs: i steps above the lowest one, where the number is a steps above it -/
def hwt (u d : Int) (R a i : Nat) : Int := gk u d R (i - a + (a - i)) * (if i = 0 ∨ i = R then u else u - d)
/-- the parts of what may be told -/
def hidL (u d lo : Int) (R a : Nat) : List Pt := (List.range (R + 1)).map fun (i : Nat) => ([lo + (i : Int)], hwt u d R a i)
/-- how far the number lies above the lowest place, brought in -/
def plcT (lo hi n : Int) : Int := min (max n lo) hi
/-- Hide -/
def hideT (u d lo hi n : Int) : List Pt × Int :=
  if lossE u d ≠ 0 then ([], lossE u d)
  else if ¬ (-1073741824 ≤ lo ∧ lo ≤ hi ∧ hi ≤ 1073741824 ∧ hi - lo ≤ 64) then ([], 3)
  else if lo = hi then makeT [([lo], 1)]
  else if 1073741824 < (u + d) * u ^ (hi - lo).toNat then ([], 4)
  else makeT (hidL u d lo (hi - lo).toNat (plcT lo hi n - lo).toNat)
/-- Lost -/
def lostT (u d n : Int) : Int × Int × Int := if lossE u d ≠ 0 then (0, 0, lossE u d) else Rt.powT u d n
/-- the parts of what may be said -/
def resL (u d truth : Int) (many : Nat) : List Pt := (List.range many).map fun (i : Nat) => ([(i : Int)], if (i : Int) = truth then u else d)
/-- Respond -/
def resT (u d many truth : Int) : List Pt × Int :=
  if lossE u d ≠ 0 then ([], lossE u d)
  else if ¬ (1 ≤ many ∧ many ≤ 4096 ∧ 0 ≤ truth ∧ truth < many) then ([], 3)
  else if 1073741824 < u + (many - 1) * d then ([], 4)
  else makeT (resL u d truth many.toNat)

theorem loss_ok {u d : Int} (h : lossE u d = 0) : Rt.rightB u d = true ∧ d ≤ u ∧ 1 ≤ d ∧ u ≤ 1073741824 := by
  unfold lossE at h
  split at h
  · rename_i h1
    have := Rt.right_bd h1
    split at h
    · omega
    · exact ⟨h1, by omega, by omega, by omega⟩
  · omega
theorem loss_bd (u d : Int) : 0 ≤ lossE u d ∧ lossE u d ≤ 3 := by
  unfold lossE; split
  · split <;> omega
  · omega

/-! ### powers -/
theorem pow_pos' {u : Int} (h : 1 ≤ u) (n : Nat) : 1 ≤ u ^ n := by
  have := Int.pow_pos (n := u) (m := n) (by omega)
  omega
theorem pow_mono {u : Int} (h : 1 ≤ u) {n m : Nat} (hnm : n ≤ m) : u ^ n ≤ u ^ m := by
  obtain ⟨k, rfl⟩ := Nat.le.dest hnm
  rw [Int.pow_add]
  have h1 := pow_pos' h n
  have h2 := pow_pos' h k
  have := Int.mul_le_mul_of_nonneg_left h2 (show 0 ≤ u ^ n by omega)
  omega
theorem pow_le {u d : Int} (hd : 0 ≤ d) (h : d ≤ u) (n : Nat) : d ^ n ≤ u ^ n := by
  induction n with
  | zero => simp
  | succ n ih =>
    rw [Int.pow_succ, Int.pow_succ]
    exact Int.mul_le_mul ih h hd (Int.pow_nonneg (by omega))
theorem pow_nn {d : Int} (hd : 0 ≤ d) (n : Nat) : 0 ≤ d ^ n := Int.pow_nonneg hd

/-! ### weights -/
theorem gk_zero (u d : Int) (R : Nat) : gk u d R 0 = u ^ R := by simp [gk]
theorem gk_step (u d : Int) {R k : Nat} (h : k < R) : u * gk u d R (k + 1) = d * gk u d R k := by
  unfold gk
  rw [show R - k = (R - (k + 1)) + 1 from by omega, Int.pow_succ, Int.pow_succ]
  simp only [Int.mul_comm, Int.mul_left_comm, Int.mul_assoc]
theorem gk_far (u d : Int) {R k : Nat} (s : Nat) (h : k + s ≤ R) : u ^ s * gk u d R (k + s) = d ^ s * gk u d R k := by
  induction s with
  | zero => simp
  | succ s ih =>
    have h1 := ih (by omega)
    have h2 := gk_step u d (R := R) (k := k + s) (by omega)
    rw [Int.pow_succ, Int.pow_succ, ← Nat.add_assoc, Int.mul_assoc, h2, ← Int.mul_assoc, Int.mul_right_comm, h1, Int.mul_right_comm]
theorem gk_nn {u d : Int} (hu : 0 ≤ u) (hd : 0 ≤ d) (R k : Nat) : 0 ≤ gk u d R k := Int.mul_nonneg (pow_nn hd _) (pow_nn hu _)
theorem gk_pos {u d : Int} (hu : 1 ≤ u) (hd : 1 ≤ d) (R k : Nat) : 0 < gk u d R k := Int.mul_pos (by have := pow_pos' hd k; omega) (by have := pow_pos' hu (R - k); omega)
theorem gk_anti {u d : Int} (hd : 1 ≤ d) (h : d ≤ u) {R k s : Nat} (hk : k + s ≤ R) : gk u d R (k + s) ≤ gk u d R k := by
  have h1 := gk_far u d s hk
  have h2 := pow_le (show 0 ≤ d by omega) h s
  have h3 := gk_nn (show 0 ≤ u by omega) (show 0 ≤ d by omega) R k
  have h4 : u ^ s * gk u d R (k + s) ≤ u ^ s * gk u d R k := by rw [h1]; exact Int.mul_le_mul_of_nonneg_right h2 h3
  exact Int.le_of_mul_le_mul_left h4 (by have := pow_pos' (show 1 ≤ u by omega) s; omega)

/-- how likely one is against another, as far apart as their places are -/
theorem gk_bd {u d : Int} (hd : 1 ≤ d) (h : d ≤ u) {R k k' f : Nat} (hk : k ≤ R) (hk' : k' ≤ R) (hf : k' ≤ k + f) : gk u d R k * d ^ f ≤ u ^ f * gk u d R k' := by
  have hu : 1 ≤ u := by omega
  by_cases c : k' ≤ k
  · obtain ⟨s, rfl⟩ := Nat.le.dest c
    have h1 := gk_anti hd h (R := R) (k := k') (s := s) hk
    have h2 := pow_le (show 0 ≤ d by omega) h f
    rw [Int.mul_comm (u ^ f)]
    exact Int.mul_le_mul h1 h2 (pow_nn (by omega) _) (gk_nn (by omega) (by omega) _ _)
  · obtain ⟨s, rfl⟩ := Nat.le.dest (show k ≤ k' by omega)
    have h1 := gk_far u d s hk'
    obtain ⟨t, rfl⟩ := Nat.le.dest (show s ≤ f by omega)
    rw [Int.pow_add, Int.pow_add, Int.mul_right_comm, h1, Int.mul_comm (gk u d R k), Int.mul_right_comm (d ^ s) (d ^ t)]
    have h2 := pow_le (show 0 ≤ d by omega) h t
    have h3 : 0 ≤ d ^ s * gk u d R k := Int.mul_nonneg (pow_nn (by omega) _) (gk_nn (by omega) (by omega) _ _)
    exact Int.mul_le_mul_of_nonneg_left h2 h3

/-! ### all weights together -/
def sumR (f : Nat → Int) : Nat → Int
  | 0 => 0
  | n + 1 => sumR f n + f n
theorem tot_range (f : Nat → List Int) (g : Nat → Int) (n : Nat) : tot ((List.range n).map fun i => (f i, g i)) = sumR g n := by
  induction n with
  | zero => rfl
  | succ n ih => rw [List.range_succ, List.map_append, tot_append, ih]; simp [sumR, tot_cons]
theorem hwt_low {u d : Int} {R a : Nat} (ha : a ≤ R) {j : Nat} (hj : j ≤ a) (h : j < R) : sumR (hwt u d R a) (j + 1) = u * gk u d R (a - j) := by
  induction j with
  | zero => simp [sumR, hwt]; rw [Int.mul_comm]
  | succ j ih =>
    have h1 := ih (by omega) (by omega)
    rw [sumR, h1]
    have e1 : hwt u d R a (j + 1) = gk u d R (a - (j + 1)) * (u - d) := by
      unfold hwt
      rw [if_neg (by omega), show j + 1 - a + (a - (j + 1)) = a - (j + 1) from by omega]
    have h2 := gk_step u d (R := R) (k := a - (j + 1)) (by omega)
    rw [show a - (j + 1) + 1 = a - j from by omega] at h2
    rw [e1, h2, Int.mul_sub, Int.mul_comm (gk u d R (a - (j + 1))) u, Int.mul_comm (gk u d R (a - (j + 1))) d]
    omega
theorem hwt_high {u d : Int} {R a : Nat} (ha : a < R) {j : Nat} (hj : a ≤ j) (h : j < R) : sumR (hwt u d R a) (j + 1) = u * gk u d R 0 + d * gk u d R 0 - u * gk u d R (j + 1 - a) := by
  obtain ⟨s, rfl⟩ := Nat.le.dest hj
  clear hj
  induction s with
  | zero =>
    have h1 := hwt_low (u := u) (d := d) (R := R) (a := a) (by omega) (j := a) (Nat.le_refl _) ha
    have h2 := gk_step u d (R := R) (k := 0) (by omega)
    rw [Nat.add_zero, h1, show a + 1 - a = 0 + 1 from by omega, h2, Nat.sub_self]
    omega
  | succ s ih =>
    have h1 := ih (by omega)
    rw [← Nat.add_assoc, sumR, h1]
    have e1 : hwt u d R a (a + s + 1) = gk u d R (s + 1) * (u - d) := by
      unfold hwt
      rw [if_neg (by omega), show a + s + 1 - a + (a - (a + s + 1)) = s + 1 from by omega]
    have h2 := gk_step u d (R := R) (k := s + 1) (by omega)
    rw [e1, show a + s + 1 - a = s + 1 from by omega, show a + s + 1 + 1 - a = s + 1 + 1 from by omega, h2, Int.mul_sub, Int.mul_comm (gk u d R (s + 1)) u, Int.mul_comm (gk u d R (s + 1)) d]
    omega
/-- wherever the number is, all weights together are the same -/
theorem hwt_all {u d : Int} {R a : Nat} (ha : a ≤ R) (hR : 1 ≤ R) : sumR (hwt u d R a) (R + 1) = (u + d) * u ^ R := by
  rw [sumR, ← gk_zero u d R]
  obtain ⟨r, rfl⟩ : ∃ r, R = r + 1 := ⟨R - 1, by omega⟩
  by_cases c : a = r + 1
  · subst c
    have h1 := hwt_low (u := u) (d := d) (R := r + 1) (a := r + 1) (Nat.le_refl _) (j := r) (by omega) (by omega)
    have h2 := gk_step u d (R := r + 1) (k := 0) (by omega)
    rw [h1, show r + 1 - r = 0 + 1 from by omega, h2]
    unfold hwt
    rw [if_pos (.inr rfl), show r + 1 - (r + 1) + (r + 1 - (r + 1)) = 0 from by omega, Int.add_mul, Int.mul_comm (gk u d (r + 1) 0) u]
    omega
  · have h1 := hwt_high (u := u) (d := d) (R := r + 1) (a := a) (by omega) (j := r) (by omega) (by omega)
    rw [h1]
    unfold hwt
    rw [if_pos (.inr rfl), show r + 1 - a + (a - (r + 1)) = r + 1 - a from by omega, Int.add_mul, Int.mul_comm (gk u d (r + 1) (r + 1 - a)) u]
    omega
theorem hid_tot {u d lo : Int} {R a : Nat} (ha : a ≤ R) (hR : 1 ≤ R) : tot (hidL u d lo R a) = (u + d) * u ^ R := by
  unfold hidL
  rw [tot_range (fun i => [lo + (i : Int)]) (hwt u d R a) (R + 1), hwt_all ha hR]
theorem hwt_nn {u d : Int} (hd : 1 ≤ d) (h : d ≤ u) (R a i : Nat) : 0 ≤ hwt u d R a i := by
  unfold hwt
  refine Int.mul_nonneg (gk_nn (by omega) (by omega) _ _) ?_
  split <;> omega
theorem sumR_mem {f : Nat → Int} (h : ∀ i, 0 ≤ f i) : ∀ {n i : Nat}, i < n → f i ≤ sumR f n
  | 0, _, hi => absurd hi (by omega)
  | n + 1, i, hi => by
    rw [sumR]
    have h0 : ∀ m, 0 ≤ sumR f m := by intro m; induction m with
      | zero => simp [sumR]
      | succ m ih => rw [sumR]; have := h m; omega
    by_cases c : i = n
    · subst c; have := h0 i; omega
    · have := sumR_mem h (n := n) (i := i) (by omega); have := h n; omega
theorem hwt_le {u d : Int} (hd : 1 ≤ d) (h : d ≤ u) {R a i : Nat} (ha : a ≤ R) (hR : 1 ≤ R) (hi : i ≤ R) : hwt u d R a i ≤ (u + d) * u ^ R := by
  rw [← hwt_all ha hR]
  exact sumR_mem (hwt_nn hd h R a) (by omega)
theorem res_tot (u d truth : Int) {many : Nat} (h0 : 0 ≤ truth) : tot (resL u d truth many) = if truth < many then u + ((many : Int) - 1) * d else many * d := by
  unfold resL
  rw [tot_range (fun i => [(i : Int)]) (fun i => if (i : Int) = truth then u else d) many]
  induction many with
  | zero => simp [sumR]; omega
  | succ n ih =>
    rw [sumR, ih]
    by_cases c1 : truth < n
    · rw [if_pos c1, if_neg (by omega), if_pos (by omega)]
      rw [show ((n + 1 : Nat) : Int) - 1 = (n : Int) from by omega, Int.sub_mul]; omega
    · by_cases c2 : (n : Int) = truth
      · rw [if_neg c1, if_pos c2, if_pos (by omega), show ((n + 1 : Nat) : Int) - 1 = (n : Int) from by omega]; omega
      · rw [if_neg c1, if_neg c2, if_neg (by omega)]
        rw [Int.natCast_add, Int.add_mul]; simp
end Go.Proofs.YtlndlpjadajelaaGreat

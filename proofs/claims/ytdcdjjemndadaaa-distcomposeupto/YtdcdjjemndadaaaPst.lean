import Derived.Test.YtdcdjjemndadaaaRws
namespace Go.Proofs.Ytdcdjjemndadaaa
open Go.RowKit Go.Proofs.Ytdcdjjemndadaaa.Ds

/-! ### what Make makes is one -/
theorem cut_one (l : List Pt) : cut 1 l = l := by
  unfold cut
  conv => rhs; rw [← List.map_id l]
  exact List.map_congr_left fun p _ => by simp
theorem Dis.own {l : List Pt} (h : Dis l) : ownT l = (l, 0) := by
  have hg : gath l = l := gath_is (fun p hp => Int.le_of_lt (h.pos p hp)) h.rise h.pos fun _ => rfl
  have hm : makeT l = (l, 0) := by
    unfold makeT lowT
    rw [if_pos h.ok, hg, if_neg h.ne, h.one]
    simp only [Int.natCast_one, cut_one]
    rw [if_neg (by have := h.le; have := h.few; omega)]
  unfold ownT
  rw [hm]
  simp
theorem grow_tot (g : Int) (l : List Pt) : tot (grow g l) = g * tot l := by
  induction l with
  | nil => simp [grow]
  | cons p l ih =>
    simp only [grow, List.map_cons] at *
    rw [tot_cons, tot_cons, ih, Int.mul_add]
theorem make_told {k l' : List Pt} (h : makeT k = (l', 0)) : Dis l' ∧ ∃ g : Int, 0 < g ∧ (∀ o, wt k o = g * wt l' o) ∧ tot k = g * tot l' := by
  unfold makeT at h
  split at h
  · rename_i hok
    have hp := gath_pos (all_okP hok).1
    obtain ⟨a, b, c, d, e, f⟩ := lowT_ok hp (gath_rise k) h
    have hne : gath k ≠ [] := by intro h0; rw [h0] at h; simp [lowT] at h
    have hl : l' = cut (dv (gath k)) (gath k) := by
      unfold lowT at h
      rw [if_neg hne] at h
      split at h
      · simp at h
      · simp at h; exact h.symm
    have hg : grow (dv (gath k)) l' = gath k := by rw [hl]; exact cut_back fun p hp => dv_dvd_int hp
    have hd := dv_pos hp hne
    have hw : ∀ o, wt k o = (dv (gath k) : Int) * wt l' o := fun o => by rw [← grow_wt, hg, gath_wt]
    refine ⟨⟨a, b, c, d, ?_, e, f⟩, dv (gath k), by omega, hw, by rw [← grow_tot, hg, gath_tot]⟩
    rw [List.all_eq_true]
    intro p hpm
    have h1 : 0 < wt k p.1 := by rw [hw]; exact Int.mul_pos (by omega) (mem_wt_pos a b hpm)
    obtain ⟨q, hq, he⟩ := wt_pos_mem h1
    have h2 := List.all_eq_true.1 hok q hq
    have h3 := Pos.le_tot (Nn.of_pos b) hpm
    have h4 := b p hpm
    unfold okP at *
    rw [Bool.and_eq_true] at *
    exact ⟨by simp; omega, he ▸ h2.2⟩
  · simp at h

/-! ### what becomes of all -/
def mapL (f : List Int → List Int) (l : List Pt) : List Pt := l.map fun p => (f p.1, p.2)
theorem mapL_tot (f : List Int → List Int) (l : List Pt) : tot (mapL f l) = tot l := by
  induction l with
  | nil => rfl
  | cons p l ih => simp only [mapL, List.map_cons] at *; rw [tot_cons, tot_cons, ih]
theorem mapL_wt (f : List Int → List Int) {l : List Pt} (hr : Rise l) (o : List Int) : wt (mapL f l) o = sumL (fun x => if f x = o then wt l x else 0) l := by
  have key : ∀ k : List Pt, (∀ p ∈ k, wt l p.1 = p.2) → wt (mapL f k) o = sumL (fun x => if f x = o then wt l x else 0) k := by
    intro k
    induction k with
    | nil => intro _; rfl
    | cons p k ih =>
      intro h
      have h1 := ih fun q hq => h q (by simp [hq])
      simp only [mapL, List.map_cons] at *
      rw [wt_cons, h1, sumL, h p (by simp)]
  exact key l fun p hp => wt_mem hr hp

theorem map_half (f : List Int → List Int) {l m : List Pt} (hl : Rise l) (hm : Rise m) (nm : Nn m) {A C : Int} (hC : 0 ≤ C) (h : ∀ p ∈ l, wt l p.1 * A ≤ wt m p.1 * C) (o : List Int) :
    wt (mapL f l) o * A ≤ wt (mapL f m) o * C := by
  rw [mapL_wt f hl, mapL_wt f hm, ← sumL_mul, ← sumL_mul]
  have h1 : sumL (fun x => (if f x = o then wt l x else 0) * A) l ≤ sumL (fun x => (if f x = o then wt m x else 0) * C) l := sumL_le fun p hp => by
    split
    · exact h p hp
    · simp
  have h2 : sumL (fun x => (if f x = o then wt m x else 0) * C) l ≤ sumL (fun x => (if f x = o then wt m x else 0) * C) m := sumL_sub (fun x => by
    split
    · exact Int.mul_nonneg (nm.wt_le x).1 hC
    · simp) hl hm fun x hx => by rw [wt_none hx]; simp
  exact Int.le_trans h1 h2

theorem cancel2 {g g' x y : Int} (hg : 0 < g) (hg' : 0 < g') (h : g * g' * x ≤ g * g' * y) : x ≤ y :=
  Int.le_of_mul_le_mul_left h (Int.mul_pos hg hg')

theorem post_bd {l m l' m' : List Pt} {f : List Int → List Int} (hl : Dis l) (hm : Dis m) (h1 : makeT (mapL f l) = (l', 0)) (h2 : makeT (mapL f m) = (m', 0)) {U D : Int} (hU : 0 < U) (hD : 0 < D) (hs : Sup l m) (hb : Bd l m U D) : Sup l' m' ∧ Bd l' m' U D := by
  obtain ⟨d1, g, hg, w1, t1⟩ := make_told h1
  obtain ⟨d2, g', hg', w2, t2⟩ := make_told h2
  rw [mapL_tot] at t1 t2
  have tl := tot_pos2 hl.pos hl.ne
  have tm := tot_pos2 hm.pos hm.ne
  have tl' := tot_pos2 d1.pos d1.ne
  have tm' := tot_pos2 d2.pos d2.ne
  have a1 : ∀ o, wt (mapL f l) o * (tot m * D) ≤ wt (mapL f m) o * (U * tot l) := map_half f hl.rise hm.rise (Nn.of_pos hm.pos) (Int.mul_nonneg (by omega) (by omega)) fun p hp => by
    have := (hb.2 p.1 (mem_wt_pos hl.rise hl.pos hp)).1
    have e1 : wt l p.1 * (tot m * D) = wt l p.1 * tot m * D := by ac_rfl
    have e2 : wt m p.1 * (U * tot l) = U * (wt m p.1 * tot l) := by ac_rfl
    rw [e1, e2]; exact this
  have a2 : ∀ o, wt (mapL f m) o * (tot l * D) ≤ wt (mapL f l) o * (U * tot m) := map_half f hm.rise hl.rise (Nn.of_pos hl.pos) (Int.mul_nonneg (by omega) (by omega)) fun p hp => by
    have := (hb.2 p.1 ((hs p.1).2 (mem_wt_pos hm.rise hm.pos hp))).2
    have e1 : wt m p.1 * (tot l * D) = wt m p.1 * tot l * D := by ac_rfl
    have e2 : wt l p.1 * (U * tot m) = U * (wt l p.1 * tot m) := by ac_rfl
    rw [e1, e2]; exact this
  have b1 : ∀ o, wt l' o * tot m' * D ≤ U * (wt m' o * tot l') := fun o => by
    have h := a1 o
    rw [w1, w2, t1, t2] at h
    refine cancel2 hg hg' ?_
    have e1 : g * g' * (wt l' o * tot m' * D) = g * wt l' o * (g' * tot m' * D) := by ac_rfl
    have e2 : g * g' * (U * (wt m' o * tot l')) = g' * wt m' o * (U * (g * tot l')) := by ac_rfl
    rw [e1, e2]; exact h
  have b2 : ∀ o, wt m' o * tot l' * D ≤ U * (wt l' o * tot m') := fun o => by
    have h := a2 o
    rw [w1, w2, t1, t2] at h
    refine cancel2 hg hg' ?_
    have e1 : g * g' * (wt m' o * tot l' * D) = g' * wt m' o * (g * tot l' * D) := by ac_rfl
    have e2 : g * g' * (U * (wt l' o * tot m')) = g * wt l' o * (U * (g' * tot m')) := by ac_rfl
    rw [e1, e2]; exact h
  have n1 := Nn.of_pos d1.pos
  have n2 := Nn.of_pos d2.pos
  refine ⟨fun o => ⟨fun h => ?_, fun h => ?_⟩, hb.1, fun o _ => ⟨b1 o, b2 o⟩⟩
  · have c1 := b1 o
    have c2 := Int.mul_pos (Int.mul_pos h tm') hD
    have c3 := (n2.wt_le o).1
    by_cases c4 : wt m' o = 0
    · rw [c4, Int.zero_mul, Int.mul_zero] at c1; omega
    · omega
  · have c1 := b2 o
    have c2 := Int.mul_pos (Int.mul_pos h tl') hD
    have c3 := (n1.wt_le o).1
    by_cases c4 : wt l' o = 0
    · rw [c4, Int.zero_mul, Int.mul_zero] at c1; omega
    · omega

/-! ### .. and Apart -/
theorem sumL_one {y : List Int} {c : Int} (hc : 0 ≤ c) {l : List Pt} (h : Rise l) : sumL (fun o => if y = o then c else 0) l ≤ c := by
  induction l with
  | nil => simpa [sumL] using hc
  | cons p l ih =>
    rw [sumL]
    by_cases hy : y = p.1
    · rw [if_pos hy, sumL_zero fun q hq => if_neg fun e => ltL_ne ((List.pairwise_cons.1 h).1 q hq) (hy.symm.trans e)]
      omega
    · rw [if_neg hy]
      have := ih (rise_tail h)
      omega
theorem sumL_swap {f : List Int → List Int} {h : List Int → Int} (hh : ∀ x, 0 ≤ h x) {l' : List Pt} (hr : Rise l') (k : List Pt) :
    sumL (fun o => sumL (fun x => if f x = o then h x else 0) k) l' ≤ sumL h k := by
  induction k with
  | nil => simp only [sumL]; rw [sumL_zero fun _ _ => rfl]; exact Int.le_refl _
  | cons p k ih =>
    simp only [sumL]
    rw [sumL_add]
    have := sumL_one (y := f p.1) (hh p.1) hr
    omega

theorem post_ap {l m l' m' : List Pt} {f : List Int → List Int} (hl : Dis l) (hm : Dis m) (h1 : makeT (mapL f l) = (l', 0)) (h2 : makeT (mapL f m) = (m', 0)) : Ap l' m' * (tot l * tot m) ≤ Ap l m * (tot l' * tot m') := by
  obtain ⟨d1, g, hg, w1, t1⟩ := make_told h1
  obtain ⟨d2, g', hg', w2, t2⟩ := make_told h2
  rw [mapL_tot] at t1 t2
  have tl := tot_pos2 hl.pos hl.ne
  have tm := tot_pos2 hm.pos hm.ne
  have tl' := tot_pos2 d1.pos d1.ne
  have tm' := tot_pos2 d2.pos d2.ne
  have nm := Nn.of_pos hm.pos
  have step : ∀ o, gap l' m' o * (g * g') ≤ sumL (fun x => if f x = o then gap l m x else 0) l := by
    intro o
    have s1 : wt (mapL f l) o * tot m ≤ sumL (fun x => if f x = o then gap l m x else 0) l + wt (mapL f m) o * tot l := by
      rw [mapL_wt f hl.rise, mapL_wt f hm.rise, ← sumL_mul, ← sumL_mul]
      have k1 : sumL (fun x => (if f x = o then wt l x else 0) * tot m) l ≤ sumL (fun x => (if f x = o then gap l m x else 0) + (if f x = o then wt m x else 0) * tot l) l := sumL_le fun p _ => by
        split
        · unfold gap; omega
        · simp
      have k2 : sumL (fun x => (if f x = o then wt m x else 0) * tot l) l ≤ sumL (fun x => (if f x = o then wt m x else 0) * tot l) m := sumL_sub (fun x => by
        split
        · exact Int.mul_nonneg (nm.wt_le x).1 (by omega)
        · simp) hl.rise hm.rise fun x hx => by rw [wt_none hx]; simp
      rw [sumL_add] at k1
      omega
    have s2 : 0 ≤ sumL (fun x => if f x = o then gap l m x else 0) l := sumL_nn (fun x => by
      split
      · exact gap_nn _ _ _
      · exact Int.le_refl _) l
    rw [w1, w2, t1, t2] at s1
    have e1 : (wt l' o * tot m' - wt m' o * tot l') * (g * g') = g * wt l' o * (g' * tot m') - g' * wt m' o * (g * tot l') := by
      rw [Int.sub_mul]
      have x1 : wt l' o * tot m' * (g * g') = g * wt l' o * (g' * tot m') := by ac_rfl
      have x2 : wt m' o * tot l' * (g * g') = g' * wt m' o * (g * tot l') := by ac_rfl
      rw [x1, x2]
    by_cases hz : 0 ≤ wt l' o * tot m' - wt m' o * tot l'
    · rw [show gap l' m' o = wt l' o * tot m' - wt m' o * tot l' by unfold gap; omega, e1]
      omega
    · rw [show gap l' m' o = 0 by unfold gap; omega, Int.zero_mul]
      exact s2
  have h3 : Ap l' m' * (g * g') ≤ Ap l m := by
    unfold Ap
    rw [← sumL_mul]
    exact Int.le_trans (sumL_le fun p _ => step p.1) (sumL_swap (gap_nn l m) d1.rise l)
  have h4 := Int.mul_le_mul_of_nonneg_right h3 (show 0 ≤ tot l' * tot m' from Int.mul_nonneg (by omega) (by omega))
  rw [t1, t2]
  have e : Ap l' m' * (g * tot l' * (g' * tot m')) = Ap l' m' * (g * g') * (tot l' * tot m') := by ac_rfl
  rw [e]
  exact h4

/-! ### what the law asks -/
theorem mapT_ok {l l' : List Pt} {ps : List (List Int × List Int)} (h : mapT l ps = (l', 0)) : Dis l ∧ makeT (mapL (toT ps) l) = (l', 0) := by
  unfold mapT at h
  split at h
  · rename_i h0
    exact ⟨(ownT_ok (Prod.ext rfl h0 : ownT l = ((ownT l).1, 0))).2, h⟩
  · rename_i h0
    simp only [Prod.mk.injEq] at h
    exact absurd h.2 h0
theorem Dis.two {l m : List Pt} (hl : Dis l) (hm : Dis m) : twoE l m = 0 := by
  unfold twoE
  rw [hl.own, hm.own]
  simp

theorem post_far {l m l' m' : List Pt} {ps : List (List Int × List Int)} {n d e n' d' e' : Int} (h1 : mapT l ps = (l', 0)) (h2 : mapT m ps = (m', 0)) (hf : farT l m = (n, d, e)) (hf' : farT l' m' = (n', d', e')) :
    (e = 0 → e' ≠ 6) ∧ (e' ≠ 0 ∨ e ≠ 0 ∨ n' * d ≤ n * d') := by
  obtain ⟨hl, k1⟩ := mapT_ok h1
  obtain ⟨hm, k2⟩ := mapT_ok h2
  have d1 := (make_told k1).1
  have d2 := (make_told k2).1
  by_cases he : e = 0
  · subst he
    obtain ⟨_, _, hs, hn, hd, _, hb, _⟩ := far_told hf
    obtain ⟨s', b'⟩ := post_bd hl hm k1 k2 hn hd hs hb
    refine ⟨fun _ => far_not d1 d2 (d1.two d2) s' hf', ?_⟩
    by_cases he' : e' = 0
    · subst he'
      obtain ⟨_, _, _, _, _, _, _, hle⟩ := far_told hf'
      exact .inr (.inr (hle n d hn hd b'))
    · exact .inl he'
  · exact ⟨fun h => absurd h he, .inr (.inl he)⟩
theorem post_apart {l m l' m' : List Pt} {ps : List (List Int × List Int)} {n d e n' d' e' : Int} (h1 : mapT l ps = (l', 0)) (h2 : mapT m ps = (m', 0)) (hf : apartT l m = (n, d, e)) (hf' : apartT l' m' = (n', d', e')) :
    e' ≠ 0 ∨ e ≠ 0 ∨ n' * d ≤ n * d' := by
  obtain ⟨hl, k1⟩ := mapT_ok h1
  obtain ⟨hm, k2⟩ := mapT_ok h2
  have d1 := (make_told k1).1
  have d2 := (make_told k2).1
  by_cases he : e = 0
  · by_cases he' : e' = 0
    · subst he he'
      obtain ⟨_, _, a1, a2, _, a3⟩ := apart_told hf
      obtain ⟨_, _, b1, b2, _, b3⟩ := apart_told hf'
      have h3 := post_ap hl hm k1 k2
      refine .inr (.inr ?_)
      have tp := Int.mul_pos (tot_pos2 hl.pos hl.ne) (tot_pos2 hm.pos hm.ne)
      have tp' := Int.mul_pos (tot_pos2 d1.pos d1.ne) (tot_pos2 d2.pos d2.ne)
      generalize tot l * tot m = T at *
      generalize tot l' * tot m' = T' at *
      refine Int.le_of_mul_le_mul_right ?_ (Int.mul_pos tp tp')
      have e1 : n' * d * (T * T') = n' * T' * (d * T) := by ac_rfl
      have e2 : n * d' * (T * T') = n * T * (d' * T') := by ac_rfl
      rw [e1, e2, a3, b3]
      have e3 : Ap l' m' * d' * (d * T) = Ap l' m' * T * (d * d') := by ac_rfl
      have e4 : Ap l m * d * (d' * T') = Ap l m * T' * (d * d') := by ac_rfl
      rw [e3, e4]
      exact Int.mul_le_mul_of_nonneg_right h3 (Int.mul_nonneg (by omega) (by omega))
    · exact .inl he'
  · exact .inr (.inl he)
end Go.Proofs.Ytdcdjjemndadaaa

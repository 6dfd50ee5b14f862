import Derived.Test.YtdcdjjemndadaaaBnd
import Derived.Maps.AppendAt
namespace Go.Proofs.Ytdcdjjemndadaaa
open Go.RowKit Go.Proofs.Ytdcdjjemndadaaa.Ds

/-! ### sums by weights -/
def sumW (f : List Int → Int) : List Pt → Int
  | [] => 0
  | p :: l => p.2 * f p.1 + sumW f l
theorem sumW_congr {f g : List Int → Int} {l : List Pt} (h : ∀ p ∈ l, f p.1 = g p.1) : sumW f l = sumW g l := by
  induction l with
  | nil => rfl
  | cons p l ih => rw [sumW, sumW, h p (by simp), ih fun q hq => h q (by simp [hq])]
theorem sumW_mul (f : List Int → Int) (c : Int) (l : List Pt) : sumW (fun o => f o * c) l = sumW f l * c := by
  induction l with
  | nil => simp [sumW]
  | cons p l ih => simp only [sumW, ih, Int.add_mul, Int.mul_assoc]
theorem sumW_is (f : List Int → Int) {l : List Pt} (hr : Rise l) : sumW f l = sumL (fun x => wt l x * f x) l := by
  have key : ∀ k : List Pt, (∀ p ∈ k, wt l p.1 = p.2) → sumW f k = sumL (fun x => wt l x * f x) k := by
    intro k
    induction k with
    | nil => intro _; rfl
    | cons p k ih => intro h; rw [sumW, sumL, h p (by simp), ih fun q hq => h q (by simp [hq])]
  exact key l fun p hp => wt_mem hr hp
theorem sumL_congr {f g : List Int → Int} {l : List Pt} (h : ∀ p ∈ l, f p.1 = g p.1) : sumL f l = sumL g l := by
  induction l with
  | nil => rfl
  | cons p l ih => rw [sumL, sumL, h p (by simp), ih fun q hq => h q (by simp [hq])]
theorem sum_swap (a : List Int → List Int → Int) (K : List Int → Int) (l m : List Pt) : sumL (fun x => sumW (fun y => a y x) l * K x) m = sumW (fun y => sumL (fun x => a y x * K x) m) l := by
  induction l with
  | nil => simp only [sumW, Int.zero_mul]; exact sumL_zero fun _ _ => rfl
  | cons p l ih =>
    simp only [sumW, Int.add_mul]
    rw [sumL_add, ih]
    congr 1
    have e : (fun o => p.2 * a p.1 o * K o) = fun o => a p.1 o * K o * p.2 := by funext o; ac_rfl
    rw [e, sumL_mul, Int.mul_comm]
/-- a sum over all of one's own outcomes, or over more -/
theorem sumL_more {f : List Int → Int} (hf : ∀ o, 0 ≤ f o) {l m : List Pt} (hl : Rise l) (hm : Rise m) (hz : ∀ o, (∀ p ∈ m, p.1 ≠ o) → f o = 0) (hs : ∀ p ∈ m, ∃ q ∈ l, q.1 = p.1) : sumL f l = sumL f m := by
  have h1 := sumL_sub hf hl hm hz
  have h2 := sumL_sub hf hm hl fun o ho => hz o fun p hp e => by
    obtain ⟨q, hq, e'⟩ := hs p hp
    exact ho q hq (e'.trans e)
  omega

theorem spr_is (N : List Int → List Pt) (A : Int) (l : List Pt) (o : List Int) : wt (spr N A l) o = sumW (fun x => A / tot (N x) * wt (N x) o) l := by
  induction l with
  | nil => rfl
  | cons p l ih =>
    rw [spr_cons, wt_append, one_wt, ih, sumW]
    have : wt (N p.1) o * (p.2 * (A / tot (N p.1))) = p.2 * (A / tot (N p.1) * wt (N p.1) o) := by ac_rfl
    rw [this]

/-! ### what chain tells -/
theorem allT_ok {thn : List Int → List Pt × Int} {l : List Pt} {A A' : Int} (h : allT thn A l = (A', 0)) (hA : 1 ≤ A) (hd : ∀ p ∈ l, (thn p.1).2 = 0 → Dis (thn p.1).1) : A ∣ A' ∧ 1 ≤ A' ∧ ∀ p ∈ l, (thn p.1).2 = 0 ∧ tot (thn p.1).1 ∣ A' := by
  induction l generalizing A with
  | nil => simp [allT] at h; subst h; exact ⟨Int.dvd_refl _, hA, fun p hp => by cases hp⟩
  | cons p l ih =>
    rw [allT] at h
    split at h
    · rename_i h0
      split at h
      · simp at h
      · have hn := hd p (by simp) h0
        have tn := tot_pos2 hn.pos hn.ne
        obtain ⟨n, hnn⟩ : ∃ n, (thn p.1).1 = n := ⟨_, rfl⟩
        rw [hnn] at h hn tn
        have hgd : (Int.gcd A (tot n) : Int) ∣ tot n := Int.gcd_dvd_right _ _
        have hgA : (Int.gcd A (tot n) : Int) ∣ A := Int.gcd_dvd_left _ _
        have hgp : 0 < (Int.gcd A (tot n) : Int) := by
          have : 0 < Int.gcd A (tot n) := Int.gcd_pos_of_ne_zero_left _ (by omega)
          omega
        have hg0 : 0 < tot n / (Int.gcd A (tot n) : Int) := Int.ediv_pos_of_pos_of_dvd tn (by omega) hgd
        obtain ⟨i1, i2, i3⟩ := ih h (Int.mul_pos (by omega) hg0) fun q hq => hd q (by simp [hq])
        have hdn : tot n ∣ A * (tot n / (Int.gcd A (tot n) : Int)) := by
          obtain ⟨c, hc⟩ := hgA
          refine ⟨c, ?_⟩
          have e2 : (Int.gcd A (tot n) : Int) * (tot n / (Int.gcd A (tot n) : Int)) = tot n := Int.mul_ediv_cancel' hgd
          have e3 : A * (tot n / (Int.gcd A (tot n) : Int)) = (Int.gcd A (tot n) : Int) * c * (tot n / (Int.gcd A (tot n) : Int)) := congrArg (· * (tot n / (Int.gcd A (tot n) : Int))) hc
          rw [e3, Int.mul_right_comm, e2]
        refine ⟨Int.dvd_trans (Int.dvd_mul_right _ _) i1, i2, fun q hq => ?_⟩
        rcases List.mem_cons.1 hq with rfl | hq
        · exact ⟨h0, by rw [hnn]; exact Int.dvd_trans hdn i1⟩
        · exact i3 q hq
    · rename_i h0
      simp only [Prod.mk.injEq] at h
      exact absurd h.2 h0

theorem low_told {k l' : List Pt} (hn : Nn k) (hok : ∀ o, 0 < wt k o → okO o = true) (h : lowT (gath k) = (l', 0)) : Dis l' ∧ ∃ g : Int, 0 < g ∧ (∀ o, wt k o = g * wt l' o) ∧ tot k = g * tot l' := by
  have hp := gath_pos hn
  obtain ⟨a, b, c, d, e, f⟩ := lowT_ok hp (gath_rise k) h
  have hne : gath k ≠ [] := by intro h0; rw [h0] at h; simp [lowT] at h
  have hl : l' = cut (dv (gath k)) (gath k) := by
    unfold lowT at h
    rw [if_neg hne] at h
    split at h
    · simp at h
    · simp at h; exact h.symm
  have hg : grow (dv (gath k)) l' = gath k := by rw [hl]; exact cut_back fun p hp => dv_dvd_int hp
  have hd := dv_pos hp hne
  have hw : ∀ o, wt k o = (dv (gath k) : Int) * wt l' o := fun o => by rw [← grow_wt, hg, gath_wt]
  refine ⟨⟨a, b, c, d, ?_, e, f⟩, dv (gath k), by omega, hw, by rw [← grow_tot, hg, gath_tot]⟩
  rw [List.all_eq_true]
  intro p hpm
  have h1 : 0 < wt k p.1 := by rw [hw]; exact Int.mul_pos (by omega) (mem_wt_pos a b hpm)
  have h3 := Pos.le_tot (Nn.of_pos b) hpm
  have h4 := b p hpm
  unfold okP
  rw [Bool.and_eq_true]
  exact ⟨by simp; omega, hok _ h1⟩
theorem Dis.okO {l : List Pt} (h : Dis l) {p : Pt} (hp : p ∈ l) : okO p.1 = true := by
  have := List.all_eq_true.1 h.ok p hp
  unfold okP at this
  rw [Bool.and_eq_true] at this
  exact this.2

theorem bind_told {l l' : List Pt} {F : List Int → List Pt} (h : bindT l F = (l', 0)) : Dis l ∧ Dis l' ∧ (∀ p ∈ l, Dis (F p.1)) ∧ ∃ A g : Int, 0 < A ∧ 0 < g ∧ (∀ p ∈ l, tot (F p.1) ∣ A) ∧
    (∀ o, g * wt l' o = sumW (fun x => A / tot (F x) * wt (F x) o) l) ∧ g * tot l' = A * tot l := by
  unfold bindT at h
  split at h
  · rename_i h0
    have hl : Dis l := (ownT_ok (Prod.ext rfl h0 : ownT l = ((ownT l).1, 0))).2
    unfold chT at h
    split at h
    · rename_i h1
      split at h
      · simp at h
      · obtain ⟨A, hA⟩ : ∃ A, (allT (fun x => ownT (F x)) 1 l).1 = A := ⟨_, rfl⟩
        rw [hA] at h
        obtain ⟨_, a2, a3⟩ := allT_ok (thn := fun x => ownT (F x)) (A' := A) (Prod.ext hA h1) (by omega) fun p _ he => own_dis he
        have hF : ∀ p ∈ l, (ownT (F p.1)).1 = F p.1 ∧ Dis (F p.1) := fun p hp => ownT_ok (Prod.ext rfl (a3 p hp).1 : ownT (F p.1) = ((ownT (F p.1)).1, 0))
        have hdv : ∀ p ∈ l, tot (F p.1) ∣ A := fun p hp => by have := (a3 p hp).2; simp only [(hF p hp).1] at this; exact this
        have hsn : Nn (spr (fun x => (ownT (F x)).1) A l) := spr_nn _ _ (Nn.of_pos hl.pos) (fun p hp => by simp only [(hF p hp).1]; exact Nn.of_pos (hF p hp).2.pos) (by omega)
        have hok : ∀ o, 0 < wt (spr (fun x => (ownT (F x)).1) A l) o → okO o = true := by
          intro o ho
          obtain ⟨q, hq, rfl⟩ := wt_pos_mem ho
          obtain ⟨p, hp, hq⟩ := List.mem_flatMap.1 hq
          obtain ⟨r, hr, rfl⟩ := List.mem_map.1 hq
          simp only [(hF p hp).1] at hr
          show Ds.okO r.1 = true
          exact (hF p hp).2.okO hr
        obtain ⟨d', g, hg, hw, ht⟩ := low_told hsn hok h
        refine ⟨hl, d', fun p hp => (hF p hp).2, A, g, by omega, hg, hdv, fun o => ?_, ?_⟩
        · rw [← hw, spr_is]
          exact sumW_congr fun p hp => by simp only [(hF p hp).1]
        · rw [← ht, spr_tot (fun x => (ownT (F x)).1) A fun p hp => by simp only [(hF p hp).1]; exact hdv p hp]
    · rename_i h1
      simp only [Prod.mk.injEq] at h
      exact absurd h.2 h1
  · rename_i h0
    simp only [Prod.mk.injEq] at h
    exact absurd h.2 h0

/-! ### what comes behind what comes behind -/
theorem cancel_pos {c x y : Int} (hc : 0 < c) (h : c * x = c * y) : x = y := Int.eq_of_mul_eq_mul_left (by omega) h

theorem bind_assoc {d df one two : List Pt} {F G H : List Int → List Pt} {t : List Int → List Pt} (h1 : bindT d F = (df, 0)) (h2 : bindT df G = (one, 0)) (h3 : ∀ p ∈ d, bindT (F p.1) G = (t p.1, 0)) (hH : ∀ p ∈ d, H p.1 = t p.1) (h4 : bindT d H = (two, 0)) : one = two := by
  obtain ⟨dd, ddf, dF, A1, g1, hA1, hg1, v1, w1, t1⟩ := bind_told h1
  obtain ⟨_, done, dG, A2, g2, hA2, hg2, v2, w2, t2⟩ := bind_told h2
  obtain ⟨_, dtwo, dH, A4, g4, hA4, hg4, v4, w4, t4⟩ := bind_told h4
  refine prop_same done dtwo fun o => ?_
  -- what may come behind p may come
  have hsub : ∀ p ∈ d, ∀ r ∈ F p.1, ∃ q ∈ df, q.1 = r.1 := by
    intro p hp r hr
    refine wt_pos_mem ?_
    have hpos : 0 < sumW (fun x => A1 / tot (F x) * wt (F x) r.1) d := by
      have hnn : ∀ q ∈ d, 0 ≤ A1 / tot (F q.1) * wt (F q.1) r.1 := fun q hq => Int.mul_nonneg (Int.ediv_nonneg (by omega) (Int.le_of_lt (tot_pos2 (dF q hq).pos (dF q hq).ne))) ((Nn.of_pos (dF q hq).pos).wt_le _).1
      have hpp : 0 < A1 / tot (F p.1) * wt (F p.1) r.1 := Int.mul_pos (Int.ediv_pos_of_pos_of_dvd hA1 (Int.le_of_lt (tot_pos2 (dF p hp).pos (dF p hp).ne)) (v1 p hp)) (mem_wt_pos (dF p hp).rise (dF p hp).pos hr)
      have key : ∀ k : List Pt, (∀ q ∈ k, 0 < q.2) → (∀ q ∈ k, 0 ≤ A1 / tot (F q.1) * wt (F q.1) r.1) → (0 ≤ sumW (fun x => A1 / tot (F x) * wt (F x) r.1) k) ∧ (p ∈ k → 0 < sumW (fun x => A1 / tot (F x) * wt (F x) r.1) k) := by
        intro k
        induction k with
        | nil => intro _ _; exact ⟨by simp [sumW], fun h => by cases h⟩
        | cons q k ih =>
          intro a1 a2
          obtain ⟨b1, b2⟩ := ih (fun r hr => a1 r (by simp [hr])) fun r hr => a2 r (by simp [hr])
          have c1 := Int.mul_nonneg (Int.le_of_lt (a1 q (by simp))) (a2 q (by simp))
          refine ⟨by rw [sumW]; omega, fun hm => ?_⟩
          rw [sumW]
          rcases List.mem_cons.1 hm with rfl | hm
          · have := Int.mul_pos (a1 p (by simp)) hpp
            omega
          · have := b2 hm
            omega
      exact (key d (fun q hq => dd.pos q hq) hnn).2 hp
    rw [← w1] at hpos
    rcases Int.lt_trichotomy (wt df r.1) 0 with h | h | h
    · have := ((Nn.of_pos ddf.pos).wt_le r.1).1; omega
    · rw [h, Int.mul_zero] at hpos; omega
    · exact h
  obtain ⟨K, hK⟩ : ∃ K : List Int → Int, K = fun x => A2 / tot (G x) * wt (G x) o := ⟨_, rfl⟩
  have hKn : ∀ q ∈ df, 0 ≤ K q.1 := fun q hq => by rw [hK]; exact Int.mul_nonneg (Int.ediv_nonneg (by omega) (Int.le_of_lt (tot_pos2 (dG q hq).pos (dG q hq).ne))) ((Nn.of_pos (dG q hq).pos).wt_le _).1
  obtain ⟨S, hS⟩ : ∃ S : List Int → Int, S = fun y => sumW K (F y) := ⟨_, rfl⟩
  obtain ⟨X, hX⟩ : ∃ X, sumW (fun y => A1 / tot (F y) * S y) d = X := ⟨_, rfl⟩
  -- one
  have e1 : g1 * g2 * wt one o = X := by
    have a1 : g1 * (g2 * wt one o) = sumL (fun x => sumW (fun y => A1 / tot (F y) * wt (F y) x) d * K x) df := by
      rw [w2, ← hK, sumW_is K ddf.rise, Int.mul_comm, ← sumL_mul]
      refine sumL_congr fun q hq => ?_
      rw [← w1]
      ac_rfl
    rw [Int.mul_assoc, a1, sum_swap, ← hX]
    refine sumW_congr fun p hp => ?_
    have a2 : sumL (fun x => A1 / tot (F p.1) * wt (F p.1) x * K x) df = sumL (fun x => wt (F p.1) x * K x * (A1 / tot (F p.1))) df := sumL_congr fun q _ => by ac_rfl
    rw [a2, sumL_mul, hS, Int.mul_comm]
    simp only
    congr 1
    rw [sumW_is K (dF p hp).rise]
    -- over more outcomes
    have a3 : ∀ l : List Pt, (∀ q ∈ l, ∃ r ∈ df, r.1 = q.1) → sumL (fun x => wt (F p.1) x * K x) l = sumL (fun x => wt (F p.1) x * (if ∃ r ∈ df, r.1 = x then K x else 0)) l := fun l hl => sumL_congr fun q hq => by rw [if_pos (hl q hq)]
    rw [a3 df fun q hq => ⟨q, hq, rfl⟩, a3 (F p.1) (hsub p hp)]
    refine sumL_more (fun x => ?_) ddf.rise (dF p hp).rise (fun x hx => by rw [wt_none hx, Int.zero_mul]) (hsub p hp)
    refine Int.mul_nonneg ((Nn.of_pos (dF p hp).pos).wt_le x).1 ?_
    split
    · rename_i hx; obtain ⟨r, hr, rfl⟩ := hx; exact hKn r hr
    · exact Int.le_refl _
  -- what comes behind p
  have e3 : ∀ p ∈ d, A2 * (tot (F p.1) * wt (t p.1) o) = tot (t p.1) * S p.1 ∧ Dis (t p.1) := by
    intro p hp
    obtain ⟨_, dt, _, A3, g3, hA3, hg3, v3, w3, t3⟩ := bind_told (h3 p hp)
    refine ⟨?_, dt⟩
    have b1 : A2 * (g3 * wt (t p.1) o) = A3 * S p.1 := by
      rw [w3, hS, Int.mul_comm, Int.mul_comm A3]
      simp only
      rw [← sumW_mul, ← sumW_mul]
      refine sumW_congr fun r hr => ?_
      obtain ⟨q, hq, hqr⟩ := hsub p hp r hr
      have c1 := v3 r hr
      have c2 := v2 q hq
      rw [hqr] at c2
      have tg := tot_pos2 (dG q hq).pos (dG q hq).ne
      rw [hqr] at tg
      rw [hK]
      simp only
      obtain ⟨m3, rfl⟩ := c1
      obtain ⟨m2, rfl⟩ := c2
      rw [Int.mul_ediv_cancel_left _ (by omega), Int.mul_ediv_cancel_left _ (by omega)]
      ac_rfl
    refine cancel_pos hg3 ?_
    have b2 : g3 * (A2 * (tot (F p.1) * wt (t p.1) o)) = A2 * (g3 * wt (t p.1) o) * tot (F p.1) := by ac_rfl
    have b3 : g3 * (tot (t p.1) * S p.1) = g3 * tot (t p.1) * S p.1 := by ac_rfl
    rw [b2, b1, b3, t3]
    ac_rfl
  -- two
  have e4 : A1 * A2 * (g4 * wt two o) = A4 * X := by
    rw [w4, ← hX, Int.mul_comm, Int.mul_comm A4, ← sumW_mul, ← sumW_mul]
    refine sumW_congr fun p hp => ?_
    obtain ⟨c1, dt⟩ := e3 p hp
    have c2 := v4 p hp
    have c3 := v1 p hp
    rw [hH p hp] at *
    have tt := tot_pos2 dt.pos dt.ne
    have tf := tot_pos2 (dF p hp).pos (dF p hp).ne
    obtain ⟨m4, e4⟩ := c2
    obtain ⟨m1, e1⟩ := c3
    rw [e4, e1, Int.mul_ediv_cancel_left _ (by omega), Int.mul_ediv_cancel_left _ (by omega)]
    have b1 : m4 * wt (t p.1) o * (tot (F p.1) * m1 * A2) = m4 * m1 * (A2 * (tot (F p.1) * wt (t p.1) o)) := by ac_rfl
    rw [b1, c1]
    ac_rfl
  -- together
  have tdf := tot_pos2 ddf.pos ddf.ne
  refine cancel_pos (Int.mul_pos (Int.mul_pos hg1 hg2) (Int.mul_pos hg4 (Int.mul_pos hA1 hA2))) ?_
  have f1 : g1 * g2 * (g4 * (A1 * A2)) * (wt one o * tot two) = g1 * g2 * wt one o * (g4 * tot two) * (A1 * A2) := by ac_rfl
  have f2 : g1 * g2 * (g4 * (A1 * A2)) * (wt two o * tot one) = A1 * A2 * (g4 * wt two o) * (g1 * (g2 * tot one)) := by ac_rfl
  rw [f1, f2, e1, t4, e4, t2]
  have f3 : g1 * (A2 * tot df) = A2 * (g1 * tot df) := by ac_rfl
  rw [f3, t1]
  ac_rfl

/-! ### behind what is certain; what comes for certain behind all -/
theorem gath_dis {l : List Pt} (h : Dis l) : gath l = l := gath_is (fun p hp => Int.le_of_lt (h.pos p hp)) h.rise h.pos fun _ => rfl
theorem low_dis {l : List Pt} (h : Dis l) : lowT l = (l, 0) := by
  unfold lowT
  rw [if_neg h.ne, h.one]
  simp only [Int.natCast_one, cut_one]
  rw [if_neg (by have := h.le; have := h.few; omega)]
theorem one_dis {x : List Int} (h : okO x = true) : Dis [(x, 1)] := by
  refine ⟨by simp [Rise], by simp [Pos], by simp [tot_cons], by simp, ?_, by simp, by simp [dv]⟩
  simp [okP, h]
theorem sure_is {x : List Int} {l : List Pt} (h : makeT [(x, 1)] = (l, 0)) : l = [(x, 1)] ∧ okO x = true := by
  by_cases ho : okO x = true
  · have := (one_dis ho).own
    have hm : makeT [(x, 1)] = ([(x, 1)], 0) := by
      unfold makeT
      rw [if_pos (one_dis ho).ok, gath_dis (one_dis ho), low_dis (one_dis ho)]
    rw [hm] at h
    simp only [Prod.mk.injEq, and_true] at h
    exact ⟨h.symm, ho⟩
  · unfold makeT at h
    rw [if_neg (by simp [okP, ho])] at h
    simp at h

theorem spr_one (n : List Pt) : (n.map fun q : Pt => (q.1, 1 * q.2 * 1)) = n := by
  conv => rhs; rw [← List.map_id n]
  exact List.map_congr_left fun q _ => by simp
/-- behind what is certain comes just what comes behind it -/
theorem bind_sure {x : List Int} (hx : okO x = true) (F : List Int → List Pt) {la : List Pt} {ea : Int} (h : bindT [(x, 1)] F = (la, ea)) : (ea = 0 ↔ (ownT (F x)).2 = 0) ∧ (ea = 0 → la = F x) := by
  unfold bindT at h
  rw [(one_dis hx).own] at h
  simp only [if_true] at h
  obtain ⟨⟨n, e⟩, hn⟩ : ∃ y, ownT (F x) = y := ⟨_, rfl⟩
  rw [hn]
  by_cases he : e = 0
  · subst he
    obtain ⟨rfl, hd⟩ := ownT_ok hn
    have tn := tot_pos2 hd.pos hd.ne
    have hall : allT (fun x => ownT (F x)) 1 [(x, 1)] = (tot (F x), 0) := by
      rw [allT]
      simp only [hn, if_true]
      have : Int.gcd 1 (tot (F x)) = 1 := Int.one_gcd
      rw [this]
      simp only [Int.natCast_one, Int.ediv_one, Int.one_mul]
      rw [if_neg (by have := hd.le; omega), allT]
    unfold chT at h
    rw [hall] at h
    simp only [if_true] at h
    rw [if_neg (by have := hd.le; simp [tot_cons]; omega)] at h
    have hs : spr (fun x => (ownT (F x)).1) (tot (F x)) [(x, 1)] = F x := by
      simp only [spr, List.flatMap_cons, List.flatMap_nil, List.append_nil, hn]
      rw [Int.ediv_self (by omega)]
      exact spr_one _
    rw [hs, gath_dis hd, low_dis hd] at h
    simp only [Prod.mk.injEq] at h
    obtain ⟨rfl, rfl⟩ := h
    exact ⟨Iff.rfl, fun _ => rfl⟩
  · have hall : allT (fun x => ownT (F x)) 1 [(x, 1)] = (0, e) := by
      rw [allT]
      simp only [hn]
      rw [if_neg he]
    unfold chT at h
    rw [hall] at h
    simp only [he, if_false, Prod.mk.injEq] at h
    obtain ⟨_, rfl⟩ := h
    exact ⟨Iff.rfl, fun h => absurd h he⟩
/-- what comes for certain behind all changes nothing -/
theorem bind_same {d : List Pt} (hd : Dis d) {F : List Int → List Pt} (hF : ∀ x, F x = [(x, 1)]) : bindT d F = (d, 0) := by
  have hok : ∀ p ∈ d, ownT (F p.1) = ([(p.1, 1)], 0) := fun p hp => by rw [hF]; exact (one_dis (hd.okO hp)).own
  have hall : ∀ k : List Pt, (∀ p ∈ k, ownT (F p.1) = ([(p.1, 1)], 0)) → allT (fun x => ownT (F x)) 1 k = (1, 0) := by
    intro k
    induction k with
    | nil => intro _; rfl
    | cons p k ih =>
      intro h
      rw [allT]
      simp only [h p (by simp), if_true]
      have : tot [(p.1, (1 : Int))] = 1 := by simp [tot_cons]
      rw [this]
      simp only [show Int.gcd 1 1 = 1 from rfl, Int.natCast_one, Int.ediv_one, Int.one_mul]
      rw [if_neg (by omega)]
      exact ih fun q hq => h q (by simp [hq])
  have hs : ∀ k : List Pt, (∀ p ∈ k, ownT (F p.1) = ([(p.1, 1)], 0)) → spr (fun x => (ownT (F x)).1) 1 k = k := by
    intro k
    induction k with
    | nil => intro _; rfl
    | cons p k ih =>
      intro h
      rw [spr_cons, ih fun q hq => h q (by simp [hq])]
      simp only [h p (by simp)]
      simp [tot_cons]
  unfold bindT
  rw [hd.own]
  simp only [if_true]
  unfold chT
  rw [hall d hok]
  simp only [if_true]
  rw [if_neg (by have := hd.le; omega), hs d hok, gath_dis hd, low_dis hd]
end Go.Proofs.Ytdcdjjemndadaaa
namespace Go.Proofs.Ytdcdjjemndadaaa
open Go.RowKit Go.Proofs.Ytdcdjjemndadaaa.Ds

theorem info52 : (Try.prog.info? 52).map (fun i => (i.zero, i.size, i.bytes)) = some (some (.agg #[.slice none 0 0, .slice none 0 0]), 2, 48) := by kernel_rfl

/-- parts that do not lie in block nb -/
def PartsN (w : World) (B nb : Nat) (v : Value) (ts : List Tr) : Prop :=
  ∃ a c, v = .slice a ts.length c ∧ ts.length ≤ c ∧ ts.length ≤ 1073741824 ∧ (∀ t ∈ ts, Ints w B nb t.1 t.2.1) ∧
    (ts ≠ [] → ∃ b o, a = some ⟨b, o, none⟩ ∧ b < B ∧ b ≠ nb ∧ Cells w b o ts)

theorem PartsN.parts {w : World} {nb : Nat} {v : Value} {ts : List Tr} (h : PartsN w w.heap.size nb v ts) : Parts w w.heap.size v ts := by
  obtain ⟨a, c, hv, hc, hl, hi, hx⟩ := h
  refine ⟨a, c, hv, hc, hl, fun t ht => (hi t ht).mono (Nat.le_refl _) (.inr (Nat.le_refl _)), fun hne => ?_⟩
  obtain ⟨b, o, ha, hb, _, hcell⟩ := hx hne
  exact ⟨b, o, ha, hb, hcell⟩
theorem PartsN.at2 {w w' : World} {nb : Nat} {v : Value} {ts : List Tr} (h : PartsN w w.heap.size nb v ts) (hb : Below w.heap.size w w') : PartsN w' w'.heap.size nb v ts := by
  obtain ⟨a, c, hv, hc, hl, hi, hx⟩ := h
  refine ⟨a, c, hv, hc, hl, fun t ht => (hi t ht).at2 hb, fun hne => ?_⟩
  obtain ⟨b, o, ha, hB, hn, hcell⟩ := hx hne
  exact ⟨b, o, ha, Nat.lt_of_lt_of_le hB hb.size, hn, hcell.keep hb hB⟩
theorem PartsN.grow {W w' : World} {m m' : Nat} {v : Value} {ts : List Tr} {row : Option Nat} (h : PartsN W W.heap.size m v ts) (hg : W.grownBy w' row) (hrow : ∀ g, row = some g → m = g) (hm : m' = m ∨ W.heap.size ≤ m') : PartsN w' w'.heap.size m' v ts := by
  obtain ⟨a, c, hv, hc, hl, hi, hx⟩ := h
  refine ⟨a, c, hv, hc, hl, fun t ht => (hi t ht).grow hg (Nat.le_refl _) hrow hm, fun hne => ?_⟩
  obtain ⟨b, o, ha, hb, hn, hcell⟩ := hx hne
  have := hg.size
  refine ⟨b, o, ha, by omega, by rcases hm with h | h <;> omega, fun i t ht => ?_⟩
  have hne' : some b ≠ row := fun e => hn (hrow b e.symm).symm
  exact ⟨hg.cell (hcell i t ht).1 hne', hg.cell (hcell i t ht).2 hne'⟩

theorem Ints.away {w : World} {B nb m : Nat} {s : Value} {xs : List Int} (h : Ints w B nb s xs) (hx : xs ≠ [] → ∀ b o sp n c, s = .slice (some ⟨b, o, sp⟩) n c → b ≠ m) : Ints w B m s xs := by
  obtain ⟨a, c, hv, hc, hl, hy⟩ := h
  refine ⟨a, c, hv, hc, hl, fun hne => ?_⟩
  obtain ⟨b, o, ha, hb, _, hcell⟩ := hy hne
  exact ⟨b, o, ha, hb, hx hne b o none xs.length c (by rw [hv, ha]), hcell⟩
theorem own_away {w : World} {lo m : Nat} {v : Value} {ts : List Tr} (h : OwnN w lo v ts) (hf : Frs lo ts) (hm : m < lo) : PartsN w w.heap.size m v ts := by
  rcases h with ⟨rfl, rfl⟩ | ⟨b, o, c, rfl, hc, hl, hlo, hr, hi⟩
  · exact ⟨none, 0, rfl, Nat.le_refl _, by simp, by simp, fun h => absurd rfl h⟩
  · refine ⟨_, c, rfl, hc, hl, fun t ht => (hi t ht).away fun hne b o sp n c e => ?_, fun _ => ⟨b, o, rfl, hr.lt, by omega, hr.cells⟩⟩
    have := hf t ht hne b o sp n c e
    omega

/-! ### a growing row of them -/
def flatF (fs : List Fl) : List Value := fs.flatMap fun f => [f.1.1, f.2.1]
theorem flatF_len (fs : List Fl) : (flatF fs).length = fs.length * 2 := by
  induction fs with
  | nil => rfl
  | cons t ts ih => simp [flatF] at *; omega
theorem flatF_get (fs : List Fl) (i : Nat) : (flatF fs)[i * 2]? = fs[i]?.map (·.1.1) ∧ (flatF fs)[i * 2 + 1]? = fs[i]?.map (·.2.1) := by
  induction fs generalizing i with
  | nil => simp [flatF]
  | cons t ts ih =>
    cases i with
    | zero => simp [flatF]
    | succ i =>
      have h := ih i
      have e : flatF (t :: ts) = t.1.1 :: t.2.1 :: flatF ts := rfl
      rw [e, show (i + 1) * 2 = i * 2 + 1 + 1 by omega, show i * 2 + 1 + 1 + 1 = (i * 2 + 1) + 1 + 1 by omega]
      simpa using h
theorem flatF_one (fs : List Fl) (f : Fl) : flatF (fs ++ [f]) = flatF fs ++ [f.1.1, f.2.1] := by simp [flatF]

def Fwr (w : World) (lo : Nat) (v : Value) (fs : List Fl) : Prop :=
  w.ownsRow lo 52 2 v fs.length (flatF fs) ∧ ∀ f ∈ fs, ∃ m, Ints w w.heap.size m f.1.1 f.1.2 ∧ PartsN w w.heap.size m f.2.1 f.2.2 ∧ ∀ g, v.ownBlock = some g → m = g
theorem Fwr.nil (w : World) (lo : Nat) : Fwr w lo (.slice none 0 0) [] := ⟨⟨rfl, .inl ⟨rfl, rfl⟩⟩, fun t ht => by cases ht⟩
theorem Fwr.keep {w w' : World} {lo : Nat} {v : Value} {fs : List Fl} (h : Fwr w lo v fs) (hb : Below w.heap.size w w') : Fwr w' lo v fs :=
  ⟨owns_below h.1 hb, fun t ht => let ⟨m, h1, h2, h3⟩ := h.2 t ht; ⟨m, h1.at2 hb, h2.at2 hb, h3⟩⟩
theorem Fwr.slice {w : World} {lo : Nat} {v : Value} {fs : List Fl} (h : Fwr w lo v fs) : ∃ a c, v = .slice a fs.length c := owns_slice h.1
theorem Fwr.lt {w : World} {lo : Nat} {v : Value} {fs : List Fl} (h : Fwr w lo v fs) : ∀ g, v.ownBlock = some g → lo ≤ g ∧ g < w.heap.size := h.1.lt

theorem Fwr.app {W w' : World} {lo : Nat} {v v' : Value} {fs : List Fl} {f : Fl} {m : Nat} (h : Fwr W lo v fs) (hown : w'.ownsRow lo 52 2 v' (fs.length + 1) (flatF fs ++ [f.1.1, f.2.1])) (hg : W.grownBy w' v.ownBlock)
    (hat : v'.ownBlock = v.ownBlock ∨ v'.ownBlock = some W.heap.size) (hi : Ints W W.heap.size m f.1.1 f.1.2) (hp : PartsN W W.heap.size m f.2.1 f.2.2) (hm : ∀ g, v.ownBlock = some g → m = g) : Fwr w' lo v' (fs ++ [f]) := by
  refine ⟨by rw [flatF_one]; simpa using hown, fun t ht => ?_⟩
  have key : ∀ (m : Nat) (t : Fl), Ints W W.heap.size m t.1.1 t.1.2 → PartsN W W.heap.size m t.2.1 t.2.2 → (∀ g, v.ownBlock = some g → m = g) → ∃ m', Ints w' w'.heap.size m' t.1.1 t.1.2 ∧ PartsN w' w'.heap.size m' t.2.1 t.2.2 ∧ ∀ g, v'.ownBlock = some g → m' = g := by
    intro m t h1 h3 h2
    rcases hat with hat | hat
    · exact ⟨m, h1.grow hg (Nat.le_refl _) h2 (.inl rfl), h3.grow hg h2 (.inl rfl), by rw [hat]; exact h2⟩
    · exact ⟨W.heap.size, h1.grow hg (Nat.le_refl _) h2 (.inr (Nat.le_refl _)), h3.grow hg h2 (.inr (Nat.le_refl _)), by rw [hat]; intro g e; simpa using e⟩
  rcases List.mem_append.1 ht with ht | ht
  · obtain ⟨m, h1, h2, h3⟩ := h.2 t ht
    exact key m t h1 h2 h3
  · obtain rfl : t = f := by simpa using ht
    exact key m t hi hp hm

theorem Fwr.fws {w : World} {lo : Nat} {v : Value} {fs : List Fl} (h : Fwr w lo v fs) (hl : fs.length ≤ 1073741824) : Fws w w.heap.size v fs := by
  have hi : ∀ t ∈ fs, Ints w w.heap.size w.heap.size t.1.1 t.1.2 ∧ Parts w w.heap.size t.2.1 t.2.2 := fun t ht => let ⟨m, h1, h2, _⟩ := h.2 t ht; ⟨h1.mono (Nat.le_refl _) (.inr (Nat.le_refl _)), h2.parts⟩
  obtain ⟨hlen, ⟨hv, h0⟩ | ⟨g, cap, cur, hv, hb, hcur, hc, _, hsz, hx⟩⟩ := h.1
  · obtain rfl : fs = [] := List.length_eq_zero_iff.1 h0
    exact ⟨none, 0, hv, Nat.le_refl _, hl, hi, fun h => absurd rfl h⟩
  · have hget : ∀ j u, (flatF fs)[j]? = some u → w.cell? ⟨g, 0 + j, none⟩ = some u := by
      intro j u hj
      have hj2 : j < fs.length * 2 := by rw [← flatF_len]; exact (List.getElem?_eq_some_iff.1 hj).1
      have : cur[j]? = some u := by
        rw [← hx, List.getElem?_take_of_lt hj2] at hj
        simpa using hj
      simp [World.cell?, hcur, this]
    refine ⟨_, cap, hv, hc, hl, hi, fun _ => ⟨g, 0, rfl, (Array.getElem?_eq_some_iff.1 hcur).1, fun i t ht => ?_⟩⟩
    have hg := flatF_get fs i
    exact ⟨hget _ _ (by rw [hg.1, ht]; rfl), by rw [Nat.add_assoc]; exact hget _ _ (by rw [hg.2, ht]; rfl)⟩

theorem Fws.mono {w : World} {B B' : Nat} {v : Value} {fs : List Fl} (h : Fws w B v fs) (hB : B ≤ B') : Fws w B' v fs := by
  obtain ⟨a, c, hv, hc, hl, hi, hx⟩ := h
  refine ⟨a, c, hv, hc, hl, fun t ht => ⟨(hi t ht).1.mono hB (.inr hB), (hi t ht).2.mono hB⟩, fun hne => ?_⟩
  obtain ⟨b, o, ha, hb, hcell⟩ := hx hne
  exact ⟨b, o, ha, by omega, hcell⟩
theorem fws_nil (w : World) (B : Nat) : Fws w B (.slice none 0 0) [] := ⟨none, 0, rfl, Nat.le_refl _, by simp, by simp, fun h => absurd rfl h⟩
theorem own_or2 {v : Value} {lo n : Nat} (h : ∀ g, v.ownBlock = some g → lo ≤ g ∧ g < n) (hn : lo < n) : ∃ m, lo ≤ m ∧ m < n ∧ ∀ g, v.ownBlock = some g → m = g := by
  cases e : v.ownBlock with
  | none => exact ⟨lo, Nat.le_refl _, hn, fun g e => by cases e⟩
  | some g => exact ⟨g, (h g e).1, (h g e).2, fun g' e => by simpa using e⟩
theorem two_slices (W : World) (s t : Value) (n : Nat) (hn : W.heap.size = n) : ∀ j u, [s, t][j]? = some u → (W.alloc (.cells #[s, t] 52)).cell? ((⟨n, 0, none⟩ : Addr).add j) = some u := by
  subst hn
  intro j u hj
  match j, hj with
  | 0, hj => simp at hj; subst hj; simp [go_sem, Addr.add]
  | 1, hj => simp at hj; subst hj; simp [go_sem, Addr.add]

/-- what a list of all says of each -/
def Hst (t : List Int → List Pt) (d : List Pt) (hs : List Fl) (i : Nat) : Prop := fd hs = (d.take i).map fun p => (p.1, t p.1)
theorem Hst.nil (t : List Int → List Pt) (d : List Pt) : Hst t d [] 0 := by simp [Hst, fd]
theorem Hst.len {t : List Int → List Pt} {d : List Pt} {hs : List Fl} {i : Nat} (h : Hst t d hs i) (hi : i ≤ d.length) : hs.length = i := by
  have := congrArg List.length (show fd hs = _ from h)
  simp [fd] at this
  omega
theorem Hst.step {t : List Int → List Pt} {d : List Pt} {hs : List Fl} {i : Nat} {f : Fl} {k : Int} (h : Hst t d hs i) (hp : d[i]? = some (f.1.2, k)) (hf : rd f.2.2 = t f.1.2) : Hst t d (hs ++ [f]) (i + 1) := by
  unfold Hst at *
  rw [List.take_add_one, hp, List.map_append, ← h]
  simp [fd, hf]
theorem then_map {t : List Int → List Pt} {l : List Pt} {p : Pt} (hp : p ∈ l) : thenT (l.map fun p => (p.1, t p.1)) p.1 = t p.1 := by
  induction l with
  | nil => cases hp
  | cons q l ih =>
    simp only [List.map_cons, thenT]
    by_cases he : q.1 = p.1
    · rw [if_pos he, he]
    · rw [if_neg he]
      rcases List.mem_cons.1 hp with rfl | hp
      · exact absurd rfl he
      · exact ih hp
theorem Hst.all {t : List Int → List Pt} {d : List Pt} {hs : List Fl} {i : Nat} (h : Hst t d hs i) (hi : d.length ≤ i) {p : Pt} (hp : p ∈ d) : thenT (fd hs) p.1 = t p.1 := by
  unfold Hst at h
  rw [h, List.take_of_length_le hi]
  exact then_map hp
end Go.Proofs.Ytdcdjjemndadaaa

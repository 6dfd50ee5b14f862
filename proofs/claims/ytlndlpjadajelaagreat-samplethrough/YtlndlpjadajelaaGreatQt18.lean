import Derived.Test.YtlndlpjadajelaaGreatQt17
import Derived.Test.YtlndlpjadajelaaGreatQt01
namespace Go.Proofs.YtlndlpjadajelaaGreat
open Go.RowKit Go.Proofs.YtlndlpjadajelaaGreat.Ds

/-- all that either of two may be -/
def outsT (l m : List Pt) : List (List Int) := l.map (·.1) ++ (m.filter fun p => wt l p.1 == 0).map (·.1)

/-- two weights -/
def pw (p : Pt × Pt) : Int × Int := (p.1.2, p.2.2)
/-- the weights of something in two -/
def ow (l m : List Pt) (o : List Int) : Int × Int := (wt l o, wt m o)

theorem wt_low {p : Pt} {l : List Pt} (h : Rise (p :: l)) {o : List Int} (ho : ltL o p.1) : wt (p :: l) o = 0 := by
  refine wt_none fun q hq => ?_
  rcases List.mem_cons.1 hq with rfl | hq
  · exact (ltL_ne ho).symm
  · exact (ltL_ne (ltL_trans ho ((List.pairwise_cons.1 h).1 q hq))).symm
theorem wt_skip {p : Pt} {l : List Pt} {o : List Int} (ho : p.1 ≠ o) : wt (p :: l) o = wt l o := by rw [wt_cons, if_neg ho]; omega
theorem wt_mem {l : List Pt} (hr : Rise l) {p : Pt} (hp : p ∈ l) : wt l p.1 = p.2 := by
  obtain ⟨i, hi, h⟩ := List.getElem_of_mem hp
  exact wt_at hr (by rw [List.getElem?_eq_getElem hi, h])
theorem tail_ne {p q : Pt} {l : List Pt} (h : Rise (p :: l)) (hq : q ∈ l) : p.1 ≠ q.1 := ltL_ne ((List.pairwise_cons.1 h).1 q hq)

theorem filter_congr' {α : Type} {f g : α → Bool} {l : List α} (h : ∀ x ∈ l, f x = g x) : l.filter f = l.filter g := List.filter_congr h
theorem map_congr' {α β : Type} {f g : α → β} {l : List α} (h : ∀ x ∈ l, f x = g x) : l.map f = l.map g := List.map_congr_left h

theorem outs_mem {l m : List Pt} {o : List Int} (h : o ∈ outsT l m) : (∃ p ∈ l, p.1 = o) ∨ ∃ p ∈ m, p.1 = o := by
  simp only [outsT, List.mem_append, List.mem_map, List.mem_filter] at h
  rcases h with ⟨p, h1, h2⟩ | ⟨p, h1, h2⟩
  · exact .inl ⟨p, h1, h2⟩
  · exact .inr ⟨p, h1.1, h2⟩

theorem mrg_perm {l m : List Pt} (hl : Rise l) (hm : Rise m) (pl : Pos l) : ((mrgP l m).map pw).Perm ((outsT l m).map (ow l m)) := by
  induction l, m using mrgP.induct with
  | case1 => simp [mrgP, outsT]
  | case2 b bs ih =>
    have ih := ih hl (rise_tail hm) pl
    rw [mrgP]
    have e1 : outsT [] (b :: bs) = b.1 :: outsT [] bs := by simp [outsT]
    rw [e1, List.map_cons, List.map_cons]
    have e2 : ow [] (b :: bs) b.1 = pw (([], 0), b) := by rw [ow, wt_head hm]; rfl
    have e3 : (outsT [] bs).map (ow [] (b :: bs)) = (outsT [] bs).map (ow [] bs) := by
      refine map_congr' fun o ho => ?_
      rcases outs_mem ho with ⟨p, h, _⟩ | ⟨p, h, rfl⟩
      · cases h
      · rw [ow, ow, wt_skip (tail_ne hm h)]
    rw [e2, e3]
    exact ih.cons _
  | case3 a az ih =>
    have ih := ih (rise_tail hl) hm (fun p hp => pl p (by simp [hp]))
    rw [mrgP]
    have e1 : outsT (a :: az) [] = a.1 :: outsT az [] := by simp [outsT]
    rw [e1, List.map_cons, List.map_cons]
    have e2 : ow (a :: az) [] a.1 = pw (a, ([], 0)) := by rw [ow, wt_head hl]; rfl
    have e3 : (outsT az []).map (ow (a :: az) []) = (outsT az []).map (ow az []) := by
      refine map_congr' fun o ho => ?_
      rcases outs_mem ho with ⟨p, h, rfl⟩ | ⟨p, h, _⟩
      · rw [ow, ow, wt_skip (tail_ne hl h)]
      · cases h
    rw [e2, e3]
    exact ih.cons _
  | case4 a az b bs h ih =>
    have ih := ih (rise_tail hl) hm (fun p hp => pl p (by simp [hp]))
    rw [mrgP, if_pos h]
    have hab : ∀ q ∈ b :: bs, a.1 ≠ q.1 := fun q hq => by
      rcases List.mem_cons.1 hq with rfl | hq
      · exact ltL_ne h
      · exact ltL_ne (ltL_trans h ((List.pairwise_cons.1 hm).1 q hq))
    have e1 : outsT (a :: az) (b :: bs) = a.1 :: outsT az (b :: bs) := by
      rw [outsT, outsT, List.map_cons, List.cons_append, filter_congr' (g := fun p => wt az p.1 == 0)]
      intro q hq
      rw [wt_skip (hab q hq)]
    rw [e1, List.map_cons, List.map_cons]
    have e2 : ow (a :: az) (b :: bs) a.1 = pw (a, ([], 0)) := by rw [ow, wt_head hl, wt_low hm h]; rfl
    have e3 : (outsT az (b :: bs)).map (ow (a :: az) (b :: bs)) = (outsT az (b :: bs)).map (ow az (b :: bs)) := by
      refine map_congr' fun o ho => ?_
      rcases outs_mem ho with ⟨p, h, rfl⟩ | ⟨p, h, rfl⟩
      · rw [ow, ow, wt_skip (tail_ne hl h)]
      · rw [ow, ow, wt_skip (hab p h)]
    rw [e2, e3]
    exact ih.cons _
  | case5 a az b bs h1 h2 ih =>
    have ih := ih hl (rise_tail hm) pl
    rw [mrgP, if_neg h1, if_pos h2]
    have hba : ltL b.1 a.1 := by unfold ltL; rw [cmpT_swap]; omega
    have hab : ∀ q ∈ a :: az, b.1 ≠ q.1 := fun q hq => by
      rcases List.mem_cons.1 hq with rfl | hq
      · exact ltL_ne hba
      · exact ltL_ne (ltL_trans hba ((List.pairwise_cons.1 hl).1 q hq))
    have e0 : wt (a :: az) b.1 = 0 := wt_low hl hba
    have e1 : (outsT (a :: az) (b :: bs)).Perm (b.1 :: outsT (a :: az) bs) := by
      rw [outsT, outsT, List.filter_cons, if_pos (by rw [e0]; rfl), List.map_cons]
      exact List.perm_middle
    refine List.Perm.trans ?_ (e1.map _).symm
    rw [List.map_cons, List.map_cons]
    have e2 : ow (a :: az) (b :: bs) b.1 = pw (([], 0), b) := by rw [ow, wt_head hm, e0]; rfl
    have e3 : (outsT (a :: az) bs).map (ow (a :: az) (b :: bs)) = (outsT (a :: az) bs).map (ow (a :: az) bs) := by
      refine map_congr' fun o ho => ?_
      rcases outs_mem ho with ⟨p, h, rfl⟩ | ⟨p, h, rfl⟩
      · rw [ow, ow, wt_skip (hab p h)]
      · rw [ow, ow, wt_skip (tail_ne hm h)]
    rw [e2, e3]
    exact ih.cons _
  | case6 a az b bs h1 h2 ih =>
    have ih := ih (rise_tail hl) (rise_tail hm) (fun p hp => pl p (by simp [hp]))
    rw [mrgP, if_neg h1, if_neg h2]
    have hab : a.1 = b.1 := (cmpT_zero _ _).1 (by omega)
    have e1 : outsT (a :: az) (b :: bs) = a.1 :: outsT az bs := by
      have hpa := pl a (by simp)
      rw [outsT, outsT, List.filter_cons, if_neg (by rw [← hab, wt_head hl]; simp; omega), List.map_cons, List.cons_append, filter_congr' (g := fun p => wt az p.1 == 0)]
      intro q hq
      rw [wt_skip (by rw [hab]; exact tail_ne hm hq)]
    rw [e1, List.map_cons, List.map_cons]
    have e2 : ow (a :: az) (b :: bs) a.1 = pw (a, b) := by rw [ow, wt_head hl, hab, wt_head hm]; rfl
    have e3 : (outsT az bs).map (ow (a :: az) (b :: bs)) = (outsT az bs).map (ow az bs) := by
      refine map_congr' fun o ho => ?_
      rcases outs_mem ho with ⟨p, h, rfl⟩ | ⟨p, h, rfl⟩
      · rw [ow, ow, wt_skip (tail_ne hl h), wt_skip (by rw [← hab]; exact tail_ne hl h)]
      · rw [ow, ow, wt_skip (tail_ne hm h), wt_skip (by rw [hab]; exact tail_ne hm h)]
    rw [e2, e3]
    exact ih.cons _

/-! ### Apart, by outcomes -/
/-- the sum of what is likelier -/
def apW (Ta Tb : Int) : List (Int × Int) → Int
  | [] => 0
  | p :: l => max 0 (p.1 * Tb - p.2 * Ta) + apW Ta Tb l
theorem apS_pw (Ta Tb : Int) (l : List (Pt × Pt)) : apS Ta Tb l = apW Ta Tb (l.map pw) := by
  induction l with
  | nil => rfl
  | cons p l ih => rw [apS, ih]; rfl
theorem apW_perm {Ta Tb : Int} {l m : List (Int × Int)} (h : l.Perm m) : apW Ta Tb l = apW Ta Tb m := by
  induction h with
  | nil => rfl
  | cons x _ ih => rw [apW, apW, ih]
  | swap x y l => simp only [apW]; omega
  | trans _ _ ih1 ih2 => rw [ih1, ih2]
theorem apW_snoc (Ta Tb : Int) (l : List (Int × Int)) (p : Int × Int) : apW Ta Tb (l ++ [p]) = apW Ta Tb l + max 0 (p.1 * Tb - p.2 * Ta) := by
  induction l with
  | nil => simp [apW]
  | cons x l ih => rw [List.cons_append, apW, ih, apW]; omega
theorem apW_nn (Ta Tb : Int) (l : List (Int × Int)) : 0 ≤ apW Ta Tb l := by
  induction l with
  | nil => simp [apW]
  | cons p l ih => simp only [apW]; omega
theorem apW_take (Ta Tb : Int) (l : List (Int × Int)) (i : Nat) : apW Ta Tb (l.take i) ≤ apW Ta Tb l := by
  induction l generalizing i with
  | nil => simp
  | cons p l ih =>
    cases i with
    | zero => simp [apW]; have := apW_nn Ta Tb l; omega
    | succ i => simp only [List.take_succ_cons, apW]; have := ih i; omega
/-- Apart, by outcomes -/
theorem ap_outs {l m : List Pt} (hl : Dis l) (hm : Dis m) (Ta Tb : Int) : apS Ta Tb (mrgP l m) = apW Ta Tb ((outsT l m).map (ow l m)) := by
  rw [apS_pw, apW_perm (mrg_perm hl.rise hm.rise hl.pos)]

/-! ### Far, by outcomes -/
/-- a chance over another -/
def Frc (Ta Tb : Int) (L : List (Int × Int)) (c : Int × Int) : Prop := c = (1, 1) ∨ ∃ p ∈ L, c = (p.1 * Tb, p.2 * Ta) ∨ c = (p.2 * Ta, p.1 * Tb)
/-- the greatest of some -/
def Mx (S : Int × Int → Prop) (q : Int × Int) : Prop := S q ∧ ∀ c, S c → c.1 * q.2 ≤ q.1 * c.2
def Ps (q : Int × Int) : Prop := 0 < q.1 ∧ 0 < q.2

theorem frc_trans {d q c : Int × Int} (hd : Ps d) (hq : Ps q) (hc : Ps c) (h1 : d.1 * q.2 ≤ q.1 * d.2) (h2 : q.1 * c.2 ≤ c.1 * q.2) : d.1 * c.2 ≤ c.1 * d.2 := by
  have a1 : d.1 * q.2 * c.2 ≤ q.1 * d.2 * c.2 := Int.mul_le_mul_of_nonneg_right h1 (Int.le_of_lt hc.2)
  have a2 : q.1 * c.2 * d.2 ≤ c.1 * q.2 * d.2 := Int.mul_le_mul_of_nonneg_right h2 (Int.le_of_lt hd.2)
  have a3 : d.1 * c.2 * q.2 ≤ c.1 * d.2 * q.2 := by
    have e1 : d.1 * c.2 * q.2 = d.1 * q.2 * c.2 := Int.mul_right_comm _ _ _
    have e2 : q.1 * d.2 * c.2 = q.1 * c.2 * d.2 := Int.mul_right_comm _ _ _
    have e3 : c.1 * q.2 * d.2 = c.1 * d.2 * q.2 := Int.mul_right_comm _ _ _
    omega
  exact Int.le_of_mul_le_mul_right a3 hq.2

theorem Mx.step {S T : Int × Int → Prop} {q c : Int × Int} (h : Mx S q) (hS : ∀ d, S d → Ps d) (hc : Ps c) (hT : ∀ d, T d ↔ S d ∨ d = c) : Mx T (if q.1 * c.2 < c.1 * q.2 then c else q) := by
  split
  · rename_i hlt
    refine ⟨(hT c).2 (.inr rfl), fun d hd => ?_⟩
    rcases (hT d).1 hd with hd | rfl
    · exact frc_trans (hS d hd) (hS q h.1) hc (h.2 d hd) (Int.le_of_lt hlt)
    · exact Int.le_refl _
  · rename_i hlt
    refine ⟨(hT q).2 (.inl h.1), fun d hd => ?_⟩
    rcases (hT d).1 hd with hd | rfl
    · exact h.2 d hd
    · omega

theorem Mx.uniq {S : Int × Int → Prop} {q r : Int × Int} (h : Mx S q) (k : Mx S r) : q.1 * r.2 = r.1 * q.2 := by
  have := h.2 r k.1
  have := k.2 q h.1
  omega

/-- one step of the document's -/
def farStepR (Ta Tb : Int) (q : Int × Int) (p : Int × Int) : Int × Int :=
  let r := if q.1 * (p.2 * Ta) < p.1 * Tb * q.2 then (p.1 * Tb, p.2 * Ta) else q
  if r.1 * (p.1 * Tb) < p.2 * Ta * r.2 then (p.2 * Ta, p.1 * Tb) else r
def farR (Ta Tb : Int) (L : List (Int × Int)) : Int × Int := L.foldl (farStepR Ta Tb) (1, 1)
theorem farR_snoc (Ta Tb : Int) (L : List (Int × Int)) (p : Int × Int) : farR Ta Tb (L ++ [p]) = farStepR Ta Tb (farR Ta Tb L) p := by simp [farR]

def Psl (L : List (Int × Int)) : Prop := ∀ p ∈ L, 0 < p.1 ∧ 0 < p.2
theorem frc_ps {Ta Tb : Int} (ha : 0 < Ta) (hb : 0 < Tb) {L : List (Int × Int)} (hL : Psl L) {c : Int × Int} (h : Frc Ta Tb L c) : Ps c := by
  rcases h with rfl | ⟨p, hp, rfl | rfl⟩
  · exact ⟨by decide, by decide⟩
  · exact ⟨Int.mul_pos (hL p hp).1 hb, Int.mul_pos (hL p hp).2 ha⟩
  · exact ⟨Int.mul_pos (hL p hp).2 ha, Int.mul_pos (hL p hp).1 hb⟩

theorem frc_snoc {Ta Tb : Int} {L : List (Int × Int)} {p c : Int × Int} : Frc Ta Tb (L ++ [p]) c ↔ (Frc Ta Tb L c ∨ c = (p.1 * Tb, p.2 * Ta)) ∨ c = (p.2 * Ta, p.1 * Tb) := by
  unfold Frc
  constructor
  · rintro (h | ⟨q, hq, h⟩)
    · exact .inl (.inl (.inl h))
    · rcases List.mem_append.1 hq with hq | hq
      · exact .inl (.inl (.inr ⟨q, hq, h⟩))
      · obtain rfl : q = p := by simpa using hq
        rcases h with h | h
        · exact .inl (.inr h)
        · exact .inr h
  · rintro ((h | h) | h)
    · rcases h with h | ⟨q, hq, h⟩
      · exact .inl h
      · exact .inr ⟨q, by simp [hq], h⟩
    · exact .inr ⟨p, by simp, .inl h⟩
    · exact .inr ⟨p, by simp, .inr h⟩

theorem mx_one (Ta Tb : Int) : Mx (Frc Ta Tb []) (1, 1) := by
  refine ⟨.inl rfl, ?_⟩
  rintro c (rfl | ⟨p, hp, _⟩)
  · exact Int.le_refl _
  · cases hp

theorem farR_mx {Ta Tb : Int} (ha : 0 < Ta) (hb : 0 < Tb) (L : List (Int × Int)) (hL : Psl L) : Mx (Frc Ta Tb L) (farR Ta Tb L) := by
  have key : ∀ (M L : List (Int × Int)) (q : Int × Int), Psl (L ++ M) → Mx (Frc Ta Tb L) q → Mx (Frc Ta Tb (L ++ M)) (M.foldl (farStepR Ta Tb) q) := by
    intro M
    induction M with
    | nil => intro L q _ h; simpa using h
    | cons p M ih =>
      intro L q hps h
      have h0 : Psl (L ++ [p] ++ M) := by simpa using hps
      have hp := hps p (by simp)
      have c1 : Ps (p.1 * Tb, p.2 * Ta) := ⟨Int.mul_pos hp.1 hb, Int.mul_pos hp.2 ha⟩
      have hL : Psl L := fun r hr => hps r (by simp [hr])
      have m1 := h.step (T := fun d => Frc Ta Tb L d ∨ d = (p.1 * Tb, p.2 * Ta)) (fun d hd => frc_ps ha hb hL hd) c1 (fun d => Iff.rfl)
      have m2 := m1.step (T := Frc Ta Tb (L ++ [p])) (c := (p.2 * Ta, p.1 * Tb)) (fun d hd => hd.elim (frc_ps ha hb hL) (fun e => e ▸ c1)) ⟨c1.2, c1.1⟩ (fun d => frc_snoc)
      have := ih (L ++ [p]) _ h0 m2
      simpa [farStepR] using this
  have := key L [] (1, 1) (by simpa using hL) (mx_one Ta Tb)
  simpa [farR] using this

theorem farF_mx {Ta Tb : Int} (ha : 0 < Ta) (hb : 0 < Tb) (l : List (Pt × Pt)) (hL : Psl (l.map pw)) : Mx (Frc Ta Tb (l.map pw)) (farF Ta Tb l) := by
  have key : ∀ (M L : List (Pt × Pt)) (q : Int × Int), Psl ((L ++ M).map pw) → Mx (Frc Ta Tb (L.map pw)) q → Mx (Frc Ta Tb ((L ++ M).map pw)) (M.foldl (farStep Ta Tb) q) := by
    intro M
    induction M with
    | nil => intro L q _ h; simpa using h
    | cons p M ih =>
      intro L q hps h
      have h0 : Psl ((L ++ [p] ++ M).map pw) := by simpa using hps
      have hp : 0 < p.1.2 ∧ 0 < p.2.2 := hps (pw p) (by simp)
      have c1 : Ps (p.1.2 * Tb, p.2.2 * Ta) := ⟨Int.mul_pos hp.1 hb, Int.mul_pos hp.2 ha⟩
      have hL : Psl (L.map pw) := fun r hr => hps r (by rw [List.map_append]; exact List.mem_append_left _ hr)
      have hfr : ∀ c, Frc Ta Tb ((L ++ [p]).map pw) c ↔ (Frc Ta Tb (L.map pw) c ∨ c = (p.1.2 * Tb, p.2.2 * Ta)) ∨ c = (p.2.2 * Ta, p.1.2 * Tb) := by
        intro c
        rw [List.map_append, List.map_cons, List.map_nil]
        exact frc_snoc
      have m2 : Mx (Frc Ta Tb ((L ++ [p]).map pw)) (farStep Ta Tb q p) := by
        unfold farStep
        split
        · rename_i hlt
          have m1 := h.step (T := fun d => Frc Ta Tb (L.map pw) d ∨ d = (p.2.2 * Ta, p.1.2 * Tb)) (c := (p.2.2 * Ta, p.1.2 * Tb)) (fun d hd => frc_ps ha hb hL hd) ⟨c1.2, c1.1⟩ (fun d => Iff.rfl)
          simp only at m1
          refine ⟨(hfr _).2 (m1.1.elim (fun x => .inl (.inl x)) .inr), fun c hc => ?_⟩
          rcases (hfr c).1 hc with (hc | rfl) | rfl
          · exact m1.2 c (.inl hc)
          · have hq := m1.2 _ (.inr rfl)
            have hqp : Ps (if q.1 * (p.1.2 * Tb) < p.2.2 * Ta * q.2 then (p.2.2 * Ta, p.1.2 * Tb) else q) := m1.1.elim (frc_ps ha hb hL) (fun e => by rw [e]; exact ⟨c1.2, c1.1⟩)
            generalize (if q.1 * (p.1.2 * Tb) < p.2.2 * Ta * q.2 then (p.2.2 * Ta, p.1.2 * Tb) else q) = z at *
            simp only at hq ⊢
            have e1 : p.1.2 * Tb * z.2 ≤ p.2.2 * Ta * z.2 := Int.mul_le_mul_of_nonneg_right (Int.le_of_lt hlt) (Int.le_of_lt hqp.2)
            have e2 : z.1 * (p.1.2 * Tb) ≤ z.1 * (p.2.2 * Ta) := Int.mul_le_mul_of_nonneg_left (Int.le_of_lt hlt) (Int.le_of_lt hqp.1)
            omega
          · exact m1.2 _ (.inr rfl)
        · rename_i hlt
          have m1 := h.step (T := fun d => Frc Ta Tb (L.map pw) d ∨ d = (p.1.2 * Tb, p.2.2 * Ta)) (c := (p.1.2 * Tb, p.2.2 * Ta)) (fun d hd => frc_ps ha hb hL hd) c1 (fun d => Iff.rfl)
          simp only at m1
          refine ⟨(hfr _).2 (.inl m1.1), fun c hc => ?_⟩
          rcases (hfr c).1 hc with hc | rfl
          · exact m1.2 c hc
          · have hq := m1.2 _ (.inr rfl)
            have hqp : Ps (if q.1 * (p.2.2 * Ta) < p.1.2 * Tb * q.2 then (p.1.2 * Tb, p.2.2 * Ta) else q) := m1.1.elim (frc_ps ha hb hL) (fun e => by rw [e]; exact c1)
            generalize (if q.1 * (p.2.2 * Ta) < p.1.2 * Tb * q.2 then (p.1.2 * Tb, p.2.2 * Ta) else q) = z at *
            simp only at hq ⊢
            have e1 : p.2.2 * Ta * z.2 ≤ p.1.2 * Tb * z.2 := Int.mul_le_mul_of_nonneg_right (by omega) (Int.le_of_lt hqp.2)
            have e2 : z.1 * (p.2.2 * Ta) ≤ z.1 * (p.1.2 * Tb) := Int.mul_le_mul_of_nonneg_left (by omega) (Int.le_of_lt hqp.1)
            omega
      have := ih (L ++ [p]) _ h0 m2
      simpa using this
  have := key l [] (1, 1) (by simpa using hL) (mx_one Ta Tb)
  simpa [farF] using this

theorem mkT_cross {a b c d : Int} (ha : 0 < a) (hb : 0 < b) (hc : 0 < c) (hd : 0 < d) (h : a * d = c * b) : Rt.mkT a b = Rt.mkT c d := by
  unfold Rt.mkT
  rw [if_neg (by omega), if_neg (by omega), (Rat.divInt_eq_divInt_iff (by omega) (by omega)).2 h]

/-- Far, by outcomes -/
theorem far_outs {l m : List Pt} (hl : Dis l) (hm : Dis m) (hn : (mrgP l m).any lone = false) :
    Rt.mkT (farF (tot l) (tot m) (mrgP l m)).1 (farF (tot l) (tot m) (mrgP l m)).2 = Rt.mkT (farR (tot l) (tot m) ((outsT l m).map (ow l m))).1 (farR (tot l) (tot m) ((outsT l m).map (ow l m))).2 := by
  have hTa := tot_pos2 hl.pos hl.ne
  have hTb := tot_pos2 hm.pos hm.ne
  have hp := mrg_perm hl.rise hm.rise hl.pos
  have hps : Psl ((mrgP l m).map pw) := by
    intro q hq
    obtain ⟨p, h1, rfl⟩ := List.mem_map.1 hq
    have h2 := List.any_eq_false.1 hn p h1
    obtain ⟨h3, h4⟩ := mrgP_mem h1
    simp only [lone, Bool.or_eq_true, beq_iff_eq, not_or] at h2
    refine ⟨?_, ?_⟩
    · rcases h3 with h3 | h3
      · exact hl.pos _ h3
      · rw [h3] at h2; exact absurd rfl h2.1
    · rcases h4 with h4 | h4
      · exact hm.pos _ h4
      · rw [h4] at h2; exact absurd rfl h2.2
  have hps' : Psl ((outsT l m).map (ow l m)) := fun q hq => hps q (hp.mem_iff.2 hq)
  have m1 := farF_mx hTa hTb _ hps
  have m2 := farR_mx hTa hTb _ hps'
  have m2' : Mx (Frc (tot l) (tot m) ((mrgP l m).map pw)) (farR (tot l) (tot m) ((outsT l m).map (ow l m))) := by
    have e : ∀ c, Frc (tot l) (tot m) ((mrgP l m).map pw) c ↔ Frc (tot l) (tot m) ((outsT l m).map (ow l m)) c := fun c => by
      unfold Frc
      constructor
      · rintro (h | ⟨q, hq, h⟩)
        · exact .inl h
        · exact .inr ⟨q, hp.mem_iff.1 hq, h⟩
      · rintro (h | ⟨q, hq, h⟩)
        · exact .inl h
        · exact .inr ⟨q, hp.mem_iff.2 hq, h⟩
    exact ⟨(e _).2 m2.1, fun c hc => m2.2 c ((e c).1 hc)⟩
  have p1 := frc_ps hTa hTb hps m1.1
  have p2 := frc_ps hTa hTb hps m2'.1
  exact mkT_cross p1.1 p1.2 p2.1 p2.2 (m1.uniq m2')

/-- one of two has it not, by outcomes -/
def lonW (p : Int × Int) : Bool := p.1 == 0 || p.2 == 0
theorem lone_outs {l m : List Pt} (hl : Dis l) (hm : Dis m) : (mrgP l m).any lone = ((outsT l m).map (ow l m)).any lonW := by
  have hp := mrg_perm hl.rise hm.rise hl.pos
  have e1 : (mrgP l m).any lone = ((mrgP l m).map pw).any lonW := by rw [List.any_map]; rfl
  rw [e1, Bool.eq_iff_iff, List.any_eq_true, List.any_eq_true]
  constructor
  · rintro ⟨x, h1, h2⟩; exact ⟨x, hp.mem_iff.1 h1, h2⟩
  · rintro ⟨x, h1, h2⟩; exact ⟨x, hp.mem_iff.2 h1, h2⟩
end Go.Proofs.YtlndlpjadajelaaGreat

/-
  CHAPTER 1's PLAIN MATHEMATICS, MORE: a fraction that is right is a rational number; what is done with two is done with the numbers.
-/
namespace Go.Proofs.Rt

/-- A number that can be told. -/
def Ok (q : Rat) : Prop := 0 ≤ q.num ∧ q.num ≤ mx ∧ (q.den : Int) ≤ mx
theorem right_rat {u d : Int} (h : rightB u d = true) : ∃ q : Rat, q.num = u ∧ (q.den : Int) = d ∧ Ok q := by
  unfold rightB at h
  obtain ⟨h1, h2, h3, h4, h5⟩ := of_decide_eq_true h
  refine ⟨Rat.divInt u d, ?_, ?_, ?_⟩
  · rw [num_of u d h1 h3, h5]; simp
  · rw [den_of u d h1 h3, h5]; simp
  · unfold Ok
    rw [num_of u d h1 h3, den_of u d h1 h3, h5]
    simp
    exact ⟨h1, h2, h4⟩
theorem den1 (q : Rat) : (1 : Int) ≤ q.den := by have := q.den_pos; omega
theorem rat_right (q : Rat) (h : Ok q) : rightB q.num q.den = true := by
  unfold rightB
  obtain ⟨h1, h2, h3⟩ := h
  refine decide_eq_true ⟨h1, h2, den1 q, h3, ?_⟩
  exact q.reduced
theorem tell_of (q : Rat) (h : Ok q) : tell q = (q.num, (q.den : Int), 0) := by
  unfold tell
  obtain ⟨h1, h2, h3⟩ := h
  rw [if_neg (by omega), if_neg (by omega)]
theorem tell_ok {q : Rat} {n m : Int} (h : tell q = (n, m, 0)) : Ok q ∧ q.num = n ∧ (q.den : Int) = m := by
  unfold tell at h
  by_cases c : q.num < 0
  · rw [if_pos c] at h; simp at h
  · rw [if_neg c] at h
    by_cases c2 : mx < q.num ∨ mx < (q.den : Int)
    · rw [if_pos c2] at h; simp at h
    · rw [if_neg c2] at h
      simp only [Prod.mk.injEq] at h
      exact ⟨⟨by omega, by omega, by omega⟩, h.1, h.2.1⟩
theorem mkT_tell (u d : Int) (hd : 1 ≤ d) : mkT u d = tell (Rat.divInt u d) := by
  unfold mkT
  by_cases c : u < 0
  · rw [if_pos (.inl c)]
    unfold tell
    have : ¬ 0 ≤ Rat.divInt u d := by
      rw [Rat.divInt_nonneg_iff_of_pos_right (by omega)]; omega
    have : ¬ 0 ≤ (Rat.divInt u d).num := fun h => this (Rat.num_nonneg.1 h)
    rw [if_pos (by omega)]
  · rw [if_neg (by omega)]
theorem num_div_den (q : Rat) : Rat.divInt q.num q.den = q := Rat.num_divInt_den q
theorem times_rat (x y : Rat) (hx : Ok x) (hy : Ok y) : timesT x.num x.den y.num y.den = tell (x * y) := by
  unfold timesT
  rw [if_pos ⟨rat_right x hx, rat_right y hy⟩, mkT_tell _ _ (by have := Int.mul_le_mul (den1 x) (den1 y) (by omega) (by have := den1 x; omega); omega), ← Rat.divInt_mul_divInt, num_div_den, num_div_den]
theorem den0 (q : Rat) : (q.den : Int) ≠ 0 := by have := den1 q; omega
theorem dens (x y : Rat) : (1 : Int) ≤ (x.den : Int) * (y.den : Int) := by
  have := Int.mul_le_mul (den1 x) (den1 y) (by omega) (by have := den1 x; omega)
  omega
theorem plus_rat (x y : Rat) (hx : Ok x) (hy : Ok y) : plusT x.num x.den y.num y.den = tell (x + y) := by
  unfold plusT
  rw [if_pos ⟨rat_right x hx, rat_right y hy⟩, mkT_tell _ _ (dens x y), ← Rat.divInt_add_divInt _ _ (den0 x) (den0 y), num_div_den, num_div_den]
theorem minus_rat (x y : Rat) (hx : Ok x) (hy : Ok y) : minusT x.num x.den y.num y.den = tell (x - y) := by
  unfold minusT
  rw [if_pos ⟨rat_right x hx, rat_right y hy⟩, mkT_tell _ _ (dens x y), ← Rat.divInt_sub_divInt _ _ (den0 x) (den0 y), num_div_den, num_div_den]
theorem over_rat (x y : Rat) (hx : Ok x) (hy : Ok y) : overT x.num x.den y.num y.den = if y = 0 then (0, 0, 3) else tell (x / y) := by
  unfold overT
  rw [if_pos ⟨rat_right x hx, rat_right y hy⟩]
  by_cases c : y = 0
  · rw [if_pos c, c]
    unfold mkT
    rw [if_pos (.inr (by simp))]
  · rw [if_neg c]
    have hn : y.num ≠ 0 := fun h => c (Rat.num_eq_zero.1 h)
    have hn1 : 1 ≤ y.num := by have := hy.1; omega
    have hb : (1 : Int) ≤ (x.den : Int) * y.num := by
      have := Int.mul_le_mul (den1 x) hn1 (by omega) (by have := den1 x; omega)
      omega
    rw [mkT_tell _ _ hb, ← Rat.divInt_mul_divInt, num_div_den, Rat.div_def]
    congr 2
    rw [← Rat.inv_divInt, num_div_den]

/-! ### a sum or a product, and whether it is told -/
def twoT (p : Bool) (a b c d : Int) : Int × Int × Bool :=
  ((if p then plusT a b c d else timesT a b c d).1, (if p then plusT a b c d else timesT a b c d).2.1, (if p then plusT a b c d else timesT a b c d).2.2 == 0)
def tel (q : Rat) : Int × Int × Bool := ((tell q).1, (tell q).2.1, (tell q).2.2 == 0)
def op (p : Bool) (x y : Rat) : Rat := if p then x + y else x * y
theorem two_rat (p : Bool) (x y : Rat) (hx : Ok x) (hy : Ok y) : twoT p x.num x.den y.num y.den = tel (op p x y) := by
  unfold twoT tel op
  cases p
  · simp only [Bool.false_eq_true, if_false]; rw [times_rat x y hx hy]
  · simp only [if_true]; rw [plus_rat x y hx hy]
theorem two_bad (p : Bool) (a b c d : Int) (h : ¬ (rightB a b = true ∧ rightB c d = true)) : twoT p a b c d = (0, 0, false) := by
  unfold twoT plusT timesT
  rw [if_neg h, if_neg h]
  cases p <;> rfl
theorem tel_ok {q : Rat} {n m : Int} (h : tel q = (n, m, true)) : Ok q ∧ q.num = n ∧ (q.den : Int) = m := by
  unfold tel at h
  simp only [Prod.mk.injEq, beq_iff_eq] at h
  obtain ⟨h1, h2, h3⟩ := h
  exact tell_ok (q := q) (by rw [← h1, ← h2, ← h3])
theorem tel_of (q : Rat) (h : Ok q) : tel q = (q.num, (q.den : Int), true) := by
  unfold tel
  rw [tell_of q h]
  rfl
/-- What is told was made of two that are right. -/
theorem two_yes {p : Bool} {a b c d n m : Int} (h : twoT p a b c d = (n, m, true)) :
    ∃ x y : Rat, Ok x ∧ Ok y ∧ Ok (op p x y) ∧ x.num = a ∧ (x.den : Int) = b ∧ y.num = c ∧ (y.den : Int) = d ∧ (op p x y).num = n ∧ ((op p x y).den : Int) = m := by
  by_cases r : rightB a b = true ∧ rightB c d = true
  · obtain ⟨x, rfl, rfl, hx⟩ := right_rat r.1
    obtain ⟨y, rfl, rfl, hy⟩ := right_rat r.2
    rw [two_rat p x y hx hy] at h
    obtain ⟨h1, h2, h3⟩ := tel_ok h
    exact ⟨x, y, hx, hy, h1, rfl, rfl, rfl, rfl, h2, h3⟩
  · rw [two_bad p a b c d r] at h
    simp at h
theorem op_comm (p : Bool) (x y : Rat) : op p x y = op p y x := by
  unfold op; cases p
  · simp only [Bool.false_eq_true, if_false]; exact Rat.mul_comm x y
  · simp only [if_true]; exact Rat.add_comm x y
theorem op_assoc (p : Bool) (x y z : Rat) : op p (op p x y) z = op p x (op p y z) := by
  unfold op; cases p
  · simp only [Bool.false_eq_true, if_false]; exact Rat.mul_assoc x y z
  · simp only [if_true]; exact Rat.add_assoc x y z
theorem two_comm (p : Bool) (a b c d : Int) : twoT p a b c d = twoT p c d a b := by
  by_cases r : rightB a b = true ∧ rightB c d = true
  · obtain ⟨x, rfl, rfl, hx⟩ := right_rat r.1
    obtain ⟨y, rfl, rfl, hy⟩ := right_rat r.2
    rw [two_rat p x y hx hy, two_rat p y x hy hx, op_comm]
  · rw [two_bad p a b c d r, two_bad p c d a b (fun h => r ⟨h.2, h.1⟩)]
theorem rat_same {x y : Rat} (h1 : x.num = y.num) (h2 : (x.den : Int) = y.den) : x = y := Rat.ext h1 (by omega)
theorem two_assoc {p : Bool} {a b c d e f n1 m1 n2 m2 : Int} (h1 : twoT p a b c d = (n1, m1, true)) (h2 : twoT p c d e f = (n2, m2, true)) :
    twoT p n1 m1 e f = twoT p a b n2 m2 := by
  obtain ⟨x, y, hx, hy, hxy, rfl, rfl, rfl, rfl, rfl, rfl⟩ := two_yes h1
  obtain ⟨y', z, hy', hz, hyz, e1, e2, rfl, rfl, rfl, rfl⟩ := two_yes h2
  have := rat_same e1 e2
  subst this
  rw [two_rat p _ z hxy hz, two_rat p x _ hx hyz, op_assoc]
theorem two_share {a b c d e f n0 m0 n1 m1 n2 m2 : Int} (h0 : twoT true c d e f = (n0, m0, true)) (h1 : twoT false a b c d = (n1, m1, true)) (h2 : twoT false a b e f = (n2, m2, true)) :
    twoT false a b n0 m0 = twoT true n1 m1 n2 m2 := by
  obtain ⟨y, z, hy, hz, hyz, rfl, rfl, rfl, rfl, rfl, rfl⟩ := two_yes h0
  obtain ⟨x, y', hx, hy', hxy, rfl, rfl, e1, e2, rfl, rfl⟩ := two_yes h1
  have := rat_same e1 e2
  subst this
  obtain ⟨x', z', hx', hz', hxz, e3, e4, e5, e6, rfl, rfl⟩ := two_yes h2
  have := rat_same e3 e4
  subst this
  have := rat_same e5 e6
  subst this
  rw [two_rat false _ _ hx' hyz, two_rat true _ _ hxy hxz]
  congr 1
  exact Rat.mul_add _ _ _
theorem over_yes {a b c d n m : Int} (h : overT a b c d = (n, m, 0)) : twoT false n m c d = (a, b, true) := by
  by_cases r : rightB a b = true ∧ rightB c d = true
  · obtain ⟨x, rfl, rfl, hx⟩ := right_rat r.1
    obtain ⟨y, rfl, rfl, hy⟩ := right_rat r.2
    rw [over_rat x y hx hy] at h
    by_cases c : y = 0
    · rw [if_pos c] at h; simp at h
    · rw [if_neg c] at h
      obtain ⟨h1, rfl, rfl⟩ := tell_ok h
      rw [two_rat false _ y h1 hy]
      have : op false (x / y) y = x := by
        unfold op; simp only [Bool.false_eq_true, if_false]; exact Rat.div_mul_cancel c
      rw [this, tel_of x hx]
  · unfold overT at h
    rw [if_neg r] at h; simp at h
theorem minus_yes {a b c d n m : Int} (h : minusT a b c d = (n, m, 0)) : twoT true n m c d = (a, b, true) := by
  by_cases r : rightB a b = true ∧ rightB c d = true
  · obtain ⟨x, rfl, rfl, hx⟩ := right_rat r.1
    obtain ⟨y, rfl, rfl, hy⟩ := right_rat r.2
    rw [minus_rat x y hx hy] at h
    obtain ⟨h1, rfl, rfl⟩ := tell_ok h
    rw [two_rat true _ y h1 hy]
    have : op true (x - y) y = x := by
      unfold op; simp only [if_true]; exact Rat.sub_add_cancel
    rw [this, tel_of x hx]
  · unfold minusT at h
    rw [if_neg r] at h; simp at h

/-! ### the order -/
def ord (x y : Rat) : Int := if x < y then -1 else if y < x then 1 else 0
theorem order_rat (x y : Rat) (hx : Ok x) (hy : Ok y) : orderT x.num x.den y.num y.den = (ord x y, 0) := by
  unfold orderT ord
  rw [if_pos ⟨rat_right x hx, rat_right y hy⟩]
  simp only [Rat.lt_iff]
theorem order_yes {a b c d k : Int} (h : orderT a b c d = (k, 0)) :
    ∃ x y : Rat, Ok x ∧ Ok y ∧ x.num = a ∧ (x.den : Int) = b ∧ y.num = c ∧ (y.den : Int) = d ∧ ord x y = k := by
  by_cases r : rightB a b = true ∧ rightB c d = true
  · obtain ⟨x, rfl, rfl, hx⟩ := right_rat r.1
    obtain ⟨y, rfl, rfl, hy⟩ := right_rat r.2
    rw [order_rat x y hx hy] at h
    simp only [Prod.mk.injEq, and_true] at h
    exact ⟨x, y, hx, hy, rfl, rfl, rfl, rfl, h⟩
  · unfold orderT at h
    rw [if_neg r] at h; simp at h
theorem lt_asymm' {x y : Rat} (h : x < y) : ¬ y < x := fun k => (Rat.not_le.2 h) (Rat.le_of_lt k)
theorem ord_swap (x y : Rat) : ord y x = - ord x y := by
  unfold ord
  by_cases h1 : x < y
  · rw [if_pos h1, if_neg (lt_asymm' h1), if_pos h1]; rfl
  · by_cases h2 : y < x
    · rw [if_pos h2, if_neg h1, if_pos h2]
    · rw [if_neg h2, if_neg h1, if_neg h1, if_neg h2]; rfl
theorem eq_of {x y : Rat} (h1 : ¬ x < y) (h2 : ¬ y < x) : x = y := Rat.le_antisymm (Rat.not_lt.1 h2) (Rat.not_lt.1 h1)
theorem ord_zero (x y : Rat) : ord x y = 0 ↔ x = y := by
  unfold ord
  by_cases h1 : x < y
  · rw [if_pos h1]
    constructor
    · intro h; simp at h
    · intro h; subst h; exact absurd h1 Rat.lt_irrefl
  · rw [if_neg h1]
    by_cases h2 : y < x
    · rw [if_pos h2]
      constructor
      · intro h; simp at h
      · intro h; subst h; exact absurd h2 Rat.lt_irrefl
    · rw [if_neg h2]
      exact ⟨fun _ => eq_of h1 h2, fun _ => rfl⟩
theorem ord_le (x y : Rat) : ord x y ≤ 0 ↔ x ≤ y := by
  unfold ord
  by_cases h1 : x < y
  · rw [if_pos h1]; exact ⟨fun _ => Rat.le_of_lt h1, fun _ => by decide⟩
  · rw [if_neg h1]
    by_cases h2 : y < x
    · rw [if_pos h2]
      constructor
      · intro h; simp at h
      · intro h; exact absurd h (Rat.not_le.2 h2)
    · rw [if_neg h2]
      exact ⟨fun _ => Rat.not_lt.1 h2, fun _ => by decide⟩
theorem order_swap {a b c d k : Int} (h : orderT a b c d = (k, 0)) : orderT c d a b = (-k, 0) := by
  obtain ⟨x, y, hx, hy, rfl, rfl, rfl, rfl, rfl⟩ := order_yes h
  rw [order_rat y x hy hx, ord_swap]
theorem order_zero {a b c d k : Int} (h : orderT a b c d = (k, 0)) : k = 0 ↔ (a = c ∧ b = d) := by
  obtain ⟨x, y, hx, hy, rfl, rfl, rfl, rfl, rfl⟩ := order_yes h
  rw [ord_zero]
  exact ⟨fun h => by rw [h]; exact ⟨rfl, rfl⟩, fun h => rat_same h.1 h.2⟩
theorem ord_op (p : Bool) (x y z : Rat) (hz : 0 ≤ z.num) : ord (op p x z) (op p y z) = ord x y ∨ (p = false ∧ z.num = 0 ∧ ord (op p x z) (op p y z) = 0) := by
  cases p
  · by_cases c : z.num = 0
    · right
      refine ⟨rfl, c, ?_⟩
      rw [ord_zero]
      have : z = 0 := Rat.num_eq_zero.1 c
      subst this
      unfold op
      simp
    · left
      have hz0 : 0 < z := by
        have h1 : 0 ≤ z := Rat.num_nonneg.1 hz
        refine Rat.not_le.1 (fun h => ?_)
        have : z = 0 := Rat.le_antisymm h h1
        exact c (by rw [this]; rfl)
      unfold op ord
      simp only [Bool.false_eq_true, if_false, Rat.mul_lt_mul_right hz0]
  · left
    unfold op ord
    simp only [if_true, Rat.add_lt_add_right]
theorem order_op {p : Bool} {a b c d e f k n1 m1 n2 m2 : Int} (h : orderT a b c d = (k, 0)) (h1 : twoT p a b e f = (n1, m1, true)) (h2 : twoT p c d e f = (n2, m2, true)) :
    ∃ g, orderT n1 m1 n2 m2 = (g, 0) ∧ (g = k ∨ (p = false ∧ e = 0 ∧ g = 0)) := by
  obtain ⟨x, y, hx, hy, rfl, rfl, rfl, rfl, rfl⟩ := order_yes h
  obtain ⟨x', z, hx', hz, hxz, e1, e2, rfl, rfl, rfl, rfl⟩ := two_yes h1
  have := rat_same e1 e2
  subst this
  obtain ⟨y', z', hy', hz', hyz, e3, e4, e5, e6, rfl, rfl⟩ := two_yes h2
  have := rat_same e3 e4
  subst this
  have := rat_same e5 e6
  subst this
  exact ⟨_, order_rat _ _ hxz hyz, ord_op p _ _ _ hz'.1⟩
theorem order_trans {a b c d e f k l : Int} (h1 : orderT a b c d = (k, 0)) (h2 : orderT c d e f = (l, 0)) (hk : k ≤ 0) (hl : l ≤ 0) : ∃ g, orderT a b e f = (g, 0) ∧ g ≤ 0 := by
  obtain ⟨x, y, hx, hy, rfl, rfl, rfl, rfl, rfl⟩ := order_yes h1
  obtain ⟨y', z, hy', hz, e1, e2, rfl, rfl, rfl⟩ := order_yes h2
  have := rat_same e1 e2
  subst this
  exact ⟨_, order_rat _ _ hx hz, (ord_le _ _).2 (Rat.le_trans ((ord_le _ _).1 hk) ((ord_le _ _).1 hl))⟩
end Go.Proofs.Rt

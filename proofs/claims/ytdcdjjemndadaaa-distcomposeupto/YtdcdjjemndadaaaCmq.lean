import Derived.Test.YtdcdjjemndadaaaMon
namespace Go.Proofs.Ytdcdjjemndadaaa
open Go.RowKit Go.Proofs.Ytdcdjjemndadaaa.Ds

/-- the place of an outcome -/
def idx : List Pt → List Int → Nat
  | [], _ => 0
  | p :: l, x => if p.1 = x then 0 else idx l x + 1
theorem idx_at {l : List Pt} (hr : Rise l) {i : Nat} {x : List Int} {k : Int} (h : l[i]? = some (x, k)) : idx l x = i := by
  induction l generalizing i with
  | nil => simp at h
  | cons p l ih =>
    cases i with
    | zero => simp at h; subst h; simp [idx]
    | succ j =>
      simp at h
      have hne : ¬ p.1 = x := ltL_ne ((List.pairwise_cons.1 hr).1 (x, k) (List.mem_of_getElem? h))
      rw [idx, if_neg hne, ih (rise_tail hr) h]
theorem idx_inj {l : List Pt} {x y : List Int} (hx : ∃ q ∈ l, q.1 = x) (hy : ∃ q ∈ l, q.1 = y) (h : idx l x = idx l y) : x = y := by
  induction l with
  | nil => obtain ⟨q, hq, _⟩ := hx; cases hq
  | cons r l ih =>
    rw [idx, idx] at h
    by_cases h1 : r.1 = x <;> by_cases h2 : r.1 = y
    · exact h1.symm.trans h2
    · rw [if_pos h1, if_neg h2] at h; omega
    · rw [if_neg h1, if_pos h2] at h; omega
    · rw [if_neg h1, if_neg h2] at h
      refine ih ?_ ?_ (by omega)
      · obtain ⟨q, hq, e⟩ := hx
        rcases List.mem_cons.1 hq with rfl | hq
        · exact absurd e h1
        · exact ⟨q, hq, e⟩
      · obtain ⟨q, hq, e⟩ := hy
        rcases List.mem_cons.1 hq with rfl | hq
        · exact absurd e h2
        · exact ⟨q, hq, e⟩

/-- with the place told ahead -/
def tagL (i : Nat) (n : List Pt) : List Pt := n.map fun q => ((i : Int) :: q.1, q.2)
theorem tag_tot (i : Nat) (n : List Pt) : tot (tagL i n) = tot n := by
  induction n with
  | nil => rfl
  | cons p n ih => rw [tagL, List.map_cons, tot_cons, tot_cons]; exact congrArg (p.2 + ·) ih
theorem tag_wt (i : Nat) (n : List Pt) (j : Int) (o : List Int) : wt (tagL i n) (j :: o) = if (i : Int) = j then wt n o else 0 := by
  induction n with
  | nil => simp [tagL, wt]
  | cons p n ih =>
    have ih' : wt (n.map fun q => ((i : Int) :: q.1, q.2)) (j :: o) = if (i : Int) = j then wt n o else 0 := ih
    rw [tagL, List.map_cons, wt_cons, wt_cons, ih']
    by_cases hj : (i : Int) = j
    · by_cases hp : p.1 = o <;> simp [hj, hp]
    · simp [hj]
theorem tag_nil (i : Nat) (n : List Pt) : wt (tagL i n) [] = 0 := wt_none fun p hp => by
  obtain ⟨q, _, rfl⟩ := List.mem_map.1 hp
  simp

theorem sumW_single {f : List Int → Int} {l : List Pt} (z : List Int) (h : ∀ p ∈ l, p.1 ≠ z → f p.1 = 0) : sumW f l = wt l z * f z := by
  induction l with
  | nil => simp [sumW, wt]
  | cons p l ih =>
    rw [sumW, wt_cons, ih fun q hq => h q (by simp [hq]), Int.add_mul]
    by_cases hp : p.1 = z
    · rw [if_pos hp, hp]
    · rw [if_neg hp, h p (by simp) hp]; simp
theorem sumW_zero {f : List Int → Int} {l : List Pt} (h : ∀ p ∈ l, f p.1 = 0) : sumW f l = 0 := by
  induction l with
  | nil => rfl
  | cons p l ih => rw [sumW, h p (by simp), ih fun q hq => h q (by simp [hq])]; simp

theorem key_told {a l l' : List Pt} {F K : List Int → List Pt} (hK : ∀ p ∈ l, K p.1 = tagL (idx a p.1) (F p.1)) (hin : ∀ p ∈ l, ∃ q ∈ a, q.1 = p.1) (h : bindT l K = (l', 0)) :
    Dis l' ∧ ∃ A g : Int, 0 < A ∧ 0 < g ∧ (∀ p ∈ l, tot (F p.1) ∣ A) ∧ g * tot l' = A * tot l ∧ (∀ z o, (∃ q ∈ a, q.1 = z) → g * wt l' ((idx a z : Int) :: o) = wt l z * (A / tot (F z) * wt (F z) o)) ∧
      ∀ o, 0 < wt l' o → ∃ z o', o = (idx a z : Int) :: o' ∧ ∃ p ∈ l, p.1 = z := by
  obtain ⟨_, d', _, A, g, hA, hg, hdv, hw, ht⟩ := bind_told h
  refine ⟨d', A, g, hA, hg, fun p hp => ?_, ht, fun z o hz => ?_, fun o ho => ?_⟩
  · have := hdv p hp
    rw [hK p hp, tag_tot] at this
    exact this
  · rw [hw, sumW_single z]
    · by_cases hm : ∃ p ∈ l, p.1 = z
      · obtain ⟨p, hp, rfl⟩ := hm
        rw [hK p hp, tag_tot, tag_wt, if_pos rfl]
      · rw [wt_none fun p hp e => hm ⟨p, hp, e⟩]; simp
    · intro p hp hne
      rw [hK p hp, tag_wt, if_neg fun e => hne (idx_inj (hin p hp) hz (by omega))]
      simp
  · have h1 : 0 < g * wt l' o := Int.mul_pos hg ho
    rw [hw] at h1
    have h2 : ∃ p ∈ l, ¬ A / tot (K p.1) * wt (K p.1) o = 0 := by
      refine Classical.byContradiction fun hn => ?_
      rw [sumW_zero fun p hp => Classical.byContradiction fun hc => hn ⟨p, hp, hc⟩] at h1
      omega
    obtain ⟨p, hp, h3⟩ := h2
    rw [hK p hp] at h3
    cases o with
    | nil => rw [tag_nil] at h3; simp at h3
    | cons j o' =>
      rw [tag_wt] at h3
      by_cases hj : (idx a p.1 : Int) = j
      · exact ⟨p.1, o', by rw [hj], p, hp, rfl⟩
      · rw [if_neg hj] at h3; simp at h3

theorem half_bd {wa tb D U wb ta fz gz TF TG c1 c2 V E A1 A2 g1 g2 X Y TX TY : Int} (h1 : wa * tb * D ≤ U * (wb * ta)) (h2 : fz * TG * E ≤ V * (gz * TF)) (n1 : 0 ≤ fz * TG * E) (n2 : 0 ≤ U * (wb * ta)) (n3 : 0 ≤ c1 * c2) (p1 : 0 < g1) (p2 : 0 < g2)
    (eX : g1 * X = wa * (c1 * fz)) (eTX : g1 * TX = A1 * ta) (eA1 : c1 * TF = A1) (eY : g2 * Y = wb * (c2 * gz)) (eTY : g2 * TY = A2 * tb) (eA2 : c2 * TG = A2) : X * TY * (D * E) ≤ U * V * (Y * TX) := by
  have x1 : wa * tb * D * (fz * TG * E) ≤ U * (wb * ta) * (V * (gz * TF)) := Int.mul_le_mul h1 h2 n1 n2
  have x2 := Int.mul_le_mul_of_nonneg_right x1 n3
  have e1 : wa * tb * D * (fz * TG * E) * (c1 * c2) = g1 * g2 * (X * TY * (D * E)) := by
    have : g1 * g2 * (X * TY * (D * E)) = (g1 * X) * (g2 * TY) * (D * E) := by ac_rfl
    rw [this, eX, eTY, ← eA2]
    ac_rfl
  have e2 : U * (wb * ta) * (V * (gz * TF)) * (c1 * c2) = g1 * g2 * (U * V * (Y * TX)) := by
    have : g1 * g2 * (U * V * (Y * TX)) = U * V * ((g2 * Y) * (g1 * TX)) := by ac_rfl
    rw [this, eY, eTX, ← eA1]
    ac_rfl
  rw [e1, e2] at x2
  exact cancel2 p1 p2 x2

theorem pos_of {g x : Int} (hg : 0 < g) (h : 0 < g * x) : 0 < x := Int.lt_of_mul_lt_mul_left (a := g) (by simpa using h) (Int.le_of_lt hg)
theorem wt_nn {l : List Pt} (h : Dis l) (o : List Int) : 0 ≤ wt l o := ((Nn.of_pos h.pos).wt_le o).1

theorem compose_bd {a b x y : List Pt} {F G K L : List Int → List Pt} {U D V E : Int} (ha : Dis a) (hb : Dis b) (hs : Sup a b) (h : Bd a b U D) (hU : 0 < U) (_hD : 0 < D) (_hV : 0 < V) (hE : 0 < E) (hEV : E ≤ V)
    (hF : ∀ p ∈ a, Dis (F p.1) ∧ Dis (G p.1) ∧ Sup (F p.1) (G p.1) ∧ Bd (F p.1) (G p.1) V E)
    (hK : ∀ p ∈ a, K p.1 = tagL (idx a p.1) (F p.1)) (hL : ∀ p ∈ a, L p.1 = tagL (idx a p.1) (G p.1)) (hx : bindT a K = (x, 0)) (hy : bindT b L = (y, 0)) :
    Dis x ∧ Dis y ∧ Sup x y ∧ Bd x y (U * V) (D * E) := by
  have hba : ∀ p ∈ b, ∃ q ∈ a, q.1 = p.1 := fun p hp => wt_pos_mem ((hs p.1).2 (mem_wt_pos hb.rise hb.pos hp))
  have hab : ∀ p ∈ a, ∃ q ∈ b, q.1 = p.1 := fun p hp => wt_pos_mem ((hs p.1).1 (mem_wt_pos ha.rise ha.pos hp))
  obtain ⟨dx, A1, g1, pA1, pg1, dv1, t1, w1, z1⟩ := key_told hK (fun p hp => ⟨p, hp, rfl⟩) hx
  obtain ⟨dy, A2, g2, pA2, pg2, dv2, t2, w2, z2⟩ := key_told (F := G) (fun p hp => by obtain ⟨q, hq, e⟩ := hba p hp; rw [← e]; exact hL q hq) hba hy
  have ta := tot_pos2 ha.pos ha.ne
  have tb := tot_pos2 hb.pos hb.ne
  -- one outcome of a, one behind it
  have at_ : ∀ p ∈ a, 0 < wt a p.1 ∧ 0 < wt b p.1 ∧ 0 < tot (F p.1) ∧ 0 < tot (G p.1) ∧ A1 / tot (F p.1) * tot (F p.1) = A1 ∧ A2 / tot (G p.1) * tot (G p.1) = A2 ∧ 0 < A1 / tot (F p.1) ∧ 0 < A2 / tot (G p.1) := by
    intro p hp
    have q1 := mem_wt_pos ha.rise ha.pos hp
    obtain ⟨f1, f2, _⟩ := hF p hp
    have tf := tot_pos2 f1.pos f1.ne
    have tg := tot_pos2 f2.pos f2.ne
    obtain ⟨r, hr, er⟩ := hab p hp
    have d2 := dv2 r hr
    rw [er] at d2
    exact ⟨q1, (hs _).1 q1, tf, tg, Int.ediv_mul_cancel (dv1 p hp), Int.ediv_mul_cancel d2, Int.ediv_pos_of_pos_of_dvd pA1 (by omega) (dv1 p hp), Int.ediv_pos_of_pos_of_dvd pA2 (by omega) d2⟩
  have posx : ∀ p ∈ a, ∀ o, 0 < wt x ((idx a p.1 : Int) :: o) ↔ 0 < wt (F p.1) o := by
    intro p hp o
    obtain ⟨k1, k2, k3, k4, k5, k6, k7, k8⟩ := at_ p hp
    have e := w1 p.1 o ⟨p, hp, rfl⟩
    constructor
    · intro h0
      have := Int.mul_pos pg1 h0
      rw [e] at this
      have n := wt_nn (hF p hp).1 o
      rcases Int.lt_or_eq_of_le n with n | n
      · exact n
      · rw [← n] at this; simp at this
    · intro h0
      have := Int.mul_pos k1 (Int.mul_pos k7 h0)
      rw [← e] at this
      exact pos_of pg1 this
  have posy : ∀ p ∈ a, ∀ o, 0 < wt y ((idx a p.1 : Int) :: o) ↔ 0 < wt (G p.1) o := by
    intro p hp o
    obtain ⟨k1, k2, k3, k4, k5, k6, k7, k8⟩ := at_ p hp
    have e := w2 p.1 o ⟨p, hp, rfl⟩
    constructor
    · intro h0
      have := Int.mul_pos pg2 h0
      rw [e] at this
      have n := wt_nn (hF p hp).2.1 o
      rcases Int.lt_or_eq_of_le n with n | n
      · exact n
      · rw [← n] at this; simp at this
    · intro h0
      have := Int.mul_pos k2 (Int.mul_pos k8 h0)
      rw [← e] at this
      exact pos_of pg2 this
  refine ⟨dx, dy, fun o => ⟨fun ho => ?_, fun ho => ?_⟩, Int.mul_le_mul h.1 hEV (by omega) (by omega), fun o ho => ?_⟩
  · obtain ⟨z, o', rfl, p, hp, rfl⟩ := z1 o ho
    exact (posy p hp o').2 (((hF p hp).2.2.1 o').1 ((posx p hp o').1 ho))
  · obtain ⟨z, o', rfl, q, hq, rfl⟩ := z2 o ho
    obtain ⟨p, hp, e⟩ := hba q hq
    rw [← e] at ho ⊢
    exact (posx p hp o').2 (((hF p hp).2.2.1 o').2 ((posy p hp o').1 ho))
  · obtain ⟨z, o', rfl, p, hp, rfl⟩ := z1 o ho
    obtain ⟨k1, k2, k3, k4, k5, k6, k7, k8⟩ := at_ p hp
    have hf := (posx p hp o').1 ho
    obtain ⟨b1, b2⟩ := h.2 p.1 k1
    obtain ⟨c1, c2⟩ := (hF p hp).2.2.2.2 o' hf
    have ng := wt_nn (hF p hp).2.1 o'
    have e1 := w1 p.1 o' ⟨p, hp, rfl⟩
    have e2 := w2 p.1 o' ⟨p, hp, rfl⟩
    constructor
    · exact half_bd b1 c1 (Int.mul_nonneg (Int.mul_nonneg (by omega) (by omega)) (by omega)) (Int.mul_nonneg (by omega) (Int.mul_nonneg (by omega) (by omega))) (Int.mul_nonneg (by omega) (by omega)) pg1 pg2 e1 t1 k5 e2 t2 k6
    · exact half_bd b2 c2 (Int.mul_nonneg (Int.mul_nonneg ng (by omega)) (by omega)) (Int.mul_nonneg (by omega) (Int.mul_nonneg (by omega) (by omega))) (Int.mul_nonneg (by omega) (by omega)) pg2 pg1 e2 t2 k6 e1 t1 k5

/-- a greater bound -/
theorem le_up {x y d n V E : Int} (hd : 0 < d) (hE : 0 ≤ E) (hy : 0 ≤ y) (h : x * d ≤ n * y) (he : n * E ≤ V * d) : x * E ≤ V * y := by
  have a1 := Int.mul_le_mul_of_nonneg_right h hE
  have a2 := Int.mul_le_mul_of_nonneg_right he hy
  have e1 : x * d * E = x * E * d := Int.mul_right_comm _ _ _
  have e2 : n * y * E = n * E * y := Int.mul_right_comm _ _ _
  have e3 : V * d * y = V * y * d := Int.mul_right_comm _ _ _
  rw [e1, e2] at a1
  rw [e3] at a2
  exact Int.le_of_mul_le_mul_right (Int.le_trans a1 a2) hd
theorem Bd.up {l m : List Pt} {n d V E : Int} (hl : Dis l) (hm : Dis m) (h : Bd l m n d) (hd : 0 < d) (hE : 0 ≤ E) (hEV : E ≤ V) (he : n * E ≤ V * d) : Bd l m V E := by
  have ta := tot_pos2 hl.pos hl.ne
  have tb := tot_pos2 hm.pos hm.ne
  exact ⟨hEV, fun o ho => ⟨le_up hd hE (Int.mul_nonneg (wt_nn hm o) (by omega)) (h.2 o ho).1 he, le_up hd hE (Int.mul_nonneg (wt_nn hl o) (by omega)) (h.2 o ho).2 he⟩⟩

/-- the greatest of what is told behind each -/
def By (F G : List Int → List Pt) (a : List Pt) (i : Nat) (V E : Int) : Prop :=
  Rt.rightB V E = true ∧ 0 < V ∧ 0 < E ∧ E ≤ V ∧ ∀ p ∈ a.take i, Dis (F p.1) ∧ Dis (G p.1) ∧ Sup (F p.1) (G p.1) ∧ Bd (F p.1) (G p.1) V E
theorem By.nil (F G : List Int → List Pt) (a : List Pt) : By F G a 0 1 1 := ⟨by decide, by omega, by omega, by omega, by simp⟩
theorem By.sml {F G : List Int → List Pt} {a : List Pt} {i : Nat} {V E : Int} (h : By F G a i V E) : 0 ≤ V ∧ V ≤ 1073741824 ∧ 0 ≤ E ∧ E ≤ 1073741824 := by
  have := Rt.right_bd h.1
  omega
theorem By.more {F G : List Int → List Pt} {a : List Pt} {i : Nat} {V E n d k : Int} {x : List Int} (h : By F G a i V E) (hp : a[i]? = some (x, k)) (hf : farT (F x) (G x) = (n, d, 0)) (hm : V * d ≤ n * E) : By F G a (i + 1) n d := by
  obtain ⟨f1, f2, f3, f4, f5, f6, f7, _⟩ := far_told hf
  obtain ⟨h1, h2, h3, h4, h5⟩ := h
  refine ⟨f6, f4, f5, f7.1, ?_⟩
  rw [List.take_add_one, hp]
  intro p hq
  rcases List.mem_append.1 hq with hq | hq
  · obtain ⟨i1, i2, i3, i4⟩ := h5 p hq
    exact ⟨i1, i2, i3, i4.up i1 i2 h3 (by omega) f7.1 hm⟩
  · simp at hq; subst hq; exact ⟨f1, f2, f3, f7⟩
theorem By.less {F G : List Int → List Pt} {a : List Pt} {i : Nat} {V E n d k : Int} {x : List Int} (h : By F G a i V E) (hp : a[i]? = some (x, k)) (hf : farT (F x) (G x) = (n, d, 0)) (hm : ¬ V * d ≤ n * E) : By F G a (i + 1) V E := by
  obtain ⟨f1, f2, f3, f4, f5, f6, f7, _⟩ := far_told hf
  obtain ⟨h1, h2, h3, h4, h5⟩ := h
  refine ⟨h1, h2, h3, h4, ?_⟩
  rw [List.take_add_one, hp]
  intro p hq
  rcases List.mem_append.1 hq with hq | hq
  · exact h5 p hq
  · simp at hq; subst hq; exact ⟨f1, f2, f3, f7.up f1 f2 f5 (by omega) h4 (by omega)⟩

theorem compose_far {a b x y : List Pt} {F G K L : List Int → List Pt} {V E n1 d1 n4 d4 e4 n5 d5 e5 : Int} {i : Nat} (h1 : farT a b = (n1, d1, 0)) (hB : By F G a i V E) (hi : a.length ≤ i)
    (hK : ∀ p ∈ a, K p.1 = tagL (idx a p.1) (F p.1)) (hL : ∀ p ∈ a, L p.1 = tagL (idx a p.1) (G p.1)) (hx : bindT a K = (x, 0)) (hy : bindT b L = (y, 0)) (h4 : farT x y = (n4, d4, e4)) (h5 : Rt.timesT n1 d1 V E = (n5, d5, e5)) :
    e4 ≠ 6 ∧ (e4 ≠ 0 ∨ e5 ≠ 0 ∨ n4 * d5 ≤ n5 * d4) := by
  obtain ⟨ha, hb, hs, a1, a2, r1, b1, _⟩ := far_told h1
  obtain ⟨r3, a3, a4, hEV, hF⟩ := hB
  rw [List.take_of_length_le hi] at hF
  obtain ⟨dx, dy, sx, bx⟩ := compose_bd ha hb hs b1 a1 a2 a3 a4 hEV hF hK hL hx hy
  refine ⟨far_not dx dy (dx.two dy) sx h4, ?_⟩
  by_cases z4 : e4 = 0
  · by_cases z5 : e5 = 0
    · subst z4
      obtain ⟨_, _, _, c1, c2, _, _, hle⟩ := far_told h4
      obtain ⟨t1, t2, t3⟩ := times_told r1 r3 h5 z5
      have hbb := bx.scale (Int.mul_pos a2 a4) (by omega) t1
      have hp : 0 < n5 := by
        by_cases hn : n5 = 0
        · rw [hn, Int.zero_mul] at t1
          have := Int.mul_pos (Int.mul_pos a1 a3) (show 0 < d5 by omega)
          omega
        · omega
      exact .inr (.inr (hle n5 d5 hp (by omega) hbb))
    · exact .inr (.inl z5)
  · exact .inl z4
end Go.Proofs.Ytdcdjjemndadaaa

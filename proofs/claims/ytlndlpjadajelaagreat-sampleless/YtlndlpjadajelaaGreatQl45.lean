import Derived.Test.YtlndlpjadajelaaGreatQl44
import Derived.Test.YtlndlpjadajelaaGreatQl11
import Derived.Test.YtlndlpjadajelaaGreatQl24
import Derived.Test.YtlndlpjadajelaaGreatQl32
import Derived.Test.YtlndlpjadajelaaGreatQl13
namespace Go.Proofs.YtlndlpjadajelaaGreat
open Go.RowKit Go.Proofs.YtlndlpjadajelaaGreat.Ds

theorem q_eq (q : Rat) : q = (q.num : Rat) / ((q.den : Int) : Rat) := by
  rw [← Rat.divInt_eq_div]
  exact (Rat.num_divInt_den q).symm
theorem q_mul (q : Rat) : q * ((q.den : Int) : Rat) = (q.num : Rat) := by
  have h : (0 : Rat) < ((q.den : Int) : Rat) := int_q0 (by have := q.den_pos; omega)
  rw [show q * ((q.den : Int) : Rat) = (q.num : Rat) / ((q.den : Int) : Rat) * ((q.den : Int) : Rat) by rw [← q_eq q]]
  exact Rat.div_mul_cancel (by grind)
theorem tell_nn {q : Rat} (h0 : 0 ≤ q) {a b e : Int} (h : Rt.tell q = (a, b, e)) : (e = 0 ∧ Rt.Ok q ∧ q.num = a ∧ (q.den : Int) = b) ∨ e = 4 := by
  by_cases c : e = 0
  · subst c
    obtain ⟨h1, h2, h3⟩ := Rt.tell_ok h
    exact .inl ⟨rfl, h1, h2, h3⟩
  · refine .inr ?_
    unfold Rt.tell at h
    rw [if_neg (by have := Rat.num_nonneg.2 h0; omega)] at h
    split at h
    · simp only [Prod.mk.injEq] at h; exact h.2.2.symm
    · simp only [Prod.mk.injEq] at h; exact absurd h.2.2.symm c
theorem ok_one : Rt.Ok 1 := by unfold Rt.Ok Rt.mx; decide
/-- Lost, as rational numbers -/
theorem los_rat {pu pd P Q n m e : Int} (hch : Sb.chE pu pd = 0) (hr : Rt.rightB P Q = true) (hQP : Q ≤ P) (h : Sb.losT pu pd P Q = (n, m, e)) :
    e = 4 ∨ (e = 0 ∧ ∃ M : Rat, M.num = n ∧ (M.den : Int) = m ∧ Rt.Ok M ∧ M = 1 + (pu : Rat) / (pd : Rat) * ((P : Rat) / (Q : Rat) - 1)) := by
  obtain ⟨hpr, hpu, hpud, hpd, _⟩ := Sb.ch_ok hch
  obtain ⟨x, hx1, hx2, hx3⟩ := Rt.right_rat hr
  obtain ⟨p, hp1, hp2, hp3⟩ := Rt.right_rat hpr
  have ex : x = (P : Rat) / (Q : Rat) := by rw [← hx1, ← hx2]; exact q_eq x
  have ep : p = (pu : Rat) / (pd : Rat) := by rw [← hp1, ← hp2]; exact q_eq p
  have hQ1 : 1 ≤ Q := (Rt.right_bd hr).2.2.1
  have x1 : 1 ≤ x := by
    have h1 := q_mul x
    have h2 : (0 : Rat) < ((x.den : Int) : Rat) := int_q0 (by have := x.den_pos; omega)
    have h3 : ((x.den : Int) : Rat) ≤ (x.num : Rat) := int_q.2 (by omega)
    rw [← h1] at h3
    refine Rat.le_of_mul_le_mul_left (c := ((x.den : Int) : Rat)) ?_ h2
    grind
  have p0 : 0 ≤ p := Rat.num_nonneg.1 (by rw [hp1]; exact hpu)
  have d0 : 0 ≤ p * (x - 1) := Rat.mul_nonneg p0 (by grind)
  unfold Sb.losT at h
  rw [hch] at h
  simp only [ne_eq, not_true_eq_false, if_false] at h
  have e1 : Rt.minusT P Q 1 1 = Rt.tell (x - 1) := by
    have := Rt.minus_rat x 1 hx3 ok_one
    rw [hx1, hx2] at this
    exact this
  obtain ⟨a, b, e2, h2⟩ : ∃ a b e2, Rt.tell (x - 1) = (a, b, e2) := ⟨_, _, _, rfl⟩
  rw [e1, h2] at h
  simp only at h
  rcases tell_nn (show 0 ≤ x - 1 by grind) h2 with ⟨rfl, k1, k2, k3⟩ | rfl
  · rw [if_neg (by simp)] at h
    have e3 : Rt.timesT pu pd a b = Rt.tell (p * (x - 1)) := by
      have := Rt.times_rat p (x - 1) hp3 k1
      rw [hp1, hp2, k2, k3] at this
      exact this
    obtain ⟨a', b', e4, h4⟩ : ∃ a b e2, Rt.tell (p * (x - 1)) = (a, b, e2) := ⟨_, _, _, rfl⟩
    rw [e3, h4] at h
    simp only at h
    rcases tell_nn d0 h4 with ⟨rfl, j1, j2, j3⟩ | rfl
    · rw [if_neg (by simp)] at h
      have e5 : Rt.plusT 1 1 a' b' = Rt.tell (1 + p * (x - 1)) := by
        have := Rt.plus_rat 1 (p * (x - 1)) ok_one j1
        rw [j2, j3] at this
        exact this
      rw [e5] at h
      rcases tell_nn (show 0 ≤ 1 + p * (x - 1) by grind) h with ⟨rfl, i1, i2, i3⟩ | rfl
      · exact .inr ⟨rfl, _, i2, i3, i1, by rw [ep, ex]⟩
      · exact .inl rfl
    · rw [if_pos (by simp)] at h
      simp only [Prod.mk.injEq] at h
      exact .inl h.2.2.symm
  · rw [if_pos (by simp)] at h
    simp only [Prod.mk.injEq] at h
    exact .inl h.2.2.symm

/-- a bound on two, as rational numbers -/
theorem bd_rat {l m : List Pt} (hl : Dis l) (hm : Dis m) (hs : Sup l m) {U D : Int} (h : Bd l m U D) (o : List Int) : chR l o * (D : Rat) ≤ (U : Rat) * chR m o ∧ chR m o * (D : Rat) ≤ (U : Rat) * chR l o := by
  have tl := int_q0 (tot_pos2 hl.pos hl.ne)
  have tm := int_q0 (tot_pos2 hm.pos hm.ne)
  have el := chR_mul hl o
  have em := chR_mul hm o
  have tt := Rat.mul_pos tl tm
  by_cases c : 0 < wt l o
  · obtain ⟨h1, h2⟩ := h.2 o c
    have g1 := int_q.2 h1
    have g2 := int_q.2 h2
    simp only [Rat.intCast_mul] at g1 g2
    rw [← el, ← em] at g1 g2
    constructor
    · refine Rat.le_of_mul_le_mul_left (c := (tot l : Rat) * (tot m : Rat)) ?_ tt
      grind
    · refine Rat.le_of_mul_le_mul_left (c := (tot l : Rat) * (tot m : Rat)) ?_ tt
      grind
  · have z1 : wt l o = 0 := by have := ((Nn.of_pos hl.pos).wt_le o).1; omega
    have z2 : wt m o = 0 := by
      have := ((Nn.of_pos hm.pos).wt_le o).1
      have : ¬ 0 < wt m o := fun h => c ((hs o).2 h)
      omega
    have y1 : chR l o = 0 := by
      rw [z1] at el
      rcases Rat.mul_eq_zero.1 el with h | h
      · exact h
      · grind
    have y2 : chR m o = 0 := by
      rw [z2] at em
      rcases Rat.mul_eq_zero.1 em with h | h
      · exact h
      · grind
    rw [y1, y2]
    constructor <;> grind

/-- one row more moves what may be told of an answer by no more than r, as often as the answer moves -/
theorem gR_near {u d lo hi : Int} {l : List K.Ds.Col} (hs : K.Ds.Szs l) {q : K.Ds.Qu} (hq : q ≠ .none) {b : K.Ds.Bnd} (hb : K.Ds.bnd l 1 q = .ok b) (hh : ∀ n, ∃ y, hideT u d lo hi n = (y, 0)) (hd : 1 ≤ d) (hdu : d ≤ u) {N : Nat} (hN : (N : Int) = b.2.1)
    {R : List (List Int)} {r : List Int} (hl : R.length + 1 ≤ 4096) (h1 : ∀ r ∈ R, K.Ds.RowOk l r) (hr : K.Ds.RowOk l r) (o : List Int) :
    0 ≤ gR u d lo hi l q o R ∧ gR u d lo hi l q o (R ++ [r]) * ((d ^ N : Int) : Rat) ≤ ((u ^ N : Int) : Rat) * gR u d lo hi l q o R ∧ gR u d lo hi l q o R * ((d ^ N : Int) : Rat) ≤ ((u ^ N : Int) : Rat) * gR u d lo hi l q o (R ++ [r]) := by
  have hm := K.head_near hs hl h1 hr q hb hq
  unfold gR
  generalize (K.ans l R q).headD 0 = m at *
  generalize (K.ans l (R ++ [r]) q).headD 0 = n at *
  obtain ⟨lm, hlm⟩ := hh m
  obtain ⟨ln, f, hln, hf, hfar⟩ := hide_far (n := n) hlm
  rw [hlm, hln]
  simp only
  obtain ⟨d1, d2, s1, _, _, _, b1, _⟩ := far_told hfar
  obtain ⟨k, hk⟩ := Nat.le.dest (show f ≤ N by omega)
  have z1 := chR_nn d1 o
  have z2 := chR_nn d2 o
  obtain ⟨g1, g2⟩ := bd_rat d1 d2 s1 b1 o
  have dk : (0 : Rat) ≤ ((d ^ k : Int) : Rat) := int_qn (pow_nn (by omega) k)
  have duk : ((d ^ k : Int) : Rat) ≤ ((u ^ k : Int) : Rat) := int_q.2 (pow_le (by omega) hdu k)
  have uf : (0 : Rat) ≤ ((u ^ f : Int) : Rat) := int_qn (pow_nn (by omega) f)
  have eN : ((d ^ N : Int) : Rat) = ((d ^ f : Int) : Rat) * ((d ^ k : Int) : Rat) := by rw [← hk, Int.pow_add, Rat.intCast_mul]
  have uN : ((u ^ N : Int) : Rat) = ((u ^ f : Int) : Rat) * ((u ^ k : Int) : Rat) := by rw [← hk, Int.pow_add, Rat.intCast_mul]
  refine ⟨z1, ?_, ?_⟩
  · rw [eN, uN]
    have a1 := Rat.mul_le_mul_of_nonneg_right g2 dk
    have a2 := Rat.mul_le_mul_of_nonneg_left duk (Rat.mul_nonneg uf z1)
    grind
  · rw [eN, uN]
    have a1 := Rat.mul_le_mul_of_nonneg_right g1 dk
    have a2 := Rat.mul_le_mul_of_nonneg_left duk (Rat.mul_nonneg uf z2)
    grind
theorem gR_perm {u d lo hi : Int} {l : List K.Ds.Col} (hs : K.Ds.Szs l) {q : K.Ds.Qu} (hq : q ≠ .none) {b : K.Ds.Bnd} (hb : K.Ds.bnd l 1 q = .ok b) (o : List Int) {R R' : List (List Int)} (hl : R.length ≤ 4096) (h1 : ∀ r ∈ R, K.Ds.RowOk l r) (hp : R.Perm R') : gR u d lo hi l q o R = gR u d lo hi l q o R' := by
  unfold gR
  rw [K.head_perm hs hl h1 hp q hb hq]

theorem div_le' {a b U D c : Rat} (hD : 0 < D) (hc : c * D = U) (h : a * D ≤ U * b) : a ≤ c * b := by
  refine Rat.le_of_mul_le_mul_left (c := D) ?_ hD
  rw [← hc] at h
  have e : c * D * b = D * (c * b) := by grind
  rw [e, Rat.mul_comm] at h
  exact h
/-- of tables one of which has one row more -/
theorem amp_two {pu pd u d lo hi : Int} {l : List K.Ds.Col} (hs : K.Ds.Szs l) {q : K.Ds.Qu} (hq : q ≠ .none) {b : K.Ds.Bnd} (hb : K.Ds.bnd l 1 q = .ok b) (hh : ∀ n, ∃ y, hideT u d lo hi n = (y, 0)) (hd : 1 ≤ d) (hdu : d ≤ u) {N : Nat} (hN : (N : Int) = b.2.1) (hch : Sb.chE pu pd = 0)
    {rs us : List (List Int)} {r : List Int} (h1 : ∀ r ∈ rs, K.Ds.RowOk l r) (h2 : ∀ r ∈ us, K.Ds.RowOk l r) (hl1 : rs.length ≤ 10) (hl2 : us.length ≤ 10) (hr : K.Ds.RowOk l r) (hp : us.Perm (r :: rs)) (o : List Int) :
    0 ≤ Sb.Ex ((pu : Rat) / (pd : Rat)) rs.reverse (gR u d lo hi l q o) ∧
    Sb.Ex ((pu : Rat) / (pd : Rat)) us.reverse (gR u d lo hi l q o) ≤ (1 + (pu : Rat) / (pd : Rat) * (((u ^ N : Int) : Rat) / ((d ^ N : Int) : Rat) - 1)) * Sb.Ex ((pu : Rat) / (pd : Rat)) rs.reverse (gR u d lo hi l q o) ∧
    Sb.Ex ((pu : Rat) / (pd : Rat)) rs.reverse (gR u d lo hi l q o) ≤ (1 + (pu : Rat) / (pd : Rat) * (((u ^ N : Int) : Rat) / ((d ^ N : Int) : Rat) - 1)) * Sb.Ex ((pu : Rat) / (pd : Rat)) us.reverse (gR u d lo hi l q o) := by
  obtain ⟨hpr, hpu, hpud, hpd, _⟩ := Sb.ch_ok hch
  have dN : (0 : Rat) < ((d ^ N : Int) : Rat) := int_q0 (by have := pow_pos' hd N; omega)
  have hdv : ((u ^ N : Int) : Rat) / ((d ^ N : Int) : Rat) * ((d ^ N : Int) : Rat) = ((u ^ N : Int) : Rat) := Rat.div_mul_cancel (by grind)
  have hc : 1 ≤ ((u ^ N : Int) : Rat) / ((d ^ N : Int) : Rat) := by
    refine Rat.le_of_mul_le_mul_left (c := ((d ^ N : Int) : Rat)) ?_ dN
    have := int_q.2 (pow_le (show 0 ≤ d by omega) hdu N)
    grind
  have pq : (0 : Rat) < (pd : Rat) := int_q0 (by omega)
  have hpp : (pu : Rat) / (pd : Rat) * (pd : Rat) = (pu : Rat) := Rat.div_mul_cancel (by grind)
  have p0 : 0 ≤ (pu : Rat) / (pd : Rat) := by
    refine Rat.le_of_mul_le_mul_left (c := (pd : Rat)) ?_ pq
    have := int_qn hpu
    grind
  have p1 : (pu : Rat) / (pd : Rat) ≤ 1 := by
    refine Rat.le_of_mul_le_mul_left (c := (pd : Rat)) ?_ pq
    have := int_q.2 hpud
    grind
  have hV : ∀ x ∈ rs.reverse, K.Ds.RowOk l x := fun x hx => h1 x (List.mem_reverse.1 hx)
  have e : Sb.Ex ((pu : Rat) / (pd : Rat)) us.reverse (gR u d lo hi l q o) = Sb.Ex ((pu : Rat) / (pd : Rat)) (r :: rs.reverse) (gR u d lo hi l q o) :=
    Sb.Ey_perm (V := K.Ds.RowOk l) ((List.reverse_perm us).trans (hp.trans (List.Perm.cons r (List.reverse_perm rs).symm))) (fun x hx => h2 x (List.mem_reverse.1 hx)) fun R R' a b' c => gR_perm hs hq hb o (by simp at b'; omega) a c
  rw [e]
  refine Sb.Ey_amp (V := K.Ds.RowOk l) p0 p1 hc hV ?_ ?_ ?_
  · intro R hR hn
    exact (gR_near hs hq hb hh hd hdu hN (by simp at hn; omega) hR hr o).1
  · intro R hR hn
    exact div_le' dN hdv (gR_near hs hq hb hh hd hdu hN (by simp at hn; omega) hR hr o).2.1
  · intro R hR hn
    exact div_le' dN hdv (gR_near hs hq hb hh hd hdu hN (by simp at hn; omega) hR hr o).2.2

/-- two that are at most M times likelier than each other -/
theorem far_of_rat {x y : List Pt} (hx : Dis x) (hy : Dis y) {M : Rat} (hM1 : 1 ≤ M) (h : ∀ o, 0 ≤ chR x o ∧ chR y o ≤ M * chR x o ∧ chR x o ≤ M * chR y o) {a b e : Int} (hf : farT x y = (a, b, e)) : (e = 0 ∨ e = 4) ∧ (e = 0 → a * (M.den : Int) ≤ M.num * b) := by
  have tx := int_q0 (tot_pos2 hx.pos hx.ne)
  have ty := int_q0 (tot_pos2 hy.pos hy.ne)
  have pos : ∀ {z : List Pt}, Dis z → ∀ o, (0 < wt z o ↔ 0 < chR z o) := fun {z} hz o => by
    have tz := int_q0 (tot_pos2 hz.pos hz.ne)
    have ez := chR_mul hz o
    constructor
    · intro h0
      have h1 := int_q0 h0
      have h2 := chR_nn hz o
      rcases Rat.le_iff_lt_or_eq.1 h2 with h3 | h3
      · exact h3
      · rw [← h3, Rat.zero_mul] at ez
        grind
    · intro h0
      have h1 := Rat.mul_pos h0 tz
      rw [ez] at h1
      have := Rat.intCast_lt_intCast.1 (show ((0 : Int) : Rat) < (wt z o : Rat) by simpa using h1)
      exact this
  have M0 : 0 < M := by grind
  have sup : Sup x y := fun o => by
    rw [pos hx, pos hy]
    obtain ⟨h1, h2, h3⟩ := h o
    have hyn := chR_nn hy o
    constructor
    · intro h0
      rcases Rat.le_iff_lt_or_eq.1 hyn with h4 | h4
      · exact h4
      · rw [← h4, Rat.mul_zero] at h3
        grind
    · intro h0
      rcases Rat.le_iff_lt_or_eq.1 h1 with h4 | h4
      · exact h4
      · rw [← h4, Rat.mul_zero] at h2
        grind
  have two : twoE x y = 0 := by unfold twoE; rw [hx.own, hy.own]; rfl
  have dm : (0 : Rat) < ((M.den : Int) : Rat) := int_q0 (by have := M.den_pos; omega)
  have em := q_mul M
  have bd : Bd x y M.num (M.den : Int) := by
    refine ⟨?_, fun o _ => ?_⟩
    · have : ((M.den : Int) : Rat) ≤ (M.num : Rat) := by
        rw [← em]
        have := Rat.mul_le_mul_of_nonneg_right hM1 (Rat.le_of_lt dm)
        grind
      exact int_q.1 this
    · obtain ⟨h1, h2, h3⟩ := h o
      have ex := chR_mul hx o
      have ey := chR_mul hy o
      have k : (0 : Rat) ≤ (tot x : Rat) * (tot y : Rat) * ((M.den : Int) : Rat) := Rat.mul_nonneg (Rat.mul_nonneg (Rat.le_of_lt tx) (Rat.le_of_lt ty)) (Rat.le_of_lt dm)
      have k2 := Rat.mul_le_mul_of_nonneg_left h2 k
      have k3 := Rat.mul_le_mul_of_nonneg_left h3 k
      constructor
      · refine int_q.1 ?_
        simp only [Rat.intCast_mul]
        rw [← ex, ← ey, ← em]
        grind
      · refine int_q.1 ?_
        simp only [Rat.intCast_mul]
        rw [← ex, ← ey, ← em]
        grind
  have hn : 0 < M.num := by
    have := Rat.mul_pos M0 dm
    rw [em] at this
    exact Rat.intCast_lt_intCast.1 (show ((0 : Int) : Rat) < (M.num : Rat) by simpa using this)
  refine ⟨?_, fun he => ?_⟩
  · rcases far_is hx hy two with ⟨h0, _⟩ | ⟨_, U, D, hU, hD, h1, _⟩
    · exact absurd sup h0
    · rw [h1] at hf
      rcases mkT_err (Int.le_of_lt hU) hD hf with h2 | ⟨h2, _⟩
      · exact .inl h2
      · exact .inr h2
  · subst he
    obtain ⟨_, _, _, _, _, _, _, hmin⟩ := far_told hf
    exact hmin _ _ hn (by have := M.den_pos; omega) bd

/-- AMPLIFICATION BY SAMPLING -/
theorem less_main {pu pd u d lo hi : Int} {l : List K.Ds.Col} {rs us : List (List Int)} {q : K.Ds.Qu} (hq : q ≠ .none) (hw1 : K.Ds.wroE l rs = 0) (hw2 : K.Ds.wroE l us = 0) (hD : K.Ds.apaS (K.Ds.celT l rs) (K.Ds.celT l us) = 1)
    {x y : List Pt} (hx : smpT pu pd u d lo hi l rs q = (x, 0)) (hy : smpT pu pd u d lo hi l us q = (y, 0)) {b1 b2 b3 e3 : Int} (ht : K.typV (K.typ l q) = ((b1, b2, b3), e3)) :
    e3 = 0 ∧ ∀ P Q, Rt.powT u d b2 = (P, Q, 0) → ∀ n m e5, Sb.losT pu pd P Q = (n, m, e5) → (e5 = 0 ∨ e5 = 4) ∧ (e5 = 0 → ∀ a b e6, farT x y = (a, b, e6) → (e6 = 0 ∨ e6 = 4) ∧ (e6 = 0 → a * m ≤ n * b)) := by
  obtain ⟨hce, _, hok1⟩ := K.Ds.wroE_ok hw1
  obtain ⟨_, _, hok2⟩ := K.Ds.wroE_ok hw2
  have hsz := (K.Ds.colE_ok hce).2.2.1
  obtain ⟨hch, hl1, dx, ⟨b, hb⟩, hh, hxr⟩ := samp_rat hq hw1 hx
  obtain ⟨_, hl2, dy, _, _, hyr⟩ := samp_rat hq hw2 hy
  have htb : K.typV (K.typ l q) = (b, 0) := by
    unfold K.typ
    rw [if_pos hce, hb]
    rfl
  rw [htb] at ht
  simp only [Prod.mk.injEq] at ht
  obtain ⟨hbb, rfl⟩ := ht
  refine ⟨rfl, fun P Q hP n m e5 hl5 => ?_⟩
  obtain ⟨y0, hy0⟩ := hh 0
  obtain ⟨_, _, hls, _⟩ := hide_two (n := 0) hy0
  obtain ⟨hr, hdu, hd1, _⟩ := loss_ok hls
  unfold Rt.powT Rt.mx at hP
  rw [if_pos hr] at hP
  by_cases k1 : b2 < 0 ∨ 4096 < b2
  · rw [if_pos k1] at hP; simp at hP
  · rw [if_neg k1] at hP
    by_cases k2 : 1073741824 < u ^ b2.toNat ∨ 1073741824 < d ^ b2.toNat
    · rw [if_pos k2] at hP; simp at hP
    · rw [if_neg k2] at hP
      simp only [Prod.mk.injEq, and_true] at hP
      obtain ⟨rfl, rfl⟩ := hP
      have hN : ((b2.toNat : Nat) : Int) = b.2.1 := by rw [hbb]; simp only; omega
      generalize b2.toNat = N at *
      have hrr : Rt.rightB (u ^ N) (d ^ N) = true := by
        obtain ⟨x', rfl⟩ := Int.eq_ofNat_of_zero_le (show 0 ≤ u by omega)
        obtain ⟨y', rfl⟩ := Int.eq_ofNat_of_zero_le (show 0 ≤ d by omega)
        have hg := (Rt.right_nat x' y').1 hr
        have e1 : ((x' : Int)) ^ N = ((x' ^ N : Nat) : Int) := (Int.natCast_pow x' N).symm
        have e2 : ((y' : Int)) ^ N = ((y' ^ N : Nat) : Int) := (Int.natCast_pow y' N).symm
        rw [e1, e2] at k2 ⊢
        exact (Rt.right_nat _ _).2 ⟨by omega, Nat.pow_pos hg.2.1, by omega, Nat.Coprime.pow N N hg.2.2.2⟩
      rcases los_rat hch hrr (pow_le (by omega) hdu N) hl5 with rfl | ⟨rfl, M, hM1, hM2, _, hM⟩
      · exact ⟨.inr rfl, fun h => by simp at h⟩
      · refine ⟨.inl rfl, fun _ a b' e6 hf => ?_⟩
        rw [← hM1, ← hM2]
        have hone : 1 ≤ M := by
          rw [hM]
          obtain ⟨_, hpu, _, hpd, _⟩ := Sb.ch_ok hch
          have pq : (0 : Rat) < (pd : Rat) := int_q0 (by omega)
          have hpp : (pu : Rat) / (pd : Rat) * (pd : Rat) = (pu : Rat) := Rat.div_mul_cancel (by grind)
          have p0 : 0 ≤ (pu : Rat) / (pd : Rat) := by
            refine Rat.le_of_mul_le_mul_left (c := (pd : Rat)) ?_ pq
            have := int_qn hpu
            grind
          have dN : (0 : Rat) < ((d ^ N : Int) : Rat) := int_q0 (by have := pow_pos' hd1 N; omega)
          have hdv : ((u ^ N : Int) : Rat) / ((d ^ N : Int) : Rat) * ((d ^ N : Int) : Rat) = ((u ^ N : Int) : Rat) := Rat.div_mul_cancel (by grind)
          have hc : 1 ≤ ((u ^ N : Int) : Rat) / ((d ^ N : Int) : Rat) := by
            refine Rat.le_of_mul_le_mul_left (c := ((d ^ N : Int) : Rat)) ?_ dN
            have := int_q.2 (pow_le (show 0 ≤ d by omega) hdu N)
            grind
          have := Rat.mul_nonneg p0 (show 0 ≤ ((u ^ N : Int) : Rat) / ((d ^ N : Int) : Rat) - 1 by grind)
          grind
        refine far_of_rat dx dy hone (fun o => ?_) hf
        rw [hxr o, hyr o, hM]
        obtain ⟨r, hr', hp | hp⟩ := K.near_perm hsz hok1 hok2 hD
        · exact amp_two hsz hq hb hh hd1 hdu hN hch hok1 hok2 hl1 hl2 hr' hp o
        · obtain ⟨a1, a2, a3⟩ := amp_two hsz hq hb hh hd1 hdu hN hch hok2 hok1 hl2 hl1 hr' hp o
          have := chR_nn dx o
          rw [hxr o] at this
          exact ⟨this, a3, a2⟩
end Go.Proofs.YtlndlpjadajelaaGreat

namespace Go.Proofs.YtlndlpjadajelaaGreat
open Go.RowKit Go.Shelf Go.Proofs.YtlndlpjadajelaaGreat.Ds

theorem sub_alive : Sb.subT 1 2 1 = ([([0], 1), ([1], 1)], 0) := by decide
set_option maxHeartbeats 1000000 in
theorem alive11_any (w : World) : Calls Tryz.prog 23 #[] w fun x w' => x = .returned (.bool true) ∧ Below w.heap.size w w' := by
  have kc := fun W => subsets_any 1 2 1 _ _ sub_alive W
  go_enter Tryz.func23, Tryz.ntmps23
  go_wp2_with fail
  refine (kc _).mono ?_
  rintro e w1 ⟨v1, us, rfl, k1, k2, hb1, _⟩
  obtain ⟨a1, c1, hv⟩ := k2.slice
  have hl : us.length = 2 := by rw [← rd_len, k1]; rfl
  rw [hl] at hv
  subst hv
  have hbw : Below w.heap.size w w1 := by first | exact hb1 | exact bt (ba _ _) hb1
  clear k1 k2 hb1 kc
  go_wp2
  go_ret
  exact ⟨by first | rfl | simp, hbw⟩

theorem los_bd {pu pd P Q n m e : Int} (h : Sb.losT pu pd P Q = (n, m, e)) : 0 ≤ n ∧ n ≤ 1073741824 ∧ 0 ≤ m ∧ m ≤ 1073741824 := by
  unfold Sb.losT at h
  split at h
  · simp only [Prod.mk.injEq] at h; omega
  · split at h
    split at h
    · simp only [Prod.mk.injEq] at h; omega
    · split at h
      split at h
      · simp only [Prod.mk.injEq] at h; omega
      · exact plus_bd h

/-- what the law keeps in boxes -/
structure Env7 (W : World) (N : Nat) (pu pd u d : Int) (cs rs ct rt v0 v1 v2 v3 v4 v5 : Value) : Prop where
  p0 : K.Cl W N 0 (.int .i64 pu)
  p1 : K.Cl W N 1 (.int .i64 pd)
  r0 : K.Cl W (N + 1) 0 (.int .i64 u)
  r1 : K.Cl W (N + 1) 1 (.int .i64 d)
  s0 : K.Cl W (N + 2) 0 cs
  s1 : K.Cl W (N + 2) 1 rs
  t0 : K.Cl W (N + 3) 0 ct
  t1 : K.Cl W (N + 3) 1 rt
  a : K.Bx W (N + 4) v0 v1 v2 v3 v4 v5
theorem Env7.at {W W' : World} {N : Nat} {pu pd u d : Int} {cs rs ct rt v0 v1 v2 v3 v4 v5 : Value} (h : Env7 W N pu pd u d cs rs ct rt v0 v1 v2 v3 v4 v5) (hb : Below W.heap.size W W') : Env7 W' N pu pd u d cs rs ct rt v0 v1 v2 v3 v4 v5 :=
  ⟨h.p0.at hb, h.p1.at hb, h.r0.at hb, h.r1.at hb, h.s0.at hb, h.s1.at hb, h.t0.at hb, h.t1.at hb, h.a.at hb⟩

set_option maxHeartbeats 4000000 in
set_option maxRecDepth 100000 in
theorem sampleLess_walk (B : Nat) (pu pd u d lo hi : Int) (cs rs ct rt v0 v1 v2 v3 v4 v5 : Value) (l : List K.Ds.Col) (ts : List K.Rw) (l2 : List K.Ds.Col) (ts2 : List K.Rw) (q : K.Ds.Qu) (w : World) (hB : B ≤ w.heap.size) (hp : K.Cols w B cs l) (hr : K.Rws w B rs ts) (hp2 : K.Cols w B ct l2) (hr2 : K.Rws w B rt ts2) (hq : K.Qm w B q v0 v1 v2 v3 v4 v5) :
    Calls Tryz.prog 7 #[rv pu pd, rv u d, .int .i64 lo, .int .i64 hi, .agg #[cs, rs], .agg #[ct, rt], .agg #[v0, v1, v2, v3, v4, v5]] w fun e w' => e = .returned (.bool true) ∧ Below w.heap.size w w' := by
  have HP : Hid (K.Cols w B cs l) := hp
  have HR : Hid (K.Rws w B rs ts) := hr
  have HP2 : Hid (K.Cols w B ct l2) := hp2
  have HR2 : Hid (K.Rws w B rt ts2) := hr2
  have HQ : Hid (K.Qm w B q v0 v1 v2 v3 v4 v5) := hq
  obtain ⟨n1, HN1⟩ : ∃ n1, Hid (K.Ds.apaT l l2 (K.rr ts) (K.rr ts2) = n1) := ⟨_, rfl⟩
  obtain ⟨e1, HE1⟩ : ∃ e1, Hid (K.Ds.apaE l l2 (K.rr ts) (K.rr ts2) = e1) := ⟨_, rfl⟩
  obtain ⟨⟨x, ex⟩, HX⟩ : ∃ y, Hid (smpT pu pd u d lo hi l (K.rr ts) q = y) := ⟨_, rfl⟩
  obtain ⟨⟨y, ey⟩, HY⟩ : ∃ z, Hid (smpT pu pd u d lo hi l2 (K.rr ts2) q = z) := ⟨_, rfl⟩
  obtain ⟨⟨⟨b1, b2, b3⟩, e3⟩, HT⟩ : ∃ z, Hid (K.typV (K.typ l q) = z) := ⟨_, rfl⟩
  obtain ⟨⟨P, Q, e4⟩, HPW⟩ : ∃ z, Hid (Rt.powT u d b2 = z) := ⟨_, rfl⟩
  obtain ⟨⟨n, m, e5⟩, HL⟩ : ∃ z, Hid (Sb.losT pu pd P Q = z) := ⟨_, rfl⟩
  obtain ⟨⟨fa, fb, e6⟩, HF⟩ : ∃ z, Hid (farT x y = z) := ⟨_, rfl⟩
  obtain ⟨W, hW⟩ : ∃ W, ((((w.alloc (.cells #[.int .i64 pu, .int .i64 pd] 23)).alloc (.cells #[.int .i64 u, .int .i64 d] 23)).alloc (.cells #[cs, rs] 27)).alloc (.cells #[ct, rt] 27)).alloc (.cells #[v0, v1, v2, v3, v4, v5] 31) = W := ⟨_, rfl⟩
  have hbW : Below w.heap.size w W := hW ▸ bal (bal (bal (bal (ba _ _) _) _) _) _
  have P0 : K.Cl W w.heap.size 0 (.int .i64 pu) := hW ▸ ((((K.Cl.new _ 23 _ _ rfl rfl).at (ba _ _)).at (ba _ _)).at (ba _ _)).at (ba _ _)
  have P1 : K.Cl W w.heap.size 1 (.int .i64 pd) := hW ▸ ((((K.Cl.new _ 23 _ _ rfl rfl).at (ba _ _)).at (ba _ _)).at (ba _ _)).at (ba _ _)
  have R0 : K.Cl W (w.heap.size + 1) 0 (.int .i64 u) := hW ▸ (((K.Cl.new _ 23 _ _ (by simp) rfl).at (ba _ _)).at (ba _ _)).at (ba _ _)
  have R1 : K.Cl W (w.heap.size + 1) 1 (.int .i64 d) := hW ▸ (((K.Cl.new _ 23 _ _ (by simp) rfl).at (ba _ _)).at (ba _ _)).at (ba _ _)
  have S0 : K.Cl W (w.heap.size + 2) 0 cs := hW ▸ ((K.Cl.new _ 27 _ _ (by simp) rfl).at (ba _ _)).at (ba _ _)
  have S1 : K.Cl W (w.heap.size + 2) 1 rs := hW ▸ ((K.Cl.new _ 27 _ _ (by simp) rfl).at (ba _ _)).at (ba _ _)
  have T0 : K.Cl W (w.heap.size + 3) 0 ct := hW ▸ (K.Cl.new _ 27 _ _ (by simp) rfl).at (ba _ _)
  have T1 : K.Cl W (w.heap.size + 3) 1 rt := hW ▸ (K.Cl.new _ 27 _ _ (by simp) rfl).at (ba _ _)
  have A0 : K.Bx W (w.heap.size + 4) v0 v1 v2 v3 v4 v5 := hW ▸ K.Bx.new _ _ (by simp) _ _ _ _ _ _
  have HE : Hid (Env7 W w.heap.size pu pd u d cs rs ct rt v0 v1 v2 v3 v4 v5) := ⟨P0, P1, R0, R1, S0, S1, T0, T1, A0⟩
  obtain ⟨la, lc, rfl, _⟩ := hp.slice
  obtain ⟨ra, rc, rfl, _⟩ := hr.slice
  obtain ⟨la2, lc2, rfl, _⟩ := hp2.slice
  obtain ⟨ra2, rc2, rfl, _⟩ := hr2.slice
  obtain ⟨kk, kc, kl, kh, ka, kn, kd, kb, km, kp, rfl, rfl, rfl, rfl, rfl, rfl⟩ := hq.shape
  clear hp hr hp2 hr2 hq P0 P1 R0 R1 S0 S1 T0 T1 A0
  go_enter Tryz.func7, Tryz.ntmps7
  go_wp2_with fail
  clear hW
  refine (alive11_any W).mono ?_
  rintro e w1 ⟨rfl, hb1⟩
  have hbw1 := bt hbW hb1
  have HE1' : Hid (Env7 w1 w.heap.size pu pd u d (.slice la l.length lc) (.slice ra ts.length rc) (.slice la2 l2.length lc2) (.slice ra2 ts2.length rc2) (.int .i64 kk) (.string kc) (.int .i64 kl) (.int .i64 kh) (.slice ka kn kd) (.slice kb km kp)) := HE.out.at hb1
  clear HE hb1
  have s0 := HE1'.out.s0.c
  have s1 := HE1'.out.s1.c
  have t0 := HE1'.out.t0.c
  have t1 := HE1'.out.t1.c
  have kA := K.apart_any B _ _ _ _ l l2 ts ts2 w1 (Nat.le_trans hB hbw1.size) (HP.out.at hB hbw1) (HR.out.at hB hbw1) (HP2.out.at hB hbw1) (HR2.out.at hB hbw1) n1 e1 HN1.out HE1.out
  go_wp2_with fail
  refine kA.mono ?_
  rintro e w2 ⟨rfl, hb2⟩
  have hbw2 := bt hbw1 hb2
  have HE2 : Hid (Env7 w2 w.heap.size pu pd u d (.slice la l.length lc) (.slice ra ts.length rc) (.slice la2 l2.length lc2) (.slice ra2 ts2.length rc2) (.int .i64 kk) (.string kc) (.int .i64 kl) (.int .i64 kh) (.slice ka kn kd) (.slice kb km kp)) := HE1'.out.at hb2
  clear HE1' hb2 s0 s1 t0 t1 kA
  by_cases c1 : e1 = 0
  · subst c1
    by_cases c2 : n1 = 1
    · subst c2
      obtain ⟨rfl, HW1, HW2, HD⟩ : l = l2 ∧ Hid (K.Ds.wroE l (K.rr ts) = 0) ∧ Hid (K.Ds.wroE l (K.rr ts2) = 0) ∧ Hid (K.Ds.apaS (K.Ds.celT l (K.rr ts)) (K.Ds.celT l (K.rr ts2)) = 1) := by
        have h1 := HE1.out
        have h2 := HN1.out
        unfold K.Ds.apaT at h2
        rw [if_pos h1] at h2
        unfold K.Ds.apaE at h1
        split at h1
        · rename_i g1
          split at h1
          · rename_i g2
            split at h1
            · rename_i g3
              subst g3
              exact ⟨rfl, g1, g2, h2⟩
            · simp at h1
          · rename_i g2; exact absurd h1 g2
        · rename_i g1; exact absurd h1 g1
      have p0 := HE2.out.p0.c
      have p1 := HE2.out.p1.c
      have r0 := HE2.out.r0.c
      have r1 := HE2.out.r1.c
      have s0 := HE2.out.s0.c
      have s1 := HE2.out.s1.c
      have a0 := HE2.out.a.a0.c
      have a1 := HE2.out.a.a1.c
      have a2 := HE2.out.a.a2.c
      have a3 := HE2.out.a.a3.c
      have a4 := HE2.out.a.a4.c
      have a5 := HE2.out.a.a5.c
      have k1 := sampled_any B pu pd u d lo hi _ _ _ _ _ _ _ _ l ts q w2 (Nat.le_trans hB hbw2.size) (HP.out.at hB hbw2) (HR.out.at hB hbw2) (HQ.out.at hB hbw2) x ex HX.out
      go_wp2_with fail
      refine k1.mono ?_
      rintro e w3 ⟨y3, us, rfl, j1, j2, hb3, _⟩
      have hbw3 := bt hbw2 hb3
      have HU : Hid (Parts w3 w3.heap.size y3 us ∧ rd us = x) := ⟨j2.parts, j1⟩
      obtain ⟨o3, c3, rfl⟩ := j2.slice
      have HE3 : Hid (Env7 w3 w.heap.size pu pd u d (.slice la l.length lc) (.slice ra ts.length rc) (.slice la2 l.length lc2) (.slice ra2 ts2.length rc2) (.int .i64 kk) (.string kc) (.int .i64 kl) (.int .i64 kh) (.slice ka kn kd) (.slice kb km kp)) := HE2.out.at hb3
      clear HE2 hb3 p0 p1 r0 r1 s0 s1 a0 a1 a2 a3 a4 a5 k1 j1 j2
      have p0 := HE3.out.p0.c
      have p1 := HE3.out.p1.c
      have r0 := HE3.out.r0.c
      have r1 := HE3.out.r1.c
      have t0 := HE3.out.t0.c
      have t1 := HE3.out.t1.c
      have a0 := HE3.out.a.a0.c
      have a1 := HE3.out.a.a1.c
      have a2 := HE3.out.a.a2.c
      have a3 := HE3.out.a.a3.c
      have a4 := HE3.out.a.a4.c
      have a5 := HE3.out.a.a5.c
      have k2 := sampled_any B pu pd u d lo hi _ _ _ _ _ _ _ _ l ts2 q w3 (Nat.le_trans hB hbw3.size) (HP2.out.at hB hbw3) (HR2.out.at hB hbw3) (HQ.out.at hB hbw3) y ey HY.out
      go_wp2_with fail
      refine k2.mono ?_
      rintro e w4 ⟨y4, us2, rfl, j1, j2, hb4, _⟩
      have hbw4 := bt hbw3 hb4
      have HU2 : Hid (Parts w4 w4.heap.size y4 us2 ∧ rd us2 = y) := ⟨j2.parts, j1⟩
      have HU1 : Hid (Parts w4 w4.heap.size (.slice o3 us.length c3) us ∧ rd us = x) := ⟨(HU.out.1.keep hb4).mono hb4.size, HU.out.2⟩
      obtain ⟨o4, c4, rfl⟩ := j2.slice
      have HE4 : Hid (Env7 w4 w.heap.size pu pd u d (.slice la l.length lc) (.slice ra ts.length rc) (.slice la2 l.length lc2) (.slice ra2 ts2.length rc2) (.int .i64 kk) (.string kc) (.int .i64 kl) (.int .i64 kh) (.slice ka kn kd) (.slice kb km kp)) := HE3.out.at hb4
      clear HE3 hb4 p0 p1 r0 r1 t0 t1 a0 a1 a2 a3 a4 a5 k2 j1 j2 HU
      by_cases cx : ex = 0
      · subst cx
        by_cases cy : ey = 0
        · subst cy
          obtain ⟨rfl, HM⟩ : e3 = 0 ∧ Hid (∀ P Q, Rt.powT u d b2 = (P, Q, 0) → ∀ n m e5, Sb.losT pu pd P Q = (n, m, e5) → (e5 = 0 ∨ e5 = 4) ∧ (e5 = 0 → ∀ a b e6, farT x y = (a, b, e6) → (e6 = 0 ∨ e6 = 4) ∧ (e6 = 0 → a * m ≤ n * b))) := less_main HQ.out.ne HW1.out HW2.out HD.out HX.out HY.out HT.out
          have s0 := HE4.out.s0.c
          have a0 := HE4.out.a.a0.c
          have a1 := HE4.out.a.a1.c
          have a2 := HE4.out.a.a2.c
          have a3 := HE4.out.a.a3.c
          have a4 := HE4.out.a.a4.c
          have a5 := HE4.out.a.a5.c
          have kt := K.type_any l q w4 B _ _ _ _ _ _ _ b1 b2 b3 0 (Nat.le_trans hB hbw4.size) (HP.out.at hB hbw4) (HQ.out.at hB hbw4) HT.out
          go_wp2_with fail
          refine kt.mono ?_
          rintro e w5 ⟨rfl, hb5⟩
          have hbq : ∀ o, Below w4.heap.size w4 (w5.alloc o) := fun o => bal hb5 o
          have r0 : ∀ o, (w5.alloc o).cell? ⟨w.heap.size + 1, 0, none⟩ = some (.int .i64 u) := fun o => (HE4.out.r0.at (hbq o)).c
          have r1 : ∀ o, (w5.alloc o).cell? ⟨w.heap.size + 1, 1, none⟩ = some (.int .i64 d) := fun o => (HE4.out.r1.at (hbq o)).c
          clear s0 a0 a1 a2 a3 a4 a5 kt
          go_wp2_with fail
          refine (power_any u d b2 P Q e4 HPW.out _).mono ?_
          rintro e w6 ⟨rfl, hb6⟩
          have hb46 : Below w4.heap.size w4 w6 := bt (hbq _) hb6
          clear r0 r1
          by_cases c4' : e4 = 0
          · subst c4'
            have HM2 := HM.out P Q HPW.out n m e5 HL.out
            have p0 : ∀ o, (w6.alloc o).cell? ⟨w.heap.size, 0, none⟩ = some (.int .i64 pu) := fun o => (HE4.out.p0.at (bal hb46 o)).c
            have p1 : ∀ o, (w6.alloc o).cell? ⟨w.heap.size, 1, none⟩ = some (.int .i64 pd) := fun o => (HE4.out.p1.at (bal hb46 o)).c
            have HM3 : Hid ((e5 = 0 ∨ e5 = 4) ∧ (e5 = 0 → ∀ a b e6, farT x y = (a, b, e6) → (e6 = 0 ∨ e6 = 4) ∧ (e6 = 0 → a * m ≤ n * b))) := HM2
            clear HM2
            go_wp2_with fail
            refine (slost_any pu pd P Q n m e5 HL.out _).mono ?_
            rintro e w7 ⟨rfl, hb7⟩
            have hb47 : Below w4.heap.size w4 w7 := bt (bal hb46 _) hb7
            clear p0 p1
            rcases HM3.out.1 with c5 | c5
            · subst c5
              have HM4 : Hid ((e6 = 0 ∨ e6 = 4) ∧ (e6 = 0 → fa * m ≤ n * fb)) := HM3.out.2 rfl fa fb e6 HF.out
              have hb48 : ∀ o, Below w4.heap.size w4 (w7.alloc o) := fun o => bal hb47 o
              have kf : ∀ o, Calls Tryz.prog 13 #[.slice o3 us.length c3, .slice o4 us2.length c4] (w7.alloc o) fun e w' => e = .returned (.tuple #[rv fa fb, .int .i64 e6]) ∧ Below (w7.alloc o).heap.size (w7.alloc o) w' := fun o => far_any w4.heap.size _ _ us us2 _ (hb48 o).size (HU1.out.1.keep (hb48 o)) (HU2.out.1.keep (hb48 o)) fa fb e6 (by rw [HU1.out.2, HU2.out.2]; exact HF.out)
              have HN : Hid (K.Cl (w7.alloc (.cells #[.int .i64 n, .int .i64 m] 23)) w7.heap.size 0 (.int .i64 n) ∧ K.Cl (w7.alloc (.cells #[.int .i64 n, .int .i64 m] 23)) w7.heap.size 1 (.int .i64 m)) := ⟨K.Cl.new _ 23 _ _ rfl rfl, K.Cl.new _ 23 _ _ rfl rfl⟩
              go_wp2_with fail
              refine (kf _).mono ?_
              rintro e w8 ⟨rfl, hb8⟩
              have hb49 : Below w4.heap.size w4 w8 := bt (hb48 _) hb8
              have g0 : ∀ o, (w8.alloc o).cell? ⟨w7.heap.size, 0, none⟩ = some (.int .i64 n) := fun o => ((HN.out.1.at hb8).at (ba _ o)).c
              have g1 : ∀ o, (w8.alloc o).cell? ⟨w7.heap.size, 1, none⟩ = some (.int .i64 m) := fun o => ((HN.out.2.at hb8).at (ba _ o)).c
              clear kf
              rcases HM4.out.1 with c6 | c6
              · subst c6
                have hfb := far_bd HF.out
                have hnb : 0 ≤ n ∧ n ≤ 1073741824 ∧ 0 ≤ m ∧ m ≤ 1073741824 := los_bd HL.out
                have kmm := fun W => refMost_any fa fb n m hfb.1 hfb.2.1 hfb.2.2.1 hfb.2.2.2 hnb.1 hnb.2.1 hnb.2.2.1 hnb.2.2.2 true (decide_eq_true (HM4.out.2 rfl)) W
                clear hfb hnb
                go_wp2_with fail
                refine (kmm _).mono ?_
                rintro e w9 ⟨rfl, hb9⟩
                have hbw9 : Below w.heap.size w w9 := bt hbw4 (bt (bal hb49 _) hb9)
                go_wp2
                go_ret
                exact ⟨by first | rfl | simp, hbw9⟩
              · subst c6
                have hbw9 := bt hbw4 (bal hb49 (.cells #[.int .i64 fa, .int .i64 fb] 23))
                go_wp2
                go_ret
                exact ⟨by first | rfl | simp, hbw9⟩
            · subst c5
              have hbw9 := bt hbw4 (bal hb47 (.cells #[.int .i64 n, .int .i64 m] 23))
              go_wp2
              go_ret
              exact ⟨by first | rfl | simp, hbw9⟩
          · have h5 : (e4 == 0) = false := by simpa using c4'
            have h6 : (e4 != 0) = true := by simpa using c4'
            have hbw9 := bt hbw4 (bal hb46 (.cells #[.int .i64 P, .int .i64 Q] 23))
            go_wp2
            go_ret
            exact ⟨by first | rfl | simp, hbw9⟩
        · have h5 : (ey == 0) = false := by simpa using cy
          have h6 : (ey != 0) = true := by simpa using cy
          go_wp2
          go_ret
          exact ⟨by first | rfl | simp, hbw4⟩
      · have h5 : (ex == 0) = false := by simpa using cx
        have h6 : (ex != 0) = true := by simpa using cx
        go_wp2
        go_ret
        exact ⟨by first | rfl | simp, hbw4⟩
    · have h5 : (n1 == 1) = false := by simpa using c2
      have h6 : (n1 != 1) = true := by simpa using c2
      go_wp2
      go_ret
      exact ⟨by first | rfl | simp, hbw2⟩
  · have h5 : (e1 == 0) = false := by simpa using c1
    have h6 : (e1 != 0) = true := by simpa using c1
    go_wp2
    go_ret
    exact ⟨by first | rfl | simp, hbw2⟩
end Go.Proofs.YtlndlpjadajelaaGreat

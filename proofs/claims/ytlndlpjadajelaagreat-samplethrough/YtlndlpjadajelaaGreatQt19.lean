import Derived.Test.YtlndlpjadajelaaGreatQt18
namespace Go.Proofs.YtlndlpjadajelaaGreat
open Go.RowKit Go.Proofs.YtlndlpjadajelaaGreat.Ds

/-! ### what is told of a fraction -/
theorem mkT_told {U D n d : Int} (_hU : 0 ≤ U) (hD : 1 ≤ D) (h : Rt.mkT U D = (n, d, 0)) : n * D = U * d ∧ 0 ≤ n ∧ 1 ≤ d ∧ Rt.rightB n d = true := by
  rw [Rt.mkT_tell U D hD] at h
  obtain ⟨hok, h1, h2⟩ := Rt.tell_ok h
  have hr := Rt.rat_right _ hok
  rw [h1, h2] at hr
  have hd := Rt.den1 (Rat.divInt U D)
  rw [h2] at hd
  have h3 : Rat.divInt n d = Rat.divInt U D := by rw [← h1, ← h2]; exact Rt.num_div_den _
  refine ⟨(Rat.divInt_eq_divInt_iff (by omega) (by omega)).1 h3, ?_, hd, hr⟩
  rw [← h1]; exact hok.1
theorem mkT_err {U D n d e : Int} (hU : 0 ≤ U) (hD : 1 ≤ D) (h : Rt.mkT U D = (n, d, e)) : e = 0 ∨ (e = 4 ∧ n = 0 ∧ d = 0) := by
  rcases Rt.mkT_of U D n d e hU hD h with ⟨_, h1, h2, h3⟩ | ⟨_, _, _, _, h3⟩
  · exact .inr ⟨h3.symm, h1.symm, h2.symm⟩
  · exact .inl h3.symm

/-! ### the same both ways -/
theorem mrgP_swap (l m : List Pt) : mrgP m l = (mrgP l m).map Prod.swap := by
  induction l, m using mrgP.induct with
  | case1 => simp [mrgP]
  | case2 b bs ih => rw [mrgP, mrgP, ih]; rfl
  | case3 a az ih => rw [mrgP, mrgP, ih]; rfl
  | case4 a az b bs h ih =>
    have h' : cmpT b.1 a.1 = - cmpT a.1 b.1 := cmpT_swap _ _
    rw [mrgP, if_neg (by omega), if_pos (by omega), ih, mrgP, if_pos h]; rfl
  | case5 a az b bs h1 h2 ih =>
    have h' : cmpT b.1 a.1 = - cmpT a.1 b.1 := cmpT_swap _ _
    rw [mrgP, if_pos (by omega), ih, mrgP, if_neg h1, if_pos h2]; rfl
  | case6 a az b bs h1 h2 ih =>
    have h' : cmpT b.1 a.1 = - cmpT a.1 b.1 := cmpT_swap _ _
    rw [mrgP, if_neg (by omega), if_neg (by omega), ih, mrgP, if_neg h1, if_neg h2]; rfl

theorem farStep_swap (Ta Tb : Int) (q : Int × Int) (p : Pt × Pt) : farStep Tb Ta q p.swap = farStep Ta Tb q p := by
  obtain ⟨⟨o1, k1⟩, ⟨o2, k2⟩⟩ := p
  simp only [farStep, Prod.swap]
  by_cases h1 : k1 * Tb < k2 * Ta
  · rw [if_pos h1, if_neg (by omega)]
  · rw [if_neg h1]
    by_cases h2 : k2 * Ta < k1 * Tb
    · rw [if_pos h2]
    · have e : k1 * Tb = k2 * Ta := by omega
      rw [if_neg h2, e]
theorem farF_swap (Ta Tb : Int) (L : List (Pt × Pt)) : farF Tb Ta (L.map Prod.swap) = farF Ta Tb L := by
  unfold farF
  rw [List.foldl_map]
  congr
  funext q p
  exact farStep_swap Ta Tb q p
theorem lone_swap (L : List (Pt × Pt)) : (L.map Prod.swap).any lone = L.any lone := by
  rw [List.any_map]
  congr
  funext p
  simp only [Function.comp, lone, Prod.swap, Bool.or_comm]

theorem twoE_swap (l m : List Pt) : twoE l m = 0 ↔ twoE m l = 0 := by
  unfold twoE
  by_cases h1 : (ownT l).2 = 0 <;> by_cases h2 : (ownT m).2 = 0 <;> simp [h1, h2]
theorem far_swap {l m : List Pt} {n d e : Int} (h : farT l m = (n, d, e)) : ∃ e', farT m l = (n, d, e') ∧ (e = 0 ↔ e' = 0) := by
  unfold farT at *
  by_cases h0 : twoE l m = 0
  · have h0' := (twoE_swap l m).1 h0
    rw [if_pos h0] at h
    rw [if_pos h0', mrgP_swap l m, lone_swap, farF_swap, h]
    exact ⟨e, rfl, Iff.rfl⟩
  · have h0' := fun k => h0 ((twoE_swap l m).2 k)
    rw [if_neg h0] at h
    rw [if_neg h0']
    simp only [Prod.mk.injEq] at h
    obtain ⟨rfl, rfl, rfl⟩ := h
    exact ⟨_, rfl, ⟨fun k => absurd k h0, fun k => absurd k h0'⟩⟩

/-- all weights of the first, and of the second -/
def sum1 : List (Pt × Pt) → Int
  | [] => 0
  | p :: L => p.1.2 + sum1 L
def sum2 : List (Pt × Pt) → Int
  | [] => 0
  | p :: L => p.2.2 + sum2 L
theorem mrg_sums (l m : List Pt) : sum1 (mrgP l m) = tot l ∧ sum2 (mrgP l m) = tot m := by
  induction l, m using mrgP.induct with
  | case1 => simp [mrgP, sum1, sum2]
  | case2 b bs ih => rw [mrgP]; constructor <;> simp [sum1, sum2, tot_cons, ih]
  | case3 a az ih => rw [mrgP]; constructor <;> simp [sum1, sum2, tot_cons, ih]
  | case4 a az b bs h ih => rw [mrgP, if_pos h]; constructor <;> simp [sum1, sum2, tot_cons, ih]
  | case5 a az b bs h1 h2 ih => rw [mrgP, if_neg h1, if_pos h2]; constructor <;> simp [sum1, sum2, tot_cons, ih]
  | case6 a az b bs h1 h2 ih => rw [mrgP, if_neg h1, if_neg h2]; constructor <;> simp [sum1, sum2, tot_cons, ih]
theorem apS_diff (Ta Tb : Int) (L : List (Pt × Pt)) : apS Tb Ta (L.map Prod.swap) = apS Ta Tb L - (sum1 L * Tb - sum2 L * Ta) := by
  induction L with
  | nil => simp [apS, sum1, sum2]
  | cons p L ih =>
    simp only [List.map_cons, apS, ih, sum1, sum2, Prod.swap, Int.add_mul]
    omega
theorem apS_swap (l m : List Pt) : apS (tot m) (tot l) (mrgP m l) = apS (tot l) (tot m) (mrgP l m) := by
  rw [mrgP_swap l m, apS_diff, (mrg_sums l m).1, (mrg_sums l m).2, Int.mul_comm (tot m)]
  omega
theorem apart_swap {l m : List Pt} {n d e : Int} (h : apartT l m = (n, d, e)) : ∃ e', apartT m l = (n, d, e') ∧ (e = 0 ↔ e' = 0) := by
  unfold apartT at *
  by_cases h0 : twoE l m = 0
  · have h0' := (twoE_swap l m).1 h0
    rw [if_pos h0] at h
    rw [if_pos h0', apS_swap, Int.mul_comm, h]
    exact ⟨e, rfl, Iff.rfl⟩
  · have h0' := fun k => h0 ((twoE_swap l m).2 k)
    rw [if_neg h0] at h
    rw [if_neg h0']
    simp only [Prod.mk.injEq] at h
    obtain ⟨rfl, rfl, rfl⟩ := h
    exact ⟨_, rfl, ⟨fun k => absurd k h0, fun k => absurd k h0'⟩⟩

/-! ### what Far tells -/
/-- they may be the same -/
def Sup (l m : List Pt) : Prop := ∀ o, 0 < wt l o ↔ 0 < wt m o
/-- nothing is more than U / D times likelier -/
def Bd (l m : List Pt) (U D : Int) : Prop := D ≤ U ∧ ∀ o, 0 < wt l o → wt l o * tot m * D ≤ U * (wt m o * tot l) ∧ wt m o * tot l * D ≤ U * (wt l o * tot m)

theorem wt_pos_mem {l : List Pt} {o : List Int} (h : 0 < wt l o) : ∃ p ∈ l, p.1 = o := by
  by_cases hc : ∃ p ∈ l, p.1 = o
  · exact hc
  · have : wt l o = 0 := wt_none fun p hp e => hc ⟨p, hp, e⟩
    omega
theorem mem_wt_pos {l : List Pt} (hr : Rise l) (hp : Pos l) {p : Pt} (h : p ∈ l) : 0 < wt l p.1 := by
  rw [wt_mem hr h]; exact hp p h
theorem outs_all {l m : List Pt} (hl : Nn l) {o : List Int} (h : 0 < wt l o ∨ 0 < wt m o) : o ∈ outsT l m := by
  simp only [outsT, List.mem_append, List.mem_map, List.mem_filter]
  by_cases h1 : 0 < wt l o
  · obtain ⟨p, hp, rfl⟩ := wt_pos_mem h1
    exact .inl ⟨p, hp, rfl⟩
  · obtain ⟨p, hp, rfl⟩ := wt_pos_mem (h.resolve_left h1)
    have := (hl.wt_le p.1).1
    exact .inr ⟨p, ⟨hp, by simp; omega⟩, rfl⟩
theorem sup_outs {l m : List Pt} (hl : Dis l) (hm : Dis m) : (mrgP l m).any lone = false ↔ Sup l m := by
  have nl := Nn.of_pos hl.pos
  have nm := Nn.of_pos hm.pos
  rw [lone_outs hl hm, List.any_eq_false]
  constructor
  · intro h o
    have key : 0 < wt l o ∨ 0 < wt m o → ¬ wt l o = 0 ∧ ¬ wt m o = 0 := by
      intro h1
      have := h _ (List.mem_map_of_mem (f := ow l m) (outs_all nl h1))
      simp only [lonW, ow, Bool.or_eq_true, beq_iff_eq, not_or] at this
      exact this
    have b1 := (nl.wt_le o).1
    have b2 := (nm.wt_le o).1
    constructor
    · intro h1; have := (key (.inl h1)).2; omega
    · intro h1; have := (key (.inr h1)).1; omega
  · intro h q hq
    obtain ⟨o, ho, rfl⟩ := List.mem_map.1 hq
    have h3 := h o
    simp only [lonW, ow, Bool.or_eq_true, beq_iff_eq, not_or]
    rcases outs_mem ho with ⟨p, hp, rfl⟩ | ⟨p, hp, rfl⟩
    · have h1 := mem_wt_pos hl.rise hl.pos hp; have := h3.1 h1; omega
    · have h1 := mem_wt_pos hm.rise hm.pos hp; have := h3.2 h1; omega

/-- what Far is -/
theorem far_is {l m : List Pt} (hl : Dis l) (hm : Dis m) (he : twoE l m = 0) :
    (¬ Sup l m ∧ farT l m = (0, 0, 6)) ∨ (Sup l m ∧ ∃ U D, 0 < U ∧ 0 < D ∧ farT l m = Rt.mkT U D ∧ Bd l m U D ∧ ∀ N M, 0 < N → 0 < M → Bd l m N M → U * M ≤ N * D) := by
  by_cases hn : (mrgP l m).any lone = false
  · refine .inr ⟨(sup_outs hl hm).1 hn, ?_⟩
    have hTa := tot_pos2 hl.pos hl.ne
    have hTb := tot_pos2 hm.pos hm.ne
    have nl := Nn.of_pos hl.pos
    have nm := Nn.of_pos hm.pos
    have hsup := (sup_outs hl hm).1 hn
    have hps : Psl ((outsT l m).map (ow l m)) := by
      intro q hq
      obtain ⟨o, ho, rfl⟩ := List.mem_map.1 hq
      rcases outs_mem ho with ⟨p, hp, rfl⟩ | ⟨p, hp, rfl⟩
      · have h1 := mem_wt_pos hl.rise hl.pos hp; exact ⟨h1, (hsup p.1).1 h1⟩
      · have h1 := mem_wt_pos hm.rise hm.pos hp; exact ⟨(hsup p.1).2 h1, h1⟩
    have hmx := farR_mx hTa hTb _ hps
    have hp := frc_ps hTa hTb hps hmx.1
    have hfar : farT l m = Rt.mkT (farR (tot l) (tot m) ((outsT l m).map (ow l m))).1 (farR (tot l) (tot m) ((outsT l m).map (ow l m))).2 := by
      rw [farT, if_pos he, hn]
      simp only [Bool.false_eq_true, if_false]
      exact far_outs hl hm hn
    generalize farR (tot l) (tot m) ((outsT l m).map (ow l m)) = q at *
    refine ⟨q.1, q.2, hp.1, hp.2, hfar, ⟨?_, fun o ho => ?_⟩, fun N M hN hM hB => ?_⟩
    · have := hmx.2 (1, 1) (.inl rfl)
      simp only [Int.one_mul, Int.mul_one] at this
      exact this
    · have hmem : ow l m o ∈ (outsT l m).map (ow l m) := List.mem_map_of_mem (outs_all nl (.inl ho))
      exact ⟨hmx.2 _ (.inr ⟨_, hmem, .inl rfl⟩), hmx.2 _ (.inr ⟨_, hmem, .inr rfl⟩)⟩
    · rcases hmx.1 with h1 | ⟨x, hx, h1⟩
      · rw [h1]; have := hB.1; simp only [Int.one_mul, Int.mul_one]; exact this
      · obtain ⟨o, ho, rfl⟩ := List.mem_map.1 hx
        have hwo : 0 < wt l o := (hps _ hx).1
        rcases h1 with h1 | h1
        · rw [h1]; exact (hB.2 o hwo).1
        · rw [h1]; exact (hB.2 o hwo).2
  · refine .inl ⟨fun h => hn ((sup_outs hl hm).2 h), ?_⟩
    have hn' : (mrgP l m).any lone = true := by simpa using hn
    rw [farT, if_pos he, if_pos hn']

theorem le_scale {x y U D n d : Int} (hD : 0 < D) (hd : 0 ≤ d) (h : x * D ≤ U * y) (he : n * D = U * d) : x * d ≤ n * y := by
  have a1 : x * D * d ≤ U * y * d := Int.mul_le_mul_of_nonneg_right h hd
  have e1 : x * D * d = x * d * D := Int.mul_right_comm _ _ _
  have e2 : U * y * d = n * y * D := by rw [Int.mul_right_comm, ← he, Int.mul_right_comm]
  rw [e1, e2] at a1
  exact Int.le_of_mul_le_mul_right a1 hD
theorem Bd.scale {l m : List Pt} {U D n d : Int} (h : Bd l m U D) (hD : 0 < D) (hd : 0 ≤ d) (he : n * D = U * d) : Bd l m n d := by
  refine ⟨?_, fun o ho => ⟨le_scale hD hd (h.2 o ho).1 he, le_scale hD hd (h.2 o ho).2 he⟩⟩
  have := le_scale (x := 1) (y := 1) hD hd (by have := h.1; omega) he
  omega

/-- what is told -/
theorem far_told {l m : List Pt} {n d : Int} (h : farT l m = (n, d, 0)) :
    Dis l ∧ Dis m ∧ Sup l m ∧ 0 < n ∧ 0 < d ∧ Rt.rightB n d = true ∧ Bd l m n d ∧ ∀ N M, 0 < N → 0 < M → Bd l m N M → n * M ≤ N * d := by
  have he : twoE l m = 0 := by
    by_cases he : twoE l m = 0
    · exact he
    · rw [farT, if_neg he] at h; simp only [Prod.mk.injEq] at h; exact absurd h.2.2 he
  obtain ⟨hl, hm⟩ := twoE_ok he
  rcases far_is hl hm he with ⟨_, h1⟩ | ⟨hs, U, D, hU, hD, h1, hb, hle⟩
  · rw [h1] at h; simp at h
  · rw [h1] at h
    obtain ⟨e1, e2, e3, e4⟩ := mkT_told (Int.le_of_lt hU) hD h
    have hn : 0 < n := by
      by_cases hn : n = 0
      · rw [hn, Int.zero_mul] at e1
        have := Int.mul_pos hU (show 0 < d by omega)
        omega
      · omega
    refine ⟨hl, hm, hs, hn, by omega, e4, hb.scale hD (by omega) e1, fun N M hN hM hB => ?_⟩
    have h3 := hle N M hN hM hB
    have h4 := le_scale (x := U) (y := M) (U := N) (D := D) (n := N) (d := D) hD (by omega)
    -- n / d = U / D
    have a1 : U * M * d ≤ N * D * d := Int.mul_le_mul_of_nonneg_right h3 (by omega)
    have e5 : U * M * d = n * M * D := by rw [Int.mul_right_comm, ← e1, Int.mul_right_comm]
    have e6 : N * D * d = N * d * D := Int.mul_right_comm _ _ _
    rw [e5, e6] at a1
    exact Int.le_of_mul_le_mul_right a1 hD
/-- where it is not told -/
theorem far_not {l m : List Pt} (hl : Dis l) (hm : Dis m) (he : twoE l m = 0) (hs : Sup l m) {n d e : Int} (h : farT l m = (n, d, e)) : e ≠ 6 := by
  rcases far_is hl hm he with ⟨h0, _⟩ | ⟨_, U, D, hU, hD, h1, _⟩
  · exact absurd hs h0
  · rw [h1] at h
    rcases mkT_err (Int.le_of_lt hU) hD h with h2 | ⟨h2, _⟩ <;> omega

theorem Bd.trans {l m k : List Pt} {U D V E : Int} (hl : Dis l) (hm : Dis m) (hk : Dis k) (hs : Sup l m) (h : Bd l m U D) (g : Bd m k V E) (hU : 0 < U) (_hD : 0 < D) (_hV : 0 < V) (hE : 0 < E) : Bd l k (U * V) (D * E) := by
  have tl := tot_pos2 hl.pos hl.ne
  have tm := tot_pos2 hm.pos hm.ne
  have tk := tot_pos2 hk.pos hk.ne
  refine ⟨Int.mul_le_mul h.1 g.1 (by omega) (by omega), fun o ho => ?_⟩
  have hmo := (hs o).1 ho
  obtain ⟨h1, h2⟩ := h.2 o ho
  obtain ⟨g1, g2⟩ := g.2 o hmo
  have nk : 0 ≤ wt k o := ((Nn.of_pos hk.pos).wt_le o).1
  generalize wt l o = a at *
  generalize wt m o = b at *
  generalize wt k o = c at *
  generalize tot l = A at *
  generalize tot m = B at *
  generalize tot k = C at *
  have pos : 0 < b * B := Int.mul_pos hmo tm
  constructor
  · have x1 : a * B * D * (b * C * E) ≤ U * (b * A) * (V * (c * B)) := Int.mul_le_mul h1 g1 (Int.mul_nonneg (Int.mul_nonneg (by omega) (by omega)) (by omega)) (Int.mul_nonneg (by omega) (Int.mul_nonneg (by omega) (by omega)))
    have e1 : a * B * D * (b * C * E) = a * C * (D * E) * (b * B) := by ac_rfl
    have e2 : U * (b * A) * (V * (c * B)) = U * V * (c * A) * (b * B) := by ac_rfl
    rw [e1, e2] at x1
    exact Int.le_of_mul_le_mul_right x1 pos
  · have x1 : b * A * D * (c * B * E) ≤ U * (a * B) * (V * (b * C)) := Int.mul_le_mul h2 g2 (Int.mul_nonneg (Int.mul_nonneg nk (by omega)) (by omega)) (Int.mul_nonneg (by omega) (Int.mul_nonneg (by omega) (by omega)))
    have e1 : b * A * D * (c * B * E) = c * A * (D * E) * (b * B) := by ac_rfl
    have e2 : U * (a * B) * (V * (b * C)) = U * V * (a * C) * (b * B) := by ac_rfl
    rw [e1, e2] at x1
    exact Int.le_of_mul_le_mul_right x1 pos
end Go.Proofs.YtlndlpjadajelaaGreat

namespace Go.Proofs.YtlndlpjadajelaaGreat
open Go.RowKit Go.Proofs.YtlndlpjadajelaaGreat.Ds

/-! ### the same just where nothing is likelier -/
def grow (g : Int) (l : List Pt) : List Pt := l.map fun p => (p.1, g * p.2)
theorem grow_wt (g : Int) (l : List Pt) (o : List Int) : wt (grow g l) o = g * wt l o := by
  induction l with
  | nil => simp [grow]
  | cons p l ih =>
    simp only [grow, List.map_cons] at *
    rw [wt_cons, wt_cons, ih, Int.mul_add]
    simp only
    split <;> simp
theorem grow_rise {g : Int} {l : List Pt} (h : Rise l) : Rise (grow g l) := by
  unfold Rise grow
  rw [List.pairwise_map]
  exact h
theorem grow_pos {g : Int} {l : List Pt} (hg : 0 < g) (h : Pos l) : Pos (grow g l) := by
  intro p hp
  obtain ⟨q, hq, rfl⟩ := List.mem_map.1 hp
  exact Int.mul_pos hg (h q hq)

theorem prop_same {l m : List Pt} (hl : Dis l) (hm : Dis m) (h : ∀ o, wt l o * tot m = wt m o * tot l) : l = m := by
  have tl := tot_pos2 hl.pos hl.ne
  have tm := tot_pos2 hm.pos hm.ne
  obtain ⟨A, hA⟩ := Int.eq_ofNat_of_zero_le (Int.le_of_lt tl)
  obtain ⟨B, hB⟩ := Int.eq_ofNat_of_zero_le (Int.le_of_lt tm)
  have h1 : grow (B : Int) l = grow (A : Int) m := by
    refine rise_uniq (grow_rise hl.rise) (grow_pos (by omega) hl.pos) (grow_rise hm.rise) (grow_pos (by omega) hm.pos) fun o => ?_
    rw [grow_wt, grow_wt, ← hB, ← hA, Int.mul_comm, h o, Int.mul_comm]
  have h2 : B * dv l = A * dv m := by rw [← dv_mul, ← dv_mul]; exact congrArg dv h1
  rw [hl.one, hm.one] at h2
  have h3 : tot l = tot m := by omega
  refine rise_uniq hl.rise hl.pos hm.rise hm.pos fun o => ?_
  have h4 := h o
  rw [h3] at h4
  exact Int.eq_of_mul_eq_mul_right (by omega) h4

theorem right_same {n : Int} (h : Rt.rightB n n = true) (hn : 0 < n) : n = 1 := by
  unfold Rt.rightB at h
  obtain ⟨_, _, _, _, h5⟩ := of_decide_eq_true h
  rw [Int.gcd_self] at h5
  omega

theorem far_one {l m : List Pt} {n d : Int} (h : farT l m = (n, d, 0)) : (n = 1 ∧ d = 1) ↔ l = m := by
  obtain ⟨hl, hm, hs, hn, hd, hr, hb, hle⟩ := far_told h
  constructor
  · rintro ⟨rfl, rfl⟩
    refine prop_same hl hm fun o => ?_
    by_cases ho : 0 < wt l o
    · obtain ⟨h1, h2⟩ := hb.2 o ho
      omega
    · have h1 := ((Nn.of_pos hl.pos).wt_le o).1
      have h2 := ((Nn.of_pos hm.pos).wt_le o).1
      have h3 : ¬ 0 < wt m o := fun k => ho ((hs o).2 k)
      rw [show wt l o = 0 by omega, show wt m o = 0 by omega, Int.zero_mul, Int.zero_mul]
  · rintro rfl
    have h1 := hle 1 1 (by omega) (by omega) ⟨by omega, fun o _ => ⟨by omega, by omega⟩⟩
    have h2 := hb.1
    obtain rfl : n = d := by omega
    have := right_same hr hn
    exact ⟨this, this⟩
theorem far_ge {l m : List Pt} {n d : Int} (h : farT l m = (n, d, 0)) : ¬ n < d := by
  have := (far_told h).2.2.2.2.2.2.1.1
  omega

/-! ### Apart, by the outcomes of the first -/
def sumL (f : List Int → Int) : List Pt → Int
  | [] => 0
  | p :: l => f p.1 + sumL f l
theorem sumL_nn {f : List Int → Int} (h : ∀ o, 0 ≤ f o) (l : List Pt) : 0 ≤ sumL f l := by
  induction l with
  | nil => simp [sumL]
  | cons p l ih => have := h p.1; simp only [sumL]; omega
theorem sumL_zero {f : List Int → Int} {l : List Pt} (h : ∀ p ∈ l, f p.1 = 0) : sumL f l = 0 := by
  induction l with
  | nil => rfl
  | cons p l ih => rw [sumL, h p (by simp), ih fun q hq => h q (by simp [hq])]; rfl
theorem sumL_le {f g : List Int → Int} {l : List Pt} (h : ∀ p ∈ l, f p.1 ≤ g p.1) : sumL f l ≤ sumL g l := by
  induction l with
  | nil => simp [sumL]
  | cons p l ih => have h1 := h p (by simp); have h2 := ih fun q hq => h q (by simp [hq]); simp only [sumL]; omega
theorem sumL_add (f g : List Int → Int) (l : List Pt) : sumL (fun o => f o + g o) l = sumL f l + sumL g l := by
  induction l with
  | nil => rfl
  | cons p l ih => simp only [sumL, ih]; omega
theorem sumL_mul (f : List Int → Int) (c : Int) (l : List Pt) : sumL (fun o => f o * c) l = sumL f l * c := by
  induction l with
  | nil => simp [sumL]
  | cons p l ih => simp only [sumL, ih, Int.add_mul]
theorem sumL_pos {f : List Int → Int} (hf : ∀ o, 0 ≤ f o) {l : List Pt} (h : sumL f l = 0) : ∀ p ∈ l, f p.1 = 0 := by
  induction l with
  | nil => intro p hp; cases hp
  | cons q l ih =>
    rw [sumL] at h
    have h1 := hf q.1
    have h2 := sumL_nn hf l
    intro p hp
    rcases List.mem_cons.1 hp with rfl | hp
    · omega
    · exact ih (by omega) p hp
/-- what another list has not adds nothing -/
theorem sumL_sub {f : List Int → Int} (hf : ∀ o, 0 ≤ f o) {l m : List Pt} (hl : Rise l) (hm : Rise m) (hz : ∀ o, (∀ p ∈ m, p.1 ≠ o) → f o = 0) : sumL f l ≤ sumL f m := by
  have key : ∀ l m : List Pt, Rise l → Rise m → (∀ p ∈ l, (∀ q ∈ m, q.1 ≠ p.1) → f p.1 = 0) → sumL f l ≤ sumL f m := by
    intro l m
    induction l, m using mrgP.induct with
    | case1 => intros; exact Int.le_refl _
    | case2 b bs ih => intro _ _ _; have := sumL_nn hf (b :: bs); simpa [sumL] using this
    | case3 a az ih => intro _ _ h; rw [sumL_zero fun p hp => h p hp (by intro q hq; cases hq)]; simp [sumL]
    | case4 a az b bs h ih =>
      intro h1 h2 h3
      have h4 : f a.1 = 0 := h3 a (by simp) fun q hq => by
        rcases List.mem_cons.1 hq with rfl | hq
        · exact (ltL_ne h).symm
        · exact (ltL_ne (ltL_trans h ((List.pairwise_cons.1 h2).1 q hq))).symm
      have := ih (rise_tail h1) h2 fun p hp hq => h3 p (by simp [hp]) hq
      rw [sumL, h4]; omega
    | case5 a az b bs hn h ih =>
      intro h1 h2 h3
      have hba : ltL b.1 a.1 := by unfold ltL; rw [cmpT_swap]; omega
      have := ih h1 (rise_tail h2) fun p hp hq => h3 p hp fun q hq' => by
        rcases List.mem_cons.1 hq' with rfl | hq'
        · rcases List.mem_cons.1 hp with rfl | hp
          · exact ltL_ne hba
          · exact ltL_ne (ltL_trans hba ((List.pairwise_cons.1 h1).1 p hp))
        · exact hq q hq'
      have hb := hf b.1
      rw [show sumL f (b :: bs) = f b.1 + sumL f bs from rfl]; omega
    | case6 a az b bs hn h ih =>
      intro h1 h2 h3
      have hab : a.1 = b.1 := (cmpT_zero _ _).1 (by omega)
      have := ih (rise_tail h1) (rise_tail h2) fun p hp hq => h3 p (by simp [hp]) fun q hq' => by
        rcases List.mem_cons.1 hq' with rfl | hq'
        · rw [← hab]; exact tail_ne h1 hp
        · exact hq q hq'
      rw [sumL, sumL, hab]; omega
  exact key l m hl hm fun p _ hq => hz p.1 hq

/-- by how much one is likelier -/
def gap (l m : List Pt) (o : List Int) : Int := max 0 (wt l o * tot m - wt m o * tot l)
def Ap (l m : List Pt) : Int := sumL (gap l m) l
theorem gap_nn (l m : List Pt) (o : List Int) : 0 ≤ gap l m o := by unfold gap; omega

theorem apW_append (Ta Tb : Int) (l m : List (Int × Int)) : apW Ta Tb (l ++ m) = apW Ta Tb l + apW Ta Tb m := by
  induction l with
  | nil => simp [apW]
  | cons p l ih => simp only [List.cons_append, apW, ih]; omega
theorem ap_is {l m : List Pt} (hl : Dis l) (hm : Dis m) : apS (tot l) (tot m) (mrgP l m) = Ap l m := by
  rw [ap_outs hl hm, outsT, List.map_append, apW_append, List.map_map]
  have h1 : ∀ k : List Pt, apW (tot l) (tot m) (k.map (ow l m ∘ fun x => x.1)) = sumL (gap l m) k := by
    intro k
    induction k with
    | nil => rfl
    | cons p k ih => rw [List.map_cons, apW, ih]; rfl
  have tl := tot_pos2 hl.pos hl.ne
  have h2 : ∀ k : List Pt, (∀ p ∈ k, wt l p.1 = 0) → apW (tot l) (tot m) ((k.map (·.1)).map (ow l m)) = 0 := by
    intro k
    induction k with
    | nil => intro _; rfl
    | cons p k ih =>
      intro h
      rw [List.map_cons, List.map_cons, apW, ih fun q hq => h q (by simp [hq])]
      have h3 : 0 ≤ wt m p.1 * tot l := Int.mul_nonneg ((Nn.of_pos hm.pos).wt_le p.1).1 (by omega)
      simp only [ow, h p (by simp), Int.zero_mul]
      omega
  rw [h1, h2 _ (fun p hp => by simpa using (List.mem_filter.1 hp).2), Ap]
  omega

theorem apart_told {l m : List Pt} {n d : Int} (h : apartT l m = (n, d, 0)) :
    Dis l ∧ Dis m ∧ 0 ≤ n ∧ 1 ≤ d ∧ Rt.rightB n d = true ∧ n * (tot l * tot m) = Ap l m * d := by
  have he : twoE l m = 0 := by
    by_cases he : twoE l m = 0
    · exact he
    · rw [apartT, if_neg he] at h; simp only [Prod.mk.injEq] at h; exact absurd h.2.2 he
  obtain ⟨hl, hm⟩ := twoE_ok he
  have tl := tot_pos2 hl.pos hl.ne
  have tm := tot_pos2 hm.pos hm.ne
  have tp := Int.mul_pos tl tm
  rw [apartT, if_pos he, ap_is hl hm] at h
  obtain ⟨h1, h2, h3, h4⟩ := mkT_told (sumL_nn (gap_nn l m) l) (by omega) h
  exact ⟨hl, hm, h2, h3, h4, h1⟩

theorem ap_zero {l m : List Pt} (hl : Dis l) (hm : Dis m) : Ap l m = 0 ↔ l = m := by
  have nl := Nn.of_pos hl.pos
  have nm := Nn.of_pos hm.pos
  have tl := tot_pos2 hl.pos hl.ne
  have tm := tot_pos2 hm.pos hm.ne
  constructor
  · intro h
    have h' : Ap m l = 0 := by rw [← ap_is hm hl, apS_swap, ap_is hl hm]; exact h
    have k1 := sumL_pos (gap_nn l m) h
    have k2 := sumL_pos (gap_nn m l) h'
    have key1 : ∀ o, 0 < wt l o → wt l o * tot m ≤ wt m o * tot l := by
      intro o ho
      obtain ⟨p, hp, rfl⟩ := wt_pos_mem ho
      have := k1 p hp
      unfold gap at this
      omega
    have key2 : ∀ o, 0 < wt m o → wt m o * tot l ≤ wt l o * tot m := by
      intro o ho
      obtain ⟨p, hp, rfl⟩ := wt_pos_mem ho
      have := k2 p hp
      unfold gap at this
      omega
    refine prop_same hl hm fun o => ?_
    have b1 := (nl.wt_le o).1
    have b2 := (nm.wt_le o).1
    by_cases h1 : 0 < wt l o
    · have a1 := key1 o h1
      have a2 := Int.mul_pos h1 tm
      by_cases h2 : 0 < wt m o
      · have := key2 o h2; omega
      · rw [show wt m o = 0 by omega, Int.zero_mul] at a1; omega
    · by_cases h2 : 0 < wt m o
      · have a1 := key2 o h2
        have a2 := Int.mul_pos h2 tl
        rw [show wt l o = 0 by omega, Int.zero_mul] at a1; omega
      · rw [show wt l o = 0 by omega, show wt m o = 0 by omega, Int.zero_mul, Int.zero_mul]
  · rintro rfl
    exact sumL_zero fun p _ => by unfold gap; omega
theorem apart_zero {l m : List Pt} {n d : Int} (h : apartT l m = (n, d, 0)) : n = 0 ↔ l = m := by
  obtain ⟨hl, hm, h1, h2, _, h3⟩ := apart_told h
  have tp := Int.mul_pos (tot_pos2 hl.pos hl.ne) (tot_pos2 hm.pos hm.ne)
  rw [← ap_zero hl hm]
  constructor
  · rintro rfl
    rw [Int.zero_mul] at h3
    rcases Int.mul_eq_zero.1 h3.symm with h | h
    · exact h
    · omega
  · intro h0
    rw [h0, Int.zero_mul] at h3
    rcases Int.mul_eq_zero.1 h3 with h | h
    · exact h
    · omega
theorem apart_le {l m : List Pt} {n d : Int} (h : apartT l m = (n, d, 0)) : ¬ d < n := by
  obtain ⟨hl, hm, h1, h2, _, h3⟩ := apart_told h
  have tl := tot_pos2 hl.pos hl.ne
  have tm := tot_pos2 hm.pos hm.ne
  have tp := Int.mul_pos tl tm
  have h4 : Ap l m ≤ tot l * tot m := by rw [← ap_is hl hm]; exact apS_le (Nn.of_pos hl.pos) (Nn.of_pos hm.pos) (by omega) (by omega)
  have h5 : Ap l m * d ≤ tot l * tot m * d := Int.mul_le_mul_of_nonneg_right h4 (by omega)
  rw [← h3, Int.mul_comm (tot l * tot m) d] at h5
  have := Int.le_of_mul_le_mul_right h5 tp
  omega

theorem ap_tri {l m k : List Pt} (hl : Dis l) (hm : Dis m) (hk : Dis k) : Ap l k * tot m ≤ Ap l m * tot k + Ap m k * tot l := by
  have tl := tot_pos2 hl.pos hl.ne
  have tm := tot_pos2 hm.pos hm.ne
  have tk := tot_pos2 hk.pos hk.ne
  have h1 : sumL (gap m k) l ≤ Ap m k := sumL_sub (gap_nn m k) hl.rise hm.rise fun o ho => by
    have h2 : wt m o = 0 := wt_none ho
    have h3 : 0 ≤ wt k o * tot m := Int.mul_nonneg ((Nn.of_pos hk.pos).wt_le o).1 (by omega)
    unfold gap
    rw [h2, Int.zero_mul]
    omega
  have h2 : sumL (fun o => gap l k o * tot m) l ≤ sumL (fun o => gap l m o * tot k + gap m k o * tot l) l := by
    refine sumL_le fun p _ => ?_
    have e1 : (wt l p.1 * tot k - wt k p.1 * tot l) * tot m = (wt l p.1 * tot m - wt m p.1 * tot l) * tot k + (wt m p.1 * tot k - wt k p.1 * tot m) * tot l := by
      simp only [Int.sub_mul]
      have a1 : wt l p.1 * tot k * tot m = wt l p.1 * tot m * tot k := Int.mul_right_comm _ _ _
      have a2 : wt k p.1 * tot l * tot m = wt k p.1 * tot m * tot l := Int.mul_right_comm _ _ _
      have a3 : wt m p.1 * tot l * tot k = wt m p.1 * tot k * tot l := Int.mul_right_comm _ _ _
      omega
    have g1 : 0 ≤ gap l m p.1 * tot k := Int.mul_nonneg (gap_nn _ _ _) (by omega)
    have g2 : 0 ≤ gap m k p.1 * tot l := Int.mul_nonneg (gap_nn _ _ _) (by omega)
    have g3 : (wt l p.1 * tot m - wt m p.1 * tot l) * tot k ≤ gap l m p.1 * tot k := Int.mul_le_mul_of_nonneg_right (by unfold gap; omega) (by omega)
    have g4 : (wt m p.1 * tot k - wt k p.1 * tot m) * tot l ≤ gap m k p.1 * tot l := Int.mul_le_mul_of_nonneg_right (by unfold gap; omega) (by omega)
    by_cases hz : 0 ≤ wt l p.1 * tot k - wt k p.1 * tot l
    · rw [show gap l k p.1 = wt l p.1 * tot k - wt k p.1 * tot l by unfold gap; omega, e1]; omega
    · rw [show gap l k p.1 = 0 by unfold gap; omega, Int.zero_mul]; omega
  rw [sumL_mul, sumL_add, sumL_mul, sumL_mul] at h2
  have h3 : sumL (gap m k) l * tot l ≤ Ap m k * tot l := Int.mul_le_mul_of_nonneg_right h1 (by omega)
  unfold Ap at *
  omega

/-! ### what the law asks -/
theorem times_told {a b c d n m e : Int} (h1 : Rt.rightB a b = true) (h2 : Rt.rightB c d = true) (h : Rt.timesT a b c d = (n, m, e)) (he : e = 0) : n * (b * d) = a * c * m ∧ 0 ≤ n ∧ 1 ≤ m := by
  subst he
  rw [Rt.timesT, if_pos ⟨h1, h2⟩] at h
  have b1 := Rt.right_bd h1
  have b2 := Rt.right_bd h2
  obtain ⟨e1, e2, e3, _⟩ := mkT_told (Int.mul_nonneg b1.1 b2.1) (Int.mul_pos (a := b) (b := d) (by omega) (by omega)) h
  exact ⟨e1, e2, e3⟩
theorem plus_told {a b c d n m e : Int} (h1 : Rt.rightB a b = true) (h2 : Rt.rightB c d = true) (h : Rt.plusT a b c d = (n, m, e)) (he : e = 0) : n * (b * d) = (a * d + c * b) * m ∧ 0 ≤ n ∧ 1 ≤ m := by
  subst he
  rw [Rt.plusT, if_pos ⟨h1, h2⟩] at h
  have b1 := Rt.right_bd h1
  have b2 := Rt.right_bd h2
  have p1 : 0 ≤ a * d := Int.mul_nonneg b1.1 (by omega)
  have p2 : 0 ≤ c * b := Int.mul_nonneg b2.1 (by omega)
  obtain ⟨e1, e2, e3, _⟩ := mkT_told (show 0 ≤ a * d + c * b by omega) (Int.mul_pos (a := b) (b := d) (by omega) (by omega)) h
  exact ⟨e1, e2, e3⟩

theorem metric_far {l m k : List Pt} {n1 d1 n3 d3 n4 d4 e4 n5 d5 e5 : Int} (h1 : farT l m = (n1, d1, 0)) (h3 : farT m k = (n3, d3, 0)) (h4 : farT l k = (n4, d4, e4)) (h5 : Rt.timesT n1 d1 n3 d3 = (n5, d5, e5)) :
    e4 ≠ 6 ∧ (e4 ≠ 0 ∨ e5 ≠ 0 ∨ n4 * d5 ≤ n5 * d4) := by
  obtain ⟨hl, hm, s1, a1, a2, r1, b1, _⟩ := far_told h1
  obtain ⟨_, hk, s3, a3, a4, r3, b3, _⟩ := far_told h3
  have hs : Sup l k := fun o => (s1 o).trans (s3 o)
  have he : twoE l k = 0 := by
    have x1 : twoE l m = 0 := by
      by_cases he : twoE l m = 0
      · exact he
      · rw [farT, if_neg he] at h1; simp only [Prod.mk.injEq] at h1; exact absurd h1.2.2 he
    have x2 : twoE m k = 0 := by
      by_cases he : twoE m k = 0
      · exact he
      · rw [farT, if_neg he] at h3; simp only [Prod.mk.injEq] at h3; exact absurd h3.2.2 he
    unfold twoE at *
    by_cases y1 : (ownT l).2 = 0 <;> by_cases y2 : (ownT m).2 = 0 <;> simp_all
  refine ⟨far_not hl hk he hs h4, ?_⟩
  by_cases z4 : e4 = 0
  · by_cases z5 : e5 = 0
    · subst z4
      obtain ⟨_, _, _, c1, c2, _, _, hle⟩ := far_told h4
      obtain ⟨t1, t2, t3⟩ := times_told r1 r3 h5 z5
      have hb := (b1.trans hl hm hk s1 b3 a1 a2 a3 a4).scale (Int.mul_pos a2 a4) (by omega) t1
      have hp : 0 < n5 := by
        by_cases hn : n5 = 0
        · rw [hn, Int.zero_mul] at t1
          have := Int.mul_pos (Int.mul_pos a1 a3) (show 0 < d5 by omega)
          omega
        · omega
      exact .inr (.inr (hle n5 d5 hp (by omega) hb))
    · exact .inr (.inl z5)
  · exact .inl z4

theorem metric_apart {l m k : List Pt} {n1 d1 n3 d3 n4 d4 e4 n5 d5 e5 : Int} (h1 : apartT l m = (n1, d1, 0)) (h3 : apartT m k = (n3, d3, 0)) (h4 : apartT l k = (n4, d4, e4)) (h5 : Rt.plusT n1 d1 n3 d3 = (n5, d5, e5)) :
    e4 ≠ 0 ∨ e5 ≠ 0 ∨ n4 * d5 ≤ n5 * d4 := by
  obtain ⟨hl, hm, a1, a2, r1, g1⟩ := apart_told h1
  obtain ⟨_, hk, a3, a4, r3, g3⟩ := apart_told h3
  by_cases z4 : e4 = 0
  · by_cases z5 : e5 = 0
    · subst z4
      obtain ⟨_, _, c1, c2, _, g4⟩ := apart_told h4
      obtain ⟨t1, t2, t3⟩ := plus_told r1 r3 h5 z5
      refine .inr (.inr ?_)
      have tri := ap_tri hl hm hk
      have tl := tot_pos2 hl.pos hl.ne
      have tm := tot_pos2 hm.pos hm.ne
      have tk := tot_pos2 hk.pos hk.ne
      generalize tot l = A at *
      generalize tot m = B at *
      generalize tot k = C at *
      generalize Ap l m = x at *
      generalize Ap m k = y at *
      generalize Ap l k = z at *
      have q : 0 < A * B * C * (d1 * d3) := Int.mul_pos (Int.mul_pos (Int.mul_pos tl tm) tk) (Int.mul_pos (by omega) (by omega))
      refine Int.le_of_mul_le_mul_right ?_ q
      have w1 : n4 * d5 * (A * B * C * (d1 * d3)) = z * B * (d4 * d5 * d1 * d3) := by
        have : n4 * d5 * (A * B * C * (d1 * d3)) = n4 * (A * C) * (B * d5 * (d1 * d3)) := by ac_rfl
        rw [this, g4]; ac_rfl
      have w2 : n5 * d4 * (A * B * C * (d1 * d3)) = (x * C + y * A) * (d4 * d5 * d1 * d3) := by
        have : n5 * d4 * (A * B * C * (d1 * d3)) = n5 * (d1 * d3) * (d4 * (A * B * C)) := by ac_rfl
        rw [this, t1, Int.add_mul, Int.add_mul, Int.add_mul]
        have u1 : n1 * d3 * d5 * (d4 * (A * B * C)) = n1 * (A * B) * (C * d3 * d5 * d4) := by ac_rfl
        have u2 : n3 * d1 * d5 * (d4 * (A * B * C)) = n3 * (B * C) * (A * d1 * d5 * d4) := by ac_rfl
        rw [u1, u2, g1, g3]
        have u3 : x * d1 * (C * d3 * d5 * d4) = x * C * (d4 * d5 * d1 * d3) := by ac_rfl
        have u4 : y * d3 * (A * d1 * d5 * d4) = y * A * (d4 * d5 * d1 * d3) := by ac_rfl
        rw [u3, u4]
      rw [w1, w2]
      exact Int.mul_le_mul_of_nonneg_right tri (Int.mul_nonneg (Int.mul_nonneg (Int.mul_nonneg (by omega) (by omega)) (by omega)) (by omega))
    · exact .inr (.inl z5)
  · exact .inl z4

theorem mk_bd {U D n d e : Int} (hU : 0 ≤ U) (hD : 1 ≤ D) (h : Rt.mkT U D = (n, d, e)) : 0 ≤ n ∧ n ≤ 1073741824 ∧ 0 ≤ d ∧ d ≤ 1073741824 := by
  rcases mkT_err hU hD h with rfl | ⟨_, rfl, rfl⟩
  · have := Rt.right_bd (mkT_told hU hD h).2.2.2; omega
  · omega
theorem far_bd {l m : List Pt} {n d e : Int} (h : farT l m = (n, d, e)) : 0 ≤ n ∧ n ≤ 1073741824 ∧ 0 ≤ d ∧ d ≤ 1073741824 := by
  by_cases he : twoE l m = 0
  · obtain ⟨hl, hm⟩ := twoE_ok he
    rcases far_is hl hm he with ⟨_, h1⟩ | ⟨_, U, D, hU, hD, h1, _⟩
    · rw [h1] at h; simp only [Prod.mk.injEq] at h; omega
    · rw [h1] at h; exact mk_bd (Int.le_of_lt hU) hD h
  · rw [farT, if_neg he] at h; simp only [Prod.mk.injEq] at h; omega
theorem apart_bd {l m : List Pt} {n d e : Int} (h : apartT l m = (n, d, e)) : 0 ≤ n ∧ n ≤ 1073741824 ∧ 0 ≤ d ∧ d ≤ 1073741824 := by
  by_cases he : twoE l m = 0
  · obtain ⟨hl, hm⟩ := twoE_ok he
    rw [apartT, if_pos he] at h
    exact mk_bd (apS_nn _ _ _) (Int.mul_pos (tot_pos2 hl.pos hl.ne) (tot_pos2 hm.pos hm.ne)) h
  · rw [apartT, if_neg he] at h; simp only [Prod.mk.injEq] at h; omega
theorem times_bd {a b c d n m e : Int} (h : Rt.timesT a b c d = (n, m, e)) : 0 ≤ n ∧ n ≤ 1073741824 ∧ 0 ≤ m ∧ m ≤ 1073741824 := by
  unfold Rt.timesT at h
  split at h
  · rename_i hr
    have b1 := Rt.right_bd hr.1
    have b2 := Rt.right_bd hr.2
    exact mk_bd (Int.mul_nonneg b1.1 b2.1) (Int.mul_pos (a := b) (b := d) (by omega) (by omega)) h
  · simp only [Prod.mk.injEq] at h; omega
theorem plus_bd {a b c d n m e : Int} (h : Rt.plusT a b c d = (n, m, e)) : 0 ≤ n ∧ n ≤ 1073741824 ∧ 0 ≤ m ∧ m ≤ 1073741824 := by
  unfold Rt.plusT at h
  split at h
  · rename_i hr
    have b1 := Rt.right_bd hr.1
    have b2 := Rt.right_bd hr.2
    have p1 : 0 ≤ a * d := Int.mul_nonneg b1.1 (by omega)
    have p2 : 0 ≤ c * b := Int.mul_nonneg b2.1 (by omega)
    exact mk_bd (show 0 ≤ a * d + c * b by omega) (Int.mul_pos (a := b) (b := d) (by omega) (by omega)) h
  · simp only [Prod.mk.injEq] at h; omega
end Go.Proofs.YtlndlpjadajelaaGreat

import Derived.Test.YtlndlpjadajelaaGreatQp11
namespace Go.Proofs.YtlndlpjadajelaaGreat
open Go.RowKit Go.Proofs.YtlndlpjadajelaaGreat.Ds

/-! ### what is told of a fraction -/
theorem mkT_told {U D n d : Int} (_hU : 0 ≤ U) (hD : 1 ≤ D) (h : Rt.mkT U D = (n, d, 0)) : n * D = U * d ∧ 0 ≤ n ∧ 1 ≤ d ∧ Rt.rightB n d = true := by
  rw [Rt.mkT_tell U D hD] at h
  obtain ⟨hok, h1, h2⟩ := Rt.tell_ok h
  have hr := Rt.rat_right _ hok
  rw [h1, h2] at hr
  have hd := Rt.den1 (Rat.divInt U D)
  rw [h2] at hd
  have h3 : Rat.divInt n d = Rat.divInt U D := by rw [← h1, ← h2]; exact Rt.num_div_den _
  refine ⟨(Rat.divInt_eq_divInt_iff (by omega) (by omega)).1 h3, ?_, hd, hr⟩
  rw [← h1]; exact hok.1
theorem mkT_err {U D n d e : Int} (hU : 0 ≤ U) (hD : 1 ≤ D) (h : Rt.mkT U D = (n, d, e)) : e = 0 ∨ (e = 4 ∧ n = 0 ∧ d = 0) := by
  rcases Rt.mkT_of U D n d e hU hD h with ⟨_, h1, h2, h3⟩ | ⟨_, _, _, _, h3⟩
  · exact .inr ⟨h3.symm, h1.symm, h2.symm⟩
  · exact .inl h3.symm

/-! ### the same both ways -/
theorem mrgP_swap (l m : List Pt) : mrgP m l = (mrgP l m).map Prod.swap := by
  induction l, m using mrgP.induct with
  | case1 => simp [mrgP]
  | case2 b bs ih => rw [mrgP, mrgP, ih]; rfl
  | case3 a az ih => rw [mrgP, mrgP, ih]; rfl
  | case4 a az b bs h ih =>
    have h' : cmpT b.1 a.1 = - cmpT a.1 b.1 := cmpT_swap _ _
    rw [mrgP, if_neg (by omega), if_pos (by omega), ih, mrgP, if_pos h]; rfl
  | case5 a az b bs h1 h2 ih =>
    have h' : cmpT b.1 a.1 = - cmpT a.1 b.1 := cmpT_swap _ _
    rw [mrgP, if_pos (by omega), ih, mrgP, if_neg h1, if_pos h2]; rfl
  | case6 a az b bs h1 h2 ih =>
    have h' : cmpT b.1 a.1 = - cmpT a.1 b.1 := cmpT_swap _ _
    rw [mrgP, if_neg (by omega), if_neg (by omega), ih, mrgP, if_neg h1, if_neg h2]; rfl

theorem farStep_swap (Ta Tb : Int) (q : Int × Int) (p : Pt × Pt) : farStep Tb Ta q p.swap = farStep Ta Tb q p := by
  obtain ⟨⟨o1, k1⟩, ⟨o2, k2⟩⟩ := p
  simp only [farStep, Prod.swap]
  by_cases h1 : k1 * Tb < k2 * Ta
  · rw [if_pos h1, if_neg (by omega)]
  · rw [if_neg h1]
    by_cases h2 : k2 * Ta < k1 * Tb
    · rw [if_pos h2]
    · have e : k1 * Tb = k2 * Ta := by omega
      rw [if_neg h2, e]
theorem farF_swap (Ta Tb : Int) (L : List (Pt × Pt)) : farF Tb Ta (L.map Prod.swap) = farF Ta Tb L := by
  unfold farF
  rw [List.foldl_map]
  congr
  funext q p
  exact farStep_swap Ta Tb q p
theorem lone_swap (L : List (Pt × Pt)) : (L.map Prod.swap).any lone = L.any lone := by
  rw [List.any_map]
  congr
  funext p
  simp only [Function.comp, lone, Prod.swap, Bool.or_comm]

theorem twoE_swap (l m : List Pt) : twoE l m = 0 ↔ twoE m l = 0 := by
  unfold twoE
  by_cases h1 : (ownT l).2 = 0 <;> by_cases h2 : (ownT m).2 = 0 <;> simp [h1, h2]
theorem far_swap {l m : List Pt} {n d e : Int} (h : farT l m = (n, d, e)) : ∃ e', farT m l = (n, d, e') ∧ (e = 0 ↔ e' = 0) := by
  unfold farT at *
  by_cases h0 : twoE l m = 0
  · have h0' := (twoE_swap l m).1 h0
    rw [if_pos h0] at h
    rw [if_pos h0', mrgP_swap l m, lone_swap, farF_swap, h]
    exact ⟨e, rfl, Iff.rfl⟩
  · have h0' := fun k => h0 ((twoE_swap l m).2 k)
    rw [if_neg h0] at h
    rw [if_neg h0']
    simp only [Prod.mk.injEq] at h
    obtain ⟨rfl, rfl, rfl⟩ := h
    exact ⟨_, rfl, ⟨fun k => absurd k h0, fun k => absurd k h0'⟩⟩

/-- all weights of the first, and of the second -/
def sum1 : List (Pt × Pt) → Int
  | [] => 0
  | p :: L => p.1.2 + sum1 L
def sum2 : List (Pt × Pt) → Int
  | [] => 0
  | p :: L => p.2.2 + sum2 L
theorem mrg_sums (l m : List Pt) : sum1 (mrgP l m) = tot l ∧ sum2 (mrgP l m) = tot m := by
  induction l, m using mrgP.induct with
  | case1 => simp [mrgP, sum1, sum2]
  | case2 b bs ih => rw [mrgP]; constructor <;> simp [sum1, sum2, tot_cons, ih]
  | case3 a az ih => rw [mrgP]; constructor <;> simp [sum1, sum2, tot_cons, ih]
  | case4 a az b bs h ih => rw [mrgP, if_pos h]; constructor <;> simp [sum1, sum2, tot_cons, ih]
  | case5 a az b bs h1 h2 ih => rw [mrgP, if_neg h1, if_pos h2]; constructor <;> simp [sum1, sum2, tot_cons, ih]
  | case6 a az b bs h1 h2 ih => rw [mrgP, if_neg h1, if_neg h2]; constructor <;> simp [sum1, sum2, tot_cons, ih]
theorem apS_diff (Ta Tb : Int) (L : List (Pt × Pt)) : apS Tb Ta (L.map Prod.swap) = apS Ta Tb L - (sum1 L * Tb - sum2 L * Ta) := by
  induction L with
  | nil => simp [apS, sum1, sum2]
  | cons p L ih =>
    simp only [List.map_cons, apS, ih, sum1, sum2, Prod.swap, Int.add_mul]
    omega
theorem apS_swap (l m : List Pt) : apS (tot m) (tot l) (mrgP m l) = apS (tot l) (tot m) (mrgP l m) := by
  rw [mrgP_swap l m, apS_diff, (mrg_sums l m).1, (mrg_sums l m).2, Int.mul_comm (tot m)]
  omega
theorem apart_swap {l m : List Pt} {n d e : Int} (h : apartT l m = (n, d, e)) : ∃ e', apartT m l = (n, d, e') ∧ (e = 0 ↔ e' = 0) := by
  unfold apartT at *
  by_cases h0 : twoE l m = 0
  · have h0' := (twoE_swap l m).1 h0
    rw [if_pos h0] at h
    rw [if_pos h0', apS_swap, Int.mul_comm, h]
    exact ⟨e, rfl, Iff.rfl⟩
  · have h0' := fun k => h0 ((twoE_swap l m).2 k)
    rw [if_neg h0] at h
    rw [if_neg h0']
    simp only [Prod.mk.injEq] at h
    obtain ⟨rfl, rfl, rfl⟩ := h
    exact ⟨_, rfl, ⟨fun k => absurd k h0, fun k => absurd k h0'⟩⟩

/-! ### what Far tells -/
/-- they may be the same -/
def Sup (l m : List Pt) : Prop := ∀ o, 0 < wt l o ↔ 0 < wt m o
/-- nothing is more than U / D times likelier -/
def Bd (l m : List Pt) (U D : Int) : Prop := D ≤ U ∧ ∀ o, 0 < wt l o → wt l o * tot m * D ≤ U * (wt m o * tot l) ∧ wt m o * tot l * D ≤ U * (wt l o * tot m)

theorem wt_pos_mem {l : List Pt} {o : List Int} (h : 0 < wt l o) : ∃ p ∈ l, p.1 = o := by
  by_cases hc : ∃ p ∈ l, p.1 = o
  · exact hc
  · have : wt l o = 0 := wt_none fun p hp e => hc ⟨p, hp, e⟩
    omega
theorem mem_wt_pos {l : List Pt} (hr : Rise l) (hp : Pos l) {p : Pt} (h : p ∈ l) : 0 < wt l p.1 := by
  rw [wt_mem hr h]; exact hp p h
theorem outs_all {l m : List Pt} (hl : Nn l) {o : List Int} (h : 0 < wt l o ∨ 0 < wt m o) : o ∈ outsT l m := by
  simp only [outsT, List.mem_append, List.mem_map, List.mem_filter]
  by_cases h1 : 0 < wt l o
  · obtain ⟨p, hp, rfl⟩ := wt_pos_mem h1
    exact .inl ⟨p, hp, rfl⟩
  · obtain ⟨p, hp, rfl⟩ := wt_pos_mem (h.resolve_left h1)
    have := (hl.wt_le p.1).1
    exact .inr ⟨p, ⟨hp, by simp; omega⟩, rfl⟩
theorem sup_outs {l m : List Pt} (hl : Dis l) (hm : Dis m) : (mrgP l m).any lone = false ↔ Sup l m := by
  have nl := Nn.of_pos hl.pos
  have nm := Nn.of_pos hm.pos
  rw [lone_outs hl hm, List.any_eq_false]
  constructor
  · intro h o
    have key : 0 < wt l o ∨ 0 < wt m o → ¬ wt l o = 0 ∧ ¬ wt m o = 0 := by
      intro h1
      have := h _ (List.mem_map_of_mem (f := ow l m) (outs_all nl h1))
      simp only [lonW, ow, Bool.or_eq_true, beq_iff_eq, not_or] at this
      exact this
    have b1 := (nl.wt_le o).1
    have b2 := (nm.wt_le o).1
    constructor
    · intro h1; have := (key (.inl h1)).2; omega
    · intro h1; have := (key (.inr h1)).1; omega
  · intro h q hq
    obtain ⟨o, ho, rfl⟩ := List.mem_map.1 hq
    have h3 := h o
    simp only [lonW, ow, Bool.or_eq_true, beq_iff_eq, not_or]
    rcases outs_mem ho with ⟨p, hp, rfl⟩ | ⟨p, hp, rfl⟩
    · have h1 := mem_wt_pos hl.rise hl.pos hp; have := h3.1 h1; omega
    · have h1 := mem_wt_pos hm.rise hm.pos hp; have := h3.2 h1; omega

/-- what Far is -/
theorem far_is {l m : List Pt} (hl : Dis l) (hm : Dis m) (he : twoE l m = 0) :
    (¬ Sup l m ∧ farT l m = (0, 0, 6)) ∨ (Sup l m ∧ ∃ U D, 0 < U ∧ 0 < D ∧ farT l m = Rt.mkT U D ∧ Bd l m U D ∧ ∀ N M, 0 < N → 0 < M → Bd l m N M → U * M ≤ N * D) := by
  by_cases hn : (mrgP l m).any lone = false
  · refine .inr ⟨(sup_outs hl hm).1 hn, ?_⟩
    have hTa := tot_pos2 hl.pos hl.ne
    have hTb := tot_pos2 hm.pos hm.ne
    have nl := Nn.of_pos hl.pos
    have nm := Nn.of_pos hm.pos
    have hsup := (sup_outs hl hm).1 hn
    have hps : Psl ((outsT l m).map (ow l m)) := by
      intro q hq
      obtain ⟨o, ho, rfl⟩ := List.mem_map.1 hq
      rcases outs_mem ho with ⟨p, hp, rfl⟩ | ⟨p, hp, rfl⟩
      · have h1 := mem_wt_pos hl.rise hl.pos hp; exact ⟨h1, (hsup p.1).1 h1⟩
      · have h1 := mem_wt_pos hm.rise hm.pos hp; exact ⟨(hsup p.1).2 h1, h1⟩
    have hmx := farR_mx hTa hTb _ hps
    have hp := frc_ps hTa hTb hps hmx.1
    have hfar : farT l m = Rt.mkT (farR (tot l) (tot m) ((outsT l m).map (ow l m))).1 (farR (tot l) (tot m) ((outsT l m).map (ow l m))).2 := by
      rw [farT, if_pos he, hn]
      simp only [Bool.false_eq_true, if_false]
      exact far_outs hl hm hn
    generalize farR (tot l) (tot m) ((outsT l m).map (ow l m)) = q at *
    refine ⟨q.1, q.2, hp.1, hp.2, hfar, ⟨?_, fun o ho => ?_⟩, fun N M hN hM hB => ?_⟩
    · have := hmx.2 (1, 1) (.inl rfl)
      simp only [Int.one_mul, Int.mul_one] at this
      exact this
    · have hmem : ow l m o ∈ (outsT l m).map (ow l m) := List.mem_map_of_mem (outs_all nl (.inl ho))
      exact ⟨hmx.2 _ (.inr ⟨_, hmem, .inl rfl⟩), hmx.2 _ (.inr ⟨_, hmem, .inr rfl⟩)⟩
    · rcases hmx.1 with h1 | ⟨x, hx, h1⟩
      · rw [h1]; have := hB.1; simp only [Int.one_mul, Int.mul_one]; exact this
      · obtain ⟨o, ho, rfl⟩ := List.mem_map.1 hx
        have hwo : 0 < wt l o := (hps _ hx).1
        rcases h1 with h1 | h1
        · rw [h1]; exact (hB.2 o hwo).1
        · rw [h1]; exact (hB.2 o hwo).2
  · refine .inl ⟨fun h => hn ((sup_outs hl hm).2 h), ?_⟩
    have hn' : (mrgP l m).any lone = true := by simpa using hn
    rw [farT, if_pos he, if_pos hn']

theorem le_scale {x y U D n d : Int} (hD : 0 < D) (hd : 0 ≤ d) (h : x * D ≤ U * y) (he : n * D = U * d) : x * d ≤ n * y := by
  have a1 : x * D * d ≤ U * y * d := Int.mul_le_mul_of_nonneg_right h hd
  have e1 : x * D * d = x * d * D := Int.mul_right_comm _ _ _
  have e2 : U * y * d = n * y * D := by rw [Int.mul_right_comm, ← he, Int.mul_right_comm]
  rw [e1, e2] at a1
  exact Int.le_of_mul_le_mul_right a1 hD
theorem Bd.scale {l m : List Pt} {U D n d : Int} (h : Bd l m U D) (hD : 0 < D) (hd : 0 ≤ d) (he : n * D = U * d) : Bd l m n d := by
  refine ⟨?_, fun o ho => ⟨le_scale hD hd (h.2 o ho).1 he, le_scale hD hd (h.2 o ho).2 he⟩⟩
  have := le_scale (x := 1) (y := 1) hD hd (by have := h.1; omega) he
  omega

/-- what is told -/
theorem far_told {l m : List Pt} {n d : Int} (h : farT l m = (n, d, 0)) :
    Dis l ∧ Dis m ∧ Sup l m ∧ 0 < n ∧ 0 < d ∧ Rt.rightB n d = true ∧ Bd l m n d ∧ ∀ N M, 0 < N → 0 < M → Bd l m N M → n * M ≤ N * d := by
  have he : twoE l m = 0 := by
    by_cases he : twoE l m = 0
    · exact he
    · rw [farT, if_neg he] at h; simp only [Prod.mk.injEq] at h; exact absurd h.2.2 he
  obtain ⟨hl, hm⟩ := twoE_ok he
  rcases far_is hl hm he with ⟨_, h1⟩ | ⟨hs, U, D, hU, hD, h1, hb, hle⟩
  · rw [h1] at h; simp at h
  · rw [h1] at h
    obtain ⟨e1, e2, e3, e4⟩ := mkT_told (Int.le_of_lt hU) hD h
    have hn : 0 < n := by
      by_cases hn : n = 0
      · rw [hn, Int.zero_mul] at e1
        have := Int.mul_pos hU (show 0 < d by omega)
        omega
      · omega
    refine ⟨hl, hm, hs, hn, by omega, e4, hb.scale hD (by omega) e1, fun N M hN hM hB => ?_⟩
    have h3 := hle N M hN hM hB
    have h4 := le_scale (x := U) (y := M) (U := N) (D := D) (n := N) (d := D) hD (by omega)
    -- n / d = U / D
    have a1 : U * M * d ≤ N * D * d := Int.mul_le_mul_of_nonneg_right h3 (by omega)
    have e5 : U * M * d = n * M * D := by rw [Int.mul_right_comm, ← e1, Int.mul_right_comm]
    have e6 : N * D * d = N * d * D := Int.mul_right_comm _ _ _
    rw [e5, e6] at a1
    exact Int.le_of_mul_le_mul_right a1 hD
/-- where it is not told -/
theorem far_not {l m : List Pt} (hl : Dis l) (hm : Dis m) (he : twoE l m = 0) (hs : Sup l m) {n d e : Int} (h : farT l m = (n, d, e)) : e ≠ 6 := by
  rcases far_is hl hm he with ⟨h0, _⟩ | ⟨_, U, D, hU, hD, h1, _⟩
  · exact absurd hs h0
  · rw [h1] at h
    rcases mkT_err (Int.le_of_lt hU) hD h with h2 | ⟨h2, _⟩ <;> omega

theorem Bd.trans {l m k : List Pt} {U D V E : Int} (hl : Dis l) (hm : Dis m) (hk : Dis k) (hs : Sup l m) (h : Bd l m U D) (g : Bd m k V E) (hU : 0 < U) (_hD : 0 < D) (_hV : 0 < V) (hE : 0 < E) : Bd l k (U * V) (D * E) := by
  have tl := tot_pos2 hl.pos hl.ne
  have tm := tot_pos2 hm.pos hm.ne
  have tk := tot_pos2 hk.pos hk.ne
  refine ⟨Int.mul_le_mul h.1 g.1 (by omega) (by omega), fun o ho => ?_⟩
  have hmo := (hs o).1 ho
  obtain ⟨h1, h2⟩ := h.2 o ho
  obtain ⟨g1, g2⟩ := g.2 o hmo
  have nk : 0 ≤ wt k o := ((Nn.of_pos hk.pos).wt_le o).1
  generalize wt l o = a at *
  generalize wt m o = b at *
  generalize wt k o = c at *
  generalize tot l = A at *
  generalize tot m = B at *
  generalize tot k = C at *
  have pos : 0 < b * B := Int.mul_pos hmo tm
  constructor
  · have x1 : a * B * D * (b * C * E) ≤ U * (b * A) * (V * (c * B)) := Int.mul_le_mul h1 g1 (Int.mul_nonneg (Int.mul_nonneg (by omega) (by omega)) (by omega)) (Int.mul_nonneg (by omega) (Int.mul_nonneg (by omega) (by omega)))
    have e1 : a * B * D * (b * C * E) = a * C * (D * E) * (b * B) := by ac_rfl
    have e2 : U * (b * A) * (V * (c * B)) = U * V * (c * A) * (b * B) := by ac_rfl
    rw [e1, e2] at x1
    exact Int.le_of_mul_le_mul_right x1 pos
  · have x1 : b * A * D * (c * B * E) ≤ U * (a * B) * (V * (b * C)) := Int.mul_le_mul h2 g2 (Int.mul_nonneg (Int.mul_nonneg nk (by omega)) (by omega)) (Int.mul_nonneg (by omega) (Int.mul_nonneg (by omega) (by omega)))
    have e1 : b * A * D * (c * B * E) = c * A * (D * E) * (b * B) := by ac_rfl
    have e2 : U * (a * B) * (V * (b * C)) = U * V * (a * C) * (b * B) := by ac_rfl
    rw [e1, e2] at x1
    exact Int.le_of_mul_le_mul_right x1 pos
end Go.Proofs.YtlndlpjadajelaaGreat

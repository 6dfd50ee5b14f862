import Derived.Test.YtlndlpjadajelaaGreatQt16
import Derived.Test.YtlndlpjadajelaaGreatQt20
import Derived.Test.YtlndlpjadajelaaGreatQt09
namespace Go.Proofs.YtlndlpjadajelaaGreat
open Go.RowKit Go.Shelf Go.Proofs.YtlndlpjadajelaaGreat.Ds
attribute [local go_sem] Oper.semAt_some

/-- two parts as one -/
def addTr (p : Tr × Tr) : Tr := (if p.1.2.2 = 0 then p.2.1 else p.1.1, if p.1.2.2 = 0 then p.2.2.1 else p.1.2.1, p.1.2.2 + p.2.2.2)
/-- .. all so far -/
def plsL {w : World} {B : Nat} {M : Int} (pre : List (PP w B M)) : List Tr := pre.map fun x => addTr x.1
theorem plsL_len {w : World} {B : Nat} {M : Int} (pre : List (PP w B M)) : (plsL pre).length = pre.length := by simp [plsL]
theorem plsL_snoc {w : World} {B : Nat} {M : Int} (pre : List (PP w B M)) (x : PP w B M) : plsL (pre ++ [x]) = plsL pre ++ [addTr x.1] := by simp [plsL]

theorem mrg_length (az bz : List Tr) : (mrg az bz).length ≤ az.length + bz.length := by
  induction az, bz using mrg.induct with
  | case1 => simp [mrg]
  | case2 b bs ih => rw [mrg]; simp at *; omega
  | case3 a az ih => rw [mrg]; simp at *; omega
  | case4 a az b bs h ih => rw [mrg_lt h]; simp at *; omega
  | case5 a az b bs h1 h2 ih => rw [mrg_gt h2]; simp at *; omega
  | case6 a az b bs h1 h2 ih => rw [mrg_eq (by omega)]; simp at *; omega

theorem boxed_uniq {W : World} {B : Nat} {t : TypeId} {u v : Value} (h : Boxed W B t u) (k : Boxed W B t v) : u = v := by
  have := (show W.heap[B]? = _ from h).symm.trans (show W.heap[B]? = _ from k)
  simpa using this
theorem two_cells0 (W : World) (s : Value) (k : Int) (n : Nat) (hn : W.heap.size = n) : ∀ j u, [s, Value.int .i64 k][j]? = some u → (W.alloc (.cells #[s, .int .i64 k] 82)).cell? ((⟨n, 0, none⟩ : Addr).add j) = some u := by
  subst hn
  intro j u hj
  match j, hj with
  | 0, hj => simp at hj; subst hj; simp [go_sem, Addr.add]
  | 1, hj => simp at hj; subst hj; simp [go_sem, Addr.add]
theorem two_one (a : Option Addr) (n c : Nat) (k : Int) : ∀ u ∈ [Value.slice a n c, Value.int .i64 k], u.oneCell' = true := by
  intro u hu
  simp at hu
  rcases hu with rfl | rfl <;> rfl
theorem addTr_zero (a b : Value) (x y : List Int) (k : Int) : addTr ((a, x, 0), (b, y, k)) = (b, y, 0 + k) := by simp [addTr]
theorem addTr_pos {a b : Value} {x y : List Int} {j k : Int} (h : ¬ j = 0) : addTr ((a, x, j), (b, y, k)) = (a, x, j + k) := by simp [addTr, h]
theorem flat_one (ds : List Tr) (t : Tr) : flat (ds ++ [t]) = flat ds ++ [t.1, .int .i64 t.2.2] := by simp [flat]

set_option maxHeartbeats 4000000 in
set_option maxRecDepth 100000 in
theorem plus_new (B : Nat) (u v : Value) (ts us : List Tr) (w : World) (hB : B ≤ w.heap.size) (hp : Parts w B u ts) (hq : Parts w B v us) (hl1 : ts.length ≤ 4096) (hl2 : us.length ≤ 4096)
    (hm1 : ∀ t ∈ ts, 0 ≤ t.2.2 ∧ t.2.2 ≤ (1152921504606846976 : Int)) (hm2 : ∀ t ∈ us, 0 ≤ t.2.2 ∧ t.2.2 ≤ (1152921504606846976 : Int)) (xs : List Tr) (hx : (mrg ts us).map addTr = xs) :
    Calls Tryz.prog 161 #[u, v] w fun e w' => ∃ v', e = .returned v' ∧ w'.ownsRow w.heap.size 82 2 v' xs.length (flat xs) ∧ (∀ t ∈ xs, Ints w' w.heap.size w.heap.size t.1 t.2.1) ∧ Below w.heap.size w w' := by
  have HP : Hid (Parts w B u ts) := hp
  have HQ : Hid (Parts w B v us) := hq
  have HX : Hid ((mrg ts us).map addTr = xs) := hx
  have HM1 : Hid (∀ t ∈ ts, 0 ≤ t.2.2 ∧ t.2.2 ≤ (1152921504606846976 : Int)) := hm1
  have HM2 : Hid (∀ t ∈ us, 0 ≤ t.2.2 ∧ t.2.2 ≤ (1152921504606846976 : Int)) := hm2
  obtain ⟨a, c, rfl, _⟩ := hp
  obtain ⟨a', c', rfl, _⟩ := hq
  obtain ⟨i0, hi0, hz0, hz1, hz2⟩ := info_parts info32
  obtain ⟨w1, hmk, hown1, hgr1⟩ := run_make_own (P := Tryz.prog) w w.heap.size 44 82 i0 (.agg #[.slice none 0 0, .int .i64 0]) 2 Tryz.underlying44 hi0 hz0 hz1 .i64 .i64 (ts.length + us.length) (by rw [hz2]; omega) (by unfold maxLen; omega) (Nat.le_refl _)
  have hmk' : (Instr.makeSlice 44 (.int .i64 0) (.int .i64 ((ts.length : Int) + (us.length : Int)))).run Tryz.prog w = .ok (.slice (some ⟨w.heap.size, 0, none⟩) 0 (ts.length + us.length)) w1 := by
    rw [← Int.natCast_add]; exact hmk
  have hd : decide (4096 < (ts.length : Int)) = false := decide_eq_false (by omega)
  have hd' : ¬ 4096 < (ts.length : Int) := by omega
  clear hx hm1 hm2 hmk
  refine (callsIn_wide (n := 5)).1 ?_
  refine callsIn_of_wp_marks Tryz.func161 rfl trivial ?_ rfl
  simp only [Tryz.ntmps161, List.size_toArray, List.length_cons, List.length_nil, Nat.reduceAdd, Nat.reduceSub, Array.replicate_succ, Array.replicate_zero, List.push_toArray, List.append_toArray, List.nil_append, List.cons_append]
  gi_wp2_with fail
  refine ⟨trivial, ?_⟩
  refine (pairs_in _ _ _ _ _ _ _ _).mono ?_
  rintro e w4 ⟨rfl, hw4⟩
  gi_wp2_with fail
  clear hw4
  obtain ⟨W0, hW0⟩ : ∃ W0, (((w1.alloc (Obj.cells #[Value.slice (some ⟨w.heap.size, 0, none⟩) 0 (ts.length + us.length)] 44)).alloc (Obj.cells #[Value.slice a ts.length c] 44)).alloc (Obj.cells #[Value.slice a' us.length c'] 44)) = W0 := ⟨_, rfl⟩
  have hs1 := hgr1.size
  have hsz : W0.heap.size = w1.heap.size + 3 := by rw [← hW0]; simp
  have gB : Boxed W0 w1.heap.size 44 (.slice (some ⟨w.heap.size, 0, none⟩) 0 (ts.length + us.length)) := by rw [← hW0]; exact ((Boxed.new w1 44 _).alloc _).alloc _
  have gR : W0.ownsRow w.heap.size 82 2 (.slice (some ⟨w.heap.size, 0, none⟩) 0 (ts.length + us.length)) 0 [] := by rw [← hW0]; exact ((hown1.alloc _).alloc _).alloc _
  have g4 : W0.cell? ⟨w1.heap.size + 1, 0, none⟩ = some (.slice a ts.length c) := by rw [← hW0]; simp [go_sem]
  have g5 : W0.cell? ⟨w1.heap.size + 1 + 1, 0, none⟩ = some (.slice a' us.length c') := by rw [← hW0]; simp [go_sem]
  have hb0 : Below w.heap.size w W0 := by
    rw [← hW0]
    have h1 : Below w.heap.size w w1 := (Below.refl _ _).grown hgr1 (Nat.le_refl _) (by intro k e; cases e)
    exact bal (bal (bal h1 _) _) _
  have hX1 : Parts W0 w.heap.size (.slice a ts.length c) ts := (HP.out.at hB hb0).mono hB
  have hX2 : Parts W0 w.heap.size (.slice a' us.length c') us := (HQ.out.at hB hb0).mono hB
  rw [hW0]
  clear hW0 hown1
  refine wpIn_rangeFunc_ownH rfl (by decide) (gf := 87) (lb := #[.pointer (some ⟨w1.heap.size + 1, 0, none⟩), .pointer (some ⟨w1.heap.size + 1 + 1, 0, none⟩)]) rfl trivial (enters_of Tryz.func87 (by kernel_rfl) rfl)
    (pairs_stops 4 (by decide) (w1.heap.size + 1) (w1.heap.size + 1 + 1) w.heap.size 1152921504606846976 (by decide) (.slice a ts.length c) (.slice a' us.length c') ts us W0 (by omega) (by omega) (by omega) g4 g5 hX1 hX2 HM1.out HM2.out) belowK_t (belowK_b (by omega)) (Below.refl _ _) (fun _ => rfl)
    (fun pre W => (∃ v, Boxed W w1.heap.size 44 v ∧ W.ownsRow w.heap.size 82 2 v pre.length (flat (plsL pre)) ∧ True) ∧ Below w.heap.size W0 W)
    (fun _ _ _ => False)
    (OwnFrom.and (Own.from (holdsRow_own w.heap.size w1.heap.size 44 82 2 (fun pre => pre.length) (fun pre => flat (plsL pre)) (fun _ _ => True)) _) (ownFrom_below (by omega) (by omega)))
    (fun _ _ _ _ _ hs _ _ => hs)
    ⟨⟨_, gB, gR, trivial⟩, Below.refl _ _⟩
    (fun x act W => ∃ Bx v0, W0.heap.size ≤ Bx ∧ Two2 W Bx x ∧ Boxed W w1.heap.size 44 v0 ∧ v0.ownBlock ≠ some Bx ∧ act = { tmps := #[.slice a ts.length c, .slice a' us.length c', undef, undef, .slice none 0 0, .pointer (some ⟨w1.heap.size, 0, none⟩), .pointer (some ⟨Bx, 0, none⟩), .pointer (some ⟨Bx + 1, 0, none⟩), .slice a ts.length c, .int .i64 (ts.length : Int), .bool false, undef, .slice a ts.length c, .int .i64 (ts.length : Int), .slice a' us.length c', .int .i64 (us.length : Int), .int .i64 ((ts.length : Int) + (us.length : Int)), .slice (some ⟨w.heap.size, 0, none⟩) 0 (ts.length + us.length), .slice a ts.length c, .slice a' us.length c', .func (.func 87) #[] #[.pointer (some ⟨w1.heap.size + 1, 0, none⟩), .pointer (some ⟨w1.heap.size + 1 + 1, 0, none⟩)], .agg #[x.1.1.1, .int .i64 x.1.1.2.2], .agg #[x.1.2.1, .int .i64 x.1.2.2.2], undef, undef, undef, undef, undef, undef, undef, undef, undef, undef, undef, undef, undef, undef, undef, undef, undef, undef], defers := [] })
    (fun x act _ X Y row hs hg hr => by obtain ⟨Bx, v0, h1, h2, h4, h5, h3⟩ := hs; exact ⟨Bx, v0, h1, h2.own hg (fun r e => (hr r e).2), h4.kept hg (fun e => by obtain ⟨_, o, ho, hc⟩ := hr _ e.symm; rw [show X.heap[w1.heap.size]? = _ from h4] at ho; cases ho; cases hc), h5, h3⟩)
    ?assign ?body ?done ?stop
  case assign =>
    rintro l pre x W K ⟨⟨v, hv, hrow, _⟩, hB1⟩ hK
    have hs := hB1.size
    have hlt : ∀ g, v.ownBlock = some g → g < W.heap.size := fun g e => (hrow.lt g e).2
    obtain ⟨⟨⟨xv, xo, xk⟩, ⟨yv, yo, yk⟩⟩, hx⟩ := x
    obtain ⟨sa, sc, e1, _⟩ := hx.1
    obtain ⟨sa', sc', e2, _⟩ := hx.2.1
    simp only at e1 e2
    subst e1 e2
    simp only [encPP]
    gi_wp2
    exact hK _ _ (((KeepsOthers.alloc _ _).trans (KeepsOthers.alloc _ _)).from _) (((Below.refl _ W).alloc (by omega) _).alloc (by simp; omega) _) ⟨⟨v, (hv.alloc _).alloc _, (hrow.alloc _).alloc _, trivial⟩, (hB1.alloc (by omega) _).alloc (by simp; omega) _⟩ ⟨W.heap.size, v, hs, two2_new W ⟨((.slice sa xo.length sc, xo, xk), (.slice sa' yo.length sc', yo, yk)), hx⟩, (hv.alloc _).alloc _, (fun e => Nat.lt_irrefl _ (hlt _ e)), rfl⟩
  case body =>
    rintro l pre x act W hl ⟨r, hr⟩ ⟨⟨v, hv, hrow, _⟩, hB1⟩ ⟨Bx, v0, hBx, bX, hv0, hne0, rfl⟩ hlt
    obtain rfl := boxed_uniq hv hv0
    obtain ⟨k1, k2, k3, k4⟩ := bX.cells
    have k5 : W.frozen? ⟨Bx, 0, none⟩ = false := by simp [World.frozen?, bX.1]
    have hs := hB1.size
    have hbxl : Bx < W.heap.size := (Array.getElem?_eq_some_iff.1 bX.1).1
    have hc := hv.cell
    have hneb : ¬ w1.heap.size = Bx := by omega
    obtain ⟨⟨⟨xv, xo, xk⟩, ⟨yv, yo, yk⟩⟩, hx⟩ := x
    obtain ⟨sa, sc, e1, _⟩ := hx.1
    obtain ⟨sa', sc', e2, _⟩ := hx.2.1
    have hxx := hx.2.2
    simp only at e1 e2 k1 k2 k3 k4 hxx
    obtain ⟨⟨hx1, hx2⟩, ⟨hy1, hy2⟩⟩ := hxx
    subst e1 e2
    obtain ⟨va, vc, rfl⟩ := owns_slice hrow
    clear bX hv0
    by_cases hz : xk = 0
    · subst hz
      obtain ⟨W1, hW1⟩ : ∃ W1, W.setCell ⟨Bx, 0, none⟩ (.slice sa' yo.length sc') = W1 := ⟨_, rfl⟩
      have r1 : W1.cell? ⟨Bx, 0, none⟩ = some (.slice sa' yo.length sc') := by rw [← hW1]; exact sc_same k1
      have r2 : W1.cell? ⟨Bx, 1, none⟩ = some (.int .i64 0) := by rw [← hW1]; exact (sc_other (by simp)).trans k2
      have r3 : W1.cell? ⟨Bx + 1, 1, none⟩ = some (.int .i64 yk) := by rw [← hW1]; exact (sc_other (by simp)).trans k4
      have hvS : Boxed W1 w1.heap.size 44 (.slice va pre.length vc) := by rw [← hW1]; exact hv.kept (grownBy_setCell' W Bx _) (by simp; omega)
      have hrowS : W1.ownsRow w.heap.size 82 2 (.slice va pre.length vc) pre.length (flat (plsL pre)) := by rw [← hW1]; exact hrow.kept (grownBy_setCell' W Bx _) (.inr hne0)
      have hkS : KeepsOthers W W1 := hW1 ▸ KeepsOthers.setCell _ _ _
      have hbS : Below w.heap.size W W1 := by rw [← hW1]; exact (Below.refl _ W).setCell (p := ⟨Bx, 0, none⟩) (by show w.heap.size ≤ Bx; omega) _
      have hsS : W1.heap.size = W.heap.size := by rw [← hW1]; simp
      have hcS := hvS.cell
      clear hv hrow hc
      gi_wp2_with (gi_at_builtin; refine wpListIn_append_own _ rfl _ _ 44 rfl w.heap.size 82 i0 (.agg #[.slice none 0 0, .int .i64 0]) 2 32 Tryz.underlying44 hi0 hz0 hz1 hz2 rfl (by decide) _ _ _ rfl (hrowS.alloc _) ⟨W.heap.size, 0, none⟩ 1 1 [.slice sa' yo.length sc', .int .i64 yk] rfl rfl (two_cells0 W1 _ _ _ hsS) (two_one _ _ _ _) (by unfold maxLen; omega) (by omega) (by simp; omega) ?_; intro v' w5 hown' hgrow _; obtain ⟨g', cap', rfl⟩ := ownsRow_succ hown'; obtain ⟨hv1, hv2, hr2, hk2, hb2⟩ := hvS.appended (by decide) hrowS (by omega) (by omega) hown' hgrow; have hc1 := hv1.cell; have hf1 := hv1.frozen)
      refine ⟨(hkS.trans hk2).from _, hbS.trans hb2, ⟨⟨_, hv2, ?_⟩, (hB1.trans hbS).trans hb2⟩⟩
      rw [plsL_snoc, flat_one, addTr_zero]
      simpa using hr2
    · have hz' : (xk == 0) = false := by simpa using hz
      have hk0 : 0 ≤ xk + yk ∧ xk + yk ≤ 4611686018427387904 := by omega
      gi_wp2_with (gi_at_builtin; refine wpListIn_append_own _ rfl _ _ 44 rfl w.heap.size 82 i0 (.agg #[.slice none 0 0, .int .i64 0]) 2 32 Tryz.underlying44 hi0 hz0 hz1 hz2 rfl (by decide) _ _ _ rfl (hrow.alloc _) ⟨W.heap.size, 0, none⟩ 1 1 [.slice sa xo.length sc, .int .i64 (xk + yk)] rfl rfl (two_cells0 W _ _ _ rfl) (two_one _ _ _ _) (by unfold maxLen; omega) (by omega) (by simp; omega) ?_; intro v' w5 hown' hgrow _; obtain ⟨g', cap', rfl⟩ := ownsRow_succ hown'; obtain ⟨hv1, hv2, hr2, hk2, hb2⟩ := hv.appended (by decide) hrow (by omega) (by omega) hown' hgrow; have hc1 := hv1.cell; have hf1 := hv1.frozen)
      refine ⟨hk2.from _, hb2, ⟨⟨_, hv2, ?_⟩, hB1.trans hb2⟩⟩
      rw [plsL_snoc, flat_one, addTr_pos hz]
      simpa using hr2
  case done =>
    rintro D ys W hD hS ⟨⟨v, hv, hrow, _⟩, hB1⟩ hK
    have hc := hv.cell
    have hpx : plsL ys = xs := by rw [← HX.out, ← hS, List.map_map]; rfl
    have hlx : ys.length = xs.length := by rw [← hpx, plsL_len]
    have hI : ∀ t ∈ xs, Ints W0 w.heap.size w.heap.size t.1 t.2.1 := by
      rw [← hpx]
      intro t ht
      obtain ⟨x, _, rfl⟩ := List.mem_map.1 ht
      unfold addTr
      split
      · exact x.2.2.1
      · exact x.2.1
    obtain ⟨va, vc, rfl⟩ := owns_slice hrow
    have HI : Hid (∀ t ∈ xs, Ints W0 w.heap.size w.heap.size t.1 t.2.1) := hI
    have HRW : Hid (W.ownsRow w.heap.size 82 2 (.slice va ys.length vc) xs.length (flat xs)) := by rw [Hid, ← hpx, plsL_len]; exact hrow
    have HK : Hid (W.heap[D]? = some (.deferred (some []))) := hK
    clear hI hpx hlx hrow hS
    gi_wp2
    refine ⟨by simp, .inl ⟨_, _, rfl, run_takeDeferred HK.out, ?_⟩⟩
    have hbD := belowK_b (w := w) (Nat.le_refl _) W D _ (.deferred none) (by omega) HK.out rfl rfl
    exact ⟨_, results_tmp rfl _ _ _, _, rfl, ownsRow_putObj HRW.out _ HK.out rfl, fun t ht => (HI.out t ht).keep (hB1.trans hbD), (hb0.trans hB1).trans hbD⟩
  case stop =>
    rintro D c pre W _ _ h _
    exact h.elim
end Go.Proofs.YtlndlpjadajelaaGreat

import Derived.Test.YtkpjjiomfgkobaaDoorBwd
namespace Go.Proofs.YtkpjjiomfgkobaaDoor
open Go.RowKit Go.Shelf Go.Proofs.YtkpjjiomfgkobaaDoor.Ds
attribute [local go_sem] Oper.semAt_some

/-- the state of 'cell': the rest, and the row so far -/
def celF {l : List Col} (st : Nat × List Int) : List (IC l) → Nat × List Int
  | [] => st
  | x :: r => celF (st.1 / x.1.2.2.toNat, st.2.set x.1.1 ((st.1 % x.1.2.2.toNat : Nat) : Int)) r
def celS (n : Nat) (i : Nat) {l : List Col} (pre : List (IC l)) : Nat × List Int := celF (i, List.replicate n 0) pre
theorem celF_app {l : List Col} (st : Nat × List Int) (pre zs : List (IC l)) : celF st (pre ++ zs) = celF (celF st pre) zs := by
  induction pre generalizing st with
  | nil => rfl
  | cons x r ih => simp only [List.cons_append, celF]; exact ih _
theorem celS_snoc (n i : Nat) {l : List Col} (pre : List (IC l)) (x : IC l) : celS n i (pre ++ [x]) = ((celS n i pre).1 / x.1.2.2.toNat, (celS n i pre).2.set x.1.1 (((celS n i pre).1 % x.1.2.2.toNat : Nat) : Int)) := by
  rw [celS, celF_app]; rfl
theorem celF_le {l : List Col} (st : Nat × List Int) (pre : List (IC l)) : (celF st pre).1 ≤ st.1 := by
  induction pre generalizing st with
  | nil => exact Nat.le_refl _
  | cons x r ih => exact Nat.le_trans (ih _) (Nat.div_le_self _ _)
theorem celF_len {l : List Col} (st : Nat × List Int) (pre : List (IC l)) : (celF st pre).2.length = st.2.length := by
  induction pre generalizing st with
  | nil => rfl
  | cons x r ih => simp only [celF]; rw [ih]; simp
theorem celS_le (n i : Nat) {l : List Col} (pre : List (IC l)) : (celS n i pre).1 ≤ i := celF_le _ _
theorem celS_len (n i : Nat) {l : List Col} (pre : List (IC l)) : (celS n i pre).2.length = n := by rw [celS, celF_len]; simp
/-- .. backwards it is the row -/
theorem celS_at (i : Nat) {l : List Col} (ys : List (IC l)) (h : Bwd ys) : (celS l.length i ys).2 = cel l i := by
  have key : ∀ (k : Nat) (zs : List (IC l)), zs.length = k → (∀ j x, zs[j]? = some x → x.1.1 + j + 1 = l.length) → k ≤ l.length →
      (celS l.length i zs).1 = i / prd (l.drop (l.length - k)) ∧ ∀ j, l.length - k ≤ j → (celS l.length i zs).2[j]? = (cel l i)[j]? := by
    intro k
    induction k with
    | zero =>
      intro zs hz _ _
      obtain rfl : zs = [] := List.length_eq_zero_iff.1 hz
      refine ⟨by simp [celS, celF, prd], fun j hj => ?_⟩
      rw [List.getElem?_eq_none (by rw [celS_len]; omega), List.getElem?_eq_none (by rw [cel_len]; omega)]
    | succ k ih =>
      intro zs hz hx hk
      obtain ⟨pre, x, rfl⟩ : ∃ pre x, zs = pre ++ [x] := ⟨zs.dropLast, zs.getLast (by rintro rfl; simp at hz), (List.dropLast_concat_getLast _).symm⟩
      simp at hz
      have hx0 := hx pre.length x (by simp)
      obtain ⟨h1, h2⟩ := ih pre hz (fun j y hj => hx j y (by rw [List.getElem?_append_left (List.getElem?_eq_some_iff.1 hj).1]; exact hj)) (by omega)
      have hxi : x.1.1 = l.length - (k + 1) := by omega
      have hg : l[l.length - (k + 1)]? = some x.1.2 := by rw [← hxi]; exact x.2
      have hs : l.length - k = l.length - (k + 1) + 1 := by omega
      rw [celS_snoc, h1]
      refine ⟨?_, fun j hj => ?_⟩
      · simp only
        rw [prd_prev hg, Nat.div_div_eq_div_mul, hs, Nat.mul_comm]
      · simp only
        by_cases e : x.1.1 = j
        · subst e
          rw [List.getElem?_set_self (by rw [celS_len]; omega), hxi, cel_get hg, hs]
        · rw [List.getElem?_set_ne e]
          exact h2 j (by omega)
  obtain ⟨hl, hx⟩ := h
  refine List.ext_getElem? fun j => ?_
  exact (key l.length ys hl hx (Nat.le_refl _)).2 j (by omega)

theorem kdr (W : World) (q : Nat) : KeepsOthers W (W.drewN q) := ⟨Nat.le_refl _, fun _ _ h _ => h⟩
theorem RowI.gb {W W' : World} {g : Nat} {row : Option Nat} {xs : List Int} (h : RowI W g xs) (b : W.grownBy W' row) (hne : row ≠ some g) : RowI W' g xs := by
  have hk : W'.heap[g]? = W.heap[g]? := b.block g h.lt (fun e => hne e.symm)
  exact ⟨fun i x hi => (World.cell?_of_block (w := W) (a := ⟨g, i, none⟩) hk).trans (h.cells i x hi), fun i hi => (World.frozen?_of_block (w := W) (a := ⟨g, i, none⟩) hk).trans (h.thaw i hi), Nat.lt_of_lt_of_le h.lt b.size⟩
theorem rowI_own {β : Type} (R : Nat) (f : β → List Int) : Own (fun s W => RowI W R (f s)) := fun s X Y row hs hg hrow =>
  ⟨fun i x hi => cell_kept (hs.cells i x hi) hg hrow, fun i hi => by
    obtain ⟨x, hx⟩ := get_lt hi
    exact (frozen_kept (hs.cells i x hx) hg hrow).trans (hs.thaw i hi), Nat.lt_of_lt_of_le hs.lt hg.size⟩
theorem TwoB.own {W W' : World} {R : Nat} {x y : Value} {row : Option Nat} (h : TwoB W R x y) (hg : W.grownBy W' row) (hrow : ∀ r, row = some r → ∃ o : Obj, W.heap[r]? = some o ∧ o.isCells = false) : TwoB W' R x y :=
  ⟨cell_kept h.c0 hg hrow, cell_kept h.c1 hg hrow, (frozen_kept h.c0 hg hrow).trans h.f0, (frozen_kept h.c1 hg hrow).trans h.f1, Nat.lt_of_lt_of_le h.lt hg.size⟩

set_option maxHeartbeats 4000000 in
set_option maxRecDepth 100000 in
theorem cell_any (B : Nat) (v : Value) (l : List Col) (i : Nat) (w : World) (hB : B ≤ w.heap.size) (hp : Cols w B v l) (h6 : l.length ≤ 6) (hs : Szs l) (hi : i ≤ 4096) (r : List Int) (hr : cel l i = r) :
    Calls Tryd.prog 19 #[v, .int .i64 (i : Int)] w fun e w' => e = .returned (.slice (some ⟨w.heap.size + 1, 0, none⟩) r.length r.length) ∧ RowI w' (w.heap.size + 1) r ∧ Below w.heap.size w w' := by
  have HP : Hid (Cols w B v l) := hp
  have HS : Hid (Szs l) := hs
  have HR : Hid (cel l i = r) := hr
  obtain ⟨a, c, rfl, hc, hl⟩ := hp.slice
  have hmk := make_ints l.length (by omega)
  clear hr hs
  refine (callsIn_wide (n := 5)).1 ?_
  refine callsIn_of_wp_marks Tryd.func19 rfl trivial ?_ rfl
  simp only [Tryd.ntmps19, List.size_toArray, List.length_cons, List.length_nil, Nat.reduceAdd, Nat.reduceSub, Array.replicate_succ, Array.replicate_zero, List.push_toArray, List.append_toArray, List.nil_append, List.cons_append]
  gi_wp2_with fail
  refine ⟨trivial, ?_⟩
  refine (backward_in _ _ _ _ _).mono ?_
  rintro e w4 ⟨rfl, hw4⟩
  gi_wp2_with fail
  clear hw4
  obtain ⟨W0, hW0⟩ : ∃ W0, (((w.alloc (Obj.cells #[Value.int IntKind.i64 (i : Int)] 3)).alloc (Obj.cells (madeCells #[Value.int IntKind.i64 0] l.length) 3)).alloc (Obj.cells #[Value.slice (some ⟨w.heap.size + 1, 0, none⟩) l.length l.length] 39)).alloc (Obj.cells #[Value.slice a l.length c] 22) = W0 := ⟨_, rfl⟩
  have hsz : W0.heap.size = w.heap.size + 4 := by rw [← hW0]; simp
  have g1 : Boxed W0 w.heap.size 3 (.int .i64 (i : Int)) := by rw [← hW0]; exact (((Boxed.new w 3 _).alloc _).alloc _).alloc _
  have g2 : RowI W0 (w.heap.size + 1) (List.replicate l.length 0) := by
    have h := RowI.made (w.alloc (Obj.cells #[Value.int IntKind.i64 (i : Int)] 3)) l.length
    rw [World.size_alloc] at h
    rw [← hW0]
    have h2 := h.keep (ba _ (Obj.cells #[Value.slice (some ⟨w.heap.size + 1, 0, none⟩) l.length l.length] 39)) (by simp)
    exact h2.keep (ba _ _) (by simp)
  have g3 : Boxed W0 (w.heap.size + 1 + 1) 39 (.slice (some ⟨w.heap.size + 1, 0, none⟩) l.length l.length) := by
    have h := (Boxed.new ((w.alloc (Obj.cells #[Value.int IntKind.i64 (i : Int)] 3)).alloc (Obj.cells (madeCells #[Value.int IntKind.i64 0] l.length) 3)) 39 (.slice (some ⟨w.heap.size + 1, 0, none⟩) l.length l.length)).alloc (Obj.cells #[Value.slice a l.length c] 22)
    rw [hW0] at h
    simpa using h
  have g4 : W0.cell? ⟨w.heap.size + 1 + 1 + 1, 0, none⟩ = some (.slice a l.length c) := by rw [← hW0]; simp [go_sem]
  have hbW : Below w.heap.size w W0 := by rw [← hW0]; exact bal (bal (bal (ba _ _) _) _) _
  rw [hW0]
  clear hW0 hmk
  refine wpIn_rangeFunc_ownH rfl (by decide) (gf := 56) (lb := #[.pointer (some ⟨w.heap.size + 1 + 1 + 1, 0, none⟩)]) rfl trivial (enters_of Tryd.func56 (by kernel_rfl) rfl)
    (backward_stops 4 (by decide) (w.heap.size + 1 + 1 + 1) w.heap.size (.slice a l.length c) l W0 (by omega) (by omega) g4 ((HP.out.at hB hbW).mono hB)) KpB.t ?kb (Below.refl _ _) (fun _ => rfl)
    (fun pre W => Boxed W w.heap.size 3 (.int .i64 ((celS l.length i pre).1 : Int)) ∧ RowI W (w.heap.size + 1) (celS l.length i pre).2 ∧ Boxed W (w.heap.size + 1 + 1) 39 (.slice (some ⟨w.heap.size + 1, 0, none⟩) l.length l.length) ∧ Below w.heap.size W0 W)
    (fun _ _ _ => False)
    (OwnFrom.and (Own.from (boxed_own _ _ _) _) (OwnFrom.and (Own.from (rowI_own _ _) _) (OwnFrom.and (Own.from (boxed_own _ _ _) _) (ownFrom_below (by omega) (by omega)))))
    (fun _ _ _ _ _ hs _ _ => hs)
    ⟨g1, g2, g3, Below.refl _ _⟩
    (fun x act W => ∃ Bc, W0.heap.size ≤ Bc ∧ TwoB W Bc (.string x.1.2.1) (.int .i64 x.1.2.2) ∧ act = { tmps := #[.slice a l.length c, .int .i64 (i : Int), undef, .pointer (some ⟨w.heap.size, 0, none⟩), .slice none 0 0, .pointer (some ⟨w.heap.size + 1 + 1, 0, none⟩), .int .i64 (x.1.1 : Int), .pointer (some ⟨Bc, 0, none⟩), .slice a l.length c, .int .i64 (l.length : Int), .slice (some ⟨w.heap.size + 1, 0, none⟩) l.length l.length, .slice a l.length c, .func (.func 56) #[] #[.pointer (some ⟨w.heap.size + 1 + 1 + 1, 0, none⟩)], .int .i64 (x.1.1 : Int), .agg #[.string x.1.2.1, .int .i64 x.1.2.2], undef, undef, undef, undef, undef, undef, undef, undef, undef, undef, undef, undef], defers := [] })
    (fun x act _ X Y row hs hg hr => by obtain ⟨Bc, h1, h2, h3⟩ := hs; exact ⟨Bc, h1, h2.own hg (fun r e => (hr r e).2), h3⟩)
    ?assign ?body ?done ?stop
  case kb =>
    intro W l' o o' hl' h1 _ _
    refine ⟨belowK_b (w := W0) (by omega) W l' o o' hl' h1 (by assumption) (by assumption), ?_⟩
    exact (grownBy_putObj' W l' o').block _ (by have := (Array.getElem?_eq_some_iff.1 h1).1; omega) (by simp; omega)
  case assign =>
    rintro l' pre x W K ⟨b1, b2, b3, hB1⟩ hK
    have hs := hB1.size
    obtain ⟨⟨xi, nm, sz⟩, hx⟩ := x
    simp only [encIC]
    gi_wp2
    exact hK _ _ ((KeepsOthers.alloc _ _).from _) ⟨(Below.refl _ W).alloc (by omega) _, (ba W _).block _ (by omega)⟩ ⟨b1.alloc _, b2.keep (ba W _) (by omega), b3.alloc _, hB1.alloc (by omega) _⟩ ⟨W.heap.size, hs, TwoB.new _ _ _ _ _ rfl, rfl⟩
  case body =>
    rintro l' pre x act W hl' ⟨r', hr'⟩ ⟨b1, b2, b3, hB1⟩ ⟨Bc, hBc, bX, rfl⟩ hlt
    have hs := hB1.size
    obtain ⟨⟨xi, nm, sz⟩, hx⟩ := x
    simp only at bX
    have hxl : xi < l.length := (List.getElem?_eq_some_iff.1 hx).1
    have hszz := HS.out _ (List.mem_of_getElem? hx)
    simp only at hszz
    obtain ⟨sn, rfl⟩ := Int.eq_ofNat_of_zero_le (show 0 ≤ sz by omega)
    obtain ⟨q, hq⟩ : ∃ q, (celS l.length i pre).1 = q := ⟨_, rfl⟩
    obtain ⟨row, hrow⟩ : ∃ row, (celS l.length i pre).2 = row := ⟨_, rfl⟩
    have hqi : q ≤ 4096 := by rw [← hq]; exact Nat.le_trans (celS_le _ _ _) hi
    have hrl : row.length = l.length := by rw [← hrow]; exact celS_len _ _ _
    have HST : Hid (celS l.length i (pre ++ [⟨(xi, nm, (sn : Int)), hx⟩]) = (q / sn, row.set xi ((q % sn : Nat) : Int))) := by
      rw [Hid, celS_snoc, hq, hrow]; simp
    rw [hq] at b1
    rw [hrow] at b2
    obtain ⟨y, hy⟩ := get_lt (l := row) (i := xi) (by omega)
    have cU := b1.cell
    have fU := b1.frozen
    have cT := b3.cell
    have cX := bX.c1
    have cR := b2.cells xi y hy
    have fR := b2.thaw xi (by omega)
    have z1 : (xi : Int) < (l.length : Int) := by omega
    have z2 : (sn : Int) ≠ 0 := by omega
    have hm1 : q % sn ≤ 4096 := Nat.le_trans (Nat.mod_le _ _) hqi
    have hm2 : q / sn ≤ 4096 := Nat.le_trans (Nat.div_le_self _ _) hqi
    have hrm : ∀ u : World, (binOp .rem 3 (.int .i64 (q : Int)) (.int .i64 (sn : Int))).run Tryd.prog u = .ok (.int .i64 ((q % sn : Nat) : Int)) u := fun u => by
      have e1 : (q : Int).tmod (sn : Int) = ((q % sn : Nat) : Int) := by rw [Int.tmod_eq_emod_of_nonneg (by omega)]; exact (Int.natCast_emod _ _).symm
      have e2 : IntKind.i64.wrap ((q % sn : Nat) : Int) = ((q % sn : Nat) : Int) := by rw [IntKind.wrap_i64]; omega
      have e3 : ¬ sn = 0 := by omega
      simp [go_sem, Op.intDiv, e1, e3]
    obtain ⟨qd, hqd⟩ : ∃ qd, q / sn = qd := ⟨_, rfl⟩
    obtain ⟨qm, hqm⟩ : ∃ qm, q % sn = qm := ⟨_, rfl⟩
    have hqo : ∀ u : World, (binOp .quo 3 (.int .i64 (q : Int)) (.int .i64 (sn : Int))).run Tryd.prog u = .ok (.int .i64 (qd : Int)) u := fun u => by
      have e1 : (q : Int).tdiv (sn : Int) = (qd : Int) := by rw [Int.tdiv_eq_ediv_of_nonneg (by omega), ← hqd]; exact (Int.natCast_ediv _ _).symm
      have e2 : IntKind.i64.wrap (qd : Int) = (qd : Int) := by rw [IntKind.wrap_i64]; omega
      have e3 : ¬ sn = 0 := by omega
      simp [go_sem, Op.intDiv, e1, e2, e3]
    have hrm2 : ∀ u : World, (binOp .rem 3 (.int .i64 (q : Int)) (.int .i64 (sn : Int))).run Tryd.prog u = .ok (.int .i64 (qm : Int)) u := fun u => by rw [hrm u, hqm]
    rw [hqd, hqm] at HST
    have HQD : Hid (q / sn = qd ∧ q % sn = qm) := ⟨hqd, hqm⟩
    clear hrm hqd hqm hm1 hm2
    clear hq hrow hrl hy
    gi_wp2
    refine wpIn_mono (Q := fun e a' w' => e = .normal ∧ a' = ({ tmps := #[.slice a l.length c, .int .i64 (i : Int), undef, .pointer (some ⟨w.heap.size, 0, none⟩), .slice none 0 0, .pointer (some ⟨w.heap.size + 1 + 1, 0, none⟩), .int .i64 (xi : Int), .pointer (some ⟨Bc, 0, none⟩), .slice a l.length c, .int .i64 (l.length : Int), .slice (some ⟨w.heap.size + 1, 0, none⟩) l.length l.length, .slice a l.length c, .func (.func 56) #[] #[.pointer (some ⟨w.heap.size + 1 + 1 + 1, 0, none⟩)], .int .i64 (xi : Int), .agg #[.string nm, .int .i64 (sn : Int)], .slice (some ⟨w.heap.size + 1, 0, none⟩) l.length l.length, .int .i64 (xi : Int), .int .i64 (q : Int), .pointer (some ⟨Bc, 1, none⟩), .int .i64 (sn : Int), .int .i64 ((q : Int) % (sn : Int)), .pointer (some ⟨w.heap.size + 1, xi, none⟩), undef, undef, undef, undef, undef], defers := [] } : Act) ∧ w' = (W.setCell ⟨w.heap.size + 1, xi, none⟩ (.int .i64 ((q : Int) % (sn : Int)))).drew) ?reg ?rest
    case reg =>
      gi_region
      all_goals exact ⟨rfl, rfl, rfl⟩
    case rest =>
      have hmm : (q : Int) % (sn : Int) = (qm : Int) := by rw [← HQD.out.2]; exact (Int.natCast_emod _ _).symm
      rw [hmm]
      rintro e a' w' ⟨rfl, rfl, rfl⟩
      obtain ⟨W5, hW5⟩ : ∃ W5, (W.setCell ⟨w.heap.size + 1, xi, none⟩ (.int .i64 (qm : Int))).drew = W5 := ⟨_, rfl⟩
      have hsR : Below (w.heap.size + 1) W W5 := by rw [← hW5]; exact below_drewN ((Below.refl _ _).setCell (p := ⟨w.heap.size + 1, xi, none⟩) (Nat.le_refl _) _) 1
      have cU2 : W5.cell? ⟨w.heap.size, 0, none⟩ = some (.int .i64 (q : Int)) := (hsR.cell (p := ⟨w.heap.size, 0, none⟩) (by simp)).trans cU
      have fU2 : W5.frozen? ⟨w.heap.size, 0, none⟩ = false := (hsR.frozen (p := ⟨w.heap.size, 0, none⟩) (by simp)).trans fU
      have cX2 : W5.cell? ⟨Bc, 1, none⟩ = some (.int .i64 (sn : Int)) := by rw [← hW5]; exact (sc_other (by simp)).trans cX
      rw [hW5]
      clear hmm
      have hdd : wrap64 ((q : Int) / (sn : Int)) = (qd : Int) := by
        have h1 : (q : Int) / (sn : Int) = (qd : Int) := by rw [← HQD.out.1]; exact (Int.natCast_ediv _ _).symm
        have h2 : qd ≤ 4096 := by rw [← HQD.out.1]; exact Nat.le_trans (Nat.div_le_self _ _) hqi
        rw [h1]; exact wrap_id (by omega)
      gi_wp2
      rw [hdd]
      have k5 : KeepsOthers W W5 := by rw [← hW5]; exact (KeepsOthers.setCell _ _ _).trans (kdr _ 1)
      have R5 : RowI W5 (w.heap.size + 1) (row.set xi (qm : Int)) := by
        rw [← hW5]
        exact (b2.set xi (qm : Int)).keep (below_drewN (Below.refl _ _) 1) b2.lt
      have g5 : W.grownBy W5 (some (w.heap.size + 1)) := by rw [← hW5]; exact gb_drew (gb_set (gb_refl _ _) xi _)
      have g6 : W5.grownBy (W5.setCell ⟨w.heap.size, 0, none⟩ (.int .i64 (qd : Int))) (some w.heap.size) := gb_set (gb_refl _ _) 0 _
      have hs5 := g5.size
      refine ⟨(k5.trans (KeepsOthers.setCell _ _ _)).from _, ⟨?_, ?_⟩, ?_, ?_, ?_, ?_⟩
      · exact (hsR.mono (show w.heap.size ≤ w.heap.size + 1 by omega)).setCell (p := ⟨w.heap.size, 0, none⟩) (Nat.le_refl _) _
      · exact (g6.block (w.heap.size + 1 + 1 + 1) (by omega) (by simp; omega)).trans (g5.block (w.heap.size + 1 + 1 + 1) (by omega) (by simp; omega))
      · rw [HST.out]; exact Boxed.set _ (b1.kept g5 (by simp))
      · rw [HST.out]; exact R5.gb g6 (by simp)
      · exact (b3.kept g5 (by simp)).kept g6 (by simp; omega)
      · exact (hB1.trans (hsR.mono (by omega))).setCell (p := ⟨w.heap.size, 0, none⟩) (Nat.le_refl _) _
  case done =>
    rintro D ys W hD hS ⟨b1, b2, b3, hB1⟩ hK
    rw [celS_at i ys hS, HR.out] at b2
    have hrl : r.length = l.length := by rw [← HR.out]; exact cel_len _ _
    rw [← hrl] at b3
    have cT := b3.cell
    have HK : Hid (W.heap[D]? = some (.deferred (some []))) := hK
    have HLN : Hid (r.length = l.length) := hrl
    clear hS hK hrl
    gi_wp2
    refine ⟨by simp, .inl ⟨_, _, rfl, run_takeDeferred HK.out, ?_⟩⟩
    have hg := grownBy_putObj' W D (.deferred none)
    have hR : RowI (W.putObj D (.deferred none)) (w.heap.size + 1) r := b2.gb hg (by intro e; simp at e; omega)
    exact ⟨.slice (some ⟨w.heap.size + 1, 0, none⟩) r.length r.length, by simp [results, Tryd.results19, go_sem], rfl, hR, (hbW.trans hB1).trans (belowK_b (w := w) (Nat.le_refl _) W D _ _ (by omega) HK.out rfl rfl)⟩
  case stop =>
    rintro D c' pre W _ _ h _
    exact h.elim
end Go.Proofs.YtkpjjiomfgkobaaDoor

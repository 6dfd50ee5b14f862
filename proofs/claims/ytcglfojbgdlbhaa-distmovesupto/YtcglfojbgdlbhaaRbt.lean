import Derived.Test.YtcglfojbgdlbhaaBeh
namespace Go.Proofs.Ytcglfojbgdlbhaa
open Go.RowKit Go.Shelf Go.Proofs.Ytcglfojbgdlbhaa.Ds

theorem cmp_pre (x a b : List Int) : cmpT (x ++ a) (x ++ b) = cmpT a b := by
  induction x with
  | nil => rfl
  | cons c x ih => simp only [List.cons_append, cmpT]; rw [if_neg (by omega), if_neg (by omega)]; exact ih
theorem pre_tot (x : List Int) (b : List Pt) : tot (pre x b) = tot b := by
  induction b with
  | nil => rfl
  | cons p b ih => simp only [pre, List.map_cons] at *; rw [tot_cons, tot_cons, ih]
theorem pre_dv (x : List Int) (b : List Pt) : dv (pre x b) = dv b := by
  induction b with
  | nil => rfl
  | cons p b ih => simp only [pre, List.map_cons, dv] at *; rw [ih]
theorem pre_dis {x : List Int} {b : List Pt} (h : Dis b) (ho : (pre x b).all okP = true) : Dis (pre x b) := by
  refine ⟨?_, ?_, by rw [pre_tot]; exact h.le, ?_, ho, by simp [pre]; exact h.few, by rw [pre_dv]; exact h.one⟩
  · unfold Rise pre
    rw [List.pairwise_map]
    exact h.rise.imp fun {p q} hpq => by show cmpT (x ++ p.1) (x ++ q.1) < 0; rw [cmp_pre]; exact hpq
  · intro p hp
    obtain ⟨q, hq, rfl⟩ := List.mem_map.1 hp
    exact h.pos q hq
  · intro h0
    have := h.ne
    simp [pre] at h0
    exact this h0
theorem beh_dis {x : List Int} {b : List Pt} (h : Dis b) (he : (behT x b).2 = 0) : (behT x b).1 = pre x b ∧ Dis (pre x b) := by
  unfold behT at *
  split at he
  · rename_i ho
    rw [if_pos ho]
    exact ⟨rfl, pre_dis h ho⟩
  · simp at he

/-- Both -/
def bothT (l m : List Pt) : List Pt × Int := if twoE l m = 0 then chT (fun x => behT x m) l else ([], twoE l m)

theorem both1_any (C D bx : Nat) (u v : Value) (xs : List Int) (ts : List Tr) (w : World) (hC : C ≤ w.heap.size) (hD : D ≤ w.heap.size) (hc : w.cell? ⟨bx, 0, none⟩ = some v) (hx : Ints w C C u xs) (hp : Parts w D v ts) (hxl : xs.length ≤ 16) (hd : Dis (rd ts)) (l : List Pt) (er : Int) (hr : behT xs (rd ts) = (l, er)) :
    Calls Try.prog 63 #[u, .pointer (some ⟨bx, 0, none⟩)] w fun e w' => ∃ v' us, e = .returned (.tuple #[v', .int .i64 er]) ∧ rd us = l ∧ OwnN w' w.heap.size v' us ∧ Below w.heap.size w w' ∧ Frs w.heap.size us := by
  have kc := behind_any C D u v xs ts w hC hD hx hp hxl hd l er hr
  obtain ⟨a, c, rfl, _⟩ := hp
  obtain ⟨ua, uc, rfl, _⟩ := hx
  clear hr hd
  go_enter Try.func63, Try.ntmps63
  go_wp2_with fail
  refine kc.mono ?_
  rintro e w1 ⟨v1, us, rfl, h1, h2, h3, h4⟩
  obtain ⟨b1, d1, rfl⟩ := h2.slice
  clear kc
  go_wp2
  exact bodyPost_ret (v := .tuple #[.slice b1 us.length d1, .int .i64 er]) (by simp [results, Try.results63, go_sem]) rfl ⟨_, us, rfl, h1, h2, h3, h4⟩

/-- what a box of one slice holds can be turned: nothing that is read lies there -/
theorem parts_box {w : World} {B bx : Nat} {sl v p : Value} {ts : List Tr} (h : Parts w B v ts) (hc : w.cell? ⟨bx, 0, none⟩ = some sl) (hsl : ∀ z, sl ≠ .int .i64 z) (hn : ∀ j, 0 < j → w.cell? ⟨bx, j, none⟩ = none) : Parts (w.setCell ⟨bx, 0, none⟩ p) B v ts := by
  obtain ⟨a, c, hv, hcc, hl, hi, hx⟩ := h
  refine ⟨a, c, hv, hcc, hl, fun t ht => ?_, fun hne => ?_⟩
  · obtain ⟨a', c', hv', hc', hl', hy⟩ := hi t ht
    refine ⟨a', c', hv', hc', hl', fun hne => ?_⟩
    obtain ⟨b, o, ha, hb, hnb, hcell⟩ := hy hne
    have hbb : b ≠ bx := by
      rintro rfl
      obtain ⟨x0, hx0⟩ := get_lt (l := t.2.1) (i := 0) (List.length_pos_iff.2 hne)
      have h5 := hcell 0 x0 hx0
      rw [Nat.add_zero] at h5
      rcases Nat.eq_zero_or_pos o with e | e
      · subst e; rw [hc] at h5; simp only [Option.some.injEq] at h5; exact hsl _ h5
      · rw [hn o e] at h5; cases h5
    exact ⟨b, o, ha, hb, hnb, fun i x hx => (sc_other (fun e => hbb (by simp only [Addr.mk.injEq] at e; exact e.1.symm))).trans (hcell i x hx)⟩
  · obtain ⟨b, o, ha, hb, hcell⟩ := hx hne
    have hbb : b ≠ bx := by
      rintro rfl
      obtain ⟨t0, ht0⟩ := get_lt (l := ts) (i := 0) (List.length_pos_iff.2 hne)
      have h5 := (hcell 0 t0 ht0).2
      rw [hn _ (by omega)] at h5
      cases h5
    exact ⟨b, o, ha, hb, fun i t ht => ⟨(sc_other (fun e => hbb (by simp only [Addr.mk.injEq] at e; exact e.1.symm))).trans (hcell i t ht).1, (sc_other (fun e => hbb (by simp only [Addr.mk.injEq] at e; exact e.1.symm))).trans (hcell i t ht).2⟩⟩

set_option maxHeartbeats 1000000 in
theorem dboth_any (B : Nat) (v u : Value) (ts us : List Tr) (w : World) (hB : B ≤ w.heap.size) (hp : Parts w B v ts) (hq : Parts w B u us) (l : List Pt) (er : Int) (hr : bothT (rd ts) (rd us) = (l, er)) :
    Calls Try.prog 23 #[v, u] w fun e w' => ∃ v' us, e = .returned (.tuple #[v', .int .i64 er]) ∧ rd us = l ∧ OwnN w' w.heap.size v' us ∧ Below w.heap.size w w' := by
  obtain ⟨e1, ho⟩ : ∃ x, twoE (rd ts) (rd us) = x := ⟨_, rfl⟩
  have HP : Hid (Parts w B v ts) := hp
  have HQ : Hid (Parts w B u us) := hq
  have HR : Hid (bothT (rd ts) (rd us) = (l, er) ∧ twoE (rd ts) (rd us) = e1) := ⟨hr, ho⟩
  obtain ⟨a, c, rfl, _⟩ := hp
  obtain ⟨ua, uc, rfl, _⟩ := hq
  obtain ⟨W, hW⟩ : ∃ W, w.alloc (.cells #[.slice ua us.length uc] 23) = W := ⟨_, rfl⟩
  have HW : Hid (Below w.heap.size w W) := hW ▸ ba w _
  have hWs : W.heap.size = w.heap.size + 1 := by rw [← hW]; simp
  have cW : W.cell? ⟨w.heap.size, 0, none⟩ = some (.slice ua us.length uc) := by rw [← hW]; simp [go_sem]
  have fW : W.frozen? ⟨w.heap.size, 0, none⟩ = false := by rw [← hW]; simp [go_sem]
  have HNW : Hid (∀ j, 0 < j → W.cell? ⟨w.heap.size, j, none⟩ = none) := by
    intro j hj
    rw [← hW]
    obtain ⟨m, rfl⟩ : ∃ m, j = m + 1 := ⟨j - 1, by omega⟩
    have hh := World.alloc_heap_new w (.cells #[.slice ua us.length uc] 23)
    unfold World.cell?
    simp only [hh]
    simp
  have kc := ownTwo_any B (.slice a ts.length c) (.slice ua us.length uc) ts us W (by omega) (HP.out.at hB HW.out) (HQ.out.at hB HW.out) e1 ho
  clear hr ho
  go_enter Try.func23, Try.ntmps23
  go_wp2_with fail
  clear hW
  refine kc.mono ?_
  rintro e w1 ⟨a1, n1, c1, a2, n2, c2, rfl, hb1, hok⟩
  have hs1 := hb1.size
  have b1w : Below w.heap.size w w1 := bt HW.out hb1
  have c1' : w1.cell? ⟨w.heap.size, 0, none⟩ = some (.slice ua us.length uc) := (hb1.cell (p := ⟨w.heap.size, 0, none⟩) (by show w.heap.size < W.heap.size; omega)).trans cW
  have f1' : w1.frozen? ⟨w.heap.size, 0, none⟩ = false := (hb1.frozen (p := ⟨w.heap.size, 0, none⟩) (by show w.heap.size < W.heap.size; omega)).trans fW
  clear kc cW fW
  by_cases h0 : e1 = 0
  · subst h0
    obtain ⟨x1, x2, hd1, hd2, hp1, hp2⟩ := hok rfl
    obtain ⟨hdi1, hdi2⟩ := twoE_ok HR.out.2
    have hch := HR.out.1
    unfold bothT at hch
    rw [HR.out.2] at hch
    simp only [if_true] at hch
    have hnone : ∀ j, 0 < j → w1.cell? ⟨w.heap.size, j, none⟩ = none := fun j hj => (hb1.cell (p := ⟨w.heap.size, j, none⟩) (by show w.heap.size < W.heap.size; omega)).trans (HNW.out j hj)
    obtain ⟨W2, hW2⟩ : ∃ W2, w1.setCell ⟨w.heap.size, 0, none⟩ (.slice a2 n2 c2) = W2 := ⟨_, rfl⟩
    have hW2s : W2.heap.size = w1.heap.size := by rw [← hW2]; simp
    have c2' : W2.cell? ⟨w.heap.size, 0, none⟩ = some (.slice a2 n2 c2) := by rw [← hW2]; exact sc_same c1'
    have b2w : Below w.heap.size w W2 := by rw [← hW2]; exact bs b1w (Nat.le_refl _) _
    have q1 : Parts W2 W2.heap.size (.slice a1 n1 c1) x1 := by rw [hW2s, ← hW2]; exact parts_box hp1 c1' (fun z => by simp) hnone
    have q2 : Parts W2 W2.heap.size (.slice a2 n2 c2) x2 := by rw [hW2s, ← hW2]; exact parts_box hp2 c1' (fun z => by simp) hnone
    have kch := chain_any 63 (.pointer (some ⟨w.heap.size, 0, none⟩)) (fun x => behT x (rd us)) W2.heap.size (.slice a1 n1 c1) x1 W2 (Nat.le_refl _) q1 (by rw [hd1]; exact hdi1) (enters_of Try.func63 (by kernel_rfl) rfl)
      (fun W' u xs hbW hI hox => both1_any W'.heap.size W2.heap.size w.heap.size u (.slice a2 n2 c2) xs x2 W' (Nat.le_refl _) hbW.size ((hbW.cell (p := ⟨w.heap.size, 0, none⟩) (by show w.heap.size < W2.heap.size; omega)).trans c2') hI (q2.at (Nat.le_refl _) hbW) (by simp [okO] at hox; exact hox.1) (by rw [hd2]; exact hdi2) _ _ (by rw [hd2]))
      (fun p _ he => by have := beh_dis hdi2 he; rw [this.1]; exact this.2) l er (by rw [hd1]; exact hch)
    clear hok hp1 hp2 hdi1 hdi2 hch hd1 hd2 q1 q2 hnone
    go_wp2_with fail
    refine kch.mono ?_
    rintro e w2 ⟨v2, xs2, rfl, k1, k2, k3, _⟩
    obtain ⟨a3, c3, rfl⟩ := k2.slice
    have H2 : Hid (rd xs2 = l ∧ OwnN w2 w.heap.size (.slice a3 xs2.length c3) xs2) := ⟨k1, k2.mono (by omega)⟩
    clear k1 k2 kch
    go_wp2
    exact bodyPost_ret (v := .tuple #[.slice a3 xs2.length c3, .int .i64 er]) (by simp [results, Try.results23, go_sem]) rfl ⟨_, xs2, rfl, H2.out.1, H2.out.2, bt b2w k3⟩
  · have h0' : (e1 == 0) = false := by simpa using h0
    have hm := HR.out.1
    unfold bothT at hm
    rw [HR.out.2] at hm
    simp only [h0, if_false, Prod.mk.injEq] at hm
    obtain ⟨rfl, rfl⟩ := hm
    clear hok
    go_wp2
    exact bodyPost_ret (v := .tuple #[.slice none 0 0, .int .i64 e1]) (by simp [results, Try.results23, go_sem]) rfl ⟨_, [], rfl, rfl, .inl ⟨rfl, rfl⟩, bs b1w (Nat.le_refl _) _⟩
end Go.Proofs.Ytcglfojbgdlbhaa

namespace Go.Proofs.Ytcglfojbgdlbhaa
open Go.RowKit Go.Proofs.Ytcglfojbgdlbhaa.Ds

/-! ### the mathematics -/
theorem allT_congr {f g : List Int → List Pt × Int} {l : List Pt} (h : ∀ p ∈ l, f p.1 = g p.1) (A : Int) : allT f A l = allT g A l := by
  induction l generalizing A with
  | nil => rfl
  | cons p l ih =>
    have h1 := h p (by simp)
    rw [allT, allT, h1]
    split
    · split
      · rfl
      · exact ih (fun q hq => h q (by simp [hq])) _
    · rfl
theorem chT_congr {f g : List Int → List Pt × Int} {l : List Pt} (h : ∀ p ∈ l, f p.1 = g p.1) : chT f l = chT g l := by
  unfold chT
  rw [allT_congr h, spr_congr (N := fun x => (f x).1) (M := fun x => (g x).1) _ fun p hp => by simp only [h p hp]]
theorem make_dis {l : List Pt} (h : Dis l) : makeT l = (l, 0) := by
  unfold makeT
  rw [if_pos h.ok, gath_dis h, low_dis h]
theorem make_pre (x : List Int) {m : List Pt} (h : Dis m) : makeT (pre x m) = behT x m := by
  unfold behT
  split
  · rename_i ho; exact make_dis (pre_dis h ho)
  · rename_i ho; unfold makeT; rw [if_neg ho]
theorem both_same {l m : List Pt} (hm : Dis m) (h : ∀ p ∈ l, (behT p.1 m).2 = 0) : chT (fun x => behT x m) l = chT (fun x => ownT (pre x m)) l :=
  chT_congr fun p hp => by
    obtain ⟨h1, h2⟩ := beh_dis hm (h p hp)
    rw [h2.own]
    exact Prod.ext h1 (h p hp)
theorem both_err {l m : List Pt} (hm : Dis m) {p : Pt} (hp : p ∈ l) (he : (behT p.1 m).2 ≠ 0) : chT (fun x => behT x m) l = ([], 3) := by
  have h3 : ∀ q : Pt, (behT q.1 m).2 ≠ 0 → (behT q.1 m).2 = 3 := by
    intro q hq
    unfold behT at *
    split at hq
    · exact absurd rfl hq
    · rename_i ho; rw [if_neg ho]
  have tm := tot_pos2 hm.pos hm.ne
  have hall : ∀ (k : List Pt) (A : Int), (A = 1 ∨ A = tot m) → p ∈ k → allT (fun x => behT x m) A k = (0, 3) := by
    intro k
    induction k with
    | nil => intro A _ h; cases h
    | cons q k ih =>
      intro A hA hq
      rw [allT]
      by_cases hz : (behT q.1 m).2 = 0
      · rw [if_pos hz]
        obtain ⟨h1, h2⟩ := beh_dis hm hz
        have e : A * (tot (behT q.1 m).1 / (Int.gcd A (tot (behT q.1 m).1) : Int)) = tot m := by
          rw [h1, pre_tot]
          rcases hA with rfl | rfl
          · have : Int.gcd 1 (tot m) = 1 := Int.one_gcd
            rw [this]; simp
          · rw [Int.gcd_self, Int.natAbs_of_nonneg (by omega), Int.ediv_self (by omega), Int.mul_one]
        rw [e, if_neg (by have := hm.le; omega)]
        refine ih (tot m) (.inr rfl) ?_
        rcases List.mem_cons.1 hq with rfl | hq
        · exact absurd hz he
        · exact hq
      · rw [if_neg hz, h3 q hz]
  unfold chT
  rw [hall l 1 (.inl rfl) hp]
  rfl

/-- 'append' of numbers to a row of one's own, in a region that draws its order -/
theorem step_app_ints {ops : Array Oper} {o : Oper} {a : Act} {K : Act → World → Prop} {Q : Exit → Act → World → Prop} {E : Prop} (w : World) (hgd : o.guard = none) (s x : Operand) (ho : o.op = .call { callee := .builtin .append, args := #[s, x], argTypes := #[24, 24] })
    (base B nb n : Nat) (sa : Option Addr) (sc : Nat) (xs ys : List Int) (hs : a.eval s = .slice sa n sc) (hown : w.ownsRow base 3 1 (.slice sa n sc) n (xs.map (Value.int .i64))) (u : Value) (hx : a.eval x = u) (hu : Ints w B nb u ys) (hb : n + ys.length ≤ 1073741824) (hbase : base ≤ w.heap.size) (n' : Nat) (hn' : n + ys.length = n')
    (h : ∀ a' c' w', w'.ownsRow base 3 1 (.slice a' n' c') n' ((xs ++ ys).map (Value.int .i64)) → w.grownBy w' (Value.slice sa n sc).ownBlock → ((Value.slice a' n' c').ownBlock = (Value.slice sa n sc).ownBlock ∨ (Value.slice a' n' c').ownBlock = some w.heap.size) → K (a.put o.dst (.slice a' n' c')) w') :
    if Region.wanted o (yielded ops a.tmps) = true then Oper.wp Try.prog o a w K Q else E := by
  subst hn'
  have hw : Region.wanted o (yielded ops a.tmps) = true := by simp [Region.wanted, hgd]
  rw [if_pos hw]
  obtain ⟨i0, hi, hz0, hz1, hz2⟩ := info_parts info3
  have key : ∃ a' c' w', (Builtin.append_ #[24, 24] o.type #[.slice sa n sc, u]).run Try.prog w = .ok (.slice a' (n + ys.length) c') w' ∧ w'.ownsRow base 3 1 (.slice a' (n + ys.length) c') (n + ys.length) ((xs ++ ys).map (Value.int .i64)) ∧ w.grownBy w' (Value.slice sa n sc).ownBlock ∧ ((Value.slice a' (n + ys.length) c').ownBlock = (Value.slice sa n sc).ownBlock ∨ (Value.slice a' (n + ys.length) c').ownBlock = some w.heap.size) := by
    obtain ⟨ua, uc, rfl, hc, hl, hxx⟩ := hu
    by_cases hy : ys = []
    · subst hy
      exact ⟨sa, sc, w, app0 w _ sa ua n sc uc (owns_le hown) i0 hi hz1, by simpa using hown, World.grownBy.refl _ _, .inl rfl⟩
    · obtain ⟨b', o', rfl, hb', _, hcell⟩ := hxx hy
      obtain ⟨v', w', h1, h2, h3, _, h5⟩ := run_append_own_at (P := Try.prog) w base 24 o.type 3 i0 (.int .i64 0) 1 8 Try.underlying24 hi hz0 hz1 hz2 rfl (by decide) (.slice sa n sc) n (xs.map (Value.int .i64)) hown ⟨b', o', none⟩ ys.length uc (ys.map (Value.int .i64)) (by simp) (by
        intro m z hm
        have hlt : m < ys.length := by have := (List.getElem?_eq_some_iff.1 hm).1; simpa using this
        obtain ⟨y, hy2⟩ := get_lt hlt
        rw [Addr.add_lit, hcell m y hy2]
        simpa [hy2] using hm) (by intro z hz; obtain ⟨y, _, rfl⟩ := List.mem_map.1 hz; rfl) (by unfold maxLen; omega) (by omega) hbase
      obtain ⟨a', c', rfl⟩ := owns_slice h2
      exact ⟨a', c', w', h1, by rw [List.map_append]; exact h2, h3, h5⟩
  obtain ⟨a', c', w', hr, h2, h3, h4⟩ := key
  unfold Oper.wp execOp
  simp only [ho, resolve, invoke, builtin, Sem.run_bind, Sem.run_pure, Result.andThen_ok, List.map_toArray, List.map_cons, List.map_nil, hs, hx, hr]
  exact h a' c' w' h2 h3 h4
end Go.Proofs.Ytcglfojbgdlbhaa

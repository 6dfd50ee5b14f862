import Derived.Test.YtkolmadahacoeaaGreatQq37
namespace Go.Proofs.YtkolmadahacoeaaGreat.K.P
open Go.RowKit Go.Proofs.YtkolmadahacoeaaGreat.K.Ds
open Go.WideMaps (keyOf_string_mk)
theorem doT_base {done : List En} {e : En} (hb : badT e = 0) (hl : done.length < 4096) : doT done e = match budT done e.2.1 with
 | none => if e.1 = 1 then (if 64 ≤ (opsT done).length then 5 else 0) else 7
 | some b => if e.1 = 1 then 7 else
  if e.1 = 3 ∧ (e.2.2.1 < 0 ∨ 1073741824 < e.2.2.1) then 3 else
  if e.1 = 3 ∧ 64 < (parT (done ++ [e]) e.2.1).length then 5 else
  if (spentT (done ++ [e]) e.2.1).2 ≠ 0 then (spentT (done ++ [e]) e.2.1).2 else if LeR (spentT (done ++ [e]) e.2.1).1 b then 0 else 10 := by
 unfold doT; rw [if_neg (by omega), if_neg (by omega)]
 cases budT done e.2.1 <;> rfl
theorem chk_is (s : Rq × Int) (b al m : Rq) (h : s = mulT al m) : (if s.2 ≠ 0 then s.2 else if LeR s.1 b then 0 else 10) = chkT b al m := by
 subst h; unfold chkT
 by_cases c : (mulT al m).2 = 0 <;> simp [c]
theorem doT_spend {done : List En} (h : Inv done) {e : En} (hb : badT e = 0) (hl : done.length < 4096) (he : e.1 = 2) {b : Rq} (hbud : budT done e.2.1 = some b) :
  doT done e = onaT b (allP done e.2.1).1 e.2.2.2 (mostT (prtP done e.2.1) oneQ (prs done e.2.1)).1 := by
 rw [doT_base hb hl, hbud]
 simp only
 rw [if_neg (by omega), if_neg (by omega), if_neg (by omega)]
 unfold onaT
 rcases spent_all h he (bad_ok hb).2.2.2 with ⟨h1, h2⟩ | ⟨h1, _, _, h2⟩
 ·rw [h1, h2]; simp
 ·rw [if_pos h1]; exact chk_is _ _ _ _ h2
theorem doT_part {done : List En} (h : Inv done) {e : En} (hb : badT e = 0) (hl : done.length < 4096) (he : e.1 = 3) {b : Rq} (hbud : budT done e.2.1 = some b) (m : Rq)
  (hm : (mulT (prtP done e.2.1 e.2.2.1).1 e.2.2.2).2 = 0 → Top (fun p => (prtP (done ++ [e]) e.2.1 p).1) (fun p => p ∈ prs (done ++ [e]) e.2.1) m) :
  doT done e = onpT b (allP done e.2.1).1 (prtP done e.2.1 e.2.2.1).1 e.2.2.2 m (decide (e.2.2.1 ∈ prs done e.2.1)) (parT done e.2.1).length e.2.2.1 := by
 have h0 : ¬ e.1 = 1 := by omega
 rw [doT_base hb hl, hbud]
 simp only
 rw [if_neg h0]
 unfold onpT
 by_cases c1 : e.2.2.1 < 0 ∨ 1073741824 < e.2.2.1
 ·rw [if_pos ⟨he, c1⟩, if_pos c1]
 rw [if_neg (fun c => c1 c.2), if_neg c1]
 have h64 := h.par e.2.1
 have hps : (64 < (parT (done ++ [e]) e.2.1).length) ↔ (decide (e.2.2.1 ∈ prs done e.2.1) = false ∧ 64 ≤ (parT done e.2.1).length) := by
  rw [par_snoc]
  by_cases c : e.2.2.1 ∈ prs done e.2.1
  ·rw [if_neg (fun k => k.2.2 ((par_mem _ _ _).2 c))]; simp [c]; omega
  ·rw [if_pos ⟨rfl, he, fun k => c ((par_mem _ _ _).1 k)⟩]; simp [c]; omega
 by_cases c2 : decide (e.2.2.1 ∈ prs done e.2.1) = false ∧ 64 ≤ (parT done e.2.1).length
 ·rw [if_pos ⟨he, hps.2 c2⟩, if_pos c2]
 rw [if_neg (fun c => c2 (hps.1 c.2)), if_neg c2]
 rcases spent_part h he (bad_ok hb).2.2.2 with ⟨h1, h2⟩ | ⟨h1, _, _, h2, _⟩
 ·rw [h1, h2]; simp
 ·rw [if_pos h1]; exact chk_is _ _ _ _ (h2 m (hm h1))
theorem none_of {done : List En} (h : Inv done) {n : ByteArray} (hn : budT done n = none) : prs done n = [] ∧ allP done n = (oneQ, 0) := by
 have hz : prs done n = [] := by
  unfold prs
  rw [List.map_eq_nil_iff, List.filter_eq_nil_iff]
  intro x hx
  simp only [decide_eq_true_eq]
  rintro ⟨k1, _⟩
  obtain ⟨_, _, _, b', k4⟩ := h.bad x hx
  rw [k1, hn] at k4; cases k4
 have hy : lss done n 2 0 = [] := by
  unfold lss
  rw [List.map_eq_nil_iff, List.filter_eq_nil_iff]
  intro x hx
  simp only [isE, decide_eq_true_eq]
  rintro ⟨k1, _⟩
  obtain ⟨_, _, _, b', k4⟩ := h.bad x hx
  rw [k1, hn] at k4; cases k4
 exact ⟨hz, by unfold allP; rw [hy]; rfl⟩
def encE (e : En) : List Value := [.int .i64 e.1, .string e.2.1, .int .i64 e.2.2.1, .int .i64 e.2.2.2.1, .int .i64 e.2.2.2.2]
def enc (l : List En) : List Value := l.flatMap encE
theorem enc_len (l : List En) : (enc l).length = l.length * 5 := by
 induction l with
 | nil => rfl
 | cons e l ih => simp only [enc, List.flatMap_cons, List.length_append, List.length_cons] at *; rw [ih]; simp [encE]; omega
theorem enc_snoc (l : List En) (e : En) : enc (l ++ [e]) = enc l ++ encE e := by simp [enc]
abbrev kN (n : ByteArray) : Lit := .string n.data.toList
structure PurM (w : World) (N : Nat → Prop) (bk bm : Nat) (D : DataW Value) (done : List En) (n : ByteArray) (b : Rq) : Prop where
 ex : ∃ bp np Dp, D.atKey (kN n) (.held zp) = .held (pv b (allP done n).1 bp) ∧ Pts w bp np Dp (fun p => p ∈ prs done n) (fun p => (prtP done n p).1) ∧ np ≤ done.length ∧ Maps.size Dp = (parT done n).length ∧ N bp ∧ bp ≠ bk ∧ bp ≠ bm
structure BookM (w : World) (N : Nat → Prop) (bk bm n : Nat) (v : Value) (D : DataW Value) (done : List En) : Prop where
 inv : Inv done
 two : TwoB w bk (.map (some bm)) v
 own : w.ownsMap Tryz.prog 9 hR bm n D
 row : w.ownsRow 0 53 5 v done.length (enc done)
 cnt : n ≤ done.length
 is : ∀ x : ByteArray, Maps.has D (kN x) = true ↔ ∃ b, budT done x = some b
 el : ∀ x b, budT done x = some b → PurM w N bk bm D done x b
 sz : Maps.size D = (opsT done).length
 lob : N bk ∧ N bm ∧ bk ≠ bm ∧ ∀ g, v.ownBlock = some g → N g ∧ g ≠ bk ∧ g ≠ bm
theorem PurM.gb {w w' : World} {N : Nat → Prop} {bk bm : Nat} {D : DataW Value} {done : List En} {n : ByteArray} {b : Rq} {r : Option Nat} (h : PurM w N bk bm D done n b) (hg : w.grownBy w' r) (hr : ∀ k, r = some k → ¬ N k ∨ k = bk ∨ k = bm) : PurM w' N bk bm D done n b := by
 obtain ⟨bp, np, Dp, h1, h2, h3, h4, h5, h6, h7⟩ := h.ex
 exact ⟨bp, np, Dp, h1, h2.gb hg (fun e => by rcases hr bp e.symm with h | h | h; exact h h5; exact h6 h; exact h7 h), h3, h4, h5, h6, h7⟩
theorem BookM.gb {w w' : World} {N : Nat → Prop} {bk bm n : Nat} {v : Value} {D : DataW Value} {done : List En} {r : Option Nat} (h : BookM w N bk bm n v D done) (hg : w.grownBy w' r) (hr : ∀ k, r = some k → ¬ N k) : BookM w' N bk bm n v D done := by
 obtain ⟨hl1, hl2, hl3, hl4⟩ := h.lob
 have hk : w'.heap[bk]? = w.heap[bk]? := hg.block bk h.two.lt (fun e => hr bk e.symm hl1)
 refine ⟨h.inv, ⟨(World.cell?_of_block (w := w) (a := ⟨bk, 0, none⟩) hk).trans h.two.c0, (World.cell?_of_block (w := w) (a := ⟨bk, 1, none⟩) hk).trans h.two.c1, (World.frozen?_of_block (w := w) (a := ⟨bk, 0, none⟩) hk).trans h.two.f0, (World.frozen?_of_block (w := w) (a := ⟨bk, 1, none⟩) hk).trans h.two.f1, Nat.lt_of_lt_of_le h.two.lt hg.size⟩, h.own.kept hg (fun e => hr bm e.symm hl2), ?_, h.cnt, h.is, fun x b hx => (h.el x b hx).gb hg (fun k e => .inl (hr k e)), h.sz, h.lob⟩
 refine h.row.kept hg ?_
 cases hv : v.ownBlock with
 | none => exact .inl rfl
 | some g =>
  right
  intro e
  exact hr g e.symm (hl4 g hv).1
theorem BookM.mono {w : World} {N N' : Nat → Prop} {bk bm n : Nat} {v : Value} {D : DataW Value} {done : List En} (h : BookM w N bk bm n v D done) (hN : ∀ k, k < w.heap.size → N k → N' k) : BookM w N' bk bm n v D done := by
 obtain ⟨hl1, hl2, hl3, hl4⟩ := h.lob
 refine ⟨h.inv, h.two, h.own, h.row, h.cnt, h.is, fun x b hx => ?_, h.sz, hN _ h.two.lt hl1, hN _ h.own.lt hl2, hl3, fun g hg => ?_⟩
 ·obtain ⟨bp, np, Dp, h1, h2, h3, h4, h5, h6, h7⟩ := (h.el x b hx).ex
  exact ⟨bp, np, Dp, h1, h2, h3, h4, hN _ h2.own.lt h5, h6, h7⟩
 ·have := hl4 g hg
  refine ⟨hN g ?_ this.1, this.2⟩
  rcases h.row.2 with ⟨rfl, _⟩ | ⟨g', cap, cur, rfl, _, hc, _⟩
  ·cases hg
  ·simp only [Value.ownBlock, Option.some.injEq] at hg
   subst hg
   exact (Array.getElem?_eq_some_iff.1 hc).1
theorem BookM.keep {w w' : World} {N : Nat → Prop} {bk bm n : Nat} {v : Value} {D : DataW Value} {done : List En} (h : BookM w N bk bm n v D done) (hb : Below w.heap.size w w') : BookM w' N bk bm n v D done := h.gb (gb_none hb) (by simp)
def AfterP (w : World) (N : Nat → Prop) (bk bm : Nat) (done : List En) (e : En) (er : Int) : Ending → World → Prop := fun x w' =>
 Below w.heap.size w w' ∧ ((er ≠ 0 ∧ x = .returned (.tuple #[zp, .int .i64 er])) ∨
  (er = 0 ∧ ∃ b bp np Dp, x = .returned (.tuple #[pv b (allP (done ++ [e]) e.2.1).1 bp, .int .i64 0]) ∧ budT (done ++ [e]) e.2.1 = some b ∧
   Pts w' bp np Dp (fun p => p ∈ prs (done ++ [e]) e.2.1) (fun p => (prtP (done ++ [e]) e.2.1 p).1) ∧ np ≤ done.length + 1 ∧ Maps.size Dp = (parT (done ++ [e]) e.2.1).length ∧ N bp ∧ bp ≠ bk ∧ bp ≠ bm))
theorem BookM.lookAt {w : World} {N : Nat → Prop} {bk bm n : Nat} {v : Value} {D : DataW Value} {done : List En} (h : BookM w N bk bm n v D done) {x : ByteArray} (hx : x.size ≤ 4294967296) {vv : Value} (hv : D.atKey (kN x) (.held zp) = .held vv) {t : Bool} (ht : Maps.has D (kN x) = t) {w' : World} (hg : w.grownBy w' none) :
  (Instr.lookup 124 (.map (some bm)) (.string x) true).run Tryz.prog w' = .ok (.tuple #[vv, .bool t]) w' := by
 obtain ⟨v', ps, hrun, hat⟩ := (h.gb hg (by simp)).own.look_ok law9 Tryz.underlying124 (zero60 w') (zd := .held zp) (zp := []) rfl (Go.WideMaps.keyOf_string_mk Tryz.underlying9 (s := x) (by unfold maxLen; omega))
 rw [hv] at hat
 simp [hR] at hat
 rw [hrun, hat.1, ht]
theorem BookM.has_no {w : World} {N : Nat → Prop} {bk bm n : Nat} {v : Value} {D : DataW Value} {done : List En} (h : BookM w N bk bm n v D done) {x : ByteArray} (hb : budT done x = none) : Maps.has D (kN x) = false ∧ D.atKey (kN x) (.held zp) = .held zp := by
 have hh : Maps.has D (kN x) = false := by
  cases hc : Maps.has D (kN x) with
  | false => rfl
  | true => obtain ⟨b, hb'⟩ := (h.is x).1 hc; rw [hb] at hb'; cases hb'
 exact ⟨hh, Maps.atKey_of_not_has hh _⟩
def Aft10 (w : World) (u v' er : Int) : Ending → World → Prop := fun x w' => Below w.heap.size w w' ∧ ((er ≠ 0 ∧ x = .returned (.tuple #[zp, .int .i64 er])) ∨ (er = 0 ∧ ∃ bp, x = .returned (.tuple #[pv (u, v') oneQ bp, .int .i64 0]) ∧ w.heap.size ≤ bp ∧ Pts w' bp 0 (.map []) (fun _ => False) (fun _ => oneQ)))
def Aft21 (w : World) (N : Nat → Prop) (bk bm : Nat) (done : List En) (nm : ByteArray) (b al : Rq) (er : Int) : Ending → World → Prop := fun x w' => Below w.heap.size w w' ∧ ((er ≠ 0 ∧ x = .returned (.tuple #[zp, .int .i64 er])) ∨ (er = 0 ∧ ∃ bp np Dp, x = .returned (.tuple #[pv b al bp, .int .i64 0]) ∧ Pts w' bp np Dp (fun p => p ∈ prs done nm) (fun p => (prtP done nm p).1) ∧ np ≤ done.length ∧ Maps.size Dp = (parT done nm).length ∧ N bp ∧ bp ≠ bk ∧ bp ≠ bm))
def Aft31 (w : World) (done : List En) (nm : ByteArray) (b al q : Rq) (p er : Int) : Ending → World → Prop := fun x w' => Below w.heap.size w w' ∧ ((er ≠ 0 ∧ x = .returned (.tuple #[zp, .int .i64 er])) ∨ (er = 0 ∧ ∃ bp np Dp, x = .returned (.tuple #[pv b al bp, .int .i64 0]) ∧ Pts w' bp (np + 1) Dp (fun y => y ∈ prs done nm ∨ y = p) (fun y => if y = p then q else (prtP done nm y).1) ∧ np ≤ done.length ∧ Maps.size Dp = (if decide (p ∈ prs done nm) then (parT done nm).length else (parT done nm).length + 1) ∧ w.heap.size ≤ bp))
set_option maxHeartbeats 800000 in
set_option maxRecDepth 100000 in
theorem after11_any (N : Nat → Prop) (bk bm n : Nat) (v : Value) (D : DataW Value) (done : List En) (nm : ByteArray) (p u v' : Int) (w : World) (hB : BookM w N bk bm n v D done) (hs : nm.size ≤ 4294967296) (b : Rq) (hbud : budT done nm = some b) :
  Calls Tryz.prog 55 #[.pointer (some ⟨bk, 0, none⟩), ev (1, nm, p, u, v')] w fun x w' => Below w.heap.size w w' ∧ x = .returned (.tuple #[zp, .int .i64 7]) := by
 have HB : Hid (BookM w N bk bm n v D done) := hB
 obtain ⟨w0, hw0⟩ : ∃ w0, (w.alloc (.cells #[.int .i64 1, .string nm, .int .i64 p, .int .i64 u, .int .i64 v'] 53)).alloc (.cells #[.int .i64 0, .int .i64 0, .int .i64 0, .int .i64 0, .map none] 129) = w0 := ⟨_, rfl⟩
 have hz0 : w0.heap.size = w.heap.size + 1 + 1 := by rw [← hw0]; simp
 have B0 : Below w.heap.size w w0 := by rw [← hw0]; exact bal (ba _ _) _
 have V0 : Hid (FivB w0 w.heap.size (.int .i64 1) (.string nm) (.int .i64 p) (.int .i64 u) (.int .i64 v')) := by rw [← hw0]; exact (FivB.new _ _ _ _ _ _ 53 _ rfl).below (ba _ _)
 have V1 : Hid (FivB w0 (w.heap.size + 1) (.int .i64 0) (.int .i64 0) (.int .i64 0) (.int .i64 0) (.map none)) := by rw [← hw0]; exact FivB.new _ _ _ _ _ _ 129 _ (by simp)
 have BK : Hid (BookM w0 N bk bm n v D done) := hB.keep B0
 obtain ⟨bp, np, Dp, hat, hPp, hnp, hszp, hlop, hbpk, hbpm⟩ := (hB.el nm b hbud).ex
 have hhas : Maps.has D (kN nm) = true := (hB.is nm).2 ⟨b, hbud⟩
 have HX : Hid (np ≤ done.length ∧ Maps.size Dp = (parT done nm).length ∧ N bp ∧ bp ≠ bk ∧ bp ≠ bm) := ⟨hnp, hszp, hlop, hbpk, hbpm⟩
 have HPp : Hid (Pts w bp np Dp (fun p => p ∈ prs done nm) (fun p => (prtP done nm p).1)) := hPp
 have HBU : Hid (budT done nm = some b) := hbud
 clear hnp hszp hlop hbpk hbpm hPp hbud
 obtain ⟨al, hal⟩ : ∃ al, (allP done nm).1 = al := ⟨_, rfl⟩
 have HAL : Hid ((allP done nm).1 = al) := hal
 rw [hal] at hat
 clear hal
 have hlk1 := BK.out.lookAt hs hat hhas (gb_drew (gb_refl w0 none))
 have hlk2 := BK.out.lookAt hs hat hhas (gb_drew (gb_alloc (gb_refl w0 none) (.cells #[.int .i64 0, .int .i64 0, .int .i64 0, .int .i64 0, .map none] 129)))
 obtain ⟨c0, c1, c2, c3, c4, f0, f1, f2, f3, f4, hl0⟩ := V0.out
 obtain ⟨d0, d1, d2, d3, d4, g0, g1, g2, g3, g4, hl1⟩ := V1.out
 obtain ⟨t0, t1, tf0, tf1, htl⟩ := BK.out.two
 have hbk : bk < w.heap.size := HB.out.two.lt
 have hbk2 : bk < w.heap.size + 1 + 1 := by omega
 clear hB hat hhas
 go_enter Tryz.func55, Tryz.ntmps55
 go_wp2_with fail
 go_region
 all_goals go_wp2_with fail
 all_goals exact bodyPost_ret (v := .tuple #[zp, .int .i64 7]) (by simp [results, Tryz.results55, go_sem, d0, d1, d2, d3, d4, hl1]) rfl ⟨(bal (bs5 B0 (by omega) _ _ _ _ _) _).drew, rfl⟩
set_option maxHeartbeats 800000 in
set_option maxRecDepth 100000 in
theorem after20_any (N : Nat → Prop) (bk bm n : Nat) (v : Value) (D : DataW Value) (done : List En) (nm : ByteArray) (p u v' : Int) (w : World) (hB : BookM w N bk bm n v D done) (hs : nm.size ≤ 4294967296) (hbud : budT done nm = none) :
  Calls Tryz.prog 55 #[.pointer (some ⟨bk, 0, none⟩), ev (2, nm, p, u, v')] w fun x w' => Below w.heap.size w w' ∧ x = .returned (.tuple #[zp, .int .i64 7]) := by
 have HB : Hid (BookM w N bk bm n v D done) := hB
 obtain ⟨w0, hw0⟩ : ∃ w0, (w.alloc (.cells #[.int .i64 2, .string nm, .int .i64 p, .int .i64 u, .int .i64 v'] 53)).alloc (.cells #[.int .i64 0, .int .i64 0, .int .i64 0, .int .i64 0, .map none] 129) = w0 := ⟨_, rfl⟩
 have hz0 : w0.heap.size = w.heap.size + 1 + 1 := by rw [← hw0]; simp
 have B0 : Below w.heap.size w w0 := by rw [← hw0]; exact bal (ba _ _) _
 have V0 : Hid (FivB w0 w.heap.size (.int .i64 2) (.string nm) (.int .i64 p) (.int .i64 u) (.int .i64 v')) := by rw [← hw0]; exact (FivB.new _ _ _ _ _ _ 53 _ rfl).below (ba _ _)
 have V1 : Hid (FivB w0 (w.heap.size + 1) (.int .i64 0) (.int .i64 0) (.int .i64 0) (.int .i64 0) (.map none)) := by rw [← hw0]; exact FivB.new _ _ _ _ _ _ 129 _ (by simp)
 have BK : Hid (BookM w0 N bk bm n v D done) := hB.keep B0
 obtain ⟨hhas, hat⟩ := hB.has_no hbud
 have HBU : Hid (budT done nm = none) := hbud
 clear hbud
 have hlk1 := BK.out.lookAt hs hat hhas (gb_drew (gb_refl w0 none))
 have hlk2 := BK.out.lookAt hs hat hhas (gb_drew (gb_alloc (gb_refl w0 none) (.cells #[.int .i64 0, .int .i64 0, .int .i64 0, .int .i64 0, .map none] 129)))
 obtain ⟨c0, c1, c2, c3, c4, f0, f1, f2, f3, f4, hl0⟩ := V0.out
 obtain ⟨d0, d1, d2, d3, d4, g0, g1, g2, g3, g4, hl1⟩ := V1.out
 obtain ⟨t0, t1, tf0, tf1, htl⟩ := BK.out.two
 have hbk : bk < w.heap.size := HB.out.two.lt
 have hbk2 : bk < w.heap.size + 1 + 1 := by omega
 clear hB hat hhas
 go_enter Tryz.func55, Tryz.ntmps55
 go_wp2_with fail
 go_region
 all_goals go_wp2_with fail
 all_goals exact bodyPost_ret (v := .tuple #[zp, .int .i64 7]) (by simp [results, Tryz.results55, go_sem, d0, d1, d2, d3, d4, hl1]) rfl ⟨(bal (bs5 B0 (by omega) _ _ _ _ _) _).drew, rfl⟩
set_option maxHeartbeats 800000 in
set_option maxRecDepth 100000 in
theorem after30_any (N : Nat → Prop) (bk bm n : Nat) (v : Value) (D : DataW Value) (done : List En) (nm : ByteArray) (p u v' : Int) (w : World) (hB : BookM w N bk bm n v D done) (hs : nm.size ≤ 4294967296) (hbud : budT done nm = none) :
  Calls Tryz.prog 55 #[.pointer (some ⟨bk, 0, none⟩), ev (3, nm, p, u, v')] w fun x w' => Below w.heap.size w w' ∧ x = .returned (.tuple #[zp, .int .i64 7]) := by
 have HB : Hid (BookM w N bk bm n v D done) := hB
 obtain ⟨w0, hw0⟩ : ∃ w0, (w.alloc (.cells #[.int .i64 3, .string nm, .int .i64 p, .int .i64 u, .int .i64 v'] 53)).alloc (.cells #[.int .i64 0, .int .i64 0, .int .i64 0, .int .i64 0, .map none] 129) = w0 := ⟨_, rfl⟩
 have hz0 : w0.heap.size = w.heap.size + 1 + 1 := by rw [← hw0]; simp
 have B0 : Below w.heap.size w w0 := by rw [← hw0]; exact bal (ba _ _) _
 have V0 : Hid (FivB w0 w.heap.size (.int .i64 3) (.string nm) (.int .i64 p) (.int .i64 u) (.int .i64 v')) := by rw [← hw0]; exact (FivB.new _ _ _ _ _ _ 53 _ rfl).below (ba _ _)
 have V1 : Hid (FivB w0 (w.heap.size + 1) (.int .i64 0) (.int .i64 0) (.int .i64 0) (.int .i64 0) (.map none)) := by rw [← hw0]; exact FivB.new _ _ _ _ _ _ 129 _ (by simp)
 have BK : Hid (BookM w0 N bk bm n v D done) := hB.keep B0
 obtain ⟨hhas, hat⟩ := hB.has_no hbud
 have HBU : Hid (budT done nm = none) := hbud
 clear hbud
 have hlk1 := BK.out.lookAt hs hat hhas (gb_drew (gb_refl w0 none))
 have hlk2 := BK.out.lookAt hs hat hhas (gb_drew (gb_alloc (gb_refl w0 none) (.cells #[.int .i64 0, .int .i64 0, .int .i64 0, .int .i64 0, .map none] 129)))
 obtain ⟨c0, c1, c2, c3, c4, f0, f1, f2, f3, f4, hl0⟩ := V0.out
 obtain ⟨d0, d1, d2, d3, d4, g0, g1, g2, g3, g4, hl1⟩ := V1.out
 obtain ⟨t0, t1, tf0, tf1, htl⟩ := BK.out.two
 have hbk : bk < w.heap.size := HB.out.two.lt
 have hbk2 : bk < w.heap.size + 1 + 1 := by omega
 clear hB hat hhas
 go_enter Tryz.func55, Tryz.ntmps55
 go_wp2_with fail
 go_region
 all_goals go_wp2_with fail
 all_goals exact bodyPost_ret (v := .tuple #[zp, .int .i64 7]) (by simp [results, Tryz.results55, go_sem, d0, d1, d2, d3, d4, hl1]) rfl ⟨(bal (bs5 B0 (by omega) _ _ _ _ _) _).drew, rfl⟩
set_option maxHeartbeats 800000 in
set_option maxRecDepth 100000 in
theorem after10_any (N : Nat → Prop) (bk bm n : Nat) (v : Value) (D : DataW Value) (done : List En) (nm : ByteArray) (p u v' : Int) (w : World) (hB : BookM w N bk bm n v D done) (hs : nm.size ≤ 4294967296) (hbud : budT done nm = none) (k : Nat) (hk : (opsT done).length = k) (er : Int) (her : (if 64 ≤ k then 5 else 0) = er) :
  Calls Tryz.prog 55 #[.pointer (some ⟨bk, 0, none⟩), ev (1, nm, p, u, v')] w (Aft10 w u v' er) := by
 have HB : Hid (BookM w N bk bm n v D done) := hB
 obtain ⟨w0, hw0⟩ : ∃ w0, (w.alloc (.cells #[.int .i64 1, .string nm, .int .i64 p, .int .i64 u, .int .i64 v'] 53)).alloc (.cells #[.int .i64 0, .int .i64 0, .int .i64 0, .int .i64 0, .map none] 129) = w0 := ⟨_, rfl⟩
 have hz0 : w0.heap.size = w.heap.size + 1 + 1 := by rw [← hw0]; simp
 have B0 : Below w.heap.size w w0 := by rw [← hw0]; exact bal (ba _ _) _
 have V0 : Hid (FivB w0 w.heap.size (.int .i64 1) (.string nm) (.int .i64 p) (.int .i64 u) (.int .i64 v')) := by rw [← hw0]; exact (FivB.new _ _ _ _ _ _ 53 _ rfl).below (ba _ _)
 have V1 : Hid (FivB w0 (w.heap.size + 1) (.int .i64 0) (.int .i64 0) (.int .i64 0) (.int .i64 0) (.map none)) := by rw [← hw0]; exact FivB.new _ _ _ _ _ _ 129 _ (by simp)
 have BK : Hid (BookM w0 N bk bm n v D done) := hB.keep B0
 obtain ⟨hhas, hat⟩ := hB.has_no hbud
 have HBU : Hid (budT done nm = none) := hbud
 clear hbud
 have hlk1 := BK.out.lookAt hs hat hhas (gb_drew (gb_refl w0 none))
 have hlk2 := BK.out.lookAt hs hat hhas (gb_drew (gb_alloc (gb_refl w0 none) (.cells #[.int .i64 0, .int .i64 0, .int .i64 0, .int .i64 0, .map none] 129)))
 obtain ⟨c0, c1, c2, c3, c4, f0, f1, f2, f3, f4, hl0⟩ := V0.out
 obtain ⟨d0, d1, d2, d3, d4, g0, g1, g2, g3, g4, hl1⟩ := V1.out
 obtain ⟨t0, t1, tf0, tf1, htl⟩ := BK.out.two
 have hbk : bk < w.heap.size := HB.out.two.lt
 have hbk2 : bk < w.heap.size + 1 + 1 := by omega
 clear hB hat hhas
 have hlen := (BK.out.gb (gb_drew (gb_alloc (gb_refl w0 none) (.cells #[.int .i64 0, .int .i64 0, .int .i64 0, .int .i64 0, .map none] 129))) (by simp)).own.len Tryz.underlying124 3
 rw [BK.out.sz, hk] at hlen
 have hkb : k ≤ 64 := by rw [← hk]; exact BK.out.inv.ops
 have ko := fun W => opened_any (u, v') (fun _ => oneQ) W
 have W1 : Hid (FivB (w0.alloc (.cells #[.int .i64 0, .int .i64 0, .int .i64 0, .int .i64 0, .map none] 129)).drew (w.heap.size + 1) (.int .i64 0) (.int .i64 0) (.int .i64 0) (.int .i64 0) (.map none)) := (V1.out.below (ba _ _)).gb (gb_drew (gb_refl _ none)) (by simp)
 go_enter Tryz.func55, Tryz.ntmps55
 go_wp2_with fail
 go_region
 all_goals
  by_cases c : 64 ≤ k
  ·rw [if_pos c] at her
   subst her
   have hq : decide ((64 : Int) ≤ (k : Int)) = true := decide_eq_true (by omega)
   go_wp2_with fail
   exact bodyPost_ret (v := .tuple #[zp, .int .i64 5]) (by simp [results, Tryz.results55, go_sem, d0, d1, d2, d3, d4, hl1]) rfl ⟨(bal (bs5 B0 (by omega) _ _ _ _ _) _).drew, .inl ⟨by decide, rfl⟩⟩
  ·rw [if_neg c] at her
   subst her
   have hq : decide ((64 : Int) ≤ (k : Int)) = false := decide_eq_false (by omega)
   go_wp2_with fail
   refine (ko _).mono ?_
   rintro e1 w1 ⟨bp, rfl, hb1, hbp, hP1⟩
   obtain ⟨x0, x1, x2, x3, x4, y0, y1, y2, y3, y4, hx⟩ := W1.out.below hb1
   have hbp' : w.heap.size + 1 + 1 < bp := by simp [hz0] at hbp; omega
   go_wp2_with fail
   exact bodyPost_ret (v := .tuple #[pv (u, v') oneQ bp, .int .i64 0]) (by simp [results, Tryz.results55, go_sem, x0, x1, x2, x3, x4]) rfl ⟨bs5 (bt (bal B0 _).drew hb1) (by omega) _ _ _ _ _, .inr ⟨rfl, bp, rfl, by omega, hP1.gb (gb_set (gb_set (gb_set (gb_set (gb_set (gb_refl _ _) _ _) _ _) _ _) _ _) _ _) (by simp; omega)⟩⟩
set_option maxHeartbeats 800000 in
set_option maxRecDepth 100000 in
theorem after21_any (N : Nat → Prop) (bk bm n : Nat) (v : Value) (D : DataW Value) (done : List En) (nm : ByteArray) (p u v' : Int) (w : World) (hB : BookM w N bk bm n v D done) (hs : nm.size ≤ 4294967296) (b : Rq) (hbud : budT done nm = some b) (m : Rq) (ht : Top (fun p => (prtP done nm p).1) (fun p => p ∈ prs done nm) m) (hob : OkR b) (hls : OkR (u, v')) (er : Int) (her : onaT b (allP done nm).1 (u, v') m = er) :
  Calls Tryz.prog 55 #[.pointer (some ⟨bk, 0, none⟩), ev (2, nm, p, u, v')] w (Aft21 w N bk bm done nm b (mulT (allP done nm).1 (u, v')).1 er) := by
 have HB : Hid (BookM w N bk bm n v D done) := hB
 obtain ⟨w0, hw0⟩ : ∃ w0, (w.alloc (.cells #[.int .i64 2, .string nm, .int .i64 p, .int .i64 u, .int .i64 v'] 53)).alloc (.cells #[.int .i64 0, .int .i64 0, .int .i64 0, .int .i64 0, .map none] 129) = w0 := ⟨_, rfl⟩
 have hz0 : w0.heap.size = w.heap.size + 1 + 1 := by rw [← hw0]; simp
 have B0 : Below w.heap.size w w0 := by rw [← hw0]; exact bal (ba _ _) _
 have V0 : Hid (FivB w0 w.heap.size (.int .i64 2) (.string nm) (.int .i64 p) (.int .i64 u) (.int .i64 v')) := by rw [← hw0]; exact (FivB.new _ _ _ _ _ _ 53 _ rfl).below (ba _ _)
 have V1 : Hid (FivB w0 (w.heap.size + 1) (.int .i64 0) (.int .i64 0) (.int .i64 0) (.int .i64 0) (.map none)) := by rw [← hw0]; exact FivB.new _ _ _ _ _ _ 129 _ (by simp)
 have BK : Hid (BookM w0 N bk bm n v D done) := hB.keep B0
 obtain ⟨bp, np, Dp, hat, hPp, hnp, hszp, hlop, hbpk, hbpm⟩ := (hB.el nm b hbud).ex
 have hhas : Maps.has D (kN nm) = true := (hB.is nm).2 ⟨b, hbud⟩
 have HX : Hid (np ≤ done.length ∧ Maps.size Dp = (parT done nm).length ∧ N bp ∧ bp ≠ bk ∧ bp ≠ bm) := ⟨hnp, hszp, hlop, hbpk, hbpm⟩
 have HPp : Hid (Pts w bp np Dp (fun p => p ∈ prs done nm) (fun p => (prtP done nm p).1)) := hPp
 have HBU : Hid (budT done nm = some b) := hbud
 clear hnp hszp hlop hbpk hbpm hPp hbud
 obtain ⟨al, hal⟩ : ∃ al, (allP done nm).1 = al := ⟨_, rfl⟩
 have HAL : Hid ((allP done nm).1 = al) := hal
 rw [hal] at hat
 clear hal
 have hlk1 := BK.out.lookAt hs hat hhas (gb_drew (gb_refl w0 none))
 have hlk2 := BK.out.lookAt hs hat hhas (gb_drew (gb_alloc (gb_refl w0 none) (.cells #[.int .i64 0, .int .i64 0, .int .i64 0, .int .i64 0, .map none] 129)))
 obtain ⟨c0, c1, c2, c3, c4, f0, f1, f2, f3, f4, hl0⟩ := V0.out
 obtain ⟨d0, d1, d2, d3, d4, g0, g1, g2, g3, g4, hl1⟩ := V1.out
 obtain ⟨t0, t1, tf0, tf1, htl⟩ := BK.out.two
 have hbk : bk < w.heap.size := HB.out.two.lt
 have hbk2 : bk < w.heap.size + 1 + 1 := by omega
 clear hB hat hhas
 rw [HAL.out] at her
 rw [HAL.out]
 have hal1 : OkR al := HAL.out ▸ (HB.out.inv.all nm).2
 have hln := HB.out.inv.len
 have ko := fun W (hW : Pts W bp np Dp (fun p => p ∈ prs done nm) (fun p => (prtP done nm p).1)) => onAll_any b al (u, v') bp np Dp _ _ W hW (by have := HX.out.1; omega) m ht hal1 hob hls er her
 have P1 : Hid (Pts (w0.alloc (.cells #[.int .i64 b.1, .int .i64 b.2, .int .i64 al.1, .int .i64 al.2, .map (some bp)] 129)).drew bp np Dp (fun p => p ∈ prs done nm) (fun p => (prtP done nm p).1)) := (HPp.out.keep (bal B0 _)).gb (gb_drew (gb_refl _ none)) (by simp)
 have W1 : Hid (FivB (w0.alloc (.cells #[.int .i64 b.1, .int .i64 b.2, .int .i64 al.1, .int .i64 al.2, .map (some bp)] 129)).drew (w.heap.size + 1) (.int .i64 0) (.int .i64 0) (.int .i64 0) (.int .i64 0) (.map none)) := (V1.out.below (ba _ _)).gb (gb_drew (gb_refl _ none)) (by simp)
 have hbpl : bp < w.heap.size := HPp.out.own.lt
 clear her hln ht
 go_enter Tryz.func55, Tryz.ntmps55
 go_wp2_with fail
 go_region
 all_goals
  by_cases her : er = 0
  ·subst her
   simp only [↓reduceIte] at ko
   go_wp2_with fail
   refine (ko _ P1.out).mono ?_
   rintro e1 w1 ⟨rfl, hb1⟩
   obtain ⟨x0, x1, x2, x3, x4, y0, y1, y2, y3, y4, hx⟩ := W1.out.below hb1
   go_wp2_with fail
   exact bodyPost_ret (v := .tuple #[pv b (mulT al (u, v')).1 bp, .int .i64 0]) (by simp [results, Tryz.results55, go_sem, x0, x1, x2, x3, x4]) rfl ⟨bs5 (bt (bal B0 _).drew hb1) (by omega) _ _ _ _ _, .inr ⟨rfl, bp, np, Dp, rfl, (P1.out.keep hb1).gb (gb_set (gb_set (gb_set (gb_set (gb_set (gb_refl _ _) _ _) _ _) _ _) _ _) _ _) (by simp; omega), HX.out⟩⟩
  ·simp only [her, ↓reduceIte] at ko
   go_wp2_with fail
   refine (ko _ P1.out).mono ?_
   rintro e1 w1 ⟨rfl, hb1⟩
   obtain ⟨x0, x1, x2, x3, x4, y0, y1, y2, y3, y4, hx⟩ := W1.out.below hb1
   go_wp2_with fail
   exact bodyPost_ret (v := .tuple #[zp, .int .i64 er]) (by simp [results, Tryz.results55, go_sem, x0, x1, x2, x3, x4]) rfl ⟨bs5 (bt (bal B0 _).drew hb1) (by omega) _ _ _ _ _, .inl ⟨her, rfl⟩⟩
set_option maxHeartbeats 1000000 in
set_option maxRecDepth 100000 in
theorem onPartOut_any (bud al ls : Rq) (bm : Nat) (part : Int) (w : World) (hp : part < 0 ∨ 1073741824 < part) :
  Calls Tryz.prog 97 #[pv bud al bm, .int .i64 part, rvq ls] w fun x w' => x = .returned (.tuple #[zp, .int .i64 3]) ∧ Below w.heap.size w w' := by
 by_cases h : part < 0
 ·clear hp
  go_enter Tryz.func97, Tryz.ntmps97
  go_wp2_with fail
  exact bodyPost_ret (v := .tuple #[zp, .int .i64 3]) (by simp [results, Tryz.results97, go_sem]) rfl ⟨rfl, bal (bal (ba _ _) _) _⟩
 ·have h2 : 1073741824 < part := by omega
  clear hp
  go_enter Tryz.func97, Tryz.ntmps97
  go_wp2_with fail
  exact bodyPost_ret (v := .tuple #[zp, .int .i64 3]) (by simp [results, Tryz.results97, go_sem]) rfl ⟨rfl, bal (bal (ba _ _) _) _⟩
set_option maxHeartbeats 800000 in
set_option maxRecDepth 100000 in
theorem after31_any (N : Nat → Prop) (bk bm n : Nat) (v : Value) (D : DataW Value) (done : List En) (nm : ByteArray) (p u v' : Int) (w : World) (hB : BookM w N bk bm n v D done) (hs : nm.size ≤ 4294967296) (b : Rq) (hbud : budT done nm = some b) (fp : Rq) (hfp : (prtP done nm p).1 = fp) (m : Rq) (ht : (mulT fp (u, v')).2 = 0 → Top (fun y => if y = p then (mulT fp (u, v')).1 else (prtP done nm y).1) (fun y => y ∈ prs done nm ∨ y = p) m) (hob : OkR b) (hls : OkR (u, v')) (er : Int) (her : onpT b (allP done nm).1 fp (u, v') m (decide (p ∈ prs done nm)) (parT done nm).length p = er) (hpI : -9223372036854775808 ≤ p ∧ p ≤ 9223372036854775807) :
  Calls Tryz.prog 55 #[.pointer (some ⟨bk, 0, none⟩), ev (3, nm, p, u, v')] w (Aft31 w done nm b (allP done nm).1 (mulT fp (u, v')).1 p er) := by
 have HB : Hid (BookM w N bk bm n v D done) := hB
 obtain ⟨w0, hw0⟩ : ∃ w0, (w.alloc (.cells #[.int .i64 3, .string nm, .int .i64 p, .int .i64 u, .int .i64 v'] 53)).alloc (.cells #[.int .i64 0, .int .i64 0, .int .i64 0, .int .i64 0, .map none] 129) = w0 := ⟨_, rfl⟩
 have hz0 : w0.heap.size = w.heap.size + 1 + 1 := by rw [← hw0]; simp
 have B0 : Below w.heap.size w w0 := by rw [← hw0]; exact bal (ba _ _) _
 have V0 : Hid (FivB w0 w.heap.size (.int .i64 3) (.string nm) (.int .i64 p) (.int .i64 u) (.int .i64 v')) := by rw [← hw0]; exact (FivB.new _ _ _ _ _ _ 53 _ rfl).below (ba _ _)
 have V1 : Hid (FivB w0 (w.heap.size + 1) (.int .i64 0) (.int .i64 0) (.int .i64 0) (.int .i64 0) (.map none)) := by rw [← hw0]; exact FivB.new _ _ _ _ _ _ 129 _ (by simp)
 have BK : Hid (BookM w0 N bk bm n v D done) := hB.keep B0
 obtain ⟨bp, np, Dp, hat, hPp, hnp, hszp, hlop, hbpk, hbpm⟩ := (hB.el nm b hbud).ex
 have hhas : Maps.has D (kN nm) = true := (hB.is nm).2 ⟨b, hbud⟩
 have HX : Hid (np ≤ done.length ∧ Maps.size Dp = (parT done nm).length ∧ N bp ∧ bp ≠ bk ∧ bp ≠ bm) := ⟨hnp, hszp, hlop, hbpk, hbpm⟩
 have HPp : Hid (Pts w bp np Dp (fun p => p ∈ prs done nm) (fun p => (prtP done nm p).1)) := hPp
 have HBU : Hid (budT done nm = some b) := hbud
 clear hnp hszp hlop hbpk hbpm hPp hbud
 obtain ⟨al, hal⟩ : ∃ al, (allP done nm).1 = al := ⟨_, rfl⟩
 have HAL : Hid ((allP done nm).1 = al) := hal
 rw [hal] at hat
 clear hal
 have hlk1 := BK.out.lookAt hs hat hhas (gb_drew (gb_refl w0 none))
 have hlk2 := BK.out.lookAt hs hat hhas (gb_drew (gb_alloc (gb_refl w0 none) (.cells #[.int .i64 0, .int .i64 0, .int .i64 0, .int .i64 0, .map none] 129)))
 obtain ⟨c0, c1, c2, c3, c4, f0, f1, f2, f3, f4, hl0⟩ := V0.out
 obtain ⟨d0, d1, d2, d3, d4, g0, g1, g2, g3, g4, hl1⟩ := V1.out
 obtain ⟨t0, t1, tf0, tf1, htl⟩ := BK.out.two
 have hbk : bk < w.heap.size := HB.out.two.lt
 have hbk2 : bk < w.heap.size + 1 + 1 := by omega
 clear hB hat hhas
 rw [HAL.out] at her
 rw [HAL.out]
 have hal1 : OkR al := HAL.out ▸ (HB.out.inv.all nm).2
 have hln := HB.out.inv.len
 have hof : OkR fp := hfp ▸ (HB.out.inv.prt nm p).2
 have hnpb : np + 1 ≤ 1048576 := by have := HX.out.1; omega
 have ko : ∀ W, Pts W bp np Dp (fun p => p ∈ prs done nm) (fun p => (prtP done nm p).1) → Calls Tryz.prog 97 #[pv b al bp, .int .i64 p, rvq (u, v')] W (PartP W b al np (parT done nm).length (decide (p ∈ prs done nm)) (fun p => p ∈ prs done nm) (fun p => (prtP done nm p).1) p (mulT fp (u, v')).1 er) := fun W hW => by
  by_cases hr : 0 ≤ p ∧ p ≤ 1073741824
  ·cases hth : decide (p ∈ prs done nm) with
   | true =>
    rw [hth] at her
    exact onPartOld_any b al (u, v') fp bp np _ Dp _ _ p W hW hnpb HX.out.2.1 hr (of_decide_eq_true hth) hfp hof m ht hal1 hob hls er her
   | false =>
    rw [hth] at her
    have hno : ¬ p ∈ prs done nm := of_decide_eq_false hth
    exact onPartNew_any b al (u, v') fp bp np _ Dp _ _ p W hW hnpb HX.out.2.1 hr hno (by rw [← hfp, prt_none hno]) hof m ht hal1 hob hls er her
  ·have he3 : 3 = er := by rw [← her, onpT, if_pos (by omega)]
   subst he3
   refine (onPartOut_any b al (u, v') bp p W (by omega)).mono ?_
   rintro x w' ⟨h1, h2⟩
   exact ⟨h2, .inl ⟨by decide, h1⟩⟩
 have P1 : Hid (Pts (w0.alloc (.cells #[.int .i64 b.1, .int .i64 b.2, .int .i64 al.1, .int .i64 al.2, .map (some bp)] 129)).drew bp np Dp (fun p => p ∈ prs done nm) (fun p => (prtP done nm p).1)) := (HPp.out.keep (bal B0 _)).gb (gb_drew (gb_refl _ none)) (by simp)
 have W1 : Hid (FivB (w0.alloc (.cells #[.int .i64 b.1, .int .i64 b.2, .int .i64 al.1, .int .i64 al.2, .map (some bp)] 129)).drew (w.heap.size + 1) (.int .i64 0) (.int .i64 0) (.int .i64 0) (.int .i64 0) (.map none)) := (V1.out.below (ba _ _)).gb (gb_drew (gb_refl _ none)) (by simp)
 have hbpl : bp < w.heap.size := HPp.out.own.lt
 clear her hln ht hfp
 go_enter Tryz.func55, Tryz.ntmps55
 go_wp2_with fail
 go_region
 all_goals
  go_wp2_with fail
  refine (ko _ P1.out).mono ?_
  rintro e1 w1 ⟨hb1, ⟨hne, rfl⟩ | ⟨rfl, b2, D2, rfl, hlo2, hP2, hsz2⟩⟩
  ·obtain ⟨x0, x1, x2, x3, x4, y0, y1, y2, y3, y4, hx⟩ := W1.out.below hb1
   go_wp2_with fail
   exact bodyPost_ret (v := .tuple #[zp, .int .i64 er]) (by simp [results, Tryz.results55, go_sem, x0, x1, x2, x3, x4]) rfl ⟨bs5 (bt (bal B0 _).drew hb1) (by omega) _ _ _ _ _, .inl ⟨hne, rfl⟩⟩
  ·obtain ⟨x0, x1, x2, x3, x4, y0, y1, y2, y3, y4, hx⟩ := W1.out.below hb1
   have hlo3 : w.heap.size + 1 + 1 < b2 := by simp [hz0] at hlo2; omega
   go_wp2_with fail
   exact bodyPost_ret (v := .tuple #[pv b al b2, .int .i64 0]) (by simp [results, Tryz.results55, go_sem, x0, x1, x2, x3, x4]) rfl ⟨bs5 (bt (bal B0 _).drew hb1) (by omega) _ _ _ _ _, .inr ⟨rfl, b2, np, D2, rfl, hP2.gb (gb_set (gb_set (gb_set (gb_set (gb_set (gb_refl _ _) _ _) _ _) _ _) _ _) _ _) (by simp; omega), HX.out.1, hsz2, by omega⟩⟩
end Go.Proofs.YtkolmadahacoeaaGreat.K.P

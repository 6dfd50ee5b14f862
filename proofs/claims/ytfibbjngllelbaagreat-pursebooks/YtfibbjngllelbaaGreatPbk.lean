import Derived.Test.YtfibbjngllelbaaGreatPwo
import Derived.Test.YtfibbjngllelbaaGreatPwr
namespace Go.Proofs.YtfibbjngllelbaaGreat
open Go.RowKit Go.Proofs.YtfibbjngllelbaaGreat.Ds
open Go.WideMaps (keyOf_string_mk)

/-! ### what Do answers, by kinds -/
theorem doT_base {done : List En} {e : En} (hb : badT e = 0) (hl : done.length < 4096) : doT done e = match budT done e.2.1 with
  | none => if e.1 = 1 then (if 64 ≤ (opsT done).length then 5 else 0) else 7
  | some b => if e.1 = 1 then 7 else
    if e.1 = 3 ∧ (e.2.2.1 < 0 ∨ 1073741824 < e.2.2.1) then 3 else
    if e.1 = 3 ∧ 64 < (parT (done ++ [e]) e.2.1).length then 5 else
    if (spentT (done ++ [e]) e.2.1).2 ≠ 0 then (spentT (done ++ [e]) e.2.1).2 else if LeR (spentT (done ++ [e]) e.2.1).1 b then 0 else 10 := by
  unfold doT; rw [if_neg (by omega), if_neg (by omega)]
  cases budT done e.2.1 <;> rfl
theorem chk_is (s : Rq × Int) (b al m : Rq) (h : s = mulT al m) : (if s.2 ≠ 0 then s.2 else if LeR s.1 b then 0 else 10) = chkT b al m := by
  subst h; unfold chkT
  by_cases c : (mulT al m).2 = 0 <;> simp [c]
theorem doT_spend {done : List En} (h : Inv done) {e : En} (hb : badT e = 0) (hl : done.length < 4096) (he : e.1 = 2) {b : Rq} (hbud : budT done e.2.1 = some b) :
    doT done e = onaT b (allP done e.2.1).1 e.2.2.2 (mostT (prtP done e.2.1) oneQ (prs done e.2.1)).1 := by
  rw [doT_base hb hl, hbud]
  simp only
  rw [if_neg (by omega), if_neg (by omega), if_neg (by omega)]
  unfold onaT
  rcases spent_all h he (bad_ok hb).2.2.2 with ⟨h1, h2⟩ | ⟨h1, _, _, h2⟩
  · rw [h1, h2]; simp
  · rw [if_pos h1]; exact chk_is _ _ _ _ h2
theorem doT_part {done : List En} (h : Inv done) {e : En} (hb : badT e = 0) (hl : done.length < 4096) (he : e.1 = 3) {b : Rq} (hbud : budT done e.2.1 = some b) (m : Rq)
    (hm : (mulT (prtP done e.2.1 e.2.2.1).1 e.2.2.2).2 = 0 → Top (fun p => (prtP (done ++ [e]) e.2.1 p).1) (fun p => p ∈ prs (done ++ [e]) e.2.1) m) :
    doT done e = onpT b (allP done e.2.1).1 (prtP done e.2.1 e.2.2.1).1 e.2.2.2 m (decide (e.2.2.1 ∈ prs done e.2.1)) (parT done e.2.1).length e.2.2.1 := by
  have h0 : ¬ e.1 = 1 := by omega
  rw [doT_base hb hl, hbud]
  simp only
  rw [if_neg h0]
  unfold onpT
  by_cases c1 : e.2.2.1 < 0 ∨ 1073741824 < e.2.2.1
  · rw [if_pos ⟨he, c1⟩, if_pos c1]
  rw [if_neg (fun c => c1 c.2), if_neg c1]
  have h64 := h.par e.2.1
  have hps : (64 < (parT (done ++ [e]) e.2.1).length) ↔ (decide (e.2.2.1 ∈ prs done e.2.1) = false ∧ 64 ≤ (parT done e.2.1).length) := by
    rw [par_snoc]
    by_cases c : e.2.2.1 ∈ prs done e.2.1
    · rw [if_neg (fun k => k.2.2 ((par_mem _ _ _).2 c))]; simp [c]; omega
    · rw [if_pos ⟨rfl, he, fun k => c ((par_mem _ _ _).1 k)⟩]; simp [c]; omega
  by_cases c2 : decide (e.2.2.1 ∈ prs done e.2.1) = false ∧ 64 ≤ (parT done e.2.1).length
  · rw [if_pos ⟨he, hps.2 c2⟩, if_pos c2]
  rw [if_neg (fun c => c2 (hps.1 c.2)), if_neg c2]
  rcases spent_part h he (bad_ok hb).2.2.2 with ⟨h1, h2⟩ | ⟨h1, _, _, h2, _⟩
  · rw [h1, h2]; simp
  · rw [if_pos h1]; exact chk_is _ _ _ _ (h2 m (hm h1))
theorem none_of {done : List En} (h : Inv done) {n : ByteArray} (hn : budT done n = none) : prs done n = [] ∧ allP done n = (oneQ, 0) := by
  have hz : prs done n = [] := by
    unfold prs
    rw [List.map_eq_nil_iff, List.filter_eq_nil_iff]
    intro x hx
    simp only [decide_eq_true_eq]
    rintro ⟨k1, _⟩
    obtain ⟨_, _, _, b', k4⟩ := h.bad x hx
    rw [k1, hn] at k4; cases k4
  have hy : lss done n 2 0 = [] := by
    unfold lss
    rw [List.map_eq_nil_iff, List.filter_eq_nil_iff]
    intro x hx
    simp only [isE, decide_eq_true_eq]
    rintro ⟨k1, _⟩
    obtain ⟨_, _, _, b', k4⟩ := h.bad x hx
    rw [k1, hn] at k4; cases k4
  exact ⟨hz, by unfold allP; rw [hy]; rfl⟩

/-! ### a book in memory -/
def encE (e : En) : List Value := [.int .i64 e.1, .string e.2.1, .int .i64 e.2.2.1, .int .i64 e.2.2.2.1, .int .i64 e.2.2.2.2]
def enc (l : List En) : List Value := l.flatMap encE
theorem enc_len (l : List En) : (enc l).length = l.length * 5 := by
  induction l with
  | nil => rfl
  | cons e l ih => simp only [enc, List.flatMap_cons, List.length_append, List.length_cons] at *; rw [ih]; simp [encE]; omega
theorem enc_snoc (l : List En) (e : En) : enc (l ++ [e]) = enc l ++ encE e := by simp [enc]
abbrev kN (n : ByteArray) : Lit := .string n.data.toList

structure PurM (w : World) (N : Nat → Prop) (bk bm : Nat) (D : DataW Value) (done : List En) (n : ByteArray) (b : Rq) : Prop where
  ex : ∃ bp np Dp, D.atKey (kN n) (.held zp) = .held (pv b (allP done n).1 bp) ∧ Pts w bp np Dp (fun p => p ∈ prs done n) (fun p => (prtP done n p).1) ∧ np ≤ done.length ∧ Maps.size Dp = (parT done n).length ∧ N bp ∧ bp ≠ bk ∧ bp ≠ bm
structure BookM (w : World) (N : Nat → Prop) (bk bm n : Nat) (v : Value) (D : DataW Value) (done : List En) : Prop where
  inv : Inv done
  two : TwoB w bk (.map (some bm)) v
  own : w.ownsMap Tryz.prog 9 hR bm n D
  row : w.ownsRow 0 45 5 v done.length (enc done)
  cnt : n ≤ done.length
  is : ∀ x : ByteArray, Maps.has D (kN x) = true ↔ ∃ b, budT done x = some b
  el : ∀ x b, budT done x = some b → PurM w N bk bm D done x b
  sz : Maps.size D = (opsT done).length
  lob : N bk ∧ N bm ∧ bk ≠ bm ∧ ∀ g, v.ownBlock = some g → N g ∧ g ≠ bk ∧ g ≠ bm
theorem PurM.gb {w w' : World} {N : Nat → Prop} {bk bm : Nat} {D : DataW Value} {done : List En} {n : ByteArray} {b : Rq} {r : Option Nat} (h : PurM w N bk bm D done n b) (hg : w.grownBy w' r) (hr : ∀ k, r = some k → ¬ N k ∨ k = bk ∨ k = bm) : PurM w' N bk bm D done n b := by
  obtain ⟨bp, np, Dp, h1, h2, h3, h4, h5, h6, h7⟩ := h.ex
  exact ⟨bp, np, Dp, h1, h2.gb hg (fun e => by rcases hr bp e.symm with h | h | h; exact h h5; exact h6 h; exact h7 h), h3, h4, h5, h6, h7⟩
theorem BookM.gb {w w' : World} {N : Nat → Prop} {bk bm n : Nat} {v : Value} {D : DataW Value} {done : List En} {r : Option Nat} (h : BookM w N bk bm n v D done) (hg : w.grownBy w' r) (hr : ∀ k, r = some k → ¬ N k) : BookM w' N bk bm n v D done := by
  obtain ⟨hl1, hl2, hl3, hl4⟩ := h.lob
  have hk : w'.heap[bk]? = w.heap[bk]? := hg.block bk h.two.lt (fun e => hr bk e.symm hl1)
  refine ⟨h.inv, ⟨(World.cell?_of_block (w := w) (a := ⟨bk, 0, none⟩) hk).trans h.two.c0, (World.cell?_of_block (w := w) (a := ⟨bk, 1, none⟩) hk).trans h.two.c1, (World.frozen?_of_block (w := w) (a := ⟨bk, 0, none⟩) hk).trans h.two.f0, (World.frozen?_of_block (w := w) (a := ⟨bk, 1, none⟩) hk).trans h.two.f1, Nat.lt_of_lt_of_le h.two.lt hg.size⟩, h.own.kept hg (fun e => hr bm e.symm hl2), ?_, h.cnt, h.is, fun x b hx => (h.el x b hx).gb hg (fun k e => .inl (hr k e)), h.sz, h.lob⟩
  refine h.row.kept hg ?_
  cases hv : v.ownBlock with
  | none => exact .inl rfl
  | some g =>
    right
    intro e
    exact hr g e.symm (hl4 g hv).1
theorem BookM.mono {w : World} {N N' : Nat → Prop} {bk bm n : Nat} {v : Value} {D : DataW Value} {done : List En} (h : BookM w N bk bm n v D done) (hN : ∀ k, k < w.heap.size → N k → N' k) : BookM w N' bk bm n v D done := by
  obtain ⟨hl1, hl2, hl3, hl4⟩ := h.lob
  refine ⟨h.inv, h.two, h.own, h.row, h.cnt, h.is, fun x b hx => ?_, h.sz, hN _ h.two.lt hl1, hN _ h.own.lt hl2, hl3, fun g hg => ?_⟩
  · obtain ⟨bp, np, Dp, h1, h2, h3, h4, h5, h6, h7⟩ := (h.el x b hx).ex
    exact ⟨bp, np, Dp, h1, h2, h3, h4, hN _ h2.own.lt h5, h6, h7⟩
  · have := hl4 g hg
    refine ⟨hN g ?_ this.1, this.2⟩
    rcases h.row.2 with ⟨rfl, _⟩ | ⟨g', cap, cur, rfl, _, hc, _⟩
    · cases hg
    · simp only [Value.ownBlock, Option.some.injEq] at hg
      subst hg
      exact (Array.getElem?_eq_some_iff.1 hc).1
theorem BookM.keep {w w' : World} {N : Nat → Prop} {bk bm n : Nat} {v : Value} {D : DataW Value} {done : List En} (h : BookM w N bk bm n v D done) (hb : Below w.heap.size w w') : BookM w' N bk bm n v D done := h.gb (gb_none hb) (by simp)
theorem BookM.lookNo {w : World} {N : Nat → Prop} {bk bm n : Nat} {v : Value} {D : DataW Value} {done : List En} (h : BookM w N bk bm n v D done) {x : ByteArray} (hx : x.size ≤ 4294967296) (hb : budT done x = none) :
    (Instr.lookup 58 (.map (some bm)) (.string x) true).run Tryz.prog w = .ok (.tuple #[zp, .bool false]) w := by
  obtain ⟨v', ps, hrun, hat⟩ := h.own.look_ok law9 Tryz.underlying58 (zero60 w) (zd := .held zp) (zp := []) rfl (keyOf_string_mk Tryz.underlying9 (s := x) (by unfold maxLen; omega))
  have hh : Maps.has D (kN x) = false := by
    cases hc : Maps.has D (kN x) with
    | false => rfl
    | true => obtain ⟨b, hb'⟩ := (h.is x).1 hc; rw [hb] at hb'; cases hb'
  rw [Maps.atKey_of_not_has hh] at hat
  simp [hR] at hat
  rw [hrun, hat.1, hh]
theorem BookM.look {w : World} {N : Nat → Prop} {bk bm n : Nat} {v : Value} {D : DataW Value} {done : List En} (h : BookM w N bk bm n v D done) {x : ByteArray} (hx : x.size ≤ 4294967296) {b : Rq} (hb : budT done x = some b) :
    ∃ bp np Dp, (Instr.lookup 58 (.map (some bm)) (.string x) true).run Tryz.prog w = .ok (.tuple #[pv b (allP done x).1 bp, .bool true]) w ∧ Pts w bp np Dp (fun p => p ∈ prs done x) (fun p => (prtP done x p).1) ∧ np ≤ done.length ∧ Maps.size Dp = (parT done x).length ∧ N bp ∧ bp ≠ bk ∧ bp ≠ bm := by
  obtain ⟨v', ps, hrun, hat⟩ := h.own.look_ok law9 Tryz.underlying58 (zero60 w) (zd := .held zp) (zp := []) rfl (keyOf_string_mk Tryz.underlying9 (s := x) (by unfold maxLen; omega))
  obtain ⟨bp, np, Dp, h1, h2⟩ := (h.el x b hb).ex
  rw [h1] at hat
  simp [hR] at hat
  exact ⟨bp, np, Dp, by rw [hrun, hat.1, (h.is x).2 ⟨b, hb⟩], h2⟩
end Go.Proofs.YtfibbjngllelbaaGreat

import Derived.Test.YtfcbkcoagoncoaaQf33
import Derived.Test.YtfcbkcoagoncoaaQf23
import Derived.Deep.Upon
namespace Go.Proofs.Ytfcbkcoagoncoaa
open Go.RowKit Go.Proofs.Ytfcbkcoagoncoaa.Ds

/-! ### LISTS OF LISTS OF NUMBERS, OF ONE's OWN -/
abbrev Ol := Value × List Int
/-- a list of numbers from the first cell of a block that is not m -/
def OE (w : World) (m : Nat) (v : Value) (xs : List Int) : Prop :=
  ∃ g cap, v = .slice (some ⟨g, 0, none⟩) xs.length cap ∧ xs.length ≤ cap ∧ xs.length ≤ 1073741824 ∧ g < w.heap.size ∧ g ≠ m ∧ ∀ i x, xs[i]? = some x → w.cell? ⟨g, i, none⟩ = some (.int .i64 x)
theorem OE.keep {w w' : World} {m : Nat} {v : Value} {xs : List Int} (h : OE w m v xs) (hb : Below w.heap.size w w') : OE w' m v xs := by
  obtain ⟨g, cap, hv, hc, hl, hg, hm, hx⟩ := h
  exact ⟨g, cap, hv, hc, hl, Nat.lt_of_lt_of_le hg hb.size, hm, fun i x hi => (hb.cell (p := ⟨g, i, none⟩) hg).trans (hx i x hi)⟩
theorem OE.grow {w w' : World} {m m' : Nat} {v : Value} {xs : List Int} {row : Option Nat} (h : OE w m v xs) (hg : w.grownBy w' row) (hrow : ∀ g, row = some g → m = g) (hm : m' = m ∨ w.heap.size ≤ m') : OE w' m' v xs := by
  obtain ⟨g, cap, hv, hc, hl, hgl, hne, hx⟩ := h
  have := hg.size
  refine ⟨g, cap, hv, hc, hl, by omega, by rcases hm with h | h <;> omega, fun i x hi => ?_⟩
  exact hg.cell (hx i x hi) fun e => hne (hrow g e.symm).symm
def Lls (w : World) (lo : Nat) (v : Value) (os : List Ol) : Prop :=
  w.ownsRow lo 24 1 v os.length (os.map (·.1)) ∧ ∀ t ∈ os, ∃ m, OE w m t.1 t.2 ∧ ∀ g, v.ownBlock = some g → m = g
theorem Lls.nil (w : World) (lo : Nat) : Lls w lo (.slice none 0 0) [] := ⟨⟨rfl, .inl ⟨rfl, rfl⟩⟩, fun t ht => by cases ht⟩
theorem Lls.keep {w w' : World} {lo : Nat} {v : Value} {os : List Ol} (h : Lls w lo v os) (hb : Below w.heap.size w w') : Lls w' lo v os :=
  ⟨owns_below h.1 hb, fun t ht => let ⟨m, h1, h2⟩ := h.2 t ht; ⟨m, h1.keep hb, h2⟩⟩
theorem Lls.slice {w : World} {lo : Nat} {v : Value} {os : List Ol} (h : Lls w lo v os) : ∃ a c, v = .slice a os.length c := owns_slice h.1
theorem Lls.lt {w : World} {lo : Nat} {v : Value} {os : List Ol} (h : Lls w lo v os) : ∀ g, v.ownBlock = some g → lo ≤ g ∧ g < w.heap.size := h.1.lt
theorem Lls.app {W w' : World} {lo : Nat} {v v' s : Value} {os : List Ol} {xs : List Int} {m : Nat} (h : Lls W lo v os) (hown : w'.ownsRow lo 24 1 v' (os.length + 1) (os.map (·.1) ++ [s])) (hg : W.grownBy w' v.ownBlock)
    (hat : v'.ownBlock = v.ownBlock ∨ v'.ownBlock = some W.heap.size) (hi : OE W m s xs) (hm : ∀ g, v.ownBlock = some g → m = g) : Lls w' lo v' (os ++ [(s, xs)]) := by
  refine ⟨by simpa using hown, fun t ht => ?_⟩
  have key : ∀ (m : Nat) (s : Value) (xs : List Int), OE W m s xs → (∀ g, v.ownBlock = some g → m = g) → ∃ m', OE w' m' s xs ∧ ∀ g, v'.ownBlock = some g → m' = g := by
    intro m s xs h1 h2
    rcases hat with hat | hat
    · exact ⟨m, h1.grow hg h2 (.inl rfl), by rw [hat]; exact h2⟩
    · exact ⟨W.heap.size, h1.grow hg h2 (.inr (Nat.le_refl _)), by rw [hat]; intro g e; simpa using e⟩
  rcases List.mem_append.1 ht with ht | ht
  · obtain ⟨m, h1, h2⟩ := h.2 t ht
    exact key m t.1 t.2 h1 h2
  · obtain rfl : t = (s, xs) := by simpa using ht
    exact key m s xs hi hm
/-- one of them -/
theorem Lls.get {w : World} {lo : Nat} {v : Value} {os : List Ol} (h : Lls w lo v os) {i : Nat} (hi : i < os.length) :
    ∃ b c g cap xs, v = .slice (some ⟨b, 0, none⟩) os.length c ∧ os.length ≤ c ∧ lo ≤ b ∧ b < w.heap.size ∧ os[i]? = some (.slice (some ⟨g, 0, none⟩) xs.length cap, xs) ∧ w.cell? ⟨b, i, none⟩ = some (.slice (some ⟨g, 0, none⟩) xs.length cap) ∧ xs.length ≤ cap ∧ xs.length ≤ 1073741824 ∧ g < w.heap.size ∧ ∀ j x, xs[j]? = some x → w.cell? ⟨g, j, none⟩ = some (.int .i64 x) := by
  obtain ⟨⟨t, xs⟩, ht⟩ := get_lt hi
  obtain ⟨m, ⟨g, cap, hv, hc, hl, hg, _, hx⟩, _⟩ := h.2 _ (List.mem_of_getElem? ht)
  simp only at hv hx hc hl
  subst hv
  obtain ⟨_, ⟨hv0, h0⟩ | ⟨b, c, cur, hvv, hb, hcur, hcc, _, hsz, hxx⟩⟩ := h.1
  · have : os = [] := List.length_eq_zero_iff.1 h0
    subst this
    simp at hi
  · refine ⟨b, c, g, cap, xs, hvv, hcc, hb, (Array.getElem?_eq_some_iff.1 hcur).1, ht, ?_, hc, hl, hg, hx⟩
    have : cur[i]? = some (.slice (some ⟨g, 0, none⟩) xs.length cap) := by
      have h1 : (os.map (·.1))[i]? = some (.slice (some ⟨g, 0, none⟩) xs.length cap) := by simp [ht]
      rw [← hxx, List.getElem?_take_of_lt (by omega)] at h1
      simpa using h1
    simp [World.cell?, hcur, this]

theorem info24 : (Try.prog.info? 24).map (fun i => (i.zero, i.size, i.bytes)) = some (some (.slice none 0 0), 1, 24) := by kernel_rfl

/-- append to numbers of one's own, in a region that draws its order -/
theorem step_ow {ops : Array Oper} {o : Oper} {a : Act} {K : Act → World → Prop} {Q : Exit → Act → World → Prop} {E : Prop} (w : World) (hgd : o.guard = none) (s x : Operand) (ho : o.op = .call { callee := .builtin .append, args := #[s, x], argTypes := #[24, 24] })
    (base B n : Nat) (sa : Option Addr) (sc : Nat) (L ys M : List Int) (hs : a.eval s = .slice sa n sc) (hn : L.length = n) (hown : Ow w base (.slice sa n sc) L) (u : Value) (hx : a.eval x = u) (hu : Num w B u ys) (hM : L ++ ys = M) (hb : n + ys.length ≤ 17592186044416) (hbase : base ≤ w.heap.size) (n' : Nat) (hn' : n + ys.length = n')
    (h : ∀ a' c' w', Ow w' base (.slice a' n' c') M → w.grownBy w' (Value.slice sa n sc).ownBlock → Below base w w' → K (a.put o.dst (.slice a' n' c')) w') :
    if Region.wanted o (yielded ops a.tmps) = true then Oper.wp Try.prog o a w K Q else E := by
  subst hn hn' hM
  have hw : Region.wanted o (yielded ops a.tmps) = true := by simp [Region.wanted, hgd]
  rw [if_pos hw]
  obtain ⟨i0, hi, hz0, hz1, hz2⟩ := info_parts infoI
  have key : ∃ a' c' w', (Builtin.append_ #[24, 24] o.type #[.slice sa L.length sc, u]).run Try.prog w = .ok (.slice a' (L.length + ys.length) c') w' ∧ Ow w' base (.slice a' (L.length + ys.length) c') (L ++ ys) ∧ w.grownBy w' (Value.slice sa L.length sc).ownBlock ∧ Below base w w' := by
    obtain ⟨ua, uc, rfl, hc, hl, hxx⟩ := hu
    by_cases hy : ys = []
    · subst hy
      exact ⟨sa, sc, w, app0 w _ sa ua L.length sc uc (owns_le hown) i0 hi hz1, by simpa using hown, World.grownBy.refl _ _, Below.refl _ _⟩
    · obtain ⟨b', o', rfl, hb', hcell⟩ := hxx hy
      obtain ⟨v', w', h1, h2, h3, _, h5⟩ := run_append_own_at (P := Try.prog) w base 24 o.type 3 i0 (.int .i64 0) 1 8 Try.underlying24 hi hz0 hz1 hz2 rfl (by decide) (.slice sa L.length sc) L.length (L.map (Value.int .i64)) hown ⟨b', o', none⟩ ys.length uc (ys.map (Value.int .i64)) (by simp) (by
        intro m z hm
        have hlt : m < ys.length := by have := (List.getElem?_eq_some_iff.1 hm).1; simpa using this
        obtain ⟨y, hy2⟩ := get_lt hlt
        rw [Addr.add_lit, hcell m y hy2]
        simpa [hy2] using hm) (by intro z hz; obtain ⟨y, _, rfl⟩ := List.mem_map.1 hz; rfl) (by unfold maxLen; omega) (by omega) hbase
      obtain ⟨a', c', rfl⟩ := owns_slice h2
      refine ⟨a', c', w', h1, ?_, h3, (Below.refl _ _).grown h3 hbase (owns_block hown)⟩
      unfold Ow
      rw [List.length_append, List.map_append]
      exact h2
  obtain ⟨a', c', w', hr, h2, h4, h3⟩ := key
  unfold Oper.wp execOp
  simp only [ho, resolve, invoke, builtin, Sem.run_bind, Sem.run_pure, Result.andThen_ok, List.map_toArray, List.map_cons, List.map_nil, hs, hx, hr]
  exact h a' c' w' h2 h4 h3
/-- append of one list to lists of one's own, in a region that draws its order -/
theorem step_lls {ops : Array Oper} {o : Oper} {a : Act} {K : Act → World → Prop} {Q : Exit → Act → World → Prop} {E : Prop} (w : World) (hgd : o.guard = none) (s x : Operand) (ho : o.op = .call { callee := .builtin .append, args := #[s, x], argTypes := #[48, 48] })
    (base n : Nat) (sa : Option Addr) (sc : Nat) (os M : List Ol) (hs : a.eval s = .slice sa n sc) (hn : os.length = n) (hown : Lls w base (.slice sa n sc) os) (ad : Addr) (hx : a.eval x = .slice (some ad) 1 1) (t : Value) (xs : List Int)
    (hc : w.cell? (ad.add 0) = some t) (h1 : t.oneCell' = true) (hI : ∃ m, OE w m t xs ∧ ∀ g, (Value.slice sa n sc).ownBlock = some g → m = g) (hM : os ++ [(t, xs)] = M) (hb : n + 1 ≤ 1073741824) (hbase : base ≤ w.heap.size) (n' : Nat) (hn' : n + 1 = n')
    (h : ∀ a' c' w', Lls w' base (.slice a' n' c') M → w.grownBy w' (Value.slice sa n sc).ownBlock → Below base w w' → K (a.put o.dst (.slice a' n' c')) w') :
    if Region.wanted o (yielded ops a.tmps) = true then Oper.wp Try.prog o a w K Q else E := by
  subst hn hn' hM
  have hw : Region.wanted o (yielded ops a.tmps) = true := by simp [Region.wanted, hgd]
  rw [if_pos hw]
  obtain ⟨i0, hi, hz0, hz1, hz2⟩ := info_parts info24
  obtain ⟨v', w', hr, h2, h3, _, h5⟩ := run_append_own_at (P := Try.prog) w base 48 o.type 24 i0 (.slice none 0 0) 1 24 Try.underlying48 hi hz0 hz1 hz2 rfl (by decide) (.slice sa os.length sc) os.length (os.map (·.1)) hown.1 ad 1 1 [t] (by simp) (by
    intro j u hj
    match j, hj with
    | 0, hj => simp at hj; subst hj; exact hc) (by intro z hz; simp at hz; subst hz; exact h1) (by unfold maxLen; omega) (by omega) hbase
  obtain ⟨a', c', rfl⟩ := owns_slice h2
  obtain ⟨m, hm1, hm2⟩ := hI
  have key : Lls w' base (.slice a' (os.length + 1) c') (os ++ [(t, xs)]) := hown.app h2 h3 h5 hm1 hm2
  unfold Oper.wp execOp
  simp only [ho, resolve, invoke, builtin, Sem.run_bind, Sem.run_pure, Result.andThen_ok, List.map_toArray, List.map_cons, List.map_nil, hs, hx, hr]
  exact h a' c' w' key h3 ((Below.refl _ _).grown h3 hbase (owns_block hown.1))
/-- a list of one's own lies in a block of one's own -/
theorem oe_of_ow {w : World} {lo : Nat} {v : Value} {M : List Int} (h : Ow w lo v M) (hM : 0 < M.length) (hl : M.length ≤ 1073741824) : ∀ m, m < lo → OE w m v M := by
  intro m hm
  obtain ⟨a, c, rfl⟩ := h.slice
  obtain ⟨g, cap, hv, hcap, hg, hr⟩ := rowi_of_owns rfl h (owns_some h hM)
  exact ⟨g, cap, hv, hcap, hl, hr.lt, by omega, fun i x hi => hr.cells i x hi⟩
theorem num_cell {w : World} {b B : Nat} {x : Int} (h : w.cell? ⟨b, 0, none⟩ = some (.int .i64 x)) (hb : b < B) : Num w B (.slice (some ⟨b, 0, none⟩) 1 1) [x] := by
  refine ⟨_, 1, rfl, Nat.le_refl _, by simp, fun _ => ⟨b, 0, rfl, hb, fun i z hi => ?_⟩⟩
  match i, hi with
  | 0, hi => simp at hi; subst hi; exact h
end Go.Proofs.Ytfcbkcoagoncoaa

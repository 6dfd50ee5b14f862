import Derived.Test.YthmkbkombjhaeaaQw10
import Derived.Test.YthmkbkombjhaeaaQw20
import Derived.Deep.Upon
import Derived.Maps.AppendAt
import Derived.Deep.RegionWith
namespace Go.Proofs.Ythmkbkombjhaeaa
open Go.RowKit Go.Proofs.Ythmkbkombjhaeaa.Ds

theorem app0 (w : World) (ty : TypeId) (base a : Option Addr) (sLen sCap c : Nat) (hle : sLen ≤ sCap) (i0 : TypeInfo) (hi : Try.prog.info? 3 = some i0) (hz1 : i0.size = 1) : (Builtin.append_ #[24, 24] ty #[.slice base sLen sCap, .slice a 0 c]).run Try.prog w = .ok (.slice base sLen sCap) w := by
  refine run_append_nothing (P := Try.prog) w 24 24 ty 3 i0 Try.underlying24 hi base sLen sCap hle (.slice a 0 c) ?_
  rw [hz1]
  have key : ∀ W : World, (Builtin.firstCells 1 0 (.slice a 0 c)).run Try.prog W = .ok ([] : List Value).toArray W := by
    intro W
    cases a with
    | none => exact run_firstCells_none W 1 0 0 c
    | some ad => exact run_firstCells_some W 1 0 ad 0 c [] rfl (by simp)
  exact ⟨.inl ⟨3, Try.underlying24⟩, fun w' => by simp [Builtin.lenOf], key w, key w.drew, rfl, by simp⟩
theorem owns_le {w : World} {base : Nat} {e : TypeId} {size : Nat} {a : Option Addr} {n c : Nat} {xs : List Value} (h : w.ownsRow base e size (.slice a n c) n xs) : n ≤ c := by
  rcases h.2 with ⟨h1, h2⟩ | ⟨g, cap, cur, h1, _, _, h2, _⟩
  · simp only [Value.slice.injEq] at h1; omega
  · simp only [Value.slice.injEq] at h1; omega
theorem wpList_app_nums {ops : Array Oper} {rest : List Oper} {o : Oper} {a : Act} {Q : Exit → Act → World → Prop} (w : World) (hgd : o.guard = none) (s x : Operand) (ho : o.op = .call { callee := .builtin .append, args := #[s, x], argTypes := #[24, 24] })
    (base B n : Nat) (sa : Option Addr) (sc : Nat) (xs ys : List Int) (hs : a.eval s = .slice sa n sc) (hown : w.ownsRow base 3 1 (.slice sa n sc) n (xs.map (Value.int .i64))) (u : Value) (hx : a.eval x = u) (hu : Num w B u ys) (hb : n + ys.length ≤ 17592186044416) (hbase : base ≤ w.heap.size) (n' : Nat) (hn' : n + ys.length = n')
    (h : ∀ a' c' w', w'.ownsRow base 3 1 (.slice a' n' c') n' ((xs ++ ys).map (Value.int .i64)) → w.grownBy w' (Value.slice sa n sc).ownBlock → ((Value.slice a' n' c').ownBlock = (Value.slice sa n sc).ownBlock ∨ (Value.slice a' n' c').ownBlock = some w.heap.size) → wpList Try.prog ops Q rest (a.put o.dst (.slice a' n' c')) w') :
    wpList Try.prog ops Q (o :: rest) a w := by
  subst hn'
  refine wpList_plain hgd fun K' hK' => ?_
  obtain ⟨i0, hi, hz0, hz1, hz2⟩ := info_parts info3
  have key : ∃ a' c' w', (Builtin.append_ #[24, 24] o.type #[.slice sa n sc, u]).run Try.prog w = .ok (.slice a' (n + ys.length) c') w' ∧ w'.ownsRow base 3 1 (.slice a' (n + ys.length) c') (n + ys.length) ((xs ++ ys).map (Value.int .i64)) ∧ w.grownBy w' (Value.slice sa n sc).ownBlock ∧ ((Value.slice a' (n + ys.length) c').ownBlock = (Value.slice sa n sc).ownBlock ∨ (Value.slice a' (n + ys.length) c').ownBlock = some w.heap.size) := by
    obtain ⟨ua, uc, rfl, hc, hl, hxx⟩ := hu
    by_cases hy : ys = []
    · subst hy
      exact ⟨sa, sc, w, app0 w _ sa ua n sc uc (owns_le hown) i0 hi hz1, by simpa using hown, World.grownBy.refl _ _, .inl rfl⟩
    · obtain ⟨b', o', rfl, hb', hcell⟩ := hxx hy
      obtain ⟨v', w', h1, h2, h3, _, h5⟩ := run_append_own_at (P := Try.prog) w base 24 o.type 3 i0 (.int .i64 0) 1 8 Try.underlying24 hi hz0 hz1 hz2 rfl (by decide) (.slice sa n sc) n (xs.map (Value.int .i64)) hown ⟨b', o', none⟩ ys.length uc (ys.map (Value.int .i64)) (by simp) (by
        intro m z hm
        have hlt : m < ys.length := by have := (List.getElem?_eq_some_iff.1 hm).1; simpa using this
        obtain ⟨y, hy2⟩ := get_lt hlt
        rw [Addr.add_lit, hcell m y hy2]
        simpa [hy2] using hm) (by intro z hz; obtain ⟨y, _, rfl⟩ := List.mem_map.1 hz; rfl) (by unfold maxLen; omega) (by omega) hbase
      obtain ⟨a', c', rfl⟩ := owns_slice h2
      exact ⟨a', c', w', h1, by rw [List.map_append]; exact h2, h3, h5⟩
  obtain ⟨a', c', w', hr, h2, h3, h4⟩ := key
  unfold Oper.wp execOp
  simp only [ho, resolve, invoke, builtin, Sem.run_bind, Sem.run_pure, Result.andThen_ok, List.map_toArray, List.map_cons, List.map_nil, hs, hx, hr]
  exact hK' _ _ (h a' c' w' h2 h3 h4)
theorem owns_zero (w : World) (base : Nat) (hb : base ≤ w.heap.size) : (w.alloc (.cells #[] 3)).ownsRow base 3 1 (.slice (some ⟨w.heap.size, 0, none⟩) 0 0) 0 [] :=
  ⟨by simp, .inr ⟨w.heap.size, 0, #[], rfl, hb, heap_alloc_new w _, Nat.le_refl _, by decide, by simp, by simp⟩⟩
/-- numbers of one's own are a row -/
theorem rowi_of_owns {w : World} {base : Nat} {v : Value} {xs : List Int} {n : Nat} (hn : n = xs.length) (h : w.ownsRow base 3 1 v n (xs.map (.int .i64))) (hne : v ≠ .slice none 0 0) :
    ∃ g cap, v = .slice (some ⟨g, 0, none⟩) xs.length cap ∧ xs.length ≤ cap ∧ base ≤ g ∧ RowI w g xs := by
  subst hn
  obtain ⟨_, ⟨hv, _⟩ | ⟨g, cap, cur, hv, hb, hcur, hc, _, hsz, hx⟩⟩ := h
  · exact absurd hv hne
  · refine ⟨g, cap, hv, hc, hb, ⟨fun i x hi => ?_, fun j _ => frozen_zero hcur, (Array.getElem?_eq_some_iff.1 hcur).1⟩⟩
    have hi2 : i < xs.length := (List.getElem?_eq_some_iff.1 hi).1
    have : cur[i]? = some (.int .i64 x) := by
      have h1 : (xs.map (Value.int .i64))[i]? = some (.int .i64 x) := by simp [hi]
      rw [← hx, List.getElem?_take_of_lt (by omega)] at h1
      simpa using h1
    simp [World.cell?, hcur, this]
theorem owns_some {w : World} {base : Nat} {a : Option Addr} {n c : Nat} {xs : List Value} (_ : w.ownsRow base 3 1 (.slice a n c) n xs) (hn : 0 < n) : Value.slice a n c ≠ .slice none 0 0 := by
  intro e
  simp only [Value.slice.injEq] at e
  omega
end Go.Proofs.Ythmkbkombjhaeaa

namespace Go.Proofs.Ythmkbkombjhaeaa
open Go.RowKit Go.Proofs.Ythmkbkombjhaeaa.Ds

/-- one more number of one's own -/
theorem num_one (w : World) (x : Int) : Num (w.alloc (.cells #[.int .i64 x] 3)) (w.heap.size + 1) (.slice (some ⟨w.heap.size, 0, none⟩) 1 1) [x] := by
  refine ⟨_, 1, rfl, Nat.le_refl _, by simp, fun _ => ⟨w.heap.size, 0, rfl, by omega, fun i z hi => ?_⟩⟩
  match i, hi with
  | 0, hi => simp at hi; subst hi; simp [go_sem]
/-- numbers of one's own that grow -/
def Ow (w : World) (lo : Nat) (v : Value) (xs : List Int) : Prop := w.ownsRow lo 3 1 v xs.length (xs.map (Value.int .i64))
theorem Ow.nil (w : World) (lo : Nat) : Ow w lo (.slice none 0 0) [] := ⟨rfl, .inl ⟨rfl, rfl⟩⟩
theorem Ow.keep {w w' : World} {lo : Nat} {v : Value} {xs : List Int} (h : Ow w lo v xs) (hb : Below w.heap.size w w') : Ow w' lo v xs := owns_below h hb
theorem Ow.slice {w : World} {lo : Nat} {v : Value} {xs : List Int} (h : Ow w lo v xs) : ∃ a c, v = .slice a xs.length c := owns_slice h
theorem Ow.num {w : World} {lo : Nat} {v : Value} {xs : List Int} (h : Ow w lo v xs) (hl : xs.length ≤ 1073741824) : Num w w.heap.size v xs := by
  by_cases hv : v = .slice none 0 0
  · subst hv
    obtain ⟨a, c, e⟩ := h.slice
    simp only [Value.slice.injEq] at e
    obtain rfl := List.length_eq_zero_iff.1 e.2.1.symm
    exact ⟨none, 0, rfl, Nat.le_refl _, by simp, fun h => absurd rfl h⟩
  · obtain ⟨g, cap, rfl, hcap, _, hr⟩ := rowi_of_owns rfl h hv
    exact ⟨_, _, rfl, hcap, by omega, fun _ => ⟨g, 0, rfl, hr.lt, fun i x hi => by rw [Nat.zero_add]; exact hr.cells i x hi⟩⟩

/-- append to numbers of one's own -/
theorem wpList_ow {ops : Array Oper} {rest : List Oper} {o : Oper} {a : Act} {Q : Exit → Act → World → Prop} (w : World) (hgd : o.guard = none) (s x : Operand) (ho : o.op = .call { callee := .builtin .append, args := #[s, x], argTypes := #[24, 24] })
    (base B n : Nat) (sa : Option Addr) (sc : Nat) (L ys M : List Int) (hs : a.eval s = .slice sa n sc) (hn : L.length = n) (hown : Ow w base (.slice sa n sc) L) (u : Value) (hx : a.eval x = u) (hu : Num w B u ys) (hM : L ++ ys = M) (hb : n + ys.length ≤ 17592186044416) (hbase : base ≤ w.heap.size) (n' : Nat) (hn' : n + ys.length = n')
    (h : ∀ a' c' w', Ow w' base (.slice a' n' c') M → w.grownBy w' (Value.slice sa n sc).ownBlock → Below base w w' → wpList Try.prog ops Q rest (a.put o.dst (.slice a' n' c')) w') :
    wpList Try.prog ops Q (o :: rest) a w := by
  subst hn
  refine wpList_app_nums w hgd s x ho base B L.length sa sc L ys hs hown u hx hu hb hbase n' hn' fun a' c' w' h1 h2 _ => h a' c' w' ?_ h2 ?_
  · unfold Ow
    rw [← hM, List.length_append, hn']
    exact h1
  · exact (Below.refl _ _).grown h2 hbase (owns_block hown)
end Go.Proofs.Ythmkbkombjhaeaa

namespace Go.Proofs.Ythmkbkombjhaeaa
open Go.RowKit Go.Proofs.Ythmkbkombjhaeaa.Ds

/-- PARTS OF ONE's OWN THAT GROW: a row, and each part's numbers outside of it -/
def Rws (w : World) (lo : Nat) (v : Value) (ds : List Tr) : Prop :=
  w.ownsRow lo 55 2 v ds.length (flat ds) ∧ ∀ t ∈ ds, ∃ m, Ints w w.heap.size m t.1 t.2.1 ∧ ∀ g, v.ownBlock = some g → m = g

theorem Rws.nil (w : World) (lo : Nat) : Rws w lo (.slice none 0 0) [] := ⟨⟨rfl, .inl ⟨rfl, rfl⟩⟩, fun t ht => by cases ht⟩
theorem Rws.keep {w w' : World} {lo : Nat} {v : Value} {ds : List Tr} (h : Rws w lo v ds) (hb : Below w.heap.size w w') : Rws w' lo v ds :=
  ⟨owns_below h.1 hb, fun t ht => let ⟨m, h1, h2⟩ := h.2 t ht; ⟨m, h1.at2 hb, h2⟩⟩
theorem Rws.slice {w : World} {lo : Nat} {v : Value} {ds : List Tr} (h : Rws w lo v ds) : ∃ a c, v = .slice a ds.length c := owns_slice h.1
theorem Rws.lt {w : World} {lo : Nat} {v : Value} {ds : List Tr} (h : Rws w lo v ds) : ∀ g, v.ownBlock = some g → lo ≤ g ∧ g < w.heap.size := h.1.lt

theorem Ints.grow {W w' : World} {B m m' : Nat} {s : Value} {xs : List Int} {row : Option Nat} (h : Ints W B m s xs) (hg : W.grownBy w' row) (hB : B ≤ W.heap.size) (hrow : ∀ g, row = some g → m = g) (hm : m' = m ∨ B ≤ m') : Ints w' w'.heap.size m' s xs := by
  obtain ⟨a, c, hv, hc, hl, hx⟩ := h
  refine ⟨a, c, hv, hc, hl, fun hne => ?_⟩
  obtain ⟨b, o, ha, hb, hn, hcell⟩ := hx hne
  have := hg.size
  refine ⟨b, o, ha, by omega, by rcases hm with h | h <;> omega, fun i x hi => ?_⟩
  refine hg.cell (hcell i x hi) fun e => hn ?_
  exact (hrow b e.symm).symm

theorem Rws.app {W w' : World} {lo : Nat} {v v' s : Value} {ds : List Tr} {xs : List Int} {k : Int} {m : Nat} (h : Rws W lo v ds) (hown : w'.ownsRow lo 55 2 v' (ds.length + 1) (flat ds ++ [s, .int .i64 k])) (hg : W.grownBy w' v.ownBlock)
    (hat : v'.ownBlock = v.ownBlock ∨ v'.ownBlock = some W.heap.size) (hi : Ints W W.heap.size m s xs) (hm : ∀ g, v.ownBlock = some g → m = g) : Rws w' lo v' (ds ++ [(s, xs, k)]) := by
  refine ⟨by rw [← flat_snoc]; simpa using hown, fun t ht => ?_⟩
  have key : ∀ (m : Nat) (s : Value) (xs : List Int), Ints W W.heap.size m s xs → (∀ g, v.ownBlock = some g → m = g) → ∃ m', Ints w' w'.heap.size m' s xs ∧ ∀ g, v'.ownBlock = some g → m' = g := by
    intro m s xs h1 h2
    rcases hat with hat | hat
    · exact ⟨m, h1.grow hg (Nat.le_refl _) h2 (.inl rfl), by rw [hat]; exact h2⟩
    · exact ⟨W.heap.size, h1.grow hg (Nat.le_refl _) h2 (.inr (Nat.le_refl _)), by rw [hat]; intro g e; simpa using e⟩
  rcases List.mem_append.1 ht with ht | ht
  · obtain ⟨m, h1, h2⟩ := h.2 t ht
    exact key m t.1 t.2.1 h1 h2
  · obtain rfl : t = (s, xs, k) := by simpa using ht
    exact key m s xs hi hm

theorem Rws.more {W w' : World} {lo : Nat} {v s : Value} {ds : List Tr} {xs : List Int} {k : Int} {m g cap : Nat} (h : Rws W lo v ds) (hown : w'.ownsRow lo 55 2 (.slice (some ⟨g, 0, none⟩) (ds.length + 1) cap) (ds.length + 1) (flat ds ++ [s, .int .i64 k])) (hg : W.grownBy w' v.ownBlock)
    (hat : v.ownBlock = some g ∨ g = W.heap.size) (hi : Ints W W.heap.size m s xs) (hm : ∀ g, v.ownBlock = some g → m = g) : Rws w' lo (.slice (some ⟨g, 0, none⟩) (ds.length + 1) cap) (ds ++ [(s, xs, k)]) :=
  h.app hown hg (hat.imp (fun e => by rw [e]; rfl) (fun e => by rw [e]; rfl)) hi hm

theorem Rws.parts {w : World} {lo : Nat} {v : Value} {ds : List Tr} (h : Rws w lo v ds) (hl : ds.length ≤ 1073741824) : Parts w w.heap.size v ds := by
  have hi : ∀ t ∈ ds, Ints w w.heap.size w.heap.size t.1 t.2.1 := fun t ht => let ⟨m, h1, _⟩ := h.2 t ht; h1.mono (Nat.le_refl _) (.inr (Nat.le_refl _))
  by_cases hv : v = .slice none 0 0
  · subst hv
    have h0 : ds = [] := by
      obtain ⟨_, ⟨_, h0⟩ | ⟨g, cap, cur, hv, _⟩⟩ := h.1
      · exact List.length_eq_zero_iff.1 h0
      · cases hv
    subst h0
    exact parts_nil w _
  · obtain ⟨g, cap, rfl, hcap, hgb, hrow⟩ := row_of_owns rfl h.1 hv
    exact ⟨_, cap, rfl, hcap, hl, hi, fun _ => ⟨g, 0, rfl, hrow.lt, hrow.cells⟩⟩

end Go.Proofs.Ythmkbkombjhaeaa

import Derived.Test.YtfcbkcoagoncoaaQf29
import Derived.Test.YtfcbkcoagoncoaaQf22
import Derived.Deep.Upon
namespace Go.Proofs.Ytfcbkcoagoncoaa
open Go.RowKit Go.Proofs.Ytfcbkcoagoncoaa.Ds

theorem app0 (w : World) (ty : TypeId) (base a : Option Addr) (sLen sCap c : Nat) (hle : sLen ≤ sCap) (i0 : TypeInfo) (hi : Try.prog.info? 3 = some i0) (hz1 : i0.size = 1) : (Builtin.append_ #[24, 24] ty #[.slice base sLen sCap, .slice a 0 c]).run Try.prog w = .ok (.slice base sLen sCap) w := by
  refine run_append_nothing (P := Try.prog) w 24 24 ty 3 i0 Try.underlying24 hi base sLen sCap hle (.slice a 0 c) ?_
  rw [hz1]
  have key : ∀ W : World, (Builtin.firstCells 1 0 (.slice a 0 c)).run Try.prog W = .ok ([] : List Value).toArray W := by
    intro W
    cases a with
    | none => exact run_firstCells_none W 1 0 0 c
    | some ad => exact run_firstCells_some W 1 0 ad 0 c [] rfl (by simp)
  exact ⟨.inl ⟨3, Try.underlying24⟩, fun w' => by simp [Builtin.lenOf], key w, key w.drew, rfl, by simp⟩
theorem owns_le {w : World} {base : Nat} {e : TypeId} {size : Nat} {a : Option Addr} {n c : Nat} {xs : List Value} (h : w.ownsRow base e size (.slice a n c) n xs) : n ≤ c := by
  rcases h.2 with ⟨h1, h2⟩ | ⟨g, cap, cur, h1, _, _, h2, _⟩
  · simp only [Value.slice.injEq] at h1; omega
  · simp only [Value.slice.injEq] at h1; omega
theorem wpList_app_nums {ops : Array Oper} {rest : List Oper} {o : Oper} {a : Act} {Q : Exit → Act → World → Prop} (w : World) (hgd : o.guard = none) (s x : Operand) (ho : o.op = .call { callee := .builtin .append, args := #[s, x], argTypes := #[24, 24] })
    (base B n : Nat) (sa : Option Addr) (sc : Nat) (xs ys : List Int) (hs : a.eval s = .slice sa n sc) (hown : w.ownsRow base 3 1 (.slice sa n sc) n (xs.map (Value.int .i64))) (u : Value) (hx : a.eval x = u) (hu : Num w B u ys) (hb : n + ys.length ≤ 17592186044416) (hbase : base ≤ w.heap.size) (n' : Nat) (hn' : n + ys.length = n')
    (h : ∀ a' c' w', w'.ownsRow base 3 1 (.slice a' n' c') n' ((xs ++ ys).map (Value.int .i64)) → w.grownBy w' (Value.slice sa n sc).ownBlock → ((Value.slice a' n' c').ownBlock = (Value.slice sa n sc).ownBlock ∨ (Value.slice a' n' c').ownBlock = some w.heap.size) → wpList Try.prog ops Q rest (a.put o.dst (.slice a' n' c')) w') :
    wpList Try.prog ops Q (o :: rest) a w := by
  subst hn'
  refine wpList_plain hgd fun K' hK' => ?_
  obtain ⟨i0, hi, hz0, hz1, hz2⟩ := info_parts info3
  have key : ∃ a' c' w', (Builtin.append_ #[24, 24] o.type #[.slice sa n sc, u]).run Try.prog w = .ok (.slice a' (n + ys.length) c') w' ∧ w'.ownsRow base 3 1 (.slice a' (n + ys.length) c') (n + ys.length) ((xs ++ ys).map (Value.int .i64)) ∧ w.grownBy w' (Value.slice sa n sc).ownBlock ∧ ((Value.slice a' (n + ys.length) c').ownBlock = (Value.slice sa n sc).ownBlock ∨ (Value.slice a' (n + ys.length) c').ownBlock = some w.heap.size) := by
    obtain ⟨ua, uc, rfl, hc, hl, hxx⟩ := hu
    by_cases hy : ys = []
    · subst hy
      exact ⟨sa, sc, w, app0 w _ sa ua n sc uc (owns_le hown) i0 hi hz1, by simpa using hown, World.grownBy.refl _ _, .inl rfl⟩
    · obtain ⟨b', o', rfl, hb', hcell⟩ := hxx hy
      obtain ⟨v', w', h1, h2, h3, _, h5⟩ := run_append_own_at (P := Try.prog) w base 24 o.type 3 i0 (.int .i64 0) 1 8 Try.underlying24 hi hz0 hz1 hz2 rfl (by decide) (.slice sa n sc) n (xs.map (Value.int .i64)) hown ⟨b', o', none⟩ ys.length uc (ys.map (Value.int .i64)) (by simp) (by
        intro m z hm
        have hlt : m < ys.length := by have := (List.getElem?_eq_some_iff.1 hm).1; simpa using this
        obtain ⟨y, hy2⟩ := get_lt hlt
        rw [Addr.add_lit, hcell m y hy2]
        simpa [hy2] using hm) (by intro z hz; obtain ⟨y, _, rfl⟩ := List.mem_map.1 hz; rfl) (by unfold maxLen; omega) (by omega) hbase
      obtain ⟨a', c', rfl⟩ := owns_slice h2
      exact ⟨a', c', w', h1, by rw [List.map_append]; exact h2, h3, h5⟩
  obtain ⟨a', c', w', hr, h2, h3, h4⟩ := key
  unfold Oper.wp execOp
  simp only [ho, resolve, invoke, builtin, Sem.run_bind, Sem.run_pure, Result.andThen_ok, List.map_toArray, List.map_cons, List.map_nil, hs, hx, hr]
  exact hK' _ _ (h a' c' w' h2 h3 h4)
theorem owns_zero (w : World) (base : Nat) (hb : base ≤ w.heap.size) : (w.alloc (.cells #[] 3)).ownsRow base 3 1 (.slice (some ⟨w.heap.size, 0, none⟩) 0 0) 0 [] :=
  ⟨by simp, .inr ⟨w.heap.size, 0, #[], rfl, hb, heap_alloc_new w _, Nat.le_refl _, by decide, by simp, by simp⟩⟩
/-- numbers of one's own are a row -/
theorem rowi_of_owns {w : World} {base : Nat} {v : Value} {xs : List Int} {n : Nat} (hn : n = xs.length) (h : w.ownsRow base 3 1 v n (xs.map (.int .i64))) (hne : v ≠ .slice none 0 0) :
    ∃ g cap, v = .slice (some ⟨g, 0, none⟩) xs.length cap ∧ xs.length ≤ cap ∧ base ≤ g ∧ RowI w g xs := by
  subst hn
  obtain ⟨_, ⟨hv, _⟩ | ⟨g, cap, cur, hv, hb, hcur, hc, _, hsz, hx⟩⟩ := h
  · exact absurd hv hne
  · refine ⟨g, cap, hv, hc, hb, ⟨fun i x hi => ?_, fun j _ => frozen_zero hcur, (Array.getElem?_eq_some_iff.1 hcur).1⟩⟩
    have hi2 : i < xs.length := (List.getElem?_eq_some_iff.1 hi).1
    have : cur[i]? = some (.int .i64 x) := by
      have h1 : (xs.map (Value.int .i64))[i]? = some (.int .i64 x) := by simp [hi]
      rw [← hx, List.getElem?_take_of_lt (by omega)] at h1
      simpa using h1
    simp [World.cell?, hcur, this]
theorem owns_some {w : World} {base : Nat} {a : Option Addr} {n c : Nat} {xs : List Value} (_ : w.ownsRow base 3 1 (.slice a n c) n xs) (hn : 0 < n) : Value.slice a n c ≠ .slice none 0 0 := by
  intro e
  simp only [Value.slice.injEq] at e
  omega
end Go.Proofs.Ytfcbkcoagoncoaa

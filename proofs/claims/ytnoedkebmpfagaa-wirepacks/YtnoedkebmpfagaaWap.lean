import Derived.Test.YtnoedkebmpfagaaWbs
/-
  CHAPTER 16: append of bytes onto bytes of one's own, wherever in their block they begin.
-/
namespace Go.Proofs.Ytnoedkebmpfagaa
open Go.RowKit Wc

section
variable {P : Program} (w : World)
/-- room: what is appended is stored behind -/
theorem run_app_room (t u ty e : TypeId) (i : TypeInfo) (ud : TypeDesc) (ht : P.underlying t = some (.slice e)) (hu : P.underlying u = some ud) (hud : ∀ k, ud ≠ .int k) (hi : P.info? e = some i) (hs1 : i.size = 1)
    (g o n cap : Nat) (cur : Array Value) (hg : w.heap[g]? = some (.cells cur e (0, 0))) (x : Value) (m : Nat) (news : List Value) (hl : news.length = m) (h1 : ∀ u ∈ news, u.oneCell' = true)
    (hlen : (Builtin.lenOf x).run P w = .ok m w) (hf : (Builtin.firstCells 1 m x).run P w = .ok news.toArray w)
    (hroom : n + m ≤ cap) (hfit : o + n + m ≤ cur.size) :
    (Builtin.append_ #[t, u] ty #[.slice (some ⟨g, o, none⟩) n cap, x]).run P w =
      .ok (.slice (some ⟨g, o, none⟩) (n + m) cap) (w.setRow g (cur.toList.take (o + n) ++ news ++ cur.toList.drop (o + n + m)).toArray) := by
  have hst := run_storeCells_at P g (o + n) e news 0 cur w hg (by rw [hl]; exact hfit) h1
  simp only [Nat.add_zero, hl] at hst
  simp [Builtin.append_, run_underlying ht, run_underlying hu, sizeOf, typeInfo, hi, hs1, hlen, hroom, hf, Addr.add_lit, hst]
theorem run_app_grow (t u ty e : TypeId) (i : TypeInfo) (z : Value) (ud : TypeDesc) (ht : P.underlying t = some (.slice e)) (hu : P.underlying u = some ud) (hud : ∀ k, ud ≠ .int k) (hi : P.info? e = some i) (hz : i.zero = some z) (hs1 : i.size = 1)
    (a : Option Addr) (n cap : Nat) (olds : List Value) (hfo : (Builtin.firstCells 1 n (.slice a n cap)).run P w.drew = .ok olds.toArray w.drew) (x : Value) (m : Nat) (news : List Value)
    (hlen : (Builtin.lenOf x).run P w = .ok m w) (hf : (Builtin.firstCells 1 m x).run P w.drew = .ok news.toArray w.drew)
    (hg : cap < n + m) (h63 : ((n + m : Nat) : Int) ≤ 9223372036854775807) (hfit : Builtin.nextslicecap (n + m) cap * i.bytes ≤ 281474976710656) :
    (Builtin.append_ #[t, u] ty #[.slice a n cap, x]).run P w =
      .ok (.slice (some ⟨w.heap.size, 0, none⟩) (n + m) (grownCap w (n + m) cap e))
        (w.drew.alloc (.cells (olds.toArray ++ news.toArray ++ Builtin.zeroCells z.cells (grownCap w (n + m) cap e - (n + m))) e)) := by
  have hn : ¬ (n + m ≤ cap) := by omega
  have h63' : ¬ (9223372036854775807 < ((n : Int) + (m : Int))) := by omega
  have h48' : ¬ (281474976710656 < Builtin.nextslicecap (n + m) cap * i.bytes) := by omega
  simp [Builtin.append_, run_underlying ht, run_underlying hu, sizeOf, typeInfo, zeroValue, hi, hz, hs1, hlen, hn, h63', h48', Question.forced, hf, hfo, newRow, grownCap]
  congr 2
  apply Array.ext'
  simp [List.append_assoc]
end
theorem next_le {n old : Nat} (h : old < n) : Builtin.nextslicecap n old ≤ 2 * n + 4096 := by
  unfold Builtin.nextslicecap
  split
  · omega
  · split
    · omega
    · simp only [Builtin.growBy]
      repeat' split
      all_goals omega
/-- bytes appended -/
theorem run_app_any (w : World) (base R : Nat) (v : Value) (t : By) (h : OB w base R v t) (ty u : TypeId) (ud : TypeDesc) (hu : Try.prog.underlying u = some ud) (hud : ∀ k, ud ≠ .int k) (x : Value) (s : By)
    (hlen : (Builtin.lenOf x).run Try.prog w = .ok s.length w) (hf : ∀ W : World, W.heap = w.heap → (Builtin.firstCells 1 s.length x).run Try.prog W = .ok (bc s).toArray W)
    (hs : t.length + s.length ≤ 70368744177664) (hb : base ≤ w.heap.size) (hR : R < w.heap.size) :
    ∃ v' w', (Builtin.append_ #[47, u] ty #[v, x]).run Try.prog w = .ok v' w' ∧ OB w' base R v' (t ++ s) ∧ w.grownBy w' v.ownBlock ∧ (v'.ownBlock = none ∨ v'.ownBlock = v.ownBlock ∨ v'.ownBlock = some w.heap.size) := by
  obtain ⟨i0, hi0, hz0, hz1, hz2⟩ := info_parts infoU
  have hmx : maxLen = 9223372036854775807 := by decide
  have hgr : ∀ (a : Option Addr) (cap : Nat), v = .slice a t.length cap → cap < t.length + s.length → (Builtin.firstCells 1 t.length (.slice a t.length cap)).run Try.prog w.drew = .ok (bc t).toArray w.drew →
      ∃ v' w', (Builtin.append_ #[47, u] ty #[v, x]).run Try.prog w = .ok v' w' ∧ OB w' base R v' (t ++ s) ∧ w.grownBy w' v.ownBlock ∧ (v'.ownBlock = none ∨ v'.ownBlock = v.ownBlock ∨ v'.ownBlock = some w.heap.size) := by
    intro a cap hv hcap hfo
    subst hv
    have hr := run_app_grow (P := Try.prog) w 47 u ty 5 i0 (.int .u8 0) ud Try.underlying47 hu hud hi0 hz0 hz1 a t.length cap (bc t) hfo x s.length (bc s) hlen (hf _ rfl) hcap (by omega) (by have := next_le hcap; rw [hz2]; omega)
    refine ⟨_, _, hr, .inr ⟨w.heap.size, 0, _, _, by rw [List.length_append], hb, by omega, heap_alloc_new w.drew _, ?_, grownCap_le_maxLen _ _ _ _ (by rw [hmx]; omega), ?_, ?_⟩, ?_, ?_⟩
    · rw [List.length_append]; exact grownCap_ge _ _ _ _
    · have := grownCap_ge w (t.length + s.length) cap 5
      simp only [Array.size_append, List.size_toArray, bc_len, size_zeroCells]
      have : (Value.int IntKind.u8 0).cells.size = 1 := rfl
      rw [this]
      omega
    · simp only [List.drop_zero, Array.toList_append]
      rw [← bc_app, List.take_append_of_le_length (by rw [bc_len]; exact Nat.le_refl _)]
      exact List.take_of_length_le (by rw [bc_len]; exact Nat.le_refl _)
    · exact ⟨rfl, rfl, rfl, by simp, fun k hk _ => heap_alloc_old w.drew _ hk⟩
    · exact .inr (.inr rfl)
  rcases h with ⟨rfl, rfl⟩ | ⟨g, o, cap, cur, rfl, h1, h2, h3, h4, h5, h6, h7⟩
  · cases s with
    | nil =>
      refine ⟨.slice none 0 0, w, ?_, .inl ⟨rfl, rfl⟩, World.grownBy.refl _ _, .inl rfl⟩
      have hf0 := hf w rfl
      simp only [List.length_nil] at hlen hf0
      simp [Builtin.append_, run_underlying Try.underlying47, run_underlying hu, sizeOf, typeInfo, hi0, hz1, hlen, hf0]
    | cons c r => exact hgr none 0 rfl (by simp) (by simp [Builtin.firstCells, bc])
  · by_cases hroom : t.length + s.length ≤ cap
    · have hr := run_app_room (P := Try.prog) w 47 u ty 5 i0 ud Try.underlying47 hu hud hi0 hz1 g o t.length cap cur h3 x s.length (bc s) (bc_len s) (bc_one s) hlen (hf w rfl) hroom (by omega)
      refine ⟨_, _, hr, .inr ⟨g, o, cap, _, by rw [List.length_append], h1, h2, setRow_heap w g cur _ 5 _ h3, by rw [List.length_append]; exact hroom, h5, ?_, ?_⟩, ?_, .inr (.inl rfl)⟩
      · simp only [List.size_toArray, List.length_append, List.length_take, List.length_drop, Array.length_toList, bc_len]
        omega
      · have hL : (cur.toList.take (o + t.length)).drop o = bc t := by
          rw [← h7, List.drop_take]; congr 1; omega
        have hlo : o ≤ (cur.toList.take (o + t.length)).length := by simp; omega
        simp only [List.append_assoc]
        rw [List.drop_append_of_le_length hlo, hL, ← List.append_assoc, ← bc_app, List.take_append_of_le_length (by rw [bc_len]; exact Nat.le_refl _)]
        exact List.take_of_length_le (by rw [bc_len]; exact Nat.le_refl _)
      · exact ⟨rfl, rfl, rfl, by simp, fun k _ hk => setRow_other w g k _ (fun e => hk (by simp [Value.ownBlock, e]))⟩
    · refine hgr _ cap rfl (by omega) ?_
      have hlt : o + t.length ≤ cur.toList.length := by simp; omega
      have := run_firstCells_some (P := Try.prog) w.drew 1 t.length ⟨g, o, none⟩ t.length cap (bc t) (by rw [bc_len, Nat.mul_one]) (fun j u hu => by
        rw [Addr.add_lit]
        have hj : j < t.length := by have := (List.getElem?_eq_some_iff.1 hu).1; rwa [bc_len] at this
        rw [← h7, List.getElem?_take_of_lt hj, List.getElem?_drop] at hu
        have h3' : w.drew.heap[g]? = some (.cells cur 5 (0, 0)) := h3
        simp only [World.cell?, h3']
        simpa using hu)
      exact this
/-- at the list of a region's operations -/
theorem wpList_app {P : Program} {w : World} {ops : Array Oper} {rest : List Oper} {o : Oper} {a : Act} {Q : Exit → Act → World → Prop} (hgd : o.guard = none) (s x : Operand) (t u : TypeId)
    (ho : o.op = .call { callee := .builtin .append, args := #[s, x], argTypes := #[t, u] }) (vs vx v' : Value) (w' : World) (hs : a.eval s = vs) (hx : a.eval x = vx)
    (hr : (Builtin.append_ #[t, u] o.type #[vs, vx]).run P w = .ok v' w') (h : wpList P ops Q rest (a.put o.dst v') w') : wpList P ops Q (o :: rest) a w := by
  refine wpList_plain hgd fun _ hK => ?_
  unfold Oper.wp execOp
  simp only [ho, resolve, invoke, builtin, Sem.run_bind, Sem.run_pure, Result.andThen_ok, List.map_toArray, List.map_cons, List.map_nil, hs, hx, hr]
  exact hK _ _ h
/-- a text appended -/
theorem run_app_str (w : World) (base R : Nat) (v : Value) (t : By) (h : OB w base R v t) (ty : TypeId) (s : By) (hs : t.length + s.length ≤ 70368744177664) (hb : base ≤ w.heap.size) (hR : R < w.heap.size) :
    ∃ v' w', (Builtin.append_ #[47, 9] ty #[v, .string (tx s)]).run Try.prog w = .ok v' w' ∧ OB w' base R v' (t ++ s) ∧ w.grownBy w' v.ownBlock ∧ (v'.ownBlock = none ∨ v'.ownBlock = v.ownBlock ∨ v'.ownBlock = some w.heap.size) :=
  run_app_any w base R v t h ty 9 .string Try.underlying9 (by intro k hk; cases hk) (.string (tx s)) s (by simp [Builtin.lenOf, tx_size]) (fun W _ => by
    have := Lib.run_firstCells_string (P := Try.prog) W 1 (tx s)
    rw [tx_size, bc_str] at this
    exact this) hs hb hR
/-- bytes of a slice appended -/
theorem run_app_sl (w : World) (base R : Nat) (v : Value) (t : By) (h : OB w base R v t) (ty : TypeId) (s : By) (a : Addr) (c : Nat) (hc : ∀ j u, (bc s)[j]? = some u → w.cell? (a.add j) = some u) (hs : t.length + s.length ≤ 70368744177664) (hb : base ≤ w.heap.size) (hR : R < w.heap.size) :
    ∃ v' w', (Builtin.append_ #[47, 47] ty #[v, .slice (some a) s.length c]).run Try.prog w = .ok v' w' ∧ OB w' base R v' (t ++ s) ∧ w.grownBy w' v.ownBlock ∧ (v'.ownBlock = none ∨ v'.ownBlock = v.ownBlock ∨ v'.ownBlock = some w.heap.size) :=
  run_app_any w base R v t h ty 47 (.slice 5) Try.underlying47 (by intro k hk; cases hk) _ s (by simp [Builtin.lenOf]) (fun W hW => by
    refine run_firstCells_some (P := Try.prog) W 1 s.length a s.length c (bc s) (by rw [bc_len, Nat.mul_one]) (fun j u hu => ?_)
    rw [← hc j u hu]
    simp [World.cell?, hW]) hs hb hR
end Go.Proofs.Ytnoedkebmpfagaa

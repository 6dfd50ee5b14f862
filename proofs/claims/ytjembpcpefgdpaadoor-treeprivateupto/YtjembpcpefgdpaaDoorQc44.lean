import Derived.Test.YtjembpcpefgdpaaDoorQc39
import Derived.Test.YtjembpcpefgdpaaDoorQc43
import Derived.Deep.Upon
namespace Go.Proofs.YtjembpcpefgdpaaDoor
open Go.RowKit Go.Proofs.YtjembpcpefgdpaaDoor.Ds

/-! ### the reference's New -/
set_option maxRecDepth 100000 in
set_option maxHeartbeats 2000000 in
theorem rnew_any (high u d lo hi er : Int) (h : newE high u d lo hi = er) (w : World) :
    Calls Tryd.prog 6 #[.int .i64 high, rv u d, .int .i64 lo, .int .i64 hi] w fun e w' => e = .returned (.int .i64 er) ∧ Below w.heap.size w w' := by
  unfold newE at h
  by_cases c : 0 ≤ high ∧ high ≤ 10
  · rw [if_pos c] at h
    obtain ⟨⟨l, e1⟩, hh⟩ : ∃ y, hideT u d lo hi 0 = y := ⟨_, rfl⟩
    rw [hh] at h
    have kh := fun W => rhide_any u d lo hi 0 l e1 hh W
    have g0 : ¬ high < 0 := by omega
    have g1 : ¬ high > 10 := by omega
    have q0 : ∀ W : World, Below (w.alloc (.cells #[.int .i64 u, .int .i64 d] 23)).heap.size (w.alloc (.cells #[.int .i64 u, .int .i64 d] 23)) W → W.cell? ⟨w.heap.size, 0, none⟩ = some (.int .i64 u) := fun W hW => (hW.cell (p := ⟨w.heap.size, 0, none⟩) (by simp)).trans (by simp [go_sem])
    have q1 : ∀ W : World, Below (w.alloc (.cells #[.int .i64 u, .int .i64 d] 23)).heap.size (w.alloc (.cells #[.int .i64 u, .int .i64 d] 23)) W → W.cell? ⟨w.heap.size, 1, none⟩ = some (.int .i64 d) := fun W hW => (hW.cell (p := ⟨w.heap.size, 1, none⟩) (by simp)).trans (by simp [go_sem])
    by_cases c1 : e1 = 0
    · subst c1
      obtain ⟨⟨p, q, e2⟩, hp⟩ : ∃ y, Rt.powT u d (high + 1) = y := ⟨_, rfl⟩
      rw [if_pos rfl, hp] at h
      have h' : e2 = er := h
      subst h'
      have kp := fun W => refPower_any u d (high + 1) p q e2 hp W
      have hw1 : IntKind.i64.wrap (high + 1) = high + 1 := by rw [IntKind.wrap_i64]; omega
      clear h hh hp
      go_enter Tryd.func6, Tryd.ntmps6
      go_wp2_with fail
      refine (kh _).mono ?_
      rintro e w2 ⟨v2, us, rfl, k1, k2, k3, k4⟩
      obtain ⟨a2, c2', hv2⟩ := k2.slice
      subst hv2
      have x0 := q0 w2 k3
      have x1 := q1 w2 k3
      have G : Below w.heap.size w w2 := bt (ba _ _) k3
      clear k1 k2 k3 k4 kh q0 q1
      go_wp2_with fail
      refine (kp _).mono ?_
      rintro e w3 ⟨rfl, hb3⟩
      clear kp
      go_wp2
      go_ret
      exact ⟨rfl, bal (bt G hb3) _⟩
    · rw [if_neg c1] at h
      have h' : e1 = er := h
      subst h'
      have c2 : (e1 != 0) = true := by simpa using c1
      clear h hh
      go_enter Tryd.func6, Tryd.ntmps6
      go_wp2_with fail
      refine (kh _).mono ?_
      rintro e w2 ⟨v2, us, rfl, k1, k2, k3, k4⟩
      obtain ⟨a2, c2', hv2⟩ := k2.slice
      subst hv2
      have G : Below w.heap.size w w2 := bt (ba _ _) k3
      clear k1 k2 k3 k4 kh q0 q1
      go_wp2
      go_ret
      exact ⟨rfl, G⟩
  · rw [if_neg c] at h
    subst h
    by_cases c0 : high < 0
    · clear c
      go_enter Tryd.func6, Tryd.ntmps6
      go_wp2
      go_ret
      exact ⟨rfl, ba _ _⟩
    · have c1 : high > 10 := by omega
      clear c
      go_enter Tryd.func6, Tryd.ntmps6
      go_wp2
      go_ret
      exact ⟨rfl, ba _ _⟩

/-! ### append of numbers, however few -/
theorem app0 (w : World) (ty : TypeId) (base a : Option Addr) (sLen sCap c : Nat) (hle : sLen ≤ sCap) (i0 : TypeInfo) (hi : Tryd.prog.info? 3 = some i0) (hz1 : i0.size = 1) : (Builtin.append_ #[24, 24] ty #[.slice base sLen sCap, .slice a 0 c]).run Tryd.prog w = .ok (.slice base sLen sCap) w := by
  refine run_append_nothing (P := Tryd.prog) w 24 24 ty 3 i0 Tryd.underlying24 hi base sLen sCap hle (.slice a 0 c) ?_
  rw [hz1]
  have key : ∀ W : World, (Builtin.firstCells 1 0 (.slice a 0 c)).run Tryd.prog W = .ok ([] : List Value).toArray W := by
    intro W
    cases a with
    | none => exact run_firstCells_none W 1 0 0 c
    | some ad => exact run_firstCells_some W 1 0 ad 0 c [] rfl (by simp)
  exact ⟨.inl ⟨3, Tryd.underlying24⟩, fun w' => by simp [Builtin.lenOf], key w, key w.drew, rfl, by simp⟩
theorem owns_le {w : World} {base : Nat} {e : TypeId} {size : Nat} {a : Option Addr} {n c : Nat} {xs : List Value} (h : w.ownsRow base e size (.slice a n c) n xs) : n ≤ c := by
  rcases h.2 with ⟨h1, h2⟩ | ⟨g, cap, cur, h1, _, _, h2, _⟩
  · simp only [Value.slice.injEq] at h1; omega
  · simp only [Value.slice.injEq] at h1; omega
theorem wpList_app_nums {ops : Array Oper} {rest : List Oper} {o : Oper} {a : Act} {Q : Exit → Act → World → Prop} (w : World) (hgd : o.guard = none) (s x : Operand) (ho : o.op = .call { callee := .builtin .append, args := #[s, x], argTypes := #[24, 24] })
    (base B nb n : Nat) (sa : Option Addr) (sc : Nat) (xs ys : List Int) (hs : a.eval s = .slice sa n sc) (hown : w.ownsRow base 3 1 (.slice sa n sc) n (xs.map (Value.int .i64))) (u : Value) (hx : a.eval x = u) (hu : Ints w B nb u ys) (hb : n + ys.length ≤ 17592186044416) (hbase : base ≤ w.heap.size) (n' : Nat) (hn' : n + ys.length = n')
    (h : ∀ a' c' w', w'.ownsRow base 3 1 (.slice a' n' c') n' ((xs ++ ys).map (Value.int .i64)) → w.grownBy w' (Value.slice sa n sc).ownBlock → ((Value.slice a' n' c').ownBlock = (Value.slice sa n sc).ownBlock ∨ (Value.slice a' n' c').ownBlock = some w.heap.size) → wpList Tryd.prog ops Q rest (a.put o.dst (.slice a' n' c')) w') :
    wpList Tryd.prog ops Q (o :: rest) a w := by
  subst hn'
  refine wpList_plain hgd fun K' hK' => ?_
  obtain ⟨i0, hi, hz0, hz1, hz2⟩ := info_parts info3
  have key : ∃ a' c' w', (Builtin.append_ #[24, 24] o.type #[.slice sa n sc, u]).run Tryd.prog w = .ok (.slice a' (n + ys.length) c') w' ∧ w'.ownsRow base 3 1 (.slice a' (n + ys.length) c') (n + ys.length) ((xs ++ ys).map (Value.int .i64)) ∧ w.grownBy w' (Value.slice sa n sc).ownBlock ∧ ((Value.slice a' (n + ys.length) c').ownBlock = (Value.slice sa n sc).ownBlock ∨ (Value.slice a' (n + ys.length) c').ownBlock = some w.heap.size) := by
    obtain ⟨ua, uc, rfl, hc, hl, hxx⟩ := hu
    by_cases hy : ys = []
    · subst hy
      exact ⟨sa, sc, w, app0 w _ sa ua n sc uc (owns_le hown) i0 hi hz1, by simpa using hown, World.grownBy.refl _ _, .inl rfl⟩
    · obtain ⟨b', o', rfl, hb', _, hcell⟩ := hxx hy
      obtain ⟨v', w', h1, h2, h3, _, h5⟩ := run_append_own_at (P := Tryd.prog) w base 24 o.type 3 i0 (.int .i64 0) 1 8 Tryd.underlying24 hi hz0 hz1 hz2 rfl (by decide) (.slice sa n sc) n (xs.map (Value.int .i64)) hown ⟨b', o', none⟩ ys.length uc (ys.map (Value.int .i64)) (by simp) (by
        intro m z hm
        have hlt : m < ys.length := by have := (List.getElem?_eq_some_iff.1 hm).1; simpa using this
        obtain ⟨y, hy2⟩ := get_lt hlt
        rw [Addr.add_lit, hcell m y hy2]
        simpa [hy2] using hm) (by intro z hz; obtain ⟨y, _, rfl⟩ := List.mem_map.1 hz; rfl) (by unfold maxLen; omega) (by omega) hbase
      obtain ⟨a', c', rfl⟩ := row_slice h2
      exact ⟨a', c', w', h1, by rw [List.map_append]; exact h2, h3, h5⟩
  obtain ⟨a', c', w', hr, h2, h3, h4⟩ := key
  unfold Oper.wp execOp
  simp only [ho, resolve, invoke, builtin, Sem.run_bind, Sem.run_pure, Result.andThen_ok, List.map_toArray, List.map_cons, List.map_nil, hs, hx, hr]
  exact hK' _ _ (h a' c' w' h2 h3 h4)
theorem owns_zero (w : World) (base : Nat) (hb : base ≤ w.heap.size) : (w.alloc (.cells #[] 3)).ownsRow base 3 1 (.slice (some ⟨w.heap.size, 0, none⟩) 0 0) 0 [] :=
  ⟨by simp, .inr ⟨w.heap.size, 0, #[], rfl, hb, heap_alloc_new w _, Nat.le_refl _, by decide, by simp, by simp⟩⟩
end Go.Proofs.YtjembpcpefgdpaaDoor

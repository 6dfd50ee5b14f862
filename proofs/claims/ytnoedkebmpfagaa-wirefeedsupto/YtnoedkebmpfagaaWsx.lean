import Derived.Test.YtnoedkebmpfagaaWsw
/-
  CHAPTER 16's laws of streams: sameTexts; rows of texts of one's own.
-/
namespace Go.Proofs.Ytnoedkebmpfagaa
open Go.RowKit Wc

theorem belN {h : Nat} {a b : World} (hb : Below h a b) (q : Nat) : Below h a (b.drewN q) := by
  induction q generalizing b with
  | zero => exact hb
  | succ q ih => exact (ih hb).drew
theorem nes2 (x : By) (u : World) : (binOp .neq 9 (.string (tx x)) (.string (tx x))).run Try.prog u = .ok (.bool false) u := by
  simp only [binOp, Op.stringOp]
  simp
set_option maxHeartbeats 1000000 in
theorem sametexts_any (sv tv : Value) (l : List By) (w : World) (h1 : Stl w w.heap.size sv l) (h2 : Stl w w.heap.size tv l) :
    Calls Try.prog 16 #[sv, tv] w fun e w' => e = .returned (.bool true) ∧ Below w.heap.size w w' := by
  obtain ⟨sa, sc, rfl, hsc, hsl⟩ := h1.slice
  obtain ⟨ta, tc, rfl, htc, -⟩ := h2.slice
  have H1 : Hid (Stl w w.heap.size (.slice sa l.length sc) l) := h1
  have H2 : Hid (Stl w w.heap.size (.slice ta l.length tc) l) := h2
  clear h1 h2
  go_enter Try.func16, Try.ntmps16
  go_wp2_with fail
  go_loopw [13] (fun iv wr => ∃ (i : Nat) (q : Nat), iv = .int .i64 (i : Int) ∧ i ≤ l.length ∧ wr = w.drewN q) (fun iv _ => l.length - (intOf iv).toNat)
  case atStart => exact ⟨0, 0, rfl, Nat.zero_le _, rfl⟩
  case round =>
    obtain ⟨i, q, rfl, hi, rfl⟩ := hrel
    by_cases z : i < l.length
    · have z1 : (i : Int) < (l.length : Int) := by omega
      obtain ⟨b1, o1, c1', x, f1, _, _, hx, g1⟩ := H1.out.get (i := i) z
      simp only [Value.slice.injEq] at f1
      obtain ⟨rfl, -, rfl⟩ := f1
      obtain ⟨b2, o2, c2', y, f2, _, _, hy, g2⟩ := H2.out.get (i := i) z
      simp only [Value.slice.injEq] at f2
      obtain ⟨rfl, -, rfl⟩ := f2
      obtain rfl : x = y := Option.some.inj (hx.symm.trans hy)
      have e1 := nes2 x
      clear hx hy
      go_wp2_with fail
      go_quiet (fail)
      go_wp2
      go_roundw
      case rel => exact ⟨i + 1, _, by go_num, z, rfl⟩
      case measure => simp [intOf]; omega
    · obtain rfl : i = l.length := by omega
      have z1 : ¬ (l.length : Int) < (l.length : Int) := by omega
      go_wp2
      go_ret
      exact ⟨rfl, belN (Below.refl _ _) q⟩
/-- texts of one's own, in a row that may grow -/
abbrev RowS (w : World) (N : Nat) (v : Value) (l : List By) : Prop := w.ownsRow N 9 1 v l.length (strs l)
theorem RowS.stl {w : World} {N : Nat} {v : Value} {l : List By} (h : RowS w N v l) (hl : l.length ≤ 9223372036854775807) : Stl w w.heap.size v l := by
  obtain ⟨_, ⟨hv, h0⟩ | ⟨g, cap, cur, hv, hb, hcur, hc, _, hsz, hx⟩⟩ := h
  · obtain rfl : l = [] := List.eq_nil_of_length_eq_zero h0
    exact ⟨none, 0, hv, Nat.le_refl _, hl, fun h => absurd rfl h⟩
  · refine ⟨_, cap, hv, hc, hl, fun _ => ⟨g, 0, rfl, (Array.getElem?_eq_some_iff.1 hcur).1, fun i x hi => ?_⟩⟩
    have hi2 : i < l.length := (List.getElem?_eq_some_iff.1 hi).1
    have : cur[i]? = some (.string (tx x)) := by
      have h1 : (strs l)[i]? = some (.string (tx x)) := by simp [strs, hi]
      rw [← hx, List.getElem?_take_of_lt (by omega)] at h1
      simpa using h1
    simp [World.cell?, hcur, this]
/-- texts appended, however few -/
theorem run_appS {w : World} {N B : Nat} {v x : Value} {l fs : List By} (h : RowS w N v l) (ty : TypeId) (hx : Stl w B x fs) (hlen : l.length + fs.length ≤ 4398046511104) (hN : N ≤ w.heap.size) :
    ∃ v' w', (Builtin.append_ #[35, 35] ty #[v, x]).run Try.prog w = .ok v' w' ∧ RowS w' N v' (l ++ fs) ∧ w.grownBy w' v.ownBlock ∧ (v'.ownBlock = v.ownBlock ∨ v'.ownBlock = some w.heap.size) := by
  obtain ⟨i9, hi9, hz90, hz91, hz92⟩ := info_parts infoS
  obtain ⟨a, c, rfl, hc, -, hcell⟩ := hx
  have hap : (l ++ fs).length = l.length + fs.length := List.length_append
  have hst : strs (l ++ fs) = strs l ++ strs fs := by simp [strs]
  cases a with
  | none =>
    have hf : fs = [] := by
      cases fs with
      | nil => rfl
      | cons y r => obtain ⟨b, o, e, _⟩ := hcell (by simp); cases e
    subst hf
    refine ⟨v, w, ?_, by simpa using h, World.grownBy.refl _ _, .inl rfl⟩
    obtain ⟨a', c', rfl⟩ := row_slice h
    have hle : l.length ≤ c' := by
      rcases h.2 with ⟨e, h0⟩ | ⟨g, cap, cur, e, _, _, h4, _⟩
      · omega
      · simp only [Value.slice.injEq] at e; omega
    cases a' <;> simp [Builtin.append_, run_underlying Try.underlying35, sizeOf, typeInfo, hi9, Builtin.lenOf, Builtin.firstCells, hle, storeCells]
  | some ad =>
    have := run_append_own_at (P := Try.prog) w N 35 ty 9 i9 (.string ⟨#[]⟩) 1 16 Try.underlying35 hi9 hz90 hz91 hz92 rfl (by decide) v l.length (strs l) h ad fs.length c (strs fs) (by rw [strs_len, Nat.mul_one]) (fun j u hu => by
      have hj : j < fs.length := by have := (List.getElem?_eq_some_iff.1 hu).1; rwa [strs_len] at this
      obtain ⟨b, o, e, _, hcc⟩ := hcell (ne_of_lt hj)
      simp only [Option.some.injEq] at e
      subst e
      rw [Addr.add_lit]
      obtain ⟨y, hy⟩ := get_lt hj
      rw [hcc j y hy]
      simp [strs, hy] at hu
      rw [hu]) (by intro u hu; simp only [strs, List.mem_map] at hu; obtain ⟨f, _, rfl⟩ := hu; rfl) (by unfold maxLen; omega) (by omega) hN
    obtain ⟨v', w', hr, h2, h3, _, h5⟩ := this
    exact ⟨v', w', hr, by rw [RowS, hap, hst]; exact h2, h3, h5⟩
/-- what was told of a crumb, read -/
theorem fe_get {w : World} {N : Nat} {oa : Option Addr} {n oc : Nat} {es : List Fe} (h : w.ownsRow N 39 2 (.slice oa n oc) n (fl2 es)) {i : Nat} {e : Fe} (hi : es[i]? = some e) :
    ∃ g, oa = some ⟨g, 0, none⟩ ∧ g < w.heap.size ∧ w.cell? ⟨g, i * 2, none⟩ = some e.v ∧ w.cell? ⟨g, i * 2 + 1, none⟩ = some (.int .i64 e.er) := by
  have c0 := fl2_at es i e 0 _ hi rfl
  have c1 := fl2_at es i e 1 _ hi rfl
  rcases h.2 with ⟨h1, h0⟩ | ⟨g, cap, cur, h1, h2, h3, h4, h5, h6, h7⟩
  · have := h.1
    rw [h0] at this
    have hn := List.eq_nil_of_length_eq_zero (by omega : (fl2 es).length = 0)
    rw [hn] at c0
    simp at c0
  · simp only [Value.slice.injEq] at h1
    have hg : ∀ j u, (fl2 es)[j]? = some u → w.cell? ⟨g, j, none⟩ = some u := by
      intro j u hj
      have hlt : j < (fl2 es).length := (List.getElem?_eq_some_iff.1 hj).1
      rw [← h7, List.getElem?_take_of_lt (by rw [← h.1]; exact hlt)] at hj
      simp [World.cell?, h3]
      simpa using hj
    exact ⟨g, h1.1, (Array.getElem?_eq_some_iff.1 h3).1, hg _ _ c0, hg _ _ c1⟩
end Go.Proofs.Ytnoedkebmpfagaa

import Derived.Test.YtfibbjngllelbaaGreatPbp
namespace Go.Proofs.YtfibbjngllelbaaGreat
open Go.RowKit Go.Shelf Go.Proofs.YtfibbjngllelbaaGreat.Ds

theorem row_cell {w : World} {base : Nat} {t : TypeId} {sz : Nat} {a : Option Addr} {n c : Nat} {xs : List Value} (h : w.ownsRow base t sz (.slice a n c) n xs) {j : Nat} {u : Value} (hj : xs[j]? = some u) :
    ∃ g, a = some ⟨g, 0, none⟩ ∧ base ≤ g ∧ g < w.heap.size ∧ w.cell? ⟨g, j, none⟩ = some u := by
  rcases h.2 with ⟨h1, h0⟩ | ⟨g, cap, cur, h1, h2, h3, h4, h5, h6, h7⟩
  · have := h.1
    rw [h0] at this
    obtain rfl : xs = [] := List.eq_nil_of_length_eq_zero (by omega)
    simp at hj
  · simp only [Value.slice.injEq] at h1
    refine ⟨g, h1.1, h2, (Array.getElem?_eq_some_iff.1 h3).1, ?_⟩
    have hlt : j < xs.length := (List.getElem?_eq_some_iff.1 hj).1
    rw [← h7, List.getElem?_take_of_lt (by rw [← h.1]; exact hlt)] at hj
    simp [World.cell?, h3]
    simpa using hj
theorem enc_get {l : List En} {i : Nat} {x : En} (h : l[i]? = some x) : (enc l)[i * 5]? = some (.int .i64 x.1) ∧ (enc l)[i * 5 + 1]? = some (.string x.2.1) ∧ (enc l)[i * 5 + 2]? = some (.int .i64 x.2.2.1) ∧ (enc l)[i * 5 + 3]? = some (.int .i64 x.2.2.2.1) ∧ (enc l)[i * 5 + 4]? = some (.int .i64 x.2.2.2.2) := by
  induction l generalizing i with
  | nil => simp at h
  | cons y l ih =>
    cases i with
    | zero => simp at h; subst h; simp [enc, encE]
    | succ i =>
      simp only [List.getElem?_cons_succ] at h
      have := ih h
      have e : ∀ k, (enc (y :: l))[(i + 1) * 5 + k]? = (enc l)[i * 5 + k]? := fun k => by
        have : enc (y :: l) = encE y ++ enc l := by simp [enc]
        rw [this, List.getElem?_append_right (by simp [encE]; omega)]
        simp only [encE, List.length_cons, List.length_nil]
        congr 1; omega
      exact ⟨by rw [← this.1]; exact e 0, by rw [← this.2.1]; exact e 1, by rw [← this.2.2.1]; exact e 2, by rw [← this.2.2.2.1]; exact e 3, by rw [← this.2.2.2.2]; exact e 4⟩
theorem encQ_get {l : List Rq} {i : Nat} {x : Rq} (h : l[i]? = some x) : (encQ l)[i * 2]? = some (.int .i64 x.1) ∧ (encQ l)[i * 2 + 1]? = some (.int .i64 x.2) := by
  induction l generalizing i with
  | nil => simp at h
  | cons y l ih =>
    cases i with
    | zero => simp at h; subst h; simp [encQ]
    | succ i =>
      simp only [List.getElem?_cons_succ] at h
      have := ih h
      have e : ∀ k, (encQ (y :: l))[(i + 1) * 2 + k]? = (encQ l)[i * 2 + k]? := fun k => by
        have : encQ (y :: l) = [.int .i64 y.1, .int .i64 y.2] ++ encQ l := by simp [encQ]
        rw [this, List.getElem?_append_right (by simp; omega)]
        simp only [List.length_cons, List.length_nil]
        congr 1; omega
      exact ⟨by rw [← this.1]; exact e 0, by rw [← this.2]; exact e 1⟩
theorem inv_names {dn : List En} (h : Inv dn) : ∀ x ∈ dn, x.2.1.size ≤ 32 := fun x hx => by
  have h1 := (bad_ok (h.bad x hx).1).2.2.1
  unfold namB at h1
  simp only [Bool.and_eq_true, decide_eq_true_eq] at h1
  have h2 := h1.1.2
  rw [Array.length_toList] at h2
  exact h2
theorem inv_part {dn : List En} (h : Inv dn) : ∀ x ∈ dn, 0 ≤ x.2.2.1 ∧ x.2.2.1 ≤ 1073741824 := fun x hx => by
  obtain ⟨_, h2, h3, _⟩ := h.bad x hx
  by_cases c : x.1 = 3
  · exact h3 c
  · unfold nrm at h2
    rw [if_neg c] at h2
    have : x.2.2.1 = 0 := by rw [← h2]
    omega
theorem ents_of_row {w : World} {base : Nat} {v : Value} {dn : List En} (h : w.ownsRow base 45 5 v dn.length (enc dn)) (hl : dn.length ≤ 9223372036854775807) (hn : ∀ x ∈ dn, x.2.1.size ≤ 9223372036854775807) : Ents w w.heap.size v dn := by
  obtain ⟨a, c, rfl⟩ := row_slice h
  refine ⟨a, c, rfl, ?_, hl, hn, fun hne => ?_⟩
  · rcases h.2 with ⟨h1, h0⟩ | ⟨g, cap, cur, h1, h2, h3, h4, _⟩
    · omega
    · simp only [Value.slice.injEq] at h1; omega
  · obtain ⟨x0, l0, rfl⟩ : ∃ x l, dn = x :: l := by cases dn; exact absurd rfl hne; exact ⟨_, _, rfl⟩
    obtain ⟨g, rfl, _, hlt, _⟩ := row_cell h (enc_get (i := 0) (x := x0) rfl).1
    refine ⟨g, 0, rfl, hlt, fun i x hi => ?_⟩
    have hg := enc_get hi
    have cell : ∀ {j u}, (enc (x0 :: l0))[j]? = some u → w.cell? ⟨g, j, none⟩ = some u := fun hj => by
      obtain ⟨g', e, _, _, hc⟩ := row_cell h hj
      simp only [Option.some.injEq, Addr.mk.injEq] at e
      rw [e.1]; exact hc
    simp only [Nat.zero_add]
    exact ⟨cell hg.1, cell hg.2.1, cell hg.2.2.1, cell hg.2.2.2.1, cell hg.2.2.2.2⟩
theorem rat_neq (a b c e : Int) (r : Bool) (hr : (!decide (a = c ∧ b = e)) = r) (W : World) : (binOp .neq 35 (.agg #[.int .i64 a, .int .i64 b]) (.agg #[.int .i64 c, .int .i64 e])).run Tryz.prog W = .ok (.bool r) W := by
  obtain ⟨f0, f1, hf, n0, n1, t0, t1, o0, o1⟩ := rat_fields
  rw [run_neq_struct, run_equalIn_struct W 9999 35 _ _ rat_struct rat_held, hf, ← hr]
  simp [Op.eqFields, n0, n1, t0, t1, o0, o1, go_sem, Tryz.underlying3]
  by_cases h1 : a = c <;> by_cases h2 : b = e <;> simp [h1, h2]

/-! ### alive -/
end Go.Proofs.YtfibbjngllelbaaGreat

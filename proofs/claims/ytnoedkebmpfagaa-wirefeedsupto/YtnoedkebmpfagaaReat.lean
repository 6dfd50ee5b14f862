import Derived.Test.YtnoedkebmpfagaaRead
import Derived.Test.YtnoedkebmpfagaaLawCrumbs
import Derived.Deep.Strs
/-
  CHAPTER 16: texts and numbers that came in, and how many.
-/
namespace Go.Proofs.Ytnoedkebmpfagaa
open Go.ChangeShapes Go.WideShapes Go.ChangeAt Go.RowKit Go.Deep Wc

theorem bk_one {H : Type} (d : DataW H) : 1 ≤ Rows.uptoBulk d := by
  cases d with
  | lit l => cases l <;> simp [Rows.uptoBulk]
  | nil => simp [Rows.uptoBulk]
  | ptr d => simp [Rows.uptoBulk]
  | slice e s => simp [Rows.uptoBulk]
  | agg p => simp [Rows.uptoBulk]
  | iface t d => simp [Rows.uptoBulk]
  | map e => simp [Rows.uptoBulk]
  | held h => simp [Rows.uptoBulk]
theorem bk_len {H : Type} (l : List (DataW H)) : l.length ≤ Rows.uptoBulkAll l := by
  induction l with
  | nil => simp
  | cons x r ih => have := bk_one x; simp only [Rows.uptoBulkAll, List.length_cons]; omega
theorem bk_strs {H : Type} : ∀ (l : List By), Rows.uptoBulkAll (l.map fun s => (DataW.lit (.string s) : DataW H)) = l.flatten.length + l.length
  | [] => by simp [Rows.uptoBulkAll]
  | s :: l => by
    simp only [List.map_cons, Rows.uptoBulkAll, Rows.uptoBulk, bk_strs l, List.flatten_cons, List.length_append, List.length_cons]
    omega
/-- texts that came in -/
theorem strs_of_trod {H : Type} {enc : TypeId × Value → H} {W : World} {n : Nat} {V : Value} {D : DataW H} {P : List MemPlace} (h : DataW.trod enc Try.prog W 0 (fun _ => true) true n 35 [V] = some (D, P)) :
    ∃ l, Stl W W.heap.size V l ∧ l.flatten.length + l.length ≤ Rows.uptoBulk D := by
  rcases open_strs Try.underlying35 Try.underlying9 cells9 h with ⟨hcs, _⟩ | ⟨a, len, cap, m, Sx, hcs, _, hl, hmx, hm, hx, hcell⟩
  · simp at hcs
    subst hcs
    exact ⟨[], ⟨none, 0, rfl, Nat.le_refl _, by simp, fun h => absurd rfl h⟩, by simp⟩
  · simp at hcs
    subst hcs
    simp only [if_true] at hm
    subst hm
    rw [maxLen_eq] at hmx
    have hlen : ((List.range len).map fun i => (Sx i).data.toList).length = len := by simp
    refine ⟨(List.range len).map fun i => (Sx i).data.toList, ⟨some a, m, by rw [hlen], by rw [hlen]; omega, by rw [hlen]; omega, fun hne => ?_⟩, ?_⟩
    · have hpos : 0 < len := by
        rcases Nat.eq_zero_or_pos len with h0 | h0
        · subst h0; simp at hne
        · exact h0
      obtain ⟨b, o, spot⟩ := a
      have h0 := (hcell 0 (by omega)).1
      have hs : spot = none := by simpa [Addr.add] using World.cell?_spot h0
      subst hs
      have hlt : b < W.heap.size := cell_lt (a := (⟨b, o, none⟩ : Addr).add 0) h0
      refine ⟨b, o, rfl, hlt, fun i x hi => ?_⟩
      have hi2 : i < len := by rw [← hlen]; exact (List.getElem?_eq_some_iff.1 hi).1
      have h1 := (hcell i (by omega)).1
      rw [Addr.add_lit] at h1
      rw [h1]
      simp [hi2] at hi
      subst hi
      rfl
    · have e := congrArg Prod.fst hx
      simp only at e
      rw [e]
      simp only [Rows.uptoBulk]
      have := bk_strs (H := H) ((List.range len).map fun i => (Sx i).data.toList)
      rw [List.map_map] at this
      have e2 : (List.range len).map (fun i => (DataW.lit (.string (Sx i).data.toList) : DataW H)) = (List.range len).map ((fun s => (DataW.lit (.string s) : DataW H)) ∘ fun i => (Sx i).data.toList) := rfl
      rw [e2, this]
      omega
/-- numbers that came in, and how many -/
theorem nums_of_trod {H : Type} {enc : TypeId × Value → H} {W : World} {n : Nat} {V : Value} {D : DataW H} {P : List MemPlace} (h : DataW.trod enc Try.prog W 0 (fun _ => true) true n 25 [V] = some (D, P)) :
    ∃ xs, Num W W.heap.size V xs ∧ xs.length ≤ Rows.uptoBulk D := by
  obtain ⟨xs, hn, -⟩ := ints_of_trod h
  refine ⟨xs, hn, ?_⟩
  obtain ⟨a', c', hv, -, -⟩ := hn.slice
  rcases open_ints Try.underlying25 Try.underlying3 cells3 h with ⟨hcs, _⟩ | ⟨a, len, cap, zs, hcs, _, hl, hmx, hz, hx, hcell, hwz⟩
  · simp at hcs
    rw [hcs] at hv
    simp only [Value.slice.injEq] at hv
    omega
  · simp at hcs
    rw [hcs] at hv
    simp only [Value.slice.injEq] at hv
    have e := congrArg Prod.fst hx
    simp only at e
    rw [e]
    simp only [if_true] at hz
    have h1 := bk_len (lits (H := H) .i64 (zs.take len))
    have h2 : (lits (H := H) .i64 (zs.take len)).length = len := by simp [lits]; omega
    simp only [Rows.uptoBulk]
    omega
theorem frmL_len : ∀ l : List By, (frmL l).length ≤ l.flatten.length + 4 * l.length
  | [] => by simp [frmL]
  | b :: l => by
    have := frmL_len l
    rw [frmL]
    split
    · simp only [List.length_append, hd4_len, List.flatten_cons, List.length_cons]; omega
    · simp only [List.flatten_cons, List.length_append, List.length_cons]; omega
end Go.Proofs.Ytnoedkebmpfagaa

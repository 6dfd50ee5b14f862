import Derived.Test.YtfcbkcoagoncoaaQf09
namespace Go.Proofs.Ytfcbkcoagoncoaa
open Go.RowKit Go.Proofs.Ytfcbkcoagoncoaa.Ds

/-- THE NUMBERS BEHIND A SLICE, however many -/
def Num (w : World) (B : Nat) (v : Value) (xs : List Int) : Prop :=
  ∃ a c, v = .slice a xs.length c ∧ xs.length ≤ c ∧ xs.length ≤ 9223372036854775807 ∧
    (xs ≠ [] → ∃ b o, a = some ⟨b, o, none⟩ ∧ b < B ∧ ∀ i x, xs[i]? = some x → w.cell? ⟨b, o + i, none⟩ = some (.int .i64 x))
theorem Num.keep {w w' : World} {B : Nat} {v : Value} {xs : List Int} (h : Num w B v xs) (hb : Below B w w') : Num w' B v xs := by
  obtain ⟨a, c, hv, hc, hl, hx⟩ := h
  refine ⟨a, c, hv, hc, hl, fun hne => ?_⟩
  obtain ⟨b, o, ha, hB, hcell⟩ := hx hne
  exact ⟨b, o, ha, hB, fun i x hi => (hb.cell (p := ⟨b, o + i, none⟩) hB).trans (hcell i x hi)⟩
theorem Num.at {w w' : World} {B : Nat} {v : Value} {xs : List Int} (h : Num w B v xs) (hB : B ≤ w.heap.size) (hb : Below w.heap.size w w') : Num w' B v xs := h.keep (hb.mono hB)
theorem Num.mono {w : World} {B B' : Nat} {v : Value} {xs : List Int} (h : Num w B v xs) (hB : B ≤ B') : Num w B' v xs := by
  obtain ⟨a, c, hv, hc, hl, hx⟩ := h
  refine ⟨a, c, hv, hc, hl, fun hne => ?_⟩
  obtain ⟨b, o, ha, hb, hcell⟩ := hx hne
  exact ⟨b, o, ha, by omega, hcell⟩
theorem Num.of {w : World} {B nb : Nat} {v : Value} {xs : List Int} (h : Ints w B nb v xs) : Num w B v xs := by
  obtain ⟨a, c, hv, hc, hl, hx⟩ := h
  refine ⟨a, c, hv, hc, by omega, fun hne => ?_⟩
  obtain ⟨b, o, ha, hb, _, hcell⟩ := hx hne
  exact ⟨b, o, ha, hb, hcell⟩
theorem Num.ints {w : World} {B nb : Nat} {v : Value} {xs : List Int} (h : Num w B v xs) (hl : xs.length ≤ 1073741824) (hn : B ≤ nb) : Ints w B nb v xs := by
  obtain ⟨a, c, hv, hc, _, hx⟩ := h
  refine ⟨a, c, hv, hc, hl, fun hne => ?_⟩
  obtain ⟨b, o, ha, hb, hcell⟩ := hx hne
  exact ⟨b, o, ha, hb, by omega, hcell⟩
theorem Num.get {w : World} {B : Nat} {v : Value} {xs : List Int} (h : Num w B v xs) {i : Nat} (hi : i < xs.length) : ∃ b o c x, v = .slice (some ⟨b, o, none⟩) xs.length c ∧ xs.length ≤ c ∧ b < B ∧ xs[i]? = some x ∧ w.cell? ⟨b, o + i, none⟩ = some (.int .i64 x) := by
  obtain ⟨a, c, hv, hc, _, hx⟩ := h
  obtain ⟨b, o, rfl, hb, hcell⟩ := hx (ne_of_lt hi)
  obtain ⟨x, hx⟩ := get_lt hi
  exact ⟨b, o, c, x, hv, hc, hb, hx, hcell i x hx⟩

/-! ### slices.Max -/
end Go.Proofs.Ytfcbkcoagoncoaa

import Derived.Test.YtnoedkebmpfagaaTba
namespace Go.Proofs.Ytnoedkebmpfagaa
open Go.RowKit

/-- THE NUMBERS BEHIND A SLICE, however many -/
def Num (w : World) (B : Nat) (v : Value) (xs : List Int) : Prop :=
  ∃ a c, v = .slice a xs.length c ∧ xs.length ≤ c ∧ xs.length ≤ 9223372036854775807 ∧
    (xs ≠ [] → ∃ b o, a = some ⟨b, o, none⟩ ∧ b < B ∧ ∀ i x, xs[i]? = some x → w.cell? ⟨b, o + i, none⟩ = some (.int .i64 x))
theorem Num.keep {w w' : World} {B : Nat} {v : Value} {xs : List Int} (h : Num w B v xs) (hb : Below B w w') : Num w' B v xs := by
  obtain ⟨a, c, hv, hc, hl, hx⟩ := h
  refine ⟨a, c, hv, hc, hl, fun hne => ?_⟩
  obtain ⟨b, o, ha, hB, hcell⟩ := hx hne
  exact ⟨b, o, ha, hB, fun i x hi => (hb.cell (p := ⟨b, o + i, none⟩) hB).trans (hcell i x hi)⟩
theorem Num.at {w w' : World} {B : Nat} {v : Value} {xs : List Int} (h : Num w B v xs) (hB : B ≤ w.heap.size) (hb : Below w.heap.size w w') : Num w' B v xs := h.keep (hb.mono hB)
theorem Num.mono {w : World} {B B' : Nat} {v : Value} {xs : List Int} (h : Num w B v xs) (hB : B ≤ B') : Num w B' v xs := by
  obtain ⟨a, c, hv, hc, hl, hx⟩ := h
  refine ⟨a, c, hv, hc, hl, fun hne => ?_⟩
  obtain ⟨b, o, ha, hb, hcell⟩ := hx hne
  exact ⟨b, o, ha, by omega, hcell⟩
theorem Num.slice {w : World} {B : Nat} {v : Value} {xs : List Int} (h : Num w B v xs) : ∃ a c, v = .slice a xs.length c ∧ xs.length ≤ c ∧ xs.length ≤ 9223372036854775807 := by
  obtain ⟨a, c, hv, hc, hl, _⟩ := h
  exact ⟨a, c, hv, hc, hl⟩
theorem Num.get {w : World} {B : Nat} {v : Value} {xs : List Int} (h : Num w B v xs) {i : Nat} (hi : i < xs.length) : ∃ b o c x, v = .slice (some ⟨b, o, none⟩) xs.length c ∧ xs.length ≤ c ∧ b < B ∧ xs[i]? = some x ∧ w.cell? ⟨b, o + i, none⟩ = some (.int .i64 x) := by
  obtain ⟨a, c, hv, hc, _, hx⟩ := h
  obtain ⟨b, o, rfl, hb, hcell⟩ := hx (ne_of_lt hi)
  obtain ⟨x, hx⟩ := get_lt hi
  exact ⟨b, o, c, x, hv, hc, hb, hx, hcell i x hx⟩
theorem ret_b {a b : Bool} (h : a = b) : Ending.returned (.bool a) = .returned (.bool b) := by rw [h]

/-- rows of numbers behind a slice -/
abbrev Rw := Value × List Int
def Rws (w : World) (B : Nat) (v : Value) (ts : List Rw) : Prop :=
  ∃ a c, v = .slice a ts.length c ∧ ts.length ≤ c ∧ ts.length ≤ 9223372036854775807 ∧ (∀ t ∈ ts, Num w B t.1 t.2) ∧
    (ts ≠ [] → ∃ b o, a = some ⟨b, o, none⟩ ∧ b < B ∧ ∀ i t, ts[i]? = some t → w.cell? ⟨b, o + i, none⟩ = some t.1)
def rr (ts : List Rw) : List (List Int) := ts.map (·.2)
theorem rr_len (ts : List Rw) : (rr ts).length = ts.length := by simp [rr]
theorem rr_get {ts : List Rw} {i : Nat} {t : Rw} (h : ts[i]? = some t) : (rr ts)[i]? = some t.2 := by simp [rr, h]
theorem Rws.keep {w w' : World} {B : Nat} {v : Value} {ts : List Rw} (h : Rws w B v ts) (hb : Below B w w') : Rws w' B v ts := by
  obtain ⟨a, c, hv, hc, hl, hi, hx⟩ := h
  refine ⟨a, c, hv, hc, hl, fun t ht => (hi t ht).keep hb, fun hne => ?_⟩
  obtain ⟨b, o, ha, hB, hcell⟩ := hx hne
  exact ⟨b, o, ha, hB, fun i t ht => (hb.cell (p := ⟨b, o + i, none⟩) hB).trans (hcell i t ht)⟩
theorem Rws.at {w w' : World} {B : Nat} {v : Value} {ts : List Rw} (h : Rws w B v ts) (hB : B ≤ w.heap.size) (hb : Below w.heap.size w w') : Rws w' B v ts := h.keep (hb.mono hB)
theorem Rws.slice {w : World} {B : Nat} {v : Value} {ts : List Rw} (h : Rws w B v ts) : ∃ a c, v = .slice a ts.length c ∧ ts.length ≤ c ∧ ts.length ≤ 9223372036854775807 := by
  obtain ⟨a, c, hv, hc, hl, _⟩ := h
  exact ⟨a, c, hv, hc, hl⟩
theorem Rws.get {w : World} {B : Nat} {v : Value} {ts : List Rw} (h : Rws w B v ts) {i : Nat} (hi : i < ts.length) :
    ∃ b o c sa sc xs, v = .slice (some ⟨b, o, none⟩) ts.length c ∧ b < B ∧ ts[i]? = some (.slice sa xs.length sc, xs) ∧ xs.length ≤ 9223372036854775807 ∧ w.cell? ⟨b, o + i, none⟩ = some (.slice sa xs.length sc) ∧ Num w B (.slice sa xs.length sc) xs := by
  obtain ⟨a', c', hv, _, _, hin, hx⟩ := h
  obtain ⟨b, o, rfl, hbB, hcell⟩ := hx (ne_of_lt hi)
  obtain ⟨⟨tv, xs⟩, ht⟩ := get_lt hi
  have hI := hin _ (List.mem_of_getElem? ht)
  obtain ⟨sa, sc, e, _, hl⟩ := hI.slice
  simp only at e
  subst e
  exact ⟨b, o, c', sa, sc, xs, hv, hbB, ht, hl, hcell i _ ht, hI⟩
theorem rws_nil (w : World) (B : Nat) : Rws w B (.slice none 0 0) [] := ⟨none, 0, rfl, Nat.le_refl _, by simp, by simp, fun h => absurd rfl h⟩

/-- truths behind a slice -/
def Bls (w : World) (B : Nat) (v : Value) (xs : List Bool) : Prop :=
  ∃ a c, v = .slice a xs.length c ∧ xs.length ≤ c ∧ xs.length ≤ 9223372036854775807 ∧
    (xs ≠ [] → ∃ b o, a = some ⟨b, o, none⟩ ∧ b < B ∧ ∀ i x, xs[i]? = some x → w.cell? ⟨b, o + i, none⟩ = some (.bool x))
theorem Bls.keep {w w' : World} {B : Nat} {v : Value} {xs : List Bool} (h : Bls w B v xs) (hb : Below B w w') : Bls w' B v xs := by
  obtain ⟨a, c, hv, hc, hl, hx⟩ := h
  refine ⟨a, c, hv, hc, hl, fun hne => ?_⟩
  obtain ⟨b, o, ha, hB, hcell⟩ := hx hne
  exact ⟨b, o, ha, hB, fun i x hi => (hb.cell (p := ⟨b, o + i, none⟩) hB).trans (hcell i x hi)⟩
theorem Bls.at {w w' : World} {B : Nat} {v : Value} {xs : List Bool} (h : Bls w B v xs) (hB : B ≤ w.heap.size) (hb : Below w.heap.size w w') : Bls w' B v xs := h.keep (hb.mono hB)
theorem Bls.slice {w : World} {B : Nat} {v : Value} {xs : List Bool} (h : Bls w B v xs) : ∃ a c, v = .slice a xs.length c ∧ xs.length ≤ c ∧ xs.length ≤ 9223372036854775807 := by
  obtain ⟨a, c, hv, hc, hl, _⟩ := h
  exact ⟨a, c, hv, hc, hl⟩
theorem Bls.get {w : World} {B : Nat} {v : Value} {xs : List Bool} (h : Bls w B v xs) {i : Nat} (hi : i < xs.length) : ∃ b o c x, v = .slice (some ⟨b, o, none⟩) xs.length c ∧ xs.length ≤ c ∧ b < B ∧ xs[i]? = some x ∧ w.cell? ⟨b, o + i, none⟩ = some (.bool x) := by
  obtain ⟨a, c, hv, hc, _, hx⟩ := h
  obtain ⟨b, o, rfl, hb, hcell⟩ := hx (ne_of_lt hi)
  obtain ⟨x, hx⟩ := get_lt hi
  exact ⟨b, o, c, x, hv, hc, hb, hx, hcell i x hx⟩
theorem ret_i {k : IntKind} {a b : Int} (h : a = b) : Ending.returned (.int k a) = .returned (.int k b) := by rw [h]
end Go.Proofs.Ytnoedkebmpfagaa

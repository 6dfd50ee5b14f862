import Derived.Test.YtkpjjiomfgkobaaDoorGro
namespace Go.Proofs.YtkpjjiomfgkobaaDoor
open Go.RowKit Go.Proofs.YtkpjjiomfgkobaaDoor.Ds

theorem gb_refl (w : World) (r : Option Nat) : w.grownBy w r := World.grownBy.refl w r
theorem gb_trans {a b c : World} {r : Option Nat} (h : a.grownBy b r) (k : b.grownBy c r) : a.grownBy c r :=
  ⟨k.os.trans h.os, k.tape.trans h.tape, k.output.trans h.output, Nat.le_trans h.size k.size, fun i hi hr => (k.block i (Nat.lt_of_lt_of_le hi h.size) hr).trans (h.block i hi hr)⟩
theorem gb_alloc {a b : World} {r : Option Nat} (h : a.grownBy b r) (o : Obj) : a.grownBy (b.alloc o) r := gb_trans h (World.grownBy_alloc b o r)
theorem gb_drew {a b : World} {r : Option Nat} (h : a.grownBy b r) : a.grownBy b.drew r := ⟨h.os, h.tape, h.output, h.size, h.block⟩
theorem gb_set {a b : World} {E : Nat} (h : a.grownBy b (some E)) (k : Nat) (u : Value) : a.grownBy (b.setCell ⟨E, k, none⟩ u) (some E) :=
  gb_trans h ⟨rfl, rfl, rfl, by simp [World.setCell], fun i _ hr => Below.heap_setCell _ _ _ _ (by intro e; exact hr (by rw [e]))⟩
theorem gb_below {a b : World} {E : Nat} (h : Below a.heap.size a b) : a.grownBy b (some E) := ⟨h.os, h.tape, h.output, h.size, fun k hk _ => h.block k hk⟩
theorem below_gb {a b : World} {E B : Nat} (h : a.grownBy b (some E)) (hB : B ≤ E) (hE : B ≤ a.heap.size) : Below B a b := ⟨h.os, h.tape, h.output, h.size, fun k hk => h.block k (by omega) (by simp; omega)⟩
/-- what grows a row from a's end on, or makes memory, leaves all of a but E as it was -/
theorem gb_grow {a b c : World} {E : Nat} {row : Option Nat} (h : a.grownBy b (some E)) (k : b.grownBy c row) (hr : ∀ g, row = some g → a.heap.size ≤ g) : a.grownBy c (some E) :=
  ⟨k.os.trans h.os, k.tape.trans h.tape, k.output.trans h.output, Nat.le_trans h.size k.size, fun i hi hne => (k.block i (Nat.lt_of_lt_of_le hi h.size) (fun e => by have := hr i e.symm; omega)).trans (h.block i hi hne)⟩

/-- a block with two cells -/
structure TwoB (w : World) (R : Nat) (x y : Value) : Prop where
  c0 : w.cell? ⟨R, 0, none⟩ = some x
  c1 : w.cell? ⟨R, 1, none⟩ = some y
  f0 : w.frozen? ⟨R, 0, none⟩ = false
  f1 : w.frozen? ⟨R, 1, none⟩ = false
  lt : R < w.heap.size
theorem TwoB.below {w w' : World} {R : Nat} {x y : Value} (h : TwoB w R x y) (b : Below w.heap.size w w') : TwoB w' R x y :=
  ⟨(b.cell (p := ⟨R, 0, none⟩) h.lt).trans h.c0, (b.cell (p := ⟨R, 1, none⟩) h.lt).trans h.c1, (b.frozen (p := ⟨R, 0, none⟩) h.lt).trans h.f0, (b.frozen (p := ⟨R, 1, none⟩) h.lt).trans h.f1, Nat.lt_of_lt_of_le h.lt b.size⟩
theorem TwoB.gb {w w' : World} {R : Nat} {row : Option Nat} {x y : Value} (h : TwoB w R x y) (b : w.grownBy w' row) (hne : row ≠ some R) : TwoB w' R x y := by
  have hk : w'.heap[R]? = w.heap[R]? := b.block R h.lt (fun e => hne e.symm)
  exact ⟨(World.cell?_of_block (w := w) (a := ⟨R, 0, none⟩) hk).trans h.c0, (World.cell?_of_block (w := w) (a := ⟨R, 1, none⟩) hk).trans h.c1, (World.frozen?_of_block (w := w) (a := ⟨R, 0, none⟩) hk).trans h.f0, (World.frozen?_of_block (w := w) (a := ⟨R, 1, none⟩) hk).trans h.f1, Nat.lt_of_lt_of_le h.lt b.size⟩
theorem TwoB.new (w : World) (x y : Value) (t : TypeId) (N : Nat) (hN : N = w.heap.size) : TwoB (w.alloc (.cells #[x, y] t)) N x y :=
  ⟨nc _ _ 0 _ hN rfl, nc _ _ 1 _ hN rfl, nf _ _ 0 hN, nf _ _ 1 hN, by simp; omega⟩
theorem TwoB.set1 {w : World} {R : Nat} {x y : Value} (h : TwoB w R x y) (u : Value) : TwoB (w.setCell ⟨R, 1, none⟩ u) R x u :=
  ⟨(sc_other (by simp)).trans h.c0, sc_same h.c1, sc_frozen.trans h.f0, sc_frozen.trans h.f1, by simpa using h.lt⟩
theorem TwoB.put {w : World} {R : Nat} {x y : Value} (h : TwoB w R x y) (u v : Value) : TwoB ((w.setCell ⟨R, 0, none⟩ u).setCell ⟨R, 1, none⟩ v) R u v := by
  have h0 : TwoB (w.setCell ⟨R, 0, none⟩ u) R u y := ⟨sc_same h.c0, (sc_other (by simp)).trans h.c1, sc_frozen.trans h.f0, sc_frozen.trans h.f1, by simpa using h.lt⟩
  exact h0.set1 v
theorem TwoB.other {w : World} {R : Nat} {x y : Value} (h : TwoB w R x y) {p : Addr} (hp : p.block ≠ R) (u : Value) : TwoB (w.setCell p u) R x y :=
  ⟨(sc_other (by rintro rfl; exact hp rfl)).trans h.c0, (sc_other (by rintro rfl; exact hp rfl)).trans h.c1, sc_frozen.trans h.f0, sc_frozen.trans h.f1, by simpa using h.lt⟩

theorem Ints.setb {w : World} {B m b k : Nat} {v : Value} {xs : List Int} (h : Ints w B m v xs) (hs : ∃ b' o n c, v = .slice (some ⟨b', o, none⟩) n c ∧ b < b') (u : Value) : Ints (w.setCell ⟨b, k, none⟩ u) B m v xs := by
  obtain ⟨a, c, hv, hc, hl, hx⟩ := h
  obtain ⟨b1, o1, n1, c1, hv1, hb1⟩ := hs
  refine ⟨a, c, hv, hc, hl, fun hne => ?_⟩
  obtain ⟨b', o', ha, hB, hn, hcell⟩ := hx hne
  refine ⟨b', o', ha, hB, hn, fun i x hi => ?_⟩
  rw [sc_other]
  · exact hcell i x hi
  · rw [hv, ha] at hv1
    simp only [Value.slice.injEq, Option.some.injEq, Addr.mk.injEq] at hv1
    intro e
    simp only [Addr.mk.injEq] at e
    have := hv1.1.1
    omega
/-- a store into a block below -/
theorem Rwr.set {w : World} {lo T k : Nat} {v : Value} {ts : List Rw} (h : Rwr w lo v ts) (hT : T < lo) (hs : Som (T + 1) ts) (u : Value) : Rwr (w.setCell ⟨T, k, none⟩ u) lo v ts := by
  refine ⟨ownsRow_setCell_below h.1 (a := ⟨T, k, none⟩) hT u, fun t ht => ?_⟩
  obtain ⟨m, h1, h2⟩ := h.2 t ht
  obtain ⟨b, o, n, c, e, hb⟩ := hs t ht
  exact ⟨m, by have := h1.setb (b := T) (k := k) ⟨b, o, n, c, e, hb⟩ u; simpa [World.setCell] using this, h2⟩

/-- what FromCells answers -/
def FromP (lc : List Col) (rs : List (List Int)) (er : Int) (w : World) (e : Ending) (w' : World) : Prop :=
  ∃ cv rv ts, e = .returned (.tuple #[.agg #[cv, rv], .int .i64 er]) ∧ Cols w' w'.heap.size cv lc ∧ Rws w' w'.heap.size rv ts ∧ rr ts = rs ∧ Below w.heap.size w w'
theorem cols_nil (w : World) (B : Nat) : Cols w B (.slice none 0 0) [] := ⟨none, 0, rfl, Nat.le_refl _, by simp, by simp, fun h => absurd rfl h⟩
theorem froE_no {l : List Col} {xs : List Int} {er : Int} (h : froE l xs = er) (he : er ≠ 0) : froC l xs = [] ∧ froT l xs = [] := by
  rw [froC, froT, h, if_neg he, if_neg he]; exact ⟨rfl, rfl⟩

end Go.Proofs.YtkpjjiomfgkobaaDoor

import Derived.Test.YtnoedkebmpfagaaRows
import Derived.WalkKit
import Derived.WalkSpells
import Derived.Deep.QuietTactic
import Derived.BigQuiet
import Derived.WalkSmall
import Derived.Laws.AppendOwn
import Derived.Deep.RegionHeld3
import Derived.Deep.AppendLies
import Derived.Maps.AppendAt
namespace Go.Proofs.Ytnoedkebmpfagaa
open Go.RowKit

theorem bt {w w1 w2 : World} (h : Below w.heap.size w w1) (k : Below w1.heap.size w1 w2) : Below w.heap.size w w2 := h.trans (k.mono h.size)
theorem ba (w : World) (o : Obj) : Below w.heap.size w (w.alloc o) := (Below.refl _ _).alloc (Nat.le_refl _) o
theorem bs {w w1 : World} (h : Below w.heap.size w w1) {p : Addr} (hp : w.heap.size ≤ p.block) (u : Value) : Below w.heap.size w (w1.setCell p u) := h.setCell hp u
theorem bal {w w1 : World} (h : Below w.heap.size w w1) (o : Obj) : Below w.heap.size w (w1.alloc o) := h.alloc h.size o
theorem get_lt {α : Type} {l : List α} {i : Nat} (h : i < l.length) : ∃ x, l[i]? = some x := ⟨l[i], List.getElem?_eq_getElem h⟩
theorem ne_of_lt {α : Type} {l : List α} {i : Nat} (h : i < l.length) : l ≠ [] := by rintro rfl; simp at h
theorem sc_other {w : World} {a b : Addr} {v : Value} (h : a ≠ b) : (w.setCell a v).cell? b = w.cell? b := World.cell?_setCell_other _ _ _ _ h
theorem sc_same {w : World} {a : Addr} {u v : Value} (h : w.cell? a = some u) : (w.setCell a v).cell? a = some v := World.cell?_setCell_same _ _ _ h
theorem sc_frozen {w : World} {a b : Addr} {v : Value} : (w.setCell a v).frozen? b = w.frozen? b := World.frozen?_setCell _ _ _ _
theorem nc {w : World} {N : Nat} (cs : Array Value) (t : TypeId) (k : Nat) (x : Value) (hN : N = w.heap.size) (hx : cs[k]? = some x) : (w.alloc (.cells cs t)).cell? ⟨N, k, none⟩ = some x := by
  rw [World.cell?_alloc_at _ _ _ _ hN]; exact hx
theorem nf {w : World} {N : Nat} (cs : Array Value) (t : TypeId) (k : Nat) (hN : N = w.heap.size) : (w.alloc (.cells cs t)).frozen? ⟨N, k, none⟩ = false := World.frozen?_alloc_at _ _ _ _ hN
theorem gb_refl (w : World) (r : Option Nat) : w.grownBy w r := World.grownBy.refl w r
theorem gb_trans {a b c : World} {r : Option Nat} (h : a.grownBy b r) (k : b.grownBy c r) : a.grownBy c r :=
  ⟨k.os.trans h.os, k.tape.trans h.tape, k.output.trans h.output, Nat.le_trans h.size k.size, fun i hi hr => (k.block i (Nat.lt_of_lt_of_le hi h.size) hr).trans (h.block i hi hr)⟩
theorem gb_alloc {a b : World} {r : Option Nat} (h : a.grownBy b r) (o : Obj) : a.grownBy (b.alloc o) r := gb_trans h (World.grownBy_alloc b o r)
theorem gb_drew {a b : World} {r : Option Nat} (h : a.grownBy b r) : a.grownBy b.drew r := ⟨h.os, h.tape, h.output, h.size, h.block⟩
theorem gb_set {a b : World} {E : Nat} (h : a.grownBy b (some E)) (k : Nat) (u : Value) : a.grownBy (b.setCell ⟨E, k, none⟩ u) (some E) :=
  gb_trans h ⟨rfl, rfl, rfl, by simp [World.setCell], fun i _ hr => Below.heap_setCell _ _ _ _ (by intro e; exact hr (by rw [e]))⟩
theorem gb_new {a b : World} {r : Option Nat} (h : a.grownBy b r) {p : Addr} (hp : a.heap.size ≤ p.block) (u : Value) : a.grownBy (b.setCell p u) r :=
  ⟨h.os, h.tape, h.output, by simpa [World.setCell] using h.size, fun i hi hr => (Below.heap_setCell _ _ _ _ (by omega)).trans (h.block i hi hr)⟩
theorem gb_below {a b : World} {r : Option Nat} (h : Below a.heap.size a b) : a.grownBy b r := ⟨h.os, h.tape, h.output, h.size, fun k hk _ => h.block k hk⟩
theorem below_gb {a b : World} {E B : Nat} (h : a.grownBy b (some E)) (hB : B ≤ E) (hE : B ≤ a.heap.size) : Below B a b := ⟨h.os, h.tape, h.output, h.size, fun k hk => h.block k (by omega) (by simp; omega)⟩
/-- a block with two cells -/
structure TwoB (w : World) (R : Nat) (x y : Value) : Prop where
  c0 : w.cell? ⟨R, 0, none⟩ = some x
  c1 : w.cell? ⟨R, 1, none⟩ = some y
  f0 : w.frozen? ⟨R, 0, none⟩ = false
  f1 : w.frozen? ⟨R, 1, none⟩ = false
  lt : R < w.heap.size
theorem TwoB.below {w w' : World} {R : Nat} {x y : Value} (h : TwoB w R x y) (b : Below w.heap.size w w') : TwoB w' R x y :=
  ⟨(b.cell (p := ⟨R, 0, none⟩) h.lt).trans h.c0, (b.cell (p := ⟨R, 1, none⟩) h.lt).trans h.c1, (b.frozen (p := ⟨R, 0, none⟩) h.lt).trans h.f0, (b.frozen (p := ⟨R, 1, none⟩) h.lt).trans h.f1, Nat.lt_of_lt_of_le h.lt b.size⟩
theorem TwoB.new (w : World) (x y : Value) (t : TypeId) (N : Nat) (hN : N = w.heap.size) : TwoB (w.alloc (.cells #[x, y] t)) N x y :=
  ⟨nc _ _ 0 _ hN rfl, nc _ _ 1 _ hN rfl, nf _ _ 0 hN, nf _ _ 1 hN, by simp; omega⟩
theorem TwoB.put {w : World} {R : Nat} {x y : Value} (h : TwoB w R x y) (u v : Value) : TwoB ((w.setCell ⟨R, 0, none⟩ u).setCell ⟨R, 1, none⟩ v) R u v := by
  have h0 : TwoB (w.setCell ⟨R, 0, none⟩ u) R u y := ⟨sc_same h.c0, (sc_other (by simp)).trans h.c1, sc_frozen.trans h.f0, sc_frozen.trans h.f1, by simpa using h.lt⟩
  exact ⟨(sc_other (by simp)).trans h0.c0, sc_same h0.c1, sc_frozen.trans h0.f0, sc_frozen.trans h0.f1, by simpa using h0.lt⟩
theorem gb_none {w w' : World} (h : Below w.heap.size w w') : w.grownBy w' none := gb_below h
theorem TwoB.gb {w w' : World} {R : Nat} {x y : Value} {r : Option Nat} (h : TwoB w R x y) (hg : w.grownBy w' r) (hne : some R ≠ r) : TwoB w' R x y := by
  have hk : w'.heap[R]? = w.heap[R]? := hg.block R h.lt hne
  exact ⟨(World.cell?_of_block (w := w) (a := ⟨R, 0, none⟩) hk).trans h.c0, (World.cell?_of_block (w := w) (a := ⟨R, 1, none⟩) hk).trans h.c1, (World.frozen?_of_block (w := w) (a := ⟨R, 0, none⟩) hk).trans h.f0, (World.frozen?_of_block (w := w) (a := ⟨R, 1, none⟩) hk).trans h.f1, Nat.lt_of_lt_of_le h.lt hg.size⟩
theorem row_same {w w' : World} {base : Nat} {t : TypeId} {sz : Nat} {v : Value} {n : Nat} {xs : List Value} (h : w.ownsRow base t sz v n xs) (hk : ∀ g, v.ownBlock = some g → w'.heap[g]? = w.heap[g]?) : w'.ownsRow base t sz v n xs := by
  refine ⟨h.1, ?_⟩
  rcases h.2 with h0 | ⟨g, cap, cur, hv, hb, hc, h1, h2, h3, h4⟩
  · exact .inl h0
  · exact .inr ⟨g, cap, cur, hv, hb, (hk g (by rw [hv]; rfl)).trans hc, h1, h2, h3, h4⟩
theorem row_lt {w : World} {base : Nat} {t : TypeId} {sz : Nat} {v : Value} {n : Nat} {xs : List Value} (h : w.ownsRow base t sz v n xs) {g : Nat} (hg : v.ownBlock = some g) : base ≤ g ∧ g < w.heap.size := by
  rcases h.2 with ⟨rfl, _⟩ | ⟨g', cap, cur, rfl, hb, hc, _⟩
  · cases hg
  · simp only [Value.ownBlock, Option.some.injEq] at hg
    subst hg
    exact ⟨hb, (Array.getElem?_eq_some_iff.1 hc).1⟩
theorem row_slice {w : World} {base : Nat} {t : TypeId} {sz : Nat} {v : Value} {n : Nat} {xs : List Value} (h : w.ownsRow base t sz v n xs) : ∃ a c, v = .slice a n c := by
  rcases h.2 with ⟨rfl, rfl⟩ | ⟨g', cap, cur, rfl, _⟩
  · exact ⟨_, _, rfl⟩
  · exact ⟨_, _, rfl⟩
theorem row_gb {W W' : World} {m : Nat} {t : TypeId} {z : Nat} {v : Value} {n : Nat} {xs : List Value} {r : Option Nat} (h : W.ownsRow m t z v n xs) (hg : W.grownBy W' r) (hr : ∀ g, v.ownBlock = some g → r ≠ some g) : W'.ownsRow m t z v n xs :=
  row_same h fun g hg2 => hg.block g (row_lt h hg2).2 (fun e => hr g hg2 e.symm)
theorem row_low {W W' : World} {m P : Nat} {t : TypeId} {z : Nat} {v : Value} {n : Nat} {xs : List Value} (h : W.ownsRow m t z v n xs) (hg : W.grownBy W' (some P)) (hP : P < m) : W'.ownsRow m t z v n xs :=
  row_gb h hg fun g hg2 e => by have := (row_lt h hg2).1; simp only [Option.some.injEq] at e; omega
theorem row_cell {w : World} {base : Nat} {t : TypeId} {sz : Nat} {a : Option Addr} {n c : Nat} {xs : List Value} (h : w.ownsRow base t sz (.slice a n c) n xs) {j : Nat} {u : Value} (hj : xs[j]? = some u) :
    ∃ g, a = some ⟨g, 0, none⟩ ∧ base ≤ g ∧ g < w.heap.size ∧ w.cell? ⟨g, j, none⟩ = some u := by
  rcases h.2 with ⟨h1, h0⟩ | ⟨g, cap, cur, h1, h2, h3, h4, h5, h6, h7⟩
  · have := h.1
    rw [h0] at this
    obtain rfl : xs = [] := List.eq_nil_of_length_eq_zero (by omega)
    simp at hj
  · simp only [Value.slice.injEq] at h1
    refine ⟨g, h1.1, h2, (Array.getElem?_eq_some_iff.1 h3).1, ?_⟩
    have hlt : j < xs.length := (List.getElem?_eq_some_iff.1 hj).1
    rw [← h7, List.getElem?_take_of_lt (by rw [← h.1]; exact hlt)] at hj
    simp [World.cell?, h3]
    simpa using hj
theorem one_cells (w : World) (a : Value) (t : TypeId) (N : Nat) (hN : N = w.heap.size) : ∀ j u, [a][j]? = some u → (w.alloc (.cells #[a] t)).cell? ((⟨N, 0, none⟩ : Addr).add j) = some u := by
  subst hN
  exact fun j u hu => World.news_of_block (w := w.alloc (.cells #[a] t)) (B := w.heap.size) (cs := #[a]) (t := t) (fr := (0, 0)) (heap_alloc_new w _) j u (by simpa using hu)
theorem two_cells (w : World) (a b : Value) (t : TypeId) (N : Nat) (hN : N = w.heap.size) : ∀ j u, [a, b][j]? = some u → (w.alloc (.cells #[a, b] t)).cell? ((⟨N, 0, none⟩ : Addr).add j) = some u := by
  subst hN
  exact fun j u hu => World.news_of_block (w := w.alloc (.cells #[a, b] t)) (B := w.heap.size) (cs := #[a, b]) (t := t) (fr := (0, 0)) (heap_alloc_new w _) j u (by simpa using hu)
end Go.Proofs.Ytnoedkebmpfagaa

import Derived.Test.YtfibbjngllelbaaGreatRgj
import Derived.Test.YtfibbjngllelbaaGreatEnt
import Derived.RangeFuncBox
namespace Go.Proofs.YtfibbjngllelbaaGreat
open Go.RowKit Go.Shelf Go.Proofs.YtfibbjngllelbaaGreat.Ds

/-- six cells in a block -/
structure SixB (w : World) (R : Nat) (a b c d e f : Value) : Prop where
  is : w.heap[R]? = some (.cells #[a, b, c, d, e, f] 27 (0, 0))
theorem SixB.c0 {w : World} {R : Nat} {a b c d e f : Value} (h : SixB w R a b c d e f) : w.cell? ⟨R, 0, none⟩ = some a := by simp [World.cell?, h.is]
theorem SixB.f0 {w : World} {R : Nat} {a b c d e f : Value} (h : SixB w R a b c d e f) : w.frozen? ⟨R, 0, none⟩ = false := by simp [World.frozen?, h.is]
theorem SixB.c1 {w : World} {R : Nat} {a b c d e f : Value} (h : SixB w R a b c d e f) : w.cell? ⟨R, 1, none⟩ = some b := by simp [World.cell?, h.is]
theorem SixB.f1 {w : World} {R : Nat} {a b c d e f : Value} (h : SixB w R a b c d e f) : w.frozen? ⟨R, 1, none⟩ = false := by simp [World.frozen?, h.is]
theorem SixB.c2 {w : World} {R : Nat} {a b c d e f : Value} (h : SixB w R a b c d e f) : w.cell? ⟨R, 2, none⟩ = some c := by simp [World.cell?, h.is]
theorem SixB.f2 {w : World} {R : Nat} {a b c d e f : Value} (h : SixB w R a b c d e f) : w.frozen? ⟨R, 2, none⟩ = false := by simp [World.frozen?, h.is]
theorem SixB.c3 {w : World} {R : Nat} {a b c d e f : Value} (h : SixB w R a b c d e f) : w.cell? ⟨R, 3, none⟩ = some d := by simp [World.cell?, h.is]
theorem SixB.f3 {w : World} {R : Nat} {a b c d e f : Value} (h : SixB w R a b c d e f) : w.frozen? ⟨R, 3, none⟩ = false := by simp [World.frozen?, h.is]
theorem SixB.c4 {w : World} {R : Nat} {a b c d e f : Value} (h : SixB w R a b c d e f) : w.cell? ⟨R, 4, none⟩ = some e := by simp [World.cell?, h.is]
theorem SixB.f4 {w : World} {R : Nat} {a b c d e f : Value} (h : SixB w R a b c d e f) : w.frozen? ⟨R, 4, none⟩ = false := by simp [World.frozen?, h.is]
theorem SixB.c5 {w : World} {R : Nat} {a b c d e f : Value} (h : SixB w R a b c d e f) : w.cell? ⟨R, 5, none⟩ = some f := by simp [World.cell?, h.is]
theorem SixB.f5 {w : World} {R : Nat} {a b c d e f : Value} (h : SixB w R a b c d e f) : w.frozen? ⟨R, 5, none⟩ = false := by simp [World.frozen?, h.is]
theorem SixB.lt {w : World} {R : Nat} {a b c d e f : Value} (h : SixB w R a b c d e f) : R < w.heap.size := (Array.getElem?_eq_some_iff.1 h.is).1
theorem SixB.new (w : World) (a b c d e f : Value) (R : Nat) (hR : R = w.heap.size) : SixB (w.alloc (.cells #[a, b, c, d, e, f] 27)) R a b c d e f := ⟨by rw [hR]; exact World.alloc_heap_new w _⟩
theorem SixB.gb {w w' : World} {R : Nat} {a b c d e f : Value} {r : Option Nat} (h : SixB w R a b c d e f) (hg : w.grownBy w' r) (hne : some R ≠ r) : SixB w' R a b c d e f := ⟨(hg.block R h.lt hne).trans h.is⟩
theorem SixB.same {w w' : World} {R : Nat} {a b c d e f : Value} (h : SixB w R a b c d e f) (hk : w'.heap[R]? = w.heap[R]?) : SixB w' R a b c d e f := ⟨hk.trans h.is⟩
theorem SixB.below {w w' : World} {R : Nat} {a b c d e f : Value} (h : SixB w R a b c d e f) (hb : Below w.heap.size w w') : SixB w' R a b c d e f := ⟨(hb.block R h.lt).trans h.is⟩
theorem setCell_heap (w : World) (R i : Nat) (x : Value) (cs : Array Value) (t : TypeId) (fr : Nat × Nat) (h : w.heap[R]? = some (.cells cs t fr)) : (w.setCell ⟨R, i, none⟩ x).heap[R]? = some (.cells (cs.setIfInBounds i x) t fr) := by
  obtain ⟨hlt, hk⟩ := Array.getElem?_eq_some_iff.1 h
  show (w.heap.modify R _)[R]? = _
  rw [Array.getElem?_eq_getElem (by rw [Array.size_modify]; exact hlt), Array.getElem_modify_self, hk]
  rfl
theorem SixB.put0 {w : World} {R : Nat} {a b c d e f : Value} (h : SixB w R a b c d e f) (x : Value) : SixB (w.setCell ⟨R, 0, none⟩ x) R x b c d e f := ⟨by rw [setCell_heap w R 0 x _ _ _ h.is]; rfl⟩
theorem SixB.put1 {w : World} {R : Nat} {a b c d e f : Value} (h : SixB w R a b c d e f) (x : Value) : SixB (w.setCell ⟨R, 1, none⟩ x) R a x c d e f := ⟨by rw [setCell_heap w R 1 x _ _ _ h.is]; rfl⟩
theorem SixB.put2 {w : World} {R : Nat} {a b c d e f : Value} (h : SixB w R a b c d e f) (x : Value) : SixB (w.setCell ⟨R, 2, none⟩ x) R a b x d e f := ⟨by rw [setCell_heap w R 2 x _ _ _ h.is]; rfl⟩
theorem SixB.put3 {w : World} {R : Nat} {a b c d e f : Value} (h : SixB w R a b c d e f) (x : Value) : SixB (w.setCell ⟨R, 3, none⟩ x) R a b c x e f := ⟨by rw [setCell_heap w R 3 x _ _ _ h.is]; rfl⟩
theorem SixB.put4 {w : World} {R : Nat} {a b c d e f : Value} (h : SixB w R a b c d e f) (x : Value) : SixB (w.setCell ⟨R, 4, none⟩ x) R a b c d x f := ⟨by rw [setCell_heap w R 4 x _ _ _ h.is]; rfl⟩
theorem SixB.put5 {w : World} {R : Nat} {a b c d e f : Value} (h : SixB w R a b c d e f) (x : Value) : SixB (w.setCell ⟨R, 5, none⟩ x) R a b c d e x := ⟨by rw [setCell_heap w R 5 x _ _ _ h.is]; rfl⟩
end Go.Proofs.YtfibbjngllelbaaGreat

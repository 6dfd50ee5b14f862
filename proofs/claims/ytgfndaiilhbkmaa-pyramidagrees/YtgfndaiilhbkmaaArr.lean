import Derived.Test.YtgfndaiilhbkmaaTnu
import Derived.Test.YtgfndaiilhbkmaaPym
import Derived.RangeFuncNested
import Derived.RangeFuncBound
import Derived.RangeFuncCalls
import Derived.RangeFuncLeaves
import Derived.Shelf.Abstract
import Derived.Shelf.RegionOpen
import Derived.WalkKit
import Derived.OwnWalkIn
import Derived.TacticsInMore
import Derived.LoopNIn
import Derived.LoopIn
import Derived.RangeFuncBox
namespace Go.Proofs.Ytgfndaiilhbkmaa
open Go.RowKit Go.Shelf Go.Proofs.Ytgfndaiilhbkmaa.Ds

/-- n numbers that may be written, from the head of a block on -/
structure Arr (w : World) (g n : Nat) (f : Nat → Int) : Prop where
  cells : ∀ i, i < n → w.cell? ⟨g, i, none⟩ = some (.int .i64 (f i))
  thaw : ∀ i, i < n → w.frozen? ⟨g, i, none⟩ = false
  lt : g < w.heap.size
theorem Arr.same {w w' : World} {g n : Nat} {f : Nat → Int} (h : Arr w g n f) (hk : w'.heap[g]? = w.heap[g]?) : Arr w' g n f :=
  ⟨fun i hi => (World.cell?_of_block (w := w) (a := ⟨g, i, none⟩) hk).trans (h.cells i hi), fun i hi => (World.frozen?_of_block (w := w) (a := ⟨g, i, none⟩) hk).trans (h.thaw i hi), by
    have h1 := h.lt
    rw [Array.getElem?_eq_getElem h1] at hk
    exact (Array.getElem?_eq_some_iff.1 hk).1⟩
theorem Arr.keep {w w' : World} {g n N : Nat} {f : Nat → Int} (h : Arr w g n f) (hb : Below N w w') (hg : g < N) : Arr w' g n f := h.same (hb.block g hg)
theorem Arr.at {w w' : World} {g n : Nat} {f : Nat → Int} (h : Arr w g n f) (hb : Below w.heap.size w w') : Arr w' g n f := h.keep hb h.lt
theorem Arr.gb {w w' : World} {g n : Nat} {row : Option Nat} {f : Nat → Int} (h : Arr w g n f) (hb : w.grownBy w' row) (hne : row ≠ some g) : Arr w' g n f := h.same (hb.block g h.lt (fun e => hne e.symm))
theorem Arr.congr {w : World} {g n : Nat} {f f' : Nat → Int} (h : Arr w g n f) (hf : ∀ i, i < n → f i = f' i) : Arr w g n f' := ⟨fun i hi => by rw [← hf i hi]; exact h.cells i hi, h.thaw, h.lt⟩
def upd (f : Nat → Int) (i : Nat) (x : Int) (j : Nat) : Int := if j = i then x else f j
theorem Arr.set {w : World} {g n : Nat} {f : Nat → Int} (h : Arr w g n f) (i : Nat) (hi : i < n) (x : Int) : Arr (w.setCell ⟨g, i, none⟩ (.int .i64 x)) g n (upd f i x) := by
  refine ⟨fun j hj => ?_, fun j hj => by rw [sc_frozen]; exact h.thaw j hj, by simpa using h.lt⟩
  by_cases e : j = i
  · subst e
    rw [upd, if_pos rfl]
    exact sc_same (h.cells j hi)
  · rw [upd, if_neg e, sc_other (fun h => e (congrArg Addr.off h).symm)]
    exact h.cells j hj
theorem Arr.beside {w : World} {g n : Nat} {f : Nat → Int} (h : Arr w g n f) {p : Addr} (hp : p.block ≠ g) (u : Value) : Arr (w.setCell p u) g n f :=
  ⟨fun i hi => by rw [sc_other (fun e => hp (congrArg Addr.block e))]; exact h.cells i hi, fun i hi => by rw [sc_frozen]; exact h.thaw i hi, by simpa using h.lt⟩
theorem Arr.made (w : World) (n g : Nat) (hg : g = w.heap.size) : Arr (w.alloc (.cells (madeCells #[.int .i64 0] n) 3)) g n (fun _ => 0) := by
  subst hg
  refine ⟨fun i hi => ?_, fun i _ => World.frozen?_alloc_at _ _ _ _ rfl, by simp⟩
  rw [World.cell?_alloc_at _ _ _ _ rfl]
  simp [madeCells, hi, Nat.mod_one]
theorem Arr.num {w : World} {g n c : Nat} {f : Nat → Int} (h : Arr w g n f) (hc : n ≤ c) (hn : n ≤ 9223372036854775807) : Num w w.heap.size (.slice (some ⟨g, 0, none⟩) n c) ((List.range n).map f) := by
  refine ⟨some ⟨g, 0, none⟩, c, by simp, by simpa using hc, by simpa using hn, fun _ => ⟨g, 0, rfl, h.lt, fun i x hi => ?_⟩⟩
  have h1 : i < n := by have := (List.getElem?_eq_some_iff.1 hi).1; simpa using this
  simp [h1] at hi
  rw [Nat.zero_add, h.cells i h1, hi]
theorem arr_own {β : Type} (R n : Nat) (f : β → Nat → Int) : Own (fun s W => Arr W R n (f s)) := fun _ _ _ _ hs hg hrow =>
  ⟨fun i hi => cell_kept (hs.cells i hi) hg hrow, fun i hi => (frozen_kept (hs.cells i hi) hg hrow).trans (hs.thaw i hi), Nat.lt_of_lt_of_le hs.lt hg.size⟩
theorem infoI : (Try.prog.info? 3).map (fun i => (i.zero, i.size, i.bytes)) = some (some (.int .i64 0), 1, 8) := by kernel_rfl
/-- 'make' of n numbers -/
theorem make_ints (n : Nat) (hn : n ≤ 1073741824) (u : World) : (Instr.makeSlice 22 (.int .i64 (n : Int)) (.int .i64 (n : Int))).run Try.prog u =
    .ok (.slice (some ⟨u.heap.size, 0, none⟩) n n) (u.alloc (.cells (madeCells #[.int .i64 0] n) 3)) := by
  obtain ⟨i0, hi, hz0, hz1, hz2⟩ := info_parts infoI
  have h := run_make (P := Try.prog) u 22 3 i0 (.int .i64 0) Try.underlying22 hi hz0 .i64 .i64 (n : Int) (n : Int) (by omega) (Int.le_refl _) (by rw [hz2]; omega) (by omega)
  rw [Int.toNat_natCast] at h
  simpa [hz1, Value.cells] using h

/-- a block with a shape -/
structure ShB (w : World) (R : Nat) (a b c d : Value) : Prop where
  is : w.heap[R]? = some (.cells #[a, b, c, d] 35 (0, 0))
theorem ShB.lt {w : World} {R : Nat} {a b c d : Value} (h : ShB w R a b c d) : R < w.heap.size := (Array.getElem?_eq_some_iff.1 h.is).1
theorem ShB.c0 {w : World} {R : Nat} {a b c d : Value} (h : ShB w R a b c d) : w.cell? ⟨R, 0, none⟩ = some a := by simp [World.cell?, h.is]
theorem ShB.c1 {w : World} {R : Nat} {a b c d : Value} (h : ShB w R a b c d) : w.cell? ⟨R, 1, none⟩ = some b := by simp [World.cell?, h.is]
theorem ShB.c2 {w : World} {R : Nat} {a b c d : Value} (h : ShB w R a b c d) : w.cell? ⟨R, 2, none⟩ = some c := by simp [World.cell?, h.is]
theorem ShB.c3 {w : World} {R : Nat} {a b c d : Value} (h : ShB w R a b c d) : w.cell? ⟨R, 3, none⟩ = some d := by simp [World.cell?, h.is]
theorem ShB.f0 {w : World} {R : Nat} {a b c d : Value} (h : ShB w R a b c d) (k : Nat) : w.frozen? ⟨R, k, none⟩ = false := by simp [World.frozen?, h.is]
theorem ShB.new (w : World) (a b c d : Value) (R : Nat) (hR : R = w.heap.size) : ShB (w.alloc (.cells #[a, b, c, d] 35)) R a b c d := ⟨by rw [hR]; exact World.alloc_heap_new w _⟩
theorem ShB.same {w w' : World} {R : Nat} {a b c d : Value} (h : ShB w R a b c d) (hk : w'.heap[R]? = w.heap[R]?) : ShB w' R a b c d := ⟨hk.trans h.is⟩
theorem ShB.at {w w' : World} {R : Nat} {a b c d : Value} (h : ShB w R a b c d) (hb : Below w.heap.size w w') : ShB w' R a b c d := h.same (hb.block R h.lt)
theorem ShB.keep {w w' : World} {R N : Nat} {a b c d : Value} (h : ShB w R a b c d) (hb : Below N w w') (hN : R < N) : ShB w' R a b c d := h.same (hb.block R hN)
theorem shb_own {β : Type} (R : Nat) (a b c d : Value) : Own (fun (_ : β) W => ShB W R a b c d) := fun _ _ _ _ hs hg hrow => hs.same (hg.block R hs.lt (fun e => by
  obtain ⟨o, ho, hc⟩ := hrow R e.symm
  rw [hs.is] at ho; cases ho; cases hc))
theorem setCell_heap (w : World) (R i : Nat) (x : Value) (cs : Array Value) (t : TypeId) (fr : Nat × Nat) (h : w.heap[R]? = some (.cells cs t fr)) : (w.setCell ⟨R, i, none⟩ x).heap[R]? = some (.cells (cs.setIfInBounds i x) t fr) := by
  obtain ⟨hlt, hk⟩ := Array.getElem?_eq_some_iff.1 h
  show (w.heap.modify R _)[R]? = _
  rw [Array.getElem?_eq_getElem (by rw [Array.size_modify]; exact hlt), Array.getElem_modify_self, hk]
  rfl
theorem ShB.put0 {w : World} {R : Nat} {a b c d : Value} (h : ShB w R a b c d) (x : Value) : ShB (w.setCell ⟨R, 0, none⟩ x) R x b c d := ⟨by rw [setCell_heap w R 0 x _ _ _ h.is]; rfl⟩
theorem ShB.put1 {w : World} {R : Nat} {a b c d : Value} (h : ShB w R a b c d) (x : Value) : ShB (w.setCell ⟨R, 1, none⟩ x) R a x c d := ⟨by rw [setCell_heap w R 1 x _ _ _ h.is]; rfl⟩
theorem ShB.put2 {w : World} {R : Nat} {a b c d : Value} (h : ShB w R a b c d) (x : Value) : ShB (w.setCell ⟨R, 2, none⟩ x) R a b x d := ⟨by rw [setCell_heap w R 2 x _ _ _ h.is]; rfl⟩
theorem ShB.put3 {w : World} {R : Nat} {a b c d : Value} (h : ShB w R a b c d) (x : Value) : ShB (w.setCell ⟨R, 3, none⟩ x) R a b c x := ⟨by rw [setCell_heap w R 3 x _ _ _ h.is]; rfl⟩
theorem ShB.beside {w : World} {R : Nat} {a b c d : Value} (h : ShB w R a b c d) {p : Addr} (hp : p.block ≠ R) (x : Value) : ShB (w.setCell p x) R a b c d := h.same (Below.heap_setCell _ _ _ _ hp.symm)
/-- a shape -/
abbrev shV (w H n l : Nat) : Value := .agg #[.int .i64 (w : Int), .int .i64 (H : Int), .int .i64 (n : Int), .int .i64 (l : Int)]
theorem inner_any (w H n l m : Nat) (hn : n ≤ 1024) (hm : m + l = n) (W : World) : Calls Try.prog 30 #[shV w H n l] W fun e W' => e = .returned (.int .i64 (m : Int)) ∧ Below W.heap.size W W' := by
  have h1 : (n : Int) - (l : Int) = (m : Int) := by omega
  obtain ⟨X, hX⟩ : ∃ X, W.alloc (.cells #[.int .i64 (w : Int), .int .i64 (H : Int), .int .i64 (n : Int), .int .i64 (l : Int)] 35) = X := ⟨_, rfl⟩
  have bX : Below W.heap.size W X := by rw [← hX]; exact ba _ _
  have sX : ShB X W.heap.size (.int .i64 (w : Int)) (.int .i64 (H : Int)) (.int .i64 (n : Int)) (.int .i64 (l : Int)) := by rw [← hX]; exact ShB.new _ _ _ _ _ _ rfl
  have t2 := sX.c2
  have t3 := sX.c3
  clear sX hm
  go_enter Try.func30, Try.ntmps30
  go_wp2
  go_ret
  exact ⟨by go_num, bX⟩
end Go.Proofs.Ytgfndaiilhbkmaa

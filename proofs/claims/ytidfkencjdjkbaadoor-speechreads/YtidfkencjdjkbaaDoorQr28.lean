import Derived.Test.YtidfkencjdjkbaaDoorQr25
import Derived.Test.YtidfkencjdjkbaaDoorQr05
import Derived.Lib.AppendIntMem
import Derived.Lib.ItoaLen
import Derived.Deep.RegionHeld3
/-
  PACKAGE speech, Print: pieces are written: apart, put.
-/
namespace Go.Proofs.YtidfkencjdjkbaaDoor
open Go.RowKit Sp

/-- texts, a row of one's own -/
def Txs (w : World) (S : Nat) (l : List By) : Prop := w.heap[S]? = some (.cells (l.map fun s => Value.string (tx s)).toArray 9 (0, 0))
theorem Txs.cell {w : World} {S : Nat} {l : List By} (h : Txs w S l) {i : Nat} {s : By} (hi : l[i]? = some s) : w.cell? ⟨S, i, none⟩ = some (.string (tx s)) := by
  rw [Lib.cell_of_heap h]
  simp [hi]
end Go.Proofs.YtidfkencjdjkbaaDoor

/-
  PACKAGE speech, Print: put.
-/
namespace Go.Proofs.YtidfkencjdjkbaaDoor
open Go.RowKit Sp

end Go.Proofs.YtidfkencjdjkbaaDoor

/-
  PACKAGE speech, Print: numbers, spans, sums.
-/
namespace Go.Proofs.YtidfkencjdjkbaaDoor
open Go.RowKit Sp
open Go.Lib (decDigits itoa)

/-- strconv's table -/
def PT (B : Nat) (w : World) : Prop := Lib.TabBelow Tryd.prog B w "internal/strconv.uint64pow10" .u64 Lib.pow10Tab
end Go.Proofs.YtidfkencjdjkbaaDoor

/-
  PACKAGE speech, Print: what is written so far; tests.
-/
namespace Go.Proofs.YtidfkencjdjkbaaDoor
open Go.RowKit Sp
open Go.Lib (decDigits itoa)

theorem Txs.new (w : World) (l : List By) (cs : Array Value) (h : cs = (l.map fun s => Value.string (tx s)).toArray) : Txs (w.alloc (.cells cs 9)) w.heap.size l := by
  subst h
  exact heap_alloc_new w _
/-- a block of another type -/
def Kbx (w : World) (X : Nat) (cs : Array Value) (ty : TypeId) : Prop := w.heap[X]? = some (.cells cs ty (0, 0))
theorem Kbx.c {w : World} {X : Nat} {cs : Array Value} {ty : TypeId} (h : Kbx w X cs ty) (i : Nat) (v : Value) (hv : cs[i]? = some v) : w.cell? ⟨X, i, none⟩ = some v := by rw [Lib.cell_of_heap h]; exact hv
/-! ### tests -/
theorem nmd_len {c : By} (h : nmd c = true) : c.length ≤ 32 := by
  simp [nmd, namB] at h
  omega
end Go.Proofs.YtidfkencjdjkbaaDoor

/-
  PACKAGE speech, Print: within, sum.
-/
namespace Go.Proofs.YtidfkencjdjkbaaDoor
open Go.RowKit Sp
open Go.Lib (decDigits itoa)

theorem QI.six {w : World} {B : Nat} {q : Qu} {cs : List Value} (h : QI w B q cs) : ∃ (k : Int) (c : By) (lo hi : Int) (wa : Option Addr) (wn wc : Nat) (ka : Option Addr) (kn kc : Nat), cs = [.int .i64 k, .string (tx c), .int .i64 lo, .int .i64 hi, .slice wa wn wc, .slice ka kn kc] := by
  cases q with
  | none => exact h.elim
  | node k c lo hi wh n x y =>
    obtain ⟨wv, ka, kc, rfl, ⟨wa, wc, rfl, _⟩, _⟩ := h
    exact ⟨k, c, lo, hi, wa, wh.length, wc, ka, n, kc, rfl⟩
end Go.Proofs.YtidfkencjdjkbaaDoor

/-
  PACKAGE speech, Print: the statements of question that draw their order.
-/
namespace Go.Proofs.YtidfkencjdjkbaaDoor
open Go.RowKit Sp
open Go.Lib (decDigits itoa)

end Go.Proofs.YtidfkencjdjkbaaDoor

/-
  PACKAGE speech, Print: a question is written.
-/
namespace Go.Proofs.YtidfkencjdjkbaaDoor
open Go.RowKit Sp
open Go.Lib (decDigits itoa)

end Go.Proofs.YtidfkencjdjkbaaDoor

/-
  PACKAGE speech, Print: what a kind of question may have.
-/
namespace Go.Proofs.YtidfkencjdjkbaaDoor
open Go.RowKit Sp

end Go.Proofs.YtidfkencjdjkbaaDoor

/-
  PACKAGE speech, Print: check.
-/
namespace Go.Proofs.YtidfkencjdjkbaaDoor
open Go.RowKit Sp

end Go.Proofs.YtidfkencjdjkbaaDoor

/-
  PACKAGE speech, Print: what may be said; a question is written, whole.
-/
namespace Go.Proofs.YtidfkencjdjkbaaDoor
open Go.RowKit Sp
open Go.Lib (decDigits itoa)

end Go.Proofs.YtidfkencjdjkbaaDoor

/-
  PACKAGE speech, Print: a text, whole; what Print calls.
-/
namespace Go.Proofs.YtidfkencjdjkbaaDoor
open Go.RowKit Sp
open Go.Lib (decDigits itoa)

end Go.Proofs.YtidfkencjdjkbaaDoor

/-
  PACKAGE speech: Print.
-/
namespace Go.Proofs.YtidfkencjdjkbaaDoor
open Go.RowKit Sp

end Go.Proofs.YtidfkencjdjkbaaDoor

/-
  PACKAGE speech: Print, whole.
-/
namespace Go.Proofs.YtidfkencjdjkbaaDoor
open Go.RowKit Sp

end Go.Proofs.YtidfkencjdjkbaaDoor

import Derived.Test.YtfofdbcmaokkcaaRmk
import Derived.Test.YtfofdbcmaokkcaaOwn
namespace Go.Proofs.Ytfofdbcmaokkcaa
open Go.RowKit Go.Proofs.Ytfofdbcmaokkcaa.Ds

/-- a fraction in a cell of one's own -/
def Fc (b : Nat) (n m : Int) (W : World) : Prop :=
  W.cell? ⟨b, 0, none⟩ = some (.int .i64 n) ∧ W.cell? ⟨b, 1, none⟩ = some (.int .i64 m) ∧ W.frozen? ⟨b, 0, none⟩ = false ∧ W.frozen? ⟨b, 1, none⟩ = false
theorem fc_new (w : World) (n m : Int) : Fc w.heap.size n m (w.alloc (.cells #[.int .i64 n, .int .i64 m] 23)) := by
  refine ⟨?_, ?_, ?_, ?_⟩ <;> simp [go_sem]
theorem Fc.at {b : Nat} {n m : Int} {W W' : World} (h : Fc b n m W) (hb : Below W.heap.size W W') (hl : b < W.heap.size) : Fc b n m W' := by
  obtain ⟨h1, h2, h3, h4⟩ := h
  obtain ⟨hc, hf⟩ := bcell hb
  exact ⟨(hc _ 0 hl).trans h1, (hc _ 1 hl).trans h2, (hf _ 0 hl).trans h3, (hf _ 1 hl).trans h4⟩
theorem Fc.set {b : Nat} {n m : Int} {W : World} (h : Fc b n m W) (n' m' : Int) : Fc b n' m' ((W.setCell ⟨b, 0, none⟩ (.int .i64 n')).setCell ⟨b, 1, none⟩ (.int .i64 m')) := by
  obtain ⟨h1, h2, h3, h4⟩ := h
  refine ⟨(sc_other (by simp)).trans (sc_same h1), sc_same (u := .int .i64 m) ((sc_other (by simp)).trans h2), ?_, ?_⟩
  · rw [sc_frozen, sc_frozen]; exact h3
  · rw [sc_frozen, sc_frozen]; exact h4
theorem Fc.beside {b b' : Nat} {n m : Int} {W : World} (h : Fc b n m W) (hne : b ≠ b') (o : Nat) (u : Value) : Fc b n m (W.setCell ⟨b', o, none⟩ u) := by
  obtain ⟨h1, h2, h3, h4⟩ := h
  refine ⟨(sc_other (by simp)).trans h1, (sc_other (by simp)).trans h2, ?_, ?_⟩
  · rw [sc_frozen]; exact h3
  · rw [sc_frozen]; exact h4

end Go.Proofs.Ytfofdbcmaokkcaa

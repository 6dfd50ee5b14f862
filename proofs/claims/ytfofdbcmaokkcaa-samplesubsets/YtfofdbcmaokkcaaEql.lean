import Derived.Test.YtfofdbcmaokkcaaLow
namespace Go.Proofs.Ytfofdbcmaokkcaa
open Go.RowKit Go.Proofs.Ytfofdbcmaokkcaa.Ds

theorem take_next {α : Type} {l k : List α} {i : Nat} {x : α} (h : l.take i = k.take i) (hl : l[i]? = some x) (hk : k[i]? = some x) : l.take (i + 1) = k.take (i + 1) := by
  rw [List.take_add_one, List.take_add_one, h, hl, hk]

/-- own -/
def ownT (l : List Pt) : List Pt × Int := if (makeT l).2 = 0 then if (makeT l).1 = l then (l, 0) else ([], 2) else ([], (makeT l).2)

theorem lowT_err (l : List Pt) : (lowT l).2 = 0 ∨ (lowT l).1 = [] := by
  unfold lowT; split
  · exact .inr rfl
  · split
    · exact .inr rfl
    · exact .inl rfl
theorem makeT_err (l : List Pt) : (makeT l).2 = 0 ∨ (makeT l).1 = [] := by
  unfold makeT; split
  · exact lowT_err _
  · exact .inr rfl

theorem parts_one (w : World) (B nb : Nat) (v : Value) (xs : List Int) (k : Int) (hB : B ≤ w.heap.size) (h : Ints w B nb v xs) :
    Parts (w.alloc (.cells #[v, .int .i64 k] 41)) (w.heap.size + 1) (.slice (some ⟨w.heap.size, 0, none⟩) 1 1) [(v, xs, k)] := by
  refine ⟨_, 1, rfl, by simp, by simp, fun t ht => ?_, fun _ => ⟨w.heap.size, 0, rfl, by omega, fun i t hi => ?_⟩⟩
  · simp at ht; subst ht
    exact (h.at hB (ba _ _)).mono (by omega) (.inr (by omega))
  · match i, hi with
    | 0, hi =>
      simp at hi; subst hi
      exact ⟨by simp [go_sem], by simp [go_sem]⟩

end Go.Proofs.Ytfofdbcmaokkcaa

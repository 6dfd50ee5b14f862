import Derived.Test.YthmkbkombjhaeaaQw01
namespace Go.Proofs.Ythmkbkombjhaeaa
open Go.Proofs.Ythmkbkombjhaeaa.Ds

/-! ### MIDDLE -/
/-- what is ahead less what is behind -/
def midF (l : List Int) (i : Nat) : Int := (l.take i).sum - (l.drop (i + 1)).sum
def midS (l : List Int) (i : Nat) : Int := l.getD i 0 - max (l.getD i 0) (max (midF l i) (-(midF l i)))
def midE (l : List Int) : Int := if l.all (fun n => decide (0 ≤ n ∧ n ≤ 4096)) = true then (if 4096 < l.length then 5 else 0) else 3
def midT (l : List Int) : List Int × Int := if midE l ≠ 0 then ([], midE l) else ((List.range l.length).map (midS l), 0)
theorem mid_le (l : List Int) (i : Nat) : midS l i ≤ 0 := by unfold midS; omega
theorem sum_set (l : List Int) (k : Nat) (z : Int) (h : k < l.length) : (l.set k (l.getD k 0 + z)).sum = l.sum + z := by
  induction l generalizing k with
  | nil => simp at h
  | cons a l ih =>
    cases k with
    | zero => simp only [List.set_cons_zero, List.sum_cons, List.getD_cons_zero]; omega
    | succ k => simp only [List.set_cons_succ, List.sum_cons, List.getD_cons_succ]; rw [ih k (by simpa using h)]; omega
theorem take_set' (l : List Int) (i k : Nat) (z : Int) (h : k < l.length) : ((l.set k (l.getD k 0 + z)).take i).sum = (l.take i).sum + (if k < i then z else 0) := by
  induction l generalizing i k with
  | nil => simp at h
  | cons a l ih =>
    cases i with
    | zero => simp
    | succ i =>
      cases k with
      | zero => simp only [List.set_cons_zero, List.take_succ_cons, List.sum_cons, List.getD_cons_zero]; rw [if_pos (by omega)]; omega
      | succ k =>
        simp only [List.set_cons_succ, List.take_succ_cons, List.sum_cons, List.getD_cons_succ]
        rw [ih i k (by simpa using h)]
        by_cases c : k < i
        · rw [if_pos c, if_pos (by omega)]; omega
        · rw [if_neg c, if_neg (by omega)]; omega
theorem drop_set' (l : List Int) (i k : Nat) (z : Int) (h : k < l.length) : ((l.set k (l.getD k 0 + z)).drop i).sum = (l.drop i).sum + (if k < i then 0 else z) := by
  have h1 := take_set' l i k z h
  have h2 := sum_set l k z h
  have e1 : ∀ m : List Int, m.sum = (m.take i).sum + (m.drop i).sum := fun m => by rw [← List.sum_append_int, List.take_append_drop]
  have e2 := e1 l
  have e3 := e1 (l.set k (l.getD k 0 + z))
  split at h1 <;> rename_i c
  · rw [if_pos c]; omega
  · rw [if_neg c]; omega
/-- one more moves no score by more than 1 -/
theorem mid_near (l : List Int) (k : Nat) (h : k < l.length) (i : Nat) : midS l i - midS (l.set k (l.getD k 0 + 1)) i ≤ 1 ∧ midS (l.set k (l.getD k 0 + 1)) i - midS l i ≤ 1 := by
  unfold midS midF
  have h1 := take_set' l i k 1 h
  have h2 := drop_set' l (i + 1) k 1 h
  have h3 : (l.set k (l.getD k 0 + 1)).getD i 0 = if k = i then l.getD i 0 + 1 else l.getD i 0 := by
    by_cases c : k = i
    · subst c; rw [if_pos rfl]; simp [List.getD, h]
    · rw [if_neg c]; simp [List.getD, c]
  by_cases c1 : k < i
  · rw [if_pos c1] at h1
    rw [if_pos (show k < i + 1 by omega)] at h2
    rw [if_neg (show ¬ k = i by omega)] at h3
    rw [h1, h2, h3]
    omega
  · rw [if_neg c1] at h1
    by_cases c2 : k = i
    · rw [if_pos (show k < i + 1 by omega)] at h2
      rw [if_pos c2] at h3
      rw [h1, h2, h3]
      omega
    · rw [if_neg (show ¬ k < i + 1 by omega)] at h2
      rw [if_neg c2] at h3
      rw [h1, h2, h3]
      omega
end Go.Proofs.Ythmkbkombjhaeaa

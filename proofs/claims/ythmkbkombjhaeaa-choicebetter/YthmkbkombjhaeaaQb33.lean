import Derived.Test.YthmkbkombjhaeaaQb32
namespace Go.Proofs.Ythmkbkombjhaeaa
open Go.RowKit Go.Proofs.Ythmkbkombjhaeaa.Ds

/-- what is wrong -/
def choE (u d : Int) (l : List Int) : Int :=
  if Rt.rightB u d = true then
    if u < d then 3 else if l.length < 1 ∨ 8 < l.length then 5
    else if l.all (fun n => decide (-1073741824 ≤ n ∧ n ≤ 1073741824)) = true then (if l.all (fun n => decide (mxI l - n ≤ 64)) = true then 0 else 3) else 3
  else 2
theorem cho_ok {u d : Int} {l : List Int} (h : choE u d l = 0) : Rt.rightB u d = true ∧ d ≤ u ∧ 1 ≤ d ∧ 1 ≤ l.length ∧ l.length ≤ 8 ∧ (∀ n ∈ l, -1073741824 ≤ n ∧ n ≤ 1073741824) ∧ ∀ n ∈ l, mxI l - n ≤ 64 := by
  unfold choE at h
  split at h
  · rename_i h1
    have hb := Rt.right_bd h1
    split at h
    · omega
    · split at h
      · omega
      · split at h
        · rename_i h4
          split at h
          · rename_i h5
            rw [List.all_eq_true] at h4 h5
            exact ⟨h1, by omega, by omega, by omega, by omega, fun n hn => of_decide_eq_true (h4 n hn), fun n hn => of_decide_eq_true (h5 n hn)⟩
          · omega
        · omega
  · omega
/-- numbers with their weights -/
def numL (n : Nat) (g : Nat → Int) : List Pt := (List.range n).map fun (i : Nat) => ([(i : Int)], g i)
/-- Weigh -/
def weighT (u d : Int) (l : List Int) : List Pt × Int :=
  if choE u d l ≠ 0 then ([], choE u d l) else if 1073741824 < Ps.sumI (wgW u d (belT l)) (List.range l.length) then ([], 4) else makeT (numL l.length (wgW u d (belT l)))
/-- Flip -/
def flipT (u d : Int) (l : List Int) : List Pt × Int :=
  if choE u d l ≠ 0 then ([], choE u d l) else if 1073741824 < (Ps.fact l.length : Int) * Ps.pI (fun j => u ^ (belT l).getD j 0) (List.range l.length) then ([], 4) else makeT (numL l.length (Ps.flW u d (belT l)))
theorem cho_bad {u d : Int} {l : List Int} (h1 : Rt.rightB u d = true) (h2 : ¬ u < d) (h3 : 1 ≤ l.length) (h4 : l.length ≤ 8) (h : l.any badB = true) : choE u d l = 3 := by
  unfold choE
  rw [if_pos h1, if_neg h2, if_neg (by omega), if_neg]
  intro ha
  rw [List.all_eq_true] at ha
  obtain ⟨n, hn, hb⟩ := List.any_eq_true.1 h
  have := of_decide_eq_true (ha n hn)
  have hb' := of_decide_eq_true hb
  omega
theorem cho_all {l : List Int} (h : l.any badB = false) : ∀ n ∈ l, -1073741824 ≤ n ∧ n ≤ 1073741824 := by
  intro n hn
  rw [List.any_eq_false] at h
  have := h n hn
  unfold badB at this
  simp at this
  omega
theorem cho_rest {u d : Int} {l : List Int} (h1 : Rt.rightB u d = true) (h2 : ¬ u < d) (h3 : 1 ≤ l.length) (h4 : l.length ≤ 8) (h : l.any badB = false) : choE u d l = if 64 < mxI (farI l) then 3 else 0 := by
  have ha := cho_all h
  have hne : l ≠ [] := by intro e; rw [e] at h3; simp at h3
  have hnf : farI l ≠ [] := by intro e; have := congrArg List.length e; rw [farI_len] at this; simp at this; exact hne this
  unfold choE
  rw [if_pos h1, if_neg h2, if_neg (by omega), if_pos (by rw [List.all_eq_true]; exact fun n hn => decide_eq_true (ha n hn))]
  have key : (l.all (fun n => decide (mxI l - n ≤ 64)) = true) ↔ ¬ 64 < mxI (farI l) := by
    rw [Int.not_lt, mxI_iff hnf, List.all_eq_true]
    constructor
    · intro h n hn
      obtain ⟨m, hm, rfl⟩ := List.mem_map.1 hn
      exact of_decide_eq_true (h m hm)
    · intro h n hn
      exact decide_eq_true (h _ (List.mem_map.2 ⟨n, hn, rfl⟩))
  by_cases c : 64 < mxI (farI l)
  · rw [if_pos c, if_neg fun h => key.1 h c]
  · rw [if_neg c, if_pos (key.2 c)]
end Go.Proofs.Ythmkbkombjhaeaa

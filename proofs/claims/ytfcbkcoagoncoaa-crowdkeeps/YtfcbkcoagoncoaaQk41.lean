import Derived.Test.YtfcbkcoagoncoaaQk02
/-
  CHAPTER 1's PLAIN MATHEMATICS, MORE: a fraction that is right is a rational number; what is done with two is done with the numbers.
-/
namespace Go.Proofs.Rt

/-- A number that can be told. -/
def Ok (q : Rat) : Prop := 0 ≤ q.num ∧ q.num ≤ mx ∧ (q.den : Int) ≤ mx
theorem den1 (q : Rat) : (1 : Int) ≤ q.den := by have := q.den_pos; omega
theorem rat_right (q : Rat) (h : Ok q) : rightB q.num q.den = true := by
  unfold rightB
  obtain ⟨h1, h2, h3⟩ := h
  refine decide_eq_true ⟨h1, h2, den1 q, h3, ?_⟩
  exact q.reduced
theorem tell_ok {q : Rat} {n m : Int} (h : tell q = (n, m, 0)) : Ok q ∧ q.num = n ∧ (q.den : Int) = m := by
  unfold tell at h
  by_cases c : q.num < 0
  · rw [if_pos c] at h; simp at h
  · rw [if_neg c] at h
    by_cases c2 : mx < q.num ∨ mx < (q.den : Int)
    · rw [if_pos c2] at h; simp at h
    · rw [if_neg c2] at h
      simp only [Prod.mk.injEq] at h
      exact ⟨⟨by omega, by omega, by omega⟩, h.1, h.2.1⟩
theorem mkT_tell (u d : Int) (hd : 1 ≤ d) : mkT u d = tell (Rat.divInt u d) := by
  unfold mkT
  by_cases c : u < 0
  · rw [if_pos (.inl c)]
    unfold tell
    have : ¬ 0 ≤ Rat.divInt u d := by
      rw [Rat.divInt_nonneg_iff_of_pos_right (by omega)]; omega
    have : ¬ 0 ≤ (Rat.divInt u d).num := fun h => this (Rat.num_nonneg.1 h)
    rw [if_pos (by omega)]
  · rw [if_neg (by omega)]
theorem num_div_den (q : Rat) : Rat.divInt q.num q.den = q := Rat.num_divInt_den q
/-! ### a sum or a product, and whether it is told -/
def op (p : Bool) (x y : Rat) : Rat := if p then x + y else x * y
/-! ### the order -/
end Go.Proofs.Rt

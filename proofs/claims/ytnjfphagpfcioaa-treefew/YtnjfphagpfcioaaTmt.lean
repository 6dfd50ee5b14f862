import Derived.Test.YtnjfphagpfcioaaTba
namespace Go.Proofs.Ytnjfphagpfcioaa.Ds

/-- a node: its level, its number -/
abbrev Sp := Nat × Nat
/-- where nodes end that stand one behind the other -/
def endT (l : List Sp) : Nat := (l.map fun s => 2 ^ s.1).sum
theorem end_snoc (l : List Sp) (s : Sp) : endT (l ++ [s]) = endT l + 2 ^ s.1 := by simp [endT]
/-- nodes one behind the other, from 0 on -/
structure Cvr (h : Nat) (l : List Sp) (b : Nat) : Prop where
  ok : ∀ i s, l[i]? = some s → s.2 * 2 ^ s.1 = endT (l.take i) ∧ s.1 ≤ h
  en : endT l = b
/-- the cover, level by level from the highest on -/
def cvS (h t : Nat) : Nat → List Sp × Nat
  | 0 => ([], 0)
  | j + 1 => if (cvS h t j).2 + 2 ^ (h - j) ≤ t then ((cvS h t j).1 ++ [(h - j, (cvS h t j).2 / 2 ^ (h - j))], (cvS h t j).2 + 2 ^ (h - j)) else cvS h t j
structure CvI (h t j : Nat) (l : List Sp) (b : Nat) : Prop where
  cv : Cvr h l b
  ln : l.length ≤ j
  dv : 2 ^ (h + 1 - j) ∣ b
  le : b ≤ t
  lt : t < b + 2 ^ (h + 1 - j)
theorem cvI_zero {h t : Nat} (ht : t ≤ 2 ^ h) : CvI h t 0 [] 0 := by
  refine ⟨⟨fun i s hs => by simp at hs, rfl⟩, Nat.le_refl _, Nat.dvd_zero _, Nat.zero_le _, ?_⟩
  have : 2 ^ (h + 1 - 0) = 2 ^ h * 2 := by rw [Nat.sub_zero, Nat.pow_succ]
  have h1 : 0 < 2 ^ h := Nat.two_pow_pos h
  omega
theorem cvI_step {h t j : Nat} {l : List Sp} {b : Nat} (hj : j ≤ h) (hi : CvI h t j l b) :
    (b + 2 ^ (h - j) ≤ t → CvI h t (j + 1) (l ++ [(h - j, b / 2 ^ (h - j))]) (b + 2 ^ (h - j))) ∧ (¬ b + 2 ^ (h - j) ≤ t → CvI h t (j + 1) l b) := by
  have he : h + 1 - j = (h - j) + 1 := by omega
  have he2 : h + 1 - (j + 1) = h - j := by omega
  have hd := hi.dv
  have hl := hi.lt
  rw [he, Nat.pow_succ] at hd hl
  have hd2 : 2 ^ (h - j) ∣ b := Nat.dvd_trans (Nat.dvd_mul_right _ 2) hd
  constructor
  · intro hc
    refine ⟨⟨fun i s hs => ?_, ?_⟩, by simp; exact hi.ln, ?_, hc, ?_⟩
    · by_cases c : i < l.length
      · rw [List.getElem?_append_left c] at hs
        rw [List.take_append_of_le_length (by omega)]
        exact hi.cv.ok i s hs
      · have hi2 : i = l.length := by
          have := (List.getElem?_eq_some_iff.1 hs).1
          simp at this; omega
        subst hi2
        simp at hs
        subst hs
        simp only [List.take_append_of_le_length (Nat.le_refl _), List.take_length]
        exact ⟨by rw [Nat.div_mul_cancel hd2]; exact hi.cv.en.symm, by omega⟩
    · rw [end_snoc, hi.cv.en]
    · rw [he2]; exact Nat.dvd_add hd2 (Nat.dvd_refl _)
    · rw [he2]; omega
  · intro hc
    exact ⟨hi.cv, by have := hi.ln; omega, by rw [he2]; exact hd2, hi.le, by rw [he2]; omega⟩
theorem cvI_end {h t : Nat} {l : List Sp} {b : Nat} (hi : CvI h t (h + 1) l b) : Cvr h l t ∧ l.length ≤ h + 1 := by
  have h1 := hi.le
  have h2 := hi.lt
  simp only [Nat.sub_self, Nat.pow_zero] at h2
  obtain rfl : b = t := by omega
  exact ⟨hi.cv, hi.ln⟩
theorem pow_le {k h : Nat} (hk : k ≤ h) (hh : h ≤ 10) : 2 ^ k ≤ 1024 := by
  have : 2 ^ k ≤ 2 ^ 10 := Nat.pow_le_pow_right (by decide) (by omega)
  simpa using this
theorem end_take_le (l : List Sp) (i : Nat) : endT (l.take i) ≤ endT l := by
  have : endT l = endT (l.take i) + endT (l.drop i) := by
    unfold endT
    rw [← List.sum_append, ← List.map_append, List.take_append_drop]
  omega
end Go.Proofs.Ytnjfphagpfcioaa.Ds

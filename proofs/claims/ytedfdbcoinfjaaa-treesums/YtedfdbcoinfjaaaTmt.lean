import Derived.Test.YtedfdbcoinfjaaaTba
namespace Go.Proofs.Ytedfdbcoinfjaaa.Ds

/-- a node: its level, its number -/
abbrev Sp := Nat × Nat
/-- where nodes end that stand one behind the other -/
def endT (l : List Sp) : Nat := (l.map fun s => 2 ^ s.1).sum
theorem end_snoc (l : List Sp) (s : Sp) : endT (l ++ [s]) = endT l + 2 ^ s.1 := by simp [endT]
/-- the nodes one behind the other from 0 on, each the longest that may begin there -/
def Gre (h t : Nat) (l : List Sp) : Prop :=
  ∀ i s, l[i]? = some s → s.2 * 2 ^ s.1 = endT (l.take i) ∧ s.1 ≤ h ∧ endT (l.take i) + 2 ^ s.1 ≤ t ∧ ∀ k, s.1 < k → k ≤ h → 2 ^ k ∣ endT (l.take i) → ¬ endT (l.take i) + 2 ^ k ≤ t
theorem Gre.nil (h t : Nat) : Gre h t [] := fun i s hs => by simp at hs
theorem Gre.snoc {h t k b : Nat} {l : List Sp} (hg : Gre h t l) (he : endT l = b) (hd : 2 ^ k ∣ b) (hk : k ≤ h) (hb : b + 2 ^ k ≤ t) (hm : ∀ k', k < k' → k' ≤ h → 2 ^ k' ∣ b → ¬ b + 2 ^ k' ≤ t) : Gre h t (l ++ [(k, b / 2 ^ k)]) := by
  intro i s hs
  by_cases c : i < l.length
  · rw [List.getElem?_append_left c] at hs
    rw [List.take_append_of_le_length (by omega)]
    exact hg i s hs
  · have hi2 : i = l.length := by
      have := (List.getElem?_eq_some_iff.1 hs).1
      simp at this; omega
    subst hi2
    simp at hs
    subst hs
    simp only [List.take_append_of_le_length (Nat.le_refl _), List.take_length, he]
    exact ⟨Nat.div_mul_cancel hd, hk, hb, hm⟩
theorem end_take_le (l : List Sp) (i : Nat) : endT (l.take i) ≤ endT l := by
  have : endT l = endT (l.take i) + endT (l.drop i) := by
    unfold endT
    rw [← List.sum_append, ← List.map_append, List.take_append_drop]
  omega
theorem end_take_succ {l : List Sp} {i : Nat} {s : Sp} (h : l[i]? = some s) : endT (l.take (i + 1)) = endT (l.take i) + 2 ^ s.1 := by
  rw [List.take_add_one, h]
  simp only [Option.toList_some]
  rw [end_snoc]
theorem Gre.uniq {h t : Nat} {l m : List Sp} (hl : Gre h t l) (hm : Gre h t m) (el : endT l = t) (em : endT m = t) : l = m := by
  have key : ∀ i, l.take i = m.take i ∧ l[i]? = m[i]? := by
    intro i
    induction i with
    | zero =>
      refine ⟨rfl, ?_⟩
      exact (aux 0 rfl)
    | succ i ih =>
      have h1 : l.take (i + 1) = m.take (i + 1) := by rw [List.take_add_one, List.take_add_one, ih.1, ih.2]
      exact ⟨h1, aux (i + 1) h1⟩
  exact List.ext_getElem? fun i => (key i).2
where
  aux (i : Nat) (he : l.take i = m.take i) : l[i]? = m[i]? := by
    by_cases c1 : i < l.length
    · obtain ⟨s, hs⟩ : ∃ s, l[i]? = some s := ⟨l[i], List.getElem?_eq_getElem c1⟩
      obtain ⟨a1, a2, a3, a4⟩ := hl i s hs
      have hp : 0 < 2 ^ s.1 := Nat.two_pow_pos _
      by_cases c2 : i < m.length
      · obtain ⟨r, hr⟩ : ∃ r, m[i]? = some r := ⟨m[i], List.getElem?_eq_getElem c2⟩
        obtain ⟨b1, b2, b3, b4⟩ := hm i r hr
        rw [← he] at b1 b3 b4
        have hsr : s.1 = r.1 := by
          rcases Nat.lt_trichotomy s.1 r.1 with c | c | c
          · exact absurd b3 (a4 r.1 c b2 ⟨r.2, by rw [← b1, Nat.mul_comm]⟩)
          · exact c
          · exact absurd a3 (b4 s.1 c a2 ⟨s.2, by rw [← a1, Nat.mul_comm]⟩)
        have h2 : s.2 = r.2 := by
          rw [← hsr] at b1
          exact Nat.eq_of_mul_eq_mul_right hp (a1.trans b1.symm)
        rw [hs, hr]
        exact congrArg some (Prod.ext hsr h2)
      · exfalso
        have h3 : m.take i = m := List.take_of_length_le (by omega)
        rw [he, h3, em] at a3
        omega
    · by_cases c2 : i < m.length
      · exfalso
        obtain ⟨r, hr⟩ : ∃ r, m[i]? = some r := ⟨m[i], List.getElem?_eq_getElem c2⟩
        obtain ⟨b1, b2, b3, b4⟩ := hm i r hr
        have hp : 0 < 2 ^ r.1 := Nat.two_pow_pos _
        have h3 : l.take i = l := List.take_of_length_le (by omega)
        rw [← he, h3, el] at b3
        omega
      · rw [List.getElem?_eq_none (by omega), List.getElem?_eq_none (by omega)]
/-- the cover, level by level from the highest on -/
def cvS (h t : Nat) : Nat → List Sp × Nat
  | 0 => ([], 0)
  | j + 1 => if (cvS h t j).2 + 2 ^ (h - j) ≤ t then ((cvS h t j).1 ++ [(h - j, (cvS h t j).2 / 2 ^ (h - j))], (cvS h t j).2 + 2 ^ (h - j)) else cvS h t j
/-- THE COVER -/
def cov (h t : Nat) : List Sp := (cvS h t (h + 1)).1
structure CvI (h t j : Nat) (l : List Sp) (b : Nat) : Prop where
  cv : Gre h t l
  en : endT l = b
  ln : l.length ≤ j
  dv : 2 ^ (h + 1 - j) ∣ b
  le : b ≤ t
  lt : t < b + 2 ^ (h + 1 - j)
theorem cvI_zero {h t : Nat} (ht : t ≤ 2 ^ h) : CvI h t 0 [] 0 := by
  refine ⟨Gre.nil _ _, rfl, Nat.le_refl _, Nat.dvd_zero _, Nat.zero_le _, ?_⟩
  have : 2 ^ (h + 1 - 0) = 2 ^ h * 2 := by rw [Nat.sub_zero, Nat.pow_succ]
  have h1 : 0 < 2 ^ h := Nat.two_pow_pos h
  omega
theorem cvI_step {h t j : Nat} {l : List Sp} {b : Nat} (hj : j ≤ h) (hi : CvI h t j l b) :
    (b + 2 ^ (h - j) ≤ t → CvI h t (j + 1) (l ++ [(h - j, b / 2 ^ (h - j))]) (b + 2 ^ (h - j))) ∧ (¬ b + 2 ^ (h - j) ≤ t → CvI h t (j + 1) l b) := by
  have he : h + 1 - j = (h - j) + 1 := by omega
  have he2 : h + 1 - (j + 1) = h - j := by omega
  have hd := hi.dv
  have hl := hi.lt
  have hlt0 := hi.lt
  rw [he, Nat.pow_succ] at hd hl
  have hd2 : 2 ^ (h - j) ∣ b := Nat.dvd_trans (Nat.dvd_mul_right _ 2) hd
  constructor
  · intro hc
    refine ⟨hi.cv.snoc hi.en hd2 (by omega) hc fun k' h1 h2 _ h4 => ?_, by rw [end_snoc, hi.en], by simp; exact hi.ln, by rw [he2]; exact Nat.dvd_add hd2 (Nat.dvd_refl _), hc, by rw [he2]; omega⟩
    have h5 : 2 ^ (h + 1 - j) ≤ 2 ^ k' := Nat.pow_le_pow_right (by decide) (by omega)
    omega
  · intro hc
    exact ⟨hi.cv, hi.en, by have := hi.ln; omega, by rw [he2]; exact hd2, hi.le, by rw [he2]; omega⟩
theorem cvS_I {h t : Nat} (ht : t ≤ 2 ^ h) : ∀ j, j ≤ h + 1 → CvI h t j (cvS h t j).1 (cvS h t j).2
  | 0, _ => cvI_zero ht
  | j + 1, hj => by
    have ih := cvS_I ht j (by omega)
    have st := cvI_step (by omega) ih
    unfold cvS
    by_cases c : (cvS h t j).2 + 2 ^ (h - j) ≤ t
    · rw [if_pos c]; exact st.1 c
    · rw [if_neg c]; exact st.2 c
theorem cvI_top {h t : Nat} {l : List Sp} {b : Nat} (hi : CvI h t (h + 1) l b) : b = t := by
  have h1 := hi.le
  have h2 := hi.lt
  simp only [Nat.sub_self, Nat.pow_zero] at h2
  omega
theorem cov_gre {h t : Nat} (ht : t ≤ 2 ^ h) : Gre h t (cov h t) ∧ endT (cov h t) = t ∧ (cov h t).length ≤ h + 1 := by
  have hi := cvS_I ht (h + 1) (Nat.le_refl _)
  exact ⟨hi.cv, hi.en.trans (cvI_top hi), hi.ln⟩
theorem cov_of {h t : Nat} {l : List Sp} (ht : t ≤ 2 ^ h) (hg : Gre h t l) (he : endT l = t) : l = cov h t :=
  hg.uniq (cov_gre ht).1 he (cov_gre ht).2.1
theorem cvI_end {h t : Nat} {l : List Sp} {b : Nat} (ht : t ≤ 2 ^ h) (hi : CvI h t (h + 1) l b) : l = cov h t :=
  cov_of ht hi.cv (hi.en.trans (cvI_top hi))
theorem pow_le {k h : Nat} (hk : k ≤ h) (hh : h ≤ 10) : 2 ^ k ≤ 1024 := by
  have : 2 ^ k ≤ 2 ^ 10 := Nat.pow_le_pow_right (by decide) (by omega)
  simpa using this
theorem len_end (l : List Sp) : l.length ≤ endT l := by
  induction l with
  | nil => simp [endT]
  | cons s l ih =>
    have : endT (s :: l) = 2 ^ s.1 + endT l := by simp [endT]
    have h1 : 0 < 2 ^ s.1 := Nat.two_pow_pos _
    simp only [List.length_cons]
    omega
/-- a node of the cover ends within what has come -/
theorem cov_at {h t i : Nat} {s : Sp} (hh : h ≤ 10) (ht : t ≤ 2 ^ h) (hs : (cov h t)[i]? = some s) : s.1 ≤ 10 ∧ s.2 ≤ 1024 ∧ 2 ^ s.1 ≤ 1024 ∧ 1 ≤ (s.2 + 1) * 2 ^ s.1 ∧ (s.2 + 1) * 2 ^ s.1 ≤ t ∧ t ≤ 1024 ∧ (s.2 + 1) * 2 ^ s.1 = endT ((cov h t).take (i + 1)) := by
  obtain ⟨a1, a2, a3, a4⟩ := (cov_gre ht).1 i s hs
  have hp : 0 < 2 ^ s.1 := Nat.two_pow_pos _
  have h4 : t ≤ 1024 := Nat.le_trans ht (pow_le (Nat.le_refl _) hh)
  have e : (s.2 + 1) * 2 ^ s.1 = s.2 * 2 ^ s.1 + 2 ^ s.1 := by rw [Nat.add_mul, Nat.one_mul]
  have h5 : s.2 * 1 ≤ s.2 * 2 ^ s.1 := Nat.mul_le_mul_left _ hp
  refine ⟨by omega, by omega, pow_le a2 hh, by omega, by omega, h4, ?_⟩
  rw [end_take_succ hs, e, a1]
end Go.Proofs.Ytedfdbcoinfjaaa.Ds

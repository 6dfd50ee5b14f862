import Derived.Test.YtidfkencjdjkbaaGreatDoorQn02
/-
  CHAPTER 15's MATHEMATICS (4): what is read can be said.
-/
namespace Go.Proofs.YtidfkencjdjkbaaGreatDoor
namespace Sp

theorem tk_inv {t : By} {ps r : List Pc} {u : Unit} (h : tk t ps = .ok (u, r)) : hd ps = t ∧ r = ps.tail := by
  unfold tk at h
  split at h
  · rename_i c
    simp only [Except.ok.injEq, Prod.mk.injEq] at h
    exact ⟨c, h.2.symm⟩
  · cases h
theorem numP_say {ps r : List Pc} {n : Int} (h : numP ps = .ok (n, r)) : 0 ≤ n ∧ n ≤ 1048576 := by
  unfold numP at h
  split at h
  · split at h
    · simp only [Except.ok.injEq, Prod.mk.injEq] at h
      omega
    · cases h
  · cases h
theorem sgnP_say {ps r : List Pc} {n : Int} (h : sgnP ps = .ok (n, r)) : Rng n := by
  unfold sgnP at h
  split at h
  · split at h
    · cases h
    · split at h
      · rename_i e
        simp only [Except.ok.injEq, Prod.mk.injEq] at h
        have := numP_say e
        exact ⟨by omega, by omega⟩
      · cases h
  · have := numP_say h
    exact ⟨by omega, by omega⟩
theorem spnP_say {ps r : List Pc} {a : Int × Int} (h : spnP ps = .ok (a, r)) : Rng a.1 ∧ Rng a.2 := by
  unfold spnP at h
  split at h
  · cases h
  · rename_i e1
    split at h
    · cases h
    · split at h
      · cases h
      · rename_i e2
        simp only [Except.ok.injEq, Prod.mk.injEq] at h
        obtain ⟨rfl, _⟩ := h
        exact ⟨sgnP_say e1, sgnP_say e2⟩
theorem nmP_say {ps r : List Pc} {c : By} (h : nmP ps = .ok (c, r)) : nmd c = true := by
  unfold nmP at h
  split at h
  · rename_i c
    simp only [Except.ok.injEq, Prod.mk.injEq] at h
    rw [← h.1]; exact c
  · cases h
theorem dng_le (s : By) : dng s ≤ 6 := by
  unfold dng
  split
  · rename_i h
    have := List.idxOf_lt_length_iff.2 h
    have : sigs.length = 6 := rfl
    omega
  · omega
theorem tstP_say {ps r : List Pc} {t : Tst} (h : tstP ps = .ok (t, r)) : TOk t := by
  unfold tstP at h
  split at h
  · cases h
  · rename_i c0 r0 e1
    split at h
    · cases h
    · rename_i e0
      split at h
      · cases h
      · rename_i e2
        simp only [Except.ok.injEq, Prod.mk.injEq] at h
        obtain ⟨rfl, _⟩ := h
        have := dng_le (hd r0)
        exact ⟨nmP_say e1, by simp only; omega, by simp only; omega, sgnP_say e2⟩
theorem andL_say : ∀ (k : Nat) (l : List Tst) (ps r : List Pc) (l' : List Tst), andL k l ps = .ok (l', r) → l.length + k ≤ 64 → (∀ t ∈ l, TOk t) → WOk l'
  | 0, l, ps, r, l', h, hk, hl => by
    unfold andL at h
    split at h
    · cases h
    · simp only [Except.ok.injEq, Prod.mk.injEq] at h
      obtain ⟨rfl, _⟩ := h
      exact ⟨by omega, hl⟩
  | k + 1, l, ps, r, l', h, hk, hl => by
    unfold andL at h
    split at h
    · simp only at h
      split at h
      · cases h
      · rename_i t r0 e1
        refine andL_say k (l ++ [t]) _ r l' h (by rw [List.length_append, List.length_singleton]; omega) (fun x hx => ?_)
        simp only [List.mem_append, List.mem_singleton] at hx
        rcases hx with hx | rfl
        · exact hl x hx
        · exact tstP_say e1
    · simp only [Except.ok.injEq, Prod.mk.injEq] at h
      obtain ⟨rfl, _⟩ := h
      exact ⟨by omega, hl⟩
theorem whrP_say {ps r : List Pc} {l : List Tst} (h : whrP ps = .ok (l, r)) : WOk l := by
  unfold whrP at h
  split at h
  · split at h
    · cases h
    · rename_i t _ e1
      exact andL_say 63 [t] _ r l h (by simp) (fun x hx => by simp at hx; subst hx; exact tstP_say e1)
  · simp only [Except.ok.injEq, Prod.mk.injEq] at h
    obtain ⟨rfl, _⟩ := h
    exact ⟨by simp, by simp⟩
def SayP (p : List Pc → PR Qu) : Prop := ∀ ps a r, p ps = .ok (a, r) → Say a
theorem brkP_say {q : List Pc → PR Qu} (hq : SayP q) : SayP (brkP q) := by
  intro ps a r h
  unfold brkP at h
  split at h
  · cases h
  · split at h
    · cases h
    · rename_i e
      split at h
      · cases h
      · simp only [Except.ok.injEq, Prod.mk.injEq] at h
        obtain ⟨rfl, _⟩ := h
        exact hq _ _ _ e
theorem bthP_say {q : List Pc → PR Qu} (hq : SayP q) {ps r : List Pc} {a : Qu × Qu} (h : bthP q ps = .ok (a, r)) : Say a.1 ∧ Say a.2 := by
  unfold bthP at h
  split at h
  · cases h
  · split at h
    · cases h
    · rename_i e1
      split at h
      · cases h
      · split at h
        · cases h
        · rename_i e2
          split at h
          · cases h
          · simp only [Except.ok.injEq, Prod.mk.injEq] at h
            obtain ⟨rfl, _⟩ := h
            exact ⟨hq _ _ _ e1, hq _ _ _ e2⟩
theorem thgP_say {q : List Pc → PR Qu} (hq : SayP q) : SayP (thgP q) := by
  intro ps a r h
  unfold thgP at h
  split at h
  · exact brkP_say hq _ _ _ h
  split at h
  · split at h
    · cases h
    · rename_i e
      simp only [Except.ok.injEq, Prod.mk.injEq] at h
      obtain ⟨rfl, _⟩ := h
      exact .inl ⟨rfl, rfl, rfl, rfl, rfl, whrP_say e, rfl, rfl⟩
  split at h
  · split at h
    · cases h
    · rename_i e1
      split at h
      · cases h
      · rename_i e
        simp only [Except.ok.injEq, Prod.mk.injEq] at h
        obtain ⟨rfl, _⟩ := h
        exact .inr (.inr (.inl ⟨rfl, nmP_say e1, rfl, rfl, rfl, whrP_say e, rfl, rfl⟩))
  split at h
  · split at h
    · cases h
    · rename_i e1
      split at h
      · cases h
      · split at h
        · cases h
        · rename_i e2
          split at h
          · cases h
          · rename_i e
            simp only [Except.ok.injEq, Prod.mk.injEq] at h
            obtain ⟨rfl, _⟩ := h
            exact .inr (.inl ⟨rfl, nmP_say e1, (spnP_say e2).1, (spnP_say e2).2, rfl, whrP_say e, rfl, rfl⟩)
  split at h
  · split at h
    · cases h
    · rename_i e
      simp only [Except.ok.injEq, Prod.mk.injEq] at h
      obtain ⟨rfl, _⟩ := h
      exact .inr (.inr (.inr (.inr (.inr (.inl ⟨rfl, rfl, rfl, rfl, rfl, rfl, brkP_say hq _ _ _ e, rfl⟩)))))
  split at h
  · split at h
    · cases h
    · rename_i e1
      split at h
      · cases h
      · rename_i e
        simp only [Except.ok.injEq, Prod.mk.injEq] at h
        obtain ⟨rfl, _⟩ := h
        exact .inr (.inr (.inr (.inr (.inr (.inr (.inr ⟨rfl, rfl, (spnP_say e1).1, (spnP_say e1).2, rfl, rfl, brkP_say hq _ _ _ e, rfl⟩))))))
  split at h
  · split at h
    · cases h
    · rename_i e
      simp only [Except.ok.injEq, Prod.mk.injEq] at h
      obtain ⟨rfl, _⟩ := h
      have := bthP_say hq e
      exact .inr (.inr (.inr (.inl ⟨.inr (.inr rfl), rfl, rfl, rfl, rfl, rfl, this.1, this.2⟩)))
  · cases h
theorem pikL_say : ∀ (k : Nat) (a : Qu) (ps r : List Pc) (b : Qu), pikL k a ps = .ok (b, r) → Say a → Say b
  | 0, a, ps, r, b, h, ha => by
    unfold pikL at h
    split at h
    · cases h
    · simp only [Except.ok.injEq, Prod.mk.injEq] at h
      obtain ⟨rfl, _⟩ := h
      exact ha
  | k + 1, a, ps, r, b, h, ha => by
    by_cases c : hd ps = sLeft
    · rw [pikL_succ c] at h
      split at h
      · cases h
      · rename_i e1
        split at h
        · cases h
        · exact pikL_say k _ _ _ _ h (.inr (.inr (.inr (.inr (.inr (.inr (.inl ⟨rfl, rfl, numP_say e1, rfl, rfl, rfl, ha, rfl⟩)))))))
    · rw [pikL_end _ _ c] at h
      simp only [Except.ok.injEq, Prod.mk.injEq] at h
      obtain ⟨rfl, _⟩ := h
      exact ha
theorem sumL_say {p : List Pc → PR Qu} (hp : SayP p) : ∀ (k : Nat) (a : Qu) (ps r : List Pc) (b : Qu), sumL p k a ps = .ok (b, r) → Say a → Say b
  | 0, a, ps, r, b, h, ha => by
    unfold sumL at h
    split at h
    · cases h
    · simp only [Except.ok.injEq, Prod.mk.injEq] at h
      obtain ⟨rfl, _⟩ := h
      exact ha
  | k + 1, a, ps, r, b, h, ha => by
    by_cases c : hd ps = sPlus ∨ hd ps = sMinus
    · rw [sumL_succ c] at h
      split at h
      · cases h
      · rename_i e1
        refine sumL_say hp k _ _ _ _ h (.inr (.inr (.inr (.inl ⟨?_, rfl, rfl, rfl, rfl, rfl, ha, hp _ _ _ e1⟩))))
        split <;> simp
    · rw [sumL_end p _ _ (fun e => c (.inl e)) (fun e => c (.inr e))] at h
      simp only [Except.ok.injEq, Prod.mk.injEq] at h
      obtain ⟨rfl, _⟩ := h
      exact ha
theorem pikP_say {q : List Pc → PR Qu} (hq : SayP q) (n : Nat) : SayP (pikP q n) := by
  intro ps a r h
  unfold pikP at h
  split at h
  · cases h
  · rename_i e
    exact pikL_say n _ _ _ _ h (thgP_say hq _ _ _ e)
theorem qusP_say {p : List Pc → PR Qu} (hp : SayP p) (n : Nat) : SayP (qusP p n) := by
  intro ps a r h
  unfold qusP at h
  split at h
  · cases h
  · rename_i e
    exact sumL_say hp n _ _ _ _ h (hp _ _ _ e)
theorem prdP_say : ∀ k : Nat, SayP (prdP k)
  | 0 => fun ps a r h => by cases h
  | k + 1 => fun ps a r h => by
    unfold prdP at h
    split at h
    · split at h
      · cases h
      · rename_i e1
        split at h
        · cases h
        · split at h
          · cases h
          · rename_i e2
            simp only [Except.ok.injEq, Prod.mk.injEq] at h
            obtain ⟨rfl, _⟩ := h
            exact .inr (.inr (.inr (.inr (.inl ⟨rfl, rfl, sgnP_say e1, rfl, rfl, rfl, prdP_say k _ _ _ e2, rfl⟩))))
    · exact pikP_say (qusP_say (prdP_say k) 64) 64 _ _ _ h
/-- WHAT IS READ CAN BE SAID -/
theorem read_say {s : By} {a : Qu} (h : readT s = .ok a) : Say a := by
  unfold readT at h
  split at h
  · cases h
  · split at h
    · cases h
    · split at h
      · cases h
      · rename_i e
        split at h
        · simp only [Except.ok.injEq] at h
          subst h
          exact qusP_say (prdP_say 64) 64 _ _ _ e
        · cases h
end Sp
end Go.Proofs.YtidfkencjdjkbaaGreatDoor

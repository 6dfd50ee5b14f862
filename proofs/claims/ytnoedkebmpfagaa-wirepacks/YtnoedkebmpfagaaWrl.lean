import Derived.Test.YtnoedkebmpfagaaWrk
import Derived.Test.YtnoedkebmpfagaaWup
/-
  The reference's Unpack: the mathematics: from place to place it comes to the same.
-/
namespace Go.Proofs.Ytnoedkebmpfagaa
open Go.RowKit Wc

theorem stS_some {α : Type} {z : α} {f : By → Rd α} {st : Option By} {v : α} {r : By} : stS z f st = (v, some r) ↔ ∃ x, st = some x ∧ f x = (v, r, false) := by
  cases st with
  | none => simp [stS]
  | some x =>
    simp only [stS, Option.some.injEq]
    constructor
    · intro h
      split at h
      · simp at h
      · rename_i hb
        simp only [Prod.mk.injEq, Option.some.injEq] at h
        exact ⟨x, rfl, Prod.ext h.1 (Prod.ext h.2 (by simpa using hb))⟩
    · rintro ⟨y, rfl, h⟩
      rw [h]; simp
theorem nm_less {y r : By} {x : Int} (h : nmR y = (x, r, false)) : r.length < y.length := by
  obtain ⟨rfl, -⟩ := nmR_inv h
  have := cntT_pos (nmN x)
  simp only [nmT, List.length_append]; omega
theorem nsR_glen : ∀ (n : Nat) (y q : By) (l : List Int), nsR n y = (l, q, false) → n + q.length ≤ y.length
  | 0, y, q, l, h => by simp only [nsR, Prod.mk.injEq] at h; rw [h.2.1]; omega
  | n + 1, y, q, l, h => by
    obtain ⟨x, r, h1, h2⟩ := bd_ok.1 h
    obtain ⟨l', h3, -⟩ := mp_ok.1 h2
    have := nsR_glen n r q l' h3
    have := nm_less h1
    omega
theorem nsR_bad {k : Nat} {x : By} (h : (nsR k x).2.2 = true) : ∀ n, k ≤ n → (nsR n x).2.2 = true := by
  intro n hn
  induction n with
  | zero => obtain rfl : k = 0 := by omega
            exact h
  | succ n ih =>
    by_cases c : k = n + 1
    · subst c; exact h
    · rw [nsR_succ]
      simp only [bd, mp, ih (by omega), Bool.true_or]
/-- the values, number by number: what stands before, and where -/
def VsI (st4 : Option By) (n0 rem : Nat) (vs : List Int) (st : Option By) : Prop :=
  match st4 with
  | none => st = none
  | some x => (∃ y, st = some y ∧ nsR vs.length x = (vs, y, false) ∧ vs.length + rem = n0) ∨ (st = none ∧ (nsR n0 x).2.2 = true)
theorem VsI.start (st4 : Option By) (n0 : Nat) : VsI st4 n0 n0 [] st4 := by
  cases st4 with
  | none => rfl
  | some x => exact .inl ⟨x, rfl, rfl, by simp⟩
theorem VsI.step {st4 : Option By} {n0 rem : Nat} {vs : List Int} {y : By} (h : VsI st4 n0 (rem + 1) vs (some y)) (v : Int) (st' : Option By) (hs : stS 0 nmR (some y) = (v, st')) : VsI st4 n0 rem (vs ++ [v]) st' := by
  cases st4 with
  | none => cases h
  | some x =>
    rcases h with ⟨y', e, h1, h2⟩ | ⟨e, -⟩
    · simp only [Option.some.injEq] at e
      subst e
      have hn := nsR_succ vs.length x
      rw [h1] at hn
      simp only [bd, mp, Bool.false_or] at hn
      simp only [stS] at hs
      split at hs
      · rename_i hb
        simp only [Prod.mk.injEq] at hs
        refine .inr ⟨hs.2.symm, nsR_bad (k := vs.length + 1) ?_ n0 (by omega)⟩
        rw [hn]; exact hb
      · rename_i hb
        simp only [Prod.mk.injEq] at hs
        refine .inl ⟨(nmR y).2.1, hs.2.symm, ?_, by simp; omega⟩
        have e2 : (vs ++ [v]).length = vs.length + 1 := by simp
        rw [e2, hn, hs.1]
        have hb' : (nmR y).2.2 = false := by simpa using hb
        rw [hb']
    · cases e
/-- A MESSAGE THAT ASKS -/
theorem ask_iff {c : UInt8} {t1 : By} (hc : c.toNat = 1) {ses p te : By} {nu ru rd lo hi : Int} {s1 s2 s3 s4 s5 s6 s7 s8 : Option By}
    (h1 : stS [] tnR (some t1) = (ses, s1)) (h2 : stS 0 nmR s1 = (nu, s2)) (h3 : stS [] tnR s2 = (p, s3)) (h4 : stS [] tnR s3 = (te, s4)) (h5 : stS 0 nmR s4 = (ru, s5)) (h6 : stS 0 nmR s5 = (rd, s6)) (h7 : stS 0 nmR s6 = (lo, s7)) (h8 : stS 0 nmR s7 = (hi, s8)) :
    (s8 = some [] → msgR (c :: t1) = (⟨1, ses, nu, p, te, ru, rd, lo, hi, 0, [], 0, 0⟩, [], false)) ∧ (s8 ≠ some [] → ¬ ((msgR (c :: t1)).2.2 = false ∧ (msgR (c :: t1)).2.1 = [])) := by
  constructor
  · rintro rfl
    obtain ⟨x7, rfl, e8⟩ := stS_some.1 h8
    obtain ⟨x6, rfl, e7⟩ := stS_some.1 h7
    obtain ⟨x5, rfl, e6⟩ := stS_some.1 h6
    obtain ⟨x4, rfl, e5⟩ := stS_some.1 h5
    obtain ⟨x3, rfl, e4⟩ := stS_some.1 h4
    obtain ⟨x2, rfl, e3⟩ := stS_some.1 h3
    obtain ⟨x1, rfl, e2⟩ := stS_some.1 h2
    obtain ⟨x0, e0, e1⟩ := stS_some.1 h1
    simp only [Option.some.injEq] at e0
    subst e0
    simp only [msgR, nxR, bd, e1, e2, hc, if_true, askR, e3, e4, rtR, mp, e5, e6, e7, e8, msg0]
    rfl
  · intro hne hg
    apply hne
    obtain ⟨m, r, f, hm⟩ : ∃ m r f, msgR (c :: t1) = (m, r, f) := ⟨_, _, _, rfl⟩
    rw [hm] at hg
    obtain ⟨rfl, rfl⟩ := hg
    obtain ⟨c', t', q1, q2⟩ := bd_ok.1 hm
    simp only [nxR, Prod.mk.injEq, and_true] at q1
    obtain ⟨rfl, rfl⟩ := q1
    obtain ⟨s, x1, q3, q4⟩ := bd_ok.1 q2
    obtain ⟨n, x2, q5, q6⟩ := bd_ok.1 q4
    rw [if_pos hc] at q6
    obtain ⟨p', x3, q7, q8⟩ := bd_ok.1 q6
    obtain ⟨x', x4, q9, q10⟩ := bd_ok.1 q8
    obtain ⟨q', x6, q11, q12⟩ := bd_ok.1 q10
    obtain ⟨lo', x7, q13, q14⟩ := bd_ok.1 q12
    obtain ⟨hi', q15, -⟩ := mp_ok.1 q14
    obtain ⟨u', x5, q16, q17⟩ := bd_ok.1 q11
    obtain ⟨d', q18, -⟩ := mp_ok.1 q17
    have g1 := stS_some (z := ([] : By)).2 ⟨_, rfl, q3⟩
    rw [h1] at g1; obtain ⟨-, rfl⟩ := Prod.mk.inj g1
    have g2 := stS_some (z := (0 : Int)).2 ⟨_, rfl, q5⟩
    rw [h2] at g2; obtain ⟨-, rfl⟩ := Prod.mk.inj g2
    have g3 := stS_some (z := ([] : By)).2 ⟨_, rfl, q7⟩
    rw [h3] at g3; obtain ⟨-, rfl⟩ := Prod.mk.inj g3
    have g4 := stS_some (z := ([] : By)).2 ⟨_, rfl, q9⟩
    rw [h4] at g4; obtain ⟨-, rfl⟩ := Prod.mk.inj g4
    have g5 := stS_some (z := (0 : Int)).2 ⟨_, rfl, q16⟩
    rw [h5] at g5; obtain ⟨-, rfl⟩ := Prod.mk.inj g5
    have g6 := stS_some (z := (0 : Int)).2 ⟨_, rfl, q18⟩
    rw [h6] at g6; obtain ⟨-, rfl⟩ := Prod.mk.inj g6
    have g7 := stS_some (z := (0 : Int)).2 ⟨_, rfl, q13⟩
    rw [h7] at g7; obtain ⟨-, rfl⟩ := Prod.mk.inj g7
    have g8 := stS_some (z := (0 : Int)).2 ⟨_, rfl, q15⟩
    rw [h8] at g8; obtain ⟨-, rfl⟩ := Prod.mk.inj g8
    rfl
/-- A MESSAGE THAT REPLIES -/
theorem rpl_iff {c : UInt8} {t1 : By} (hc : c.toNat = 2) {ses : By} {nu er lu ld : Int} {n0 : Nat} {vs : List Int} {s1 s2 s3 s4 s5 s6 s7 : Option By}
    (h1 : stS [] tnR (some t1) = (ses, s1)) (h2 : stS 0 nmR s1 = (nu, s2)) (h3 : stS 0 nmR s2 = (er, s3)) (h4 : stS 0 ctR s3 = (n0, s4)) (rem : Nat) (h5 : VsI s4 n0 rem vs s5) (hx : rem = 0 ∨ s5 = none) (h6 : stS 0 nmR s5 = (lu, s6)) (h7 : stS 0 nmR s6 = (ld, s7)) :
    (s7 = some [] → msgR (c :: t1) = (⟨2, ses, nu, [], [], 0, 0, 0, 0, er, vs, lu, ld⟩, [], false)) ∧ (s7 ≠ some [] → ¬ ((msgR (c :: t1)).2.2 = false ∧ (msgR (c :: t1)).2.1 = [])) := by
  have hc1 : ¬ c.toNat = 1 := by omega
  constructor
  · rintro rfl
    obtain ⟨x6, rfl, e7⟩ := stS_some.1 h7
    obtain ⟨x5, rfl, e6⟩ := stS_some.1 h6
    have hr0 : rem = 0 := by rcases hx with h | h; exact h; cases h
    cases s4 with
    | none => cases h5
    | some x4 =>
      rcases h5 with ⟨y, e, hns, hl⟩ | ⟨e, -⟩
      · simp only [Option.some.injEq] at e
        subst e
        obtain ⟨x3, rfl, e4⟩ := stS_some.1 h4
        obtain ⟨x2, rfl, e3⟩ := stS_some.1 h3
        obtain ⟨x1, rfl, e2⟩ := stS_some.1 h2
        obtain ⟨x0, e0, e1⟩ := stS_some.1 h1
        simp only [Option.some.injEq] at e0
        subst e0
        have hn0 : vs.length = n0 := by omega
        rw [hn0] at hns
        have hgl := nsR_glen _ _ _ _ hns
        have e5 : vsR x3 = (vs, x5, false) := by
          simp only [vsR, bd, e4]
          rw [if_pos (by omega), hns]
          rfl
        simp only [msgR, nxR, bd, e1, e2, hc, if_true, rplR, e3, e5, rtR, mp, e6, e7, msg0]
        rfl
      · cases e
  · intro hne hg
    apply hne
    obtain ⟨m, r, f, hm⟩ : ∃ m r f, msgR (c :: t1) = (m, r, f) := ⟨_, _, _, rfl⟩
    rw [hm] at hg
    obtain ⟨rfl, rfl⟩ := hg
    obtain ⟨c', t', q1, q2⟩ := bd_ok.1 hm
    simp only [nxR, Prod.mk.injEq, and_true] at q1
    obtain ⟨rfl, rfl⟩ := q1
    obtain ⟨s, x1, q3, q4⟩ := bd_ok.1 q2
    obtain ⟨n, x2, q5, q6⟩ := bd_ok.1 q4
    rw [if_neg hc1, if_pos hc] at q6
    obtain ⟨e', x3, q7, q8⟩ := bd_ok.1 q6
    obtain ⟨l', x5, q9, q10⟩ := bd_ok.1 q8
    obtain ⟨q', q11, -⟩ := mp_ok.1 q10
    obtain ⟨u', x6, q12, q13⟩ := bd_ok.1 q11
    obtain ⟨d', q14, -⟩ := mp_ok.1 q13
    obtain ⟨n', x4, q15, q16⟩ := bd_ok.1 q9
    have g1 := stS_some (z := ([] : By)).2 ⟨_, rfl, q3⟩
    rw [h1] at g1; obtain ⟨-, rfl⟩ := Prod.mk.inj g1
    have g2 := stS_some (z := (0 : Int)).2 ⟨_, rfl, q5⟩
    rw [h2] at g2; obtain ⟨-, rfl⟩ := Prod.mk.inj g2
    have g3 := stS_some (z := (0 : Int)).2 ⟨_, rfl, q7⟩
    rw [h3] at g3; obtain ⟨-, rfl⟩ := Prod.mk.inj g3
    have g4 := stS_some (z := (0 : Nat)).2 ⟨_, rfl, q15⟩
    rw [h4] at g4; obtain ⟨rfl, rfl⟩ := Prod.mk.inj g4
    split at q16
    · have g5 : s5 = some x5 := by
        rcases h5 with ⟨y, e, hns, hl⟩ | ⟨e, hb⟩
        · have hr0 : rem = 0 := by rcases hx with h | h; exact h; rw [h] at e; cases e
          have hn0 : vs.length = n0 := by omega
          rw [hn0, q16] at hns
          simp only [Prod.mk.injEq, and_true] at hns
          rw [e, hns.2]
        · rw [q16] at hb; cases hb
      subst g5
      have g6 := stS_some (z := (0 : Int)).2 ⟨_, rfl, q12⟩
      rw [h6] at g6; obtain ⟨-, rfl⟩ := Prod.mk.inj g6
      have g7 := stS_some (z := (0 : Int)).2 ⟨_, rfl, q14⟩
      rw [h7] at g7; obtain ⟨-, rfl⟩ := Prod.mk.inj g7
      rfl
    · simp at q16
end Go.Proofs.Ytnoedkebmpfagaa

import Derived.Test.YtidfkencjdjkbaaDoorQu41
/-
  What Print and Read say of each other, as the laws ask it; alive.
-/
namespace Go.Proofs.YtidfkencjdjkbaaDoor
open Go.RowKit Sp

/-! ### what is wrong has a number -/
def EOk (e : Int × Nat) : Prop := e.1 = 2 ∨ e.1 = 3 ∨ e.1 = 4
def ErrP {α : Type} (p : List Pc → PR α) : Prop := ∀ ps e, p ps = .error e → EOk e
theorem tk_err (t : By) : ErrP (tk t) := by
  intro ps e h
  unfold tk at h
  split at h
  · cases h
  · cases h; exact .inl rfl
theorem nmP_err : ErrP nmP := by
  intro ps e h
  unfold nmP at h
  split at h
  · cases h
  · cases h; exact .inl rfl
theorem numP_err : ErrP numP := by
  intro ps e h
  unfold numP at h
  split at h
  · split at h
    · cases h
    · cases h; exact .inr (.inl rfl)
  · cases h; exact .inl rfl
theorem sgnP_err : ErrP sgnP := by
  intro ps e h
  unfold sgnP at h
  split at h
  · split at h
    · cases h; exact .inl rfl
    · split at h
      · cases h
      · rename_i hn
        cases h
        exact numP_err _ _ hn
  · exact numP_err _ _ h
theorem spnP_err : ErrP spnP := by
  intro ps e h
  unfold spnP at h
  split at h
  · rename_i h1; cases h; exact sgnP_err _ _ h1
  · split at h
    · rename_i h1; cases h; exact tk_err _ _ _ h1
    · split at h
      · rename_i h1; cases h; exact sgnP_err _ _ h1
      · cases h
theorem tstP_err : ErrP tstP := by
  intro ps e h
  unfold tstP at h
  split at h
  · rename_i h1; cases h; exact nmP_err _ _ h1
  · split at h
    · cases h; exact .inl rfl
    · split at h
      · rename_i h1; cases h; exact sgnP_err _ _ h1
      · cases h
theorem andL_err : ∀ (k : Nat) (l : List Tst), ErrP (andL k l)
  | 0, l => by
    intro ps e h
    unfold andL at h
    split at h
    · cases h; exact .inr (.inr rfl)
    · cases h
  | k + 1, l => by
    intro ps e h
    unfold andL at h
    split at h
    · simp only at h
      split at h
      · rename_i h1; cases h; exact tstP_err _ _ h1
      · exact andL_err k _ _ _ h
    · cases h
theorem whrP_err : ErrP whrP := by
  intro ps e h
  unfold whrP at h
  split at h
  · split at h
    · rename_i h1; cases h; exact tstP_err _ _ h1
    · exact andL_err _ _ _ _ h
  · cases h
theorem brkP_err {q : List Pc → PR Qu} (hq : ErrP q) : ErrP (brkP q) := by
  intro ps e h
  unfold brkP at h
  split at h
  · rename_i h1; cases h; exact tk_err _ _ _ h1
  · split at h
    · rename_i h1; cases h; exact hq _ _ h1
    · split at h
      · rename_i h1; cases h; exact tk_err _ _ _ h1
      · cases h
theorem bthP_err {q : List Pc → PR Qu} (hq : ErrP q) : ErrP (bthP q) := by
  intro ps e h
  unfold bthP at h
  split at h
  · rename_i h1; cases h; exact tk_err _ _ _ h1
  · split at h
    · rename_i h1; cases h; exact hq _ _ h1
    · split at h
      · rename_i h1; cases h; exact tk_err _ _ _ h1
      · split at h
        · rename_i h1; cases h; exact hq _ _ h1
        · split at h
          · rename_i h1; cases h; exact tk_err _ _ _ h1
          · cases h
theorem thgP_err {q : List Pc → PR Qu} (hq : ErrP q) : ErrP (thgP q) := by
  intro ps e h
  unfold thgP at h
  split at h
  · exact brkP_err hq _ _ h
  split at h
  · split at h
    · rename_i h1; cases h; exact whrP_err _ _ h1
    · cases h
  split at h
  · split at h
    · rename_i h1; cases h; exact nmP_err _ _ h1
    · split at h
      · rename_i h1; cases h; exact whrP_err _ _ h1
      · cases h
  split at h
  · split at h
    · rename_i h1; cases h; exact nmP_err _ _ h1
    · split at h
      · rename_i h1; cases h; exact tk_err _ _ _ h1
      · split at h
        · rename_i h1; cases h; exact spnP_err _ _ h1
        · split at h
          · rename_i h1; cases h; exact whrP_err _ _ h1
          · cases h
  split at h
  · split at h
    · rename_i h1; cases h; exact brkP_err hq _ _ h1
    · cases h
  split at h
  · split at h
    · rename_i h1; cases h; exact spnP_err _ _ h1
    · split at h
      · rename_i h1; cases h; exact brkP_err hq _ _ h1
      · cases h
  split at h
  · split at h
    · rename_i h1; cases h; exact bthP_err hq _ _ h1
    · cases h
  · cases h; exact .inl rfl
theorem pikL_err : ∀ (k : Nat) (a : Qu), ErrP (pikL k a)
  | 0, a => by
    intro ps e h
    unfold pikL at h
    split at h
    · cases h; exact .inr (.inr rfl)
    · cases h
  | k + 1, a => by
    intro ps e h
    unfold pikL at h
    split at h
    · simp only at h
      split at h
      · rename_i h1; cases h; exact numP_err _ _ h1
      · split at h
        · rename_i h1; cases h; exact tk_err _ _ _ h1
        · exact pikL_err k _ _ _ h
    · cases h
theorem sumL_err {p : List Pc → PR Qu} (hp : ErrP p) : ∀ (k : Nat) (a : Qu), ErrP (sumL p k a)
  | 0, a => by
    intro ps e h
    unfold sumL at h
    split at h
    · cases h; exact .inr (.inr rfl)
    · cases h
  | k + 1, a => by
    intro ps e h
    unfold sumL at h
    split at h
    · simp only at h
      split at h
      · rename_i h1; cases h; exact hp _ _ h1
      · exact sumL_err hp k _ _ _ h
    · cases h
theorem pikP_err {q : List Pc → PR Qu} (hq : ErrP q) (n : Nat) : ErrP (pikP q n) := by
  intro ps e h
  unfold pikP at h
  split at h
  · rename_i h1; cases h; exact thgP_err hq _ _ h1
  · exact pikL_err _ _ _ _ h
theorem qusP_err {p : List Pc → PR Qu} (hp : ErrP p) (n : Nat) : ErrP (qusP p n) := by
  intro ps e h
  unfold qusP at h
  split at h
  · rename_i h1; cases h; exact hp _ _ h1
  · exact sumL_err hp _ _ _ _ h
theorem prdP_err : ∀ k : Nat, ErrP (prdP k)
  | 0 => by
    intro ps e h
    cases h
    exact .inr (.inr rfl)
  | k + 1 => by
    intro ps e h
    unfold prdP at h
    split at h
    · split at h
      · rename_i h1; cases h; exact sgnP_err _ _ h1
      · split at h
        · rename_i h1; cases h; exact tk_err _ _ _ h1
        · split at h
          · rename_i h1; cases h; exact prdP_err k _ _ h1
          · cases h
    · exact pikP_err (qusP_err (prdP_err k) 64) 64 _ _ h
theorem read_err {s : By} {c : Int} {x : Nat} (h : readT s = .error (c, x)) : c = 2 ∨ c = 3 ∨ c = 4 := by
  unfold readT at h
  split at h
  · cases h; exact .inr (.inr rfl)
  · split at h
    · cases h; exact .inl rfl
    · split at h
      · rename_i h1
        cases h
        exact qusP_err (prdP_err 64) 64 _ _ h1
      · split at h
        · cases h
        · cases h; exact .inl rfl
/-! ### what can be said may be said -/
theorem tsB_of {t : Tst} (h : TOk t) : tsB t = true := by
  obtain ⟨h1, h2, h3, h4, h5⟩ := h
  simp [tsB, h1]
  omega
theorem all_of {l : List Tst} (h : WOk l) : l.all tsB = true := List.all_eq_true.2 fun t ht => tsB_of (h.2 t ht)
theorem ck_of_say : ∀ q : Qu, Say q → ckB q = true
  | .none, h => h.elim
  | .node k c l h' wh n x y, hs => by
    rcases hs with ⟨rfl, rfl, rfl, rfl, rfl, hwh, rfl, rfl⟩ | ⟨rfl, hc, hlo, hhi, rfl, hwh, rfl, rfl⟩ | ⟨rfl, hc, rfl, rfl, rfl, hwh, rfl, rfl⟩ | ⟨hk, rfl, rfl, rfl, rfl, rfl, hx, hy⟩ | ⟨rfl, rfl, hlo, rfl, rfl, rfl, hx, rfl⟩ | ⟨rfl, rfl, rfl, rfl, rfl, rfl, hx, rfl⟩ | ⟨rfl, rfl, hlo, rfl, rfl, rfl, hx, rfl⟩ | ⟨rfl, rfl, hlo, hhi, rfl, rfl, hx, rfl⟩
    · have := hwh.1
      simp [ckB, shpT, all_of hwh]
      omega
    · have := hwh.1
      obtain ⟨h1, h2⟩ := hlo
      obtain ⟨h3, h4⟩ := hhi
      simp [ckB, shpT, all_of hwh, hc]
      omega
    · have := hwh.1
      simp [ckB, shpT, all_of hwh, hc]
      omega
    · have hX := ck_of_say x hx
      have hY := ck_of_say y hy
      rcases hk with rfl | rfl | rfl <;> simp [ckB, shpT, hX, hY]
    · have hX := ck_of_say x hx
      obtain ⟨h1, h2⟩ := hlo
      simp [ckB, shpT, hX]
      omega
    · simp [ckB, shpT, ck_of_say x hx]
    · have hX := ck_of_say x hx
      obtain ⟨h1, h2⟩ := hlo
      simp [ckB, shpT, hX]
      omega
    · have hX := ck_of_say x hx
      obtain ⟨h1, h2⟩ := hlo
      obtain ⟨h3, h4⟩ := hhi
      simp [ckB, shpT, hX]
      omega
/-- what is printed is read -/
theorem prR_ok {w : World} {B : Nat} {q : Qu} {cs : List Value} {t : By} (hI : QI w B q cs) (h : prR q = (t, 0)) : Say q ∧ readT t = .ok q ∧ t.length ≤ 65536 := by
  unfold prR at h
  cases hp : prtT q with
  | error c =>
    rw [hp] at h
    simp only [Prod.mk.injEq] at h
    obtain ⟨_, rfl⟩ := h
    unfold prtT at hp
    repeat' split at hp
    all_goals cases hp
  | ok s =>
    rw [hp] at h
    simp only [Prod.mk.injEq] at h
    obtain ⟨rfl, _⟩ := h
    unfold prtT at hp
    by_cases h1 : ckB q = true
    · rw [if_pos h1] at hp
      by_cases h2 : (txtT q).length ≤ 65536
      · rw [if_pos h2] at hp
        have hS := say_of_ck q cs hI h1
        by_cases h3 : mchB (txtT q) = true
        · rw [if_pos h3] at hp; cases hp
        · rw [if_neg h3] at hp
          injection hp with hp
          subst hp
          refine ⟨hS, ?_, h2⟩
          rcases read_said hS h2 with hr | ⟨n, hr⟩
          · exact hr
          · refine absurd ?_ h3
            rw [mchB, hr]
            rfl
      · rw [if_neg h2] at hp; cases hp
    · rw [if_neg h1] at hp; cases hp
/-- what was read is printed, or it is too much -/
theorem prR_say {q : Qu} {t : By} {er : Int} (hS : Say q) (h : prR q = (t, er)) : er = 0 ∨ er = 4 := by
  unfold prR at h
  cases hp : prtT q with
  | ok s => rw [hp] at h; simp only [Prod.mk.injEq] at h; exact .inl h.2.symm
  | error c =>
    rw [hp] at h
    simp only [Prod.mk.injEq] at h
    unfold prtT at hp
    rw [if_pos (ck_of_say q hS)] at hp
    repeat' split at hp
    all_goals cases hp
    all_goals exact .inr h.2.symm
theorem alive_read : readT wCount = .ok (.node 1 [] 0 0 [] 0 .none .none) := by kernel_rfl
/-- what Read answers, in letters -/
def RdA (t : By) (q : Qu) (er at' : Int) : Prop := match readT t with
  | .ok a => q = a ∧ er = 0 ∧ at' = 0
  | .error (c, x) => q = Qz ∧ er = c ∧ at' = (x : Int)
theorem read_let (t : By) (htl : t.length ≤ 9223372036854775807) (w : World) (hG : Glo w) : Calls Tryd.prog 5 #[.string (tx t)] w fun e w' => (∃ (q : Qu) (er at' : Int) (k : Int) (c : By) (lo hi : Int) (wa : Option Addr) (wn wc : Nat) (ka : Option Addr) (kn kc : Nat), e = .returned (.tuple #[.agg #[.int .i64 k, .string (tx c), .int .i64 lo, .int .i64 hi, .slice wa wn wc, .slice ka kn kc], .agg #[.int .i64 er, .int .i64 at']]) ∧ RdA t q er at' ∧ ∀ W, Kp w.heap.size w' W → QI W W.heap.size q [.int .i64 k, .string (tx c), .int .i64 lo, .int .i64 hi, .slice wa wn wc, .slice ka kn kc]) ∧ Below w.heap.size w w' := by
  refine (read_any t htl w hG).mono ?_
  rintro e w' ⟨he, hb⟩
  refine ⟨?_, hb⟩
  cases hr : readT t with
  | ok a =>
    rw [hr] at he
    obtain ⟨cs, rfl, hq⟩ := he
    obtain ⟨k, c, l, hh, a4, n4, c4, a5, n5, c5, rfl⟩ := hq.six
    exact ⟨a, 0, 0, k, c, l, hh, a4, n4, c4, a5, n5, c5, rfl, by rw [RdA, hr]; exact ⟨rfl, rfl, rfl⟩, fun W hW => qi_of a (QV.kp hW a hq) (read_say hr)⟩
  | error x =>
    obtain ⟨c, x⟩ := x
    rw [hr] at he
    exact ⟨Qz, c, x, 0, [], 0, 0, none, 0, 0, none, 0, 0, he, by rw [RdA, hr]; exact ⟨rfl, rfl, rfl⟩, fun W _ => qi_zero W _⟩
theorem QI.kind {w : World} {B : Nat} {q : Qu} {k : Int} {r : List Value} (h : QI w B q (.int .i64 k :: r)) : ∃ c lo hi wh n x y, q = .node k c lo hi wh n x y := by
  cases q with
  | none => exact h.elim
  | node k2 c2 lo2 hi2 wh2 n2 x2 y2 =>
    obtain ⟨wv, ka, kc, e, _⟩ := h
    simp only [List.cons.injEq, Value.int.injEq, true_and] at e
    rw [e.1]
    exact ⟨_, _, _, _, _, _, _, rfl⟩
set_option maxHeartbeats 1000000 in
set_option maxRecDepth 100000 in
theorem alive_any (w : World) (hG : Glo w) : Calls Tryd.prog 8 #[] w fun e w' => e = .returned (.bool true) ∧ Below w.heap.size w w' := by
  have k2 := read_let wCount (by decide) w hG
  go_enter Tryd.func8, Tryd.ntmps8
  go_wp2_with fail
  refine k2.mono ?_
  rintro e w1 ⟨⟨q, er, at', k, c, lo, hi, wa, wn, wc, ka, kn, kc, rfl, hrd, hq⟩, hb1⟩
  have HB1 : Hid (Below w.heap.size w w1) := hb1
  rw [RdA, alive_read] at hrd
  obtain ⟨rfl, her, hat⟩ := hrd
  obtain ⟨c', lo', hi', wh', n', x', y', he⟩ := (hq w1 (Kp.bl (Below.refl _ _))).kind
  simp only [Qu.node.injEq] at he
  have d1 : (er == 0) = true := by simpa using her
  have d2 : (k == 1) = true := by simpa using he.1.symm
  clear k2 hb1 hq he her hat
  obtain ⟨W2, hW2⟩ : ∃ W2, (w1.alloc (.cells #[.int .i64 k, .string (tx c), .int .i64 lo, .int .i64 hi, .slice wa wn wc, .slice ka kn kc] 25)).alloc (.cells #[.int .i64 er, .int .i64 at'] 28) = W2 := ⟨_, rfl⟩
  have HB2 : Hid (Below w.heap.size w W2) := hW2 ▸ bal (bal HB1.out _) _
  have g0 : W2.cell? ⟨w1.heap.size, 0, none⟩ = some (.int .i64 k) := hW2 ▸ (((Bx.new w1 [.int .i64 k, .string (tx c), .int .i64 lo, .int .i64 hi, .slice wa wn wc, .slice ka kn kc] 25 rfl).at (ba _ _)) 0 _ rfl).c
  have f0 : W2.cell? ⟨w1.heap.size + 1, 0, none⟩ = some (.int .i64 er) := hW2 ▸ ((Bx.new (w1.alloc (.cells #[.int .i64 k, .string (tx c), .int .i64 lo, .int .i64 hi, .slice wa wn wc, .slice ka kn kc] 25)) [.int .i64 er, .int .i64 at'] 28 (by simp)) 0 _ rfl).c
  go_wp2
  clear hW2
  go_ret
  exact ⟨rfl, HB2.out⟩
end Go.Proofs.YtidfkencjdjkbaaDoor

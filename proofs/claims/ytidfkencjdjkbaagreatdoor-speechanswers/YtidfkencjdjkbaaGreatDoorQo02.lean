import Derived.Test.YtidfkencjdjkbaaGreatDoorQo01
/-
  CHAPTER 15's MATHEMATICS (3): WHAT IS SAID IS HEARD, in pieces: by induction on the question.
-/
namespace Go.Proofs.YtidfkencjdjkbaaGreatDoor
namespace Sp
open Go.Lib (decDigits itoa)

theorem ks_ps {a : Qu} (hS : Say a) (h : KS a) (hs : isS a = false) (ht : isT a = false) : PS a := by
  intro _ k q r hq hf
  cases k with
  | zero => exact .inr ⟨_, rfl⟩
  | succ k =>
    rw [prd_pik (by rw [hq]; exact fst_toks hS hs ht)]
    rcases h hs ht k 64 q r hq hf.2.1 hf.2.2 with ⟨m, hm⟩ | he
    · left; rw [hm]; exact pikL_end m a hf.1
    · exact .inr he
theorem ps_qs {a : Qu} (h : PS a) (hs : isS a = false) : QS a := by
  intro k q r hq hf
  unfold qusK qusP
  rcases h hs k q r hq hf with h1 | ⟨n, h1⟩
  · left; exact ⟨64, by rw [h1]⟩
  · right; rw [h1]; exact ⟨n, rfl⟩
theorem vac_ks {a : Qu} (h : isS a = true ∨ isT a = true) : KS a := by
  intro h1 h2
  rcases h with h | h
  · rw [h1] at h; cases h
  · rw [h2] at h; cases h
/-- a thing, then its picks -/
theorem thg_ks {a : Qu} (h : ∀ (k : Nat) (q r : List Pc), q.map (·.1) = toks a → hd r ≠ wWhere → hd r ≠ wAnd → Gd (thgP (qusK k) (q ++ r)) a r) : KS a := by
  intro _ _ k n q r hq h1 h2
  unfold pikP
  rcases h k q r hq h1 h2 with h3 | ⟨m, h3⟩
  · left; exact ⟨n, by rw [h3]⟩
  · right; rw [h3]; exact ⟨m, rfl⟩
theorem sumL_zero {p : List Pc → PR Qu} {a : Qu} {ps : List Pc} (h : hd ps = sPlus ∨ hd ps = sMinus) : sumL p 0 a ps = .error (4, hat ps) := by
  unfold sumL; rw [if_pos h]
theorem sumL_succ {p : List Pc → PR Qu} {m : Nat} {a : Qu} {ps : List Pc} (h : hd ps = sPlus ∨ hd ps = sMinus) : sumL p (m + 1) a ps = match p ps.tail with
    | .error e => .error e
    | .ok (b, r) => sumL p m (.node (if hd ps = sPlus then 4 else 5) [] 0 0 [] 2 a b) r := by
  rw [sumL, if_pos h] <;> rfl
theorem pikL_zero {a : Qu} {ps : List Pc} (h : hd ps = sLeft) : pikL 0 a ps = .error (4, hat ps) := by
  unfold pikL; rw [if_pos h]
theorem pikL_succ {m : Nat} {a : Qu} {ps : List Pc} (h : hd ps = sLeft) : pikL (m + 1) a ps = match numP ps.tail with
    | .error e => .error e
    | .ok (n, r) => match tk sRight r with
      | .error e => .error e
      | .ok (_, r) => pikL m (.node 9 [] n 0 [] 1 a .none) r := by
  rw [pikL, if_pos h] <;> rfl
theorem sum_qs {k : Int} {x y : Qu} {t : By} (hk : (k = 4 ∧ t = sPlus) ∨ (k = 5 ∧ t = sMinus)) (hx : QS x) (hy : QS y) (py : PS y) (ht : toks (.node k [] 0 0 [] 2 x y) = toks x ++ t :: brc (isS y) (toks y)) : QS (.node k [] 0 0 [] 2 x y) := by
  intro n q r hq hf
  rw [ht, List.map_eq_append_iff] at hq
  obtain ⟨q1, q2, rfl, hq1, hq2⟩ := hq
  rw [List.map_eq_cons_iff] at hq2
  obtain ⟨p, q3, rfl, hp, hq3⟩ := hq2
  have hf1 : Fol (p :: q3 ++ r) := fol_of hp (by rcases hk with ⟨_, rfl⟩ | ⟨_, rfl⟩ <;> simp)
  rw [List.append_assoc]
  rcases hx n q1 (p :: q3 ++ r) hq1 hf1 with ⟨m, hm⟩ | he
  · rw [hm]
    have e1 : hd (p :: q3 ++ r) = t := hp
    have e2 : hd (p :: q3 ++ r) = sPlus ∨ hd (p :: q3 ++ r) = sMinus := by rw [e1]; rcases hk with ⟨_, rfl⟩ | ⟨_, rfl⟩ <;> simp
    cases m with
    | zero => exact .inr ⟨_, sumL_zero e2⟩
    | succ m =>
      rw [sumL_succ e2]
      simp only [List.cons_append, List.tail_cons]
      rcases near_tok hy py (k := n) hq3 hf with h1 | ⟨j, h1⟩
      · rw [h1]
        simp only
        have e3 : (if hd (p :: (q3 ++ r)) = sPlus then (4 : Int) else 5) = k := by
          have : hd (p :: (q3 ++ r)) = t := hp
          rw [this]
          rcases hk with ⟨rfl, rfl⟩ | ⟨rfl, rfl⟩ <;> decide
        rw [e3]
        exact .inl ⟨m, rfl⟩
      · rw [h1]
        exact .inr ⟨j, rfl⟩
  · exact .inr he
theorem pik_ks {lo : Int} {x : Qu} (h0 : 0 ≤ lo) (h1 : lo ≤ 1048576) (hx : QS x) (kx : KS x) : KS (.node 9 [] lo 0 [] 1 x .none) := by
  intro _ _ k n q r hq hw ha
  have ht : toks (.node 9 [] lo 0 [] 1 x .none) = brc (isS x || isT x) (toks x) ++ [sLeft, decDigits lo.toNat, sRight] := rfl
  rw [ht, List.map_eq_append_iff] at hq
  obtain ⟨q1, q2, rfl, hq1, hq2⟩ := hq
  simp only [List.map_eq_cons_iff, List.map_eq_nil_iff] at hq2
  obtain ⟨p1, _, rfl, hp1, p2, _, rfl, hp2, p3, _, rfl, hp3, rfl⟩ := hq2
  rw [List.append_assoc]
  have hr : hd ([p1, p2, p3] ++ r) = sLeft := hp1
  have key : (∃ m, pikP (qusK k) n (q1 ++ ([p1, p2, p3] ++ r)) = pikL m x ([p1, p2, p3] ++ r)) ∨ Err4 (pikP (qusK k) n (q1 ++ ([p1, p2, p3] ++ r))) := by
    by_cases hb : (isS x || isT x) = true
    · rw [hb] at hq1
      have hh : hd (q1 ++ ([p1, p2, p3] ++ r)) = sOpen := by
        simp only [brc, if_pos, List.map_eq_cons_iff] at hq1
        obtain ⟨p, q4, rfl, hp, _⟩ := hq1
        exact hp
      unfold pikP thgP
      rw [if_pos hh]
      rcases brk_tok hx (k := k) (q := q1) (r := [p1, p2, p3] ++ r) (by simpa [brc] using hq1) with h3 | ⟨m, h3⟩
      · rw [h3]; exact .inl ⟨n, rfl⟩
      · rw [h3]; exact .inr ⟨m, rfl⟩
    · have hb' : (isS x || isT x) = false := by simpa using hb
      rw [hb'] at hq1
      rw [Bool.or_eq_false_iff] at hb'
      exact kx hb'.1 hb'.2 k n q1 _ hq1 (by rw [hr]; decide) (by rw [hr]; decide)
  rcases key with ⟨m, hm⟩ | he
  · rw [hm]
    cases m with
    | zero => exact .inr ⟨_, pikL_zero hr⟩
    | succ m =>
      left
      refine ⟨m, ?_⟩
      rw [pikL_succ hr]
      simp only [List.cons_append, List.nil_append, List.tail_cons]
      rw [numP_tok hp2 (by omega)]
      simp only
      rw [tk_ok hp3]
      simp only
      rw [show ((lo.toNat : Nat) : Int) = lo by omega]
  · exact .inr he
theorem tms_ps {lo : Int} {x : Qu} (hl : Rng lo) (hx : QS x) (px : PS x) : PS (.node 6 [] lo 0 [] 1 x .none) := by
  intro _ k q r hq hf
  cases k with
  | zero => exact .inr ⟨_, rfl⟩
  | succ k =>
    have ht : toks (.node 6 [] lo 0 [] 1 x .none) = tokN lo ++ sStar :: brc (isS x) (toks x) := rfl
    rw [ht, List.map_eq_append_iff] at hq
    obtain ⟨q1, q2, rfl, hq1, hq2⟩ := hq
    rw [List.map_eq_cons_iff] at hq2
    obtain ⟨p, q3, rfl, hp, hq3⟩ := hq2
    have hh : hd (q1 ++ p :: q3 ++ r) = sMinus ∨ fstD (hd (q1 ++ p :: q3 ++ r)) = true := by
      unfold tokN at hq1
      by_cases c : lo < 0
      · rw [if_pos c, List.map_eq_cons_iff] at hq1
        obtain ⟨p1, q4, rfl, hp1, _⟩ := hq1
        exact .inl hp1
      · rw [if_neg c, List.map_eq_cons_iff] at hq1
        obtain ⟨p1, q4, rfl, hp1, _⟩ := hq1
        right
        show fstD p1.1 = true
        rw [hp1]; exact fstD_dec _
    unfold prdP
    rw [if_pos hh, List.append_assoc, sgnP_tok hq1 hl]
    simp only [List.cons_append]
    rw [tk_ok hp]
    simp only
    rcases near_tok hx px (k := k) hq3 hf with h1 | ⟨j, h1⟩
    · rw [h1]; exact .inl rfl
    · rw [h1]; exact .inr ⟨j, rfl⟩
theorem nmP_tok {p : Pc} {r : List Pc} {c : By} (h : p.1 = c) (hn : nmd c = true) : nmP (p :: r) = .ok (c, r) := by
  have e : hd (p :: r) = c := h
  unfold nmP
  rw [e, if_pos hn, List.tail_cons]
theorem turn_main (a : Qu) : Say a → QS a ∧ PS a ∧ KS a := by
  induction a with
  | none => intro h; exact h.elim
  | node k c lo hi wh n x y ihx ihy =>
    intro h
    have hS := h
    have fin : isS (.node k c lo hi wh n x y) = false → isT (.node k c lo hi wh n x y) = false → KS (.node k c lo hi wh n x y) → QS (.node k c lo hi wh n x y) ∧ PS (.node k c lo hi wh n x y) ∧ KS (.node k c lo hi wh n x y) :=
      fun h1 h2 h3 => ⟨ps_qs (ks_ps hS h3 h1 h2) h1, ks_ps hS h3 h1 h2, h3⟩
    rcases h with ⟨rfl, rfl, rfl, rfl, rfl, hw, rfl, rfl⟩ | ⟨rfl, hc, hlo, hhi, rfl, hw, rfl, rfl⟩ | ⟨rfl, hc, rfl, rfl, rfl, hw, rfl, rfl⟩ | ⟨h1, rfl, rfl, rfl, rfl, rfl, sx, sy⟩ | ⟨rfl, rfl, hlo, rfl, rfl, rfl, sx, rfl⟩ | ⟨rfl, rfl, rfl, rfl, rfl, rfl, sx, rfl⟩ | ⟨rfl, rfl, hlo, rfl, rfl, rfl, sx, rfl⟩ | ⟨rfl, rfl, hlo, hhi, rfl, rfl, sx, rfl⟩
    · refine fin rfl rfl (thg_ks fun k q r hq g1 g2 => ?_)
      have ht : toks (.node 1 [] 0 0 wh 0 .none .none) = wCount :: tokW wh := rfl
      rw [ht, List.map_eq_cons_iff] at hq
      obtain ⟨p, q1, rfl, hp, hq1⟩ := hq
      have e : hd (p :: q1 ++ r) = wCount := hp
      unfold thgP
      rw [if_neg (by rw [e]; decide), if_pos e, List.cons_append, List.tail_cons]
      rcases whrP_tok (r := r) hq1 hw.2 g1 g2 with h1 | ⟨j, h1⟩
      · rw [h1]; exact .inl rfl
      · rw [h1]; exact .inr ⟨j, rfl⟩
    · refine fin rfl rfl (thg_ks fun k q r hq g1 g2 => ?_)
      have ht : toks (.node 2 c lo hi wh 0 .none .none) = wSum :: c :: wIn :: (tokS lo hi ++ tokW wh) := rfl
      rw [ht] at hq
      simp only [List.map_eq_cons_iff] at hq
      obtain ⟨p, _, rfl, hp, p2, _, rfl, hp2, p3, q3, rfl, hp3, hq3⟩ := hq
      rw [List.map_eq_append_iff] at hq3
      obtain ⟨q4, q5, rfl, hq4, hq5⟩ := hq3
      have e : hd (p :: p2 :: p3 :: (q4 ++ q5) ++ r) = wSum := hp
      unfold thgP
      rw [if_neg (by rw [e]; decide), if_neg (by rw [e]; decide), if_neg (by rw [e]; decide), if_pos e]
      simp only [List.cons_append, List.tail_cons]
      rw [nmP_tok hp2 hc]
      simp only
      rw [tk_ok hp3]
      simp only
      rw [List.append_assoc, spnP_tok hq4 hlo hhi]
      simp only
      rcases whrP_tok (r := r) hq5 hw.2 g1 g2 with h1 | ⟨j, h1⟩
      · rw [h1]; exact .inl rfl
      · rw [h1]; exact .inr ⟨j, rfl⟩
    · refine fin rfl rfl (thg_ks fun k q r hq g1 g2 => ?_)
      have ht : toks (.node 3 c 0 0 wh 0 .none .none) = wBins :: c :: tokW wh := rfl
      rw [ht] at hq
      simp only [List.map_eq_cons_iff] at hq
      obtain ⟨p, _, rfl, hp, p2, q2, rfl, hp2, hq2⟩ := hq
      have e : hd (p :: p2 :: q2 ++ r) = wBins := hp
      unfold thgP
      rw [if_neg (by rw [e]; decide), if_neg (by rw [e]; decide), if_pos e]
      simp only [List.cons_append, List.tail_cons]
      rw [nmP_tok hp2 hc]
      simp only
      rcases whrP_tok (r := r) hq2 hw.2 g1 g2 with h1 | ⟨j, h1⟩
      · rw [h1]; exact .inl rfl
      · rw [h1]; exact .inr ⟨j, rfl⟩
    · obtain ⟨qx, px, kx⟩ := ihx sx
      obtain ⟨qy, py, ky⟩ := ihy sy
      rcases h1 with rfl | rfl | rfl
      · exact ⟨sum_qs (.inl ⟨rfl, rfl⟩) qx qy py rfl, (fun h => by simp [isS] at h), vac_ks (.inl rfl)⟩
      · exact ⟨sum_qs (.inr ⟨rfl, rfl⟩) qx qy py rfl, (fun h => by simp [isS] at h), vac_ks (.inl rfl)⟩
      · refine fin rfl rfl (thg_ks fun k q r hq g1 g2 => ?_)
        have ht : toks (.node 7 [] 0 0 [] 2 x y) = wJoin :: sOpen :: (toks x ++ sComma :: (toks y ++ [sShut])) := rfl
        rw [ht] at hq
        simp only [List.map_eq_cons_iff, List.map_eq_append_iff, List.map_eq_nil_iff] at hq
        obtain ⟨p, _, rfl, hp, p2, _, rfl, hp2, q1, _, rfl, hq1, p3, _, rfl, hp3, q4, _, rfl, hq4, p5, _, rfl, hp5, rfl⟩ := hq
        have e : hd (p :: p2 :: (q1 ++ p3 :: (q4 ++ [p5])) ++ r) = wJoin := hp
        unfold thgP
        rw [if_neg (by rw [e]; decide), if_neg (by rw [e]; decide), if_neg (by rw [e]; decide), if_neg (by rw [e]; decide), if_neg (by rw [e]; decide), if_neg (by rw [e]; decide), if_pos e]
        simp only [List.cons_append, List.tail_cons]
        unfold bthP
        rw [tk_ok hp2]
        simp only [List.append_assoc, List.cons_append, List.nil_append]
        rcases qx.shut (k := k) hq1 (r := p3 :: (q4 ++ p5 :: r)) (t := sComma) hp3 (.inr rfl) with h1 | ⟨j, h1⟩
        · rw [h1]
          simp only
          rw [tk_ok hp3]
          simp only
          rcases qy.shut (k := k) hq4 (r := p5 :: r) (t := sShut) hp5 (.inl rfl) with h2 | ⟨j, h2⟩
          · rw [h2]
            simp only
            rw [tk_ok hp5]
            exact .inl rfl
          · rw [h2]; exact .inr ⟨j, rfl⟩
        · rw [h1]; exact .inr ⟨j, rfl⟩
    · obtain ⟨qx, px, kx⟩ := ihx sx
      have hp := tms_ps hlo qx px
      exact ⟨ps_qs hp rfl, hp, vac_ks (.inr rfl)⟩
    · obtain ⟨qx, px, kx⟩ := ihx sx
      refine fin rfl rfl (thg_ks fun k q r hq g1 g2 => ?_)
      have ht : toks (.node 8 [] 0 0 [] 1 x .none) = wTotal :: (sOpen :: (toks x ++ [sShut])) := rfl
      rw [ht, List.map_eq_cons_iff] at hq
      obtain ⟨p, q1, rfl, hp, hq1⟩ := hq
      have e : hd (p :: q1 ++ r) = wTotal := hp
      unfold thgP
      rw [if_neg (by rw [e]; decide), if_neg (by rw [e]; decide), if_neg (by rw [e]; decide), if_neg (by rw [e]; decide), if_pos e, List.cons_append, List.tail_cons]
      rcases brk_tok qx (k := k) (r := r) hq1 with h1 | ⟨j, h1⟩
      · rw [h1]; exact .inl rfl
      · rw [h1]; exact .inr ⟨j, rfl⟩
    · obtain ⟨qx, px, kx⟩ := ihx sx
      exact fin rfl rfl (pik_ks hlo.1 hlo.2 qx kx)
    · obtain ⟨qx, px, kx⟩ := ihx sx
      refine fin rfl rfl (thg_ks fun k q r hq g1 g2 => ?_)
      have ht : toks (.node 10 [] lo hi [] 1 x .none) = wClamp :: (tokS lo hi ++ (sOpen :: (toks x ++ [sShut]))) := rfl
      rw [ht, List.map_eq_cons_iff] at hq
      obtain ⟨p, q1, rfl, hp, hq1⟩ := hq
      rw [List.map_eq_append_iff] at hq1
      obtain ⟨q2, q3, rfl, hq2, hq3⟩ := hq1
      have e : hd (p :: (q2 ++ q3) ++ r) = wClamp := hp
      unfold thgP
      rw [if_neg (by rw [e]; decide), if_neg (by rw [e]; decide), if_neg (by rw [e]; decide), if_neg (by rw [e]; decide), if_neg (by rw [e]; decide), if_pos e, List.cons_append, List.tail_cons, List.append_assoc, spnP_tok hq2 hlo hhi]
      simp only
      rcases brk_tok qx (k := k) (r := r) hq3 with h1 | ⟨j, h1⟩
      · rw [h1]; exact .inl rfl
      · rw [h1]; exact .inr ⟨j, rfl⟩
/-- WHAT IS SAID IS HEARD: or it is too much -/
theorem turn_pieces {a : Qu} (h : Say a) {q r : List Pc} {k : Nat} (hq : q.map (·.1) = toks a) (hr : hd r = []) : Gd (qusK k (q ++ r)) a r := by
  rcases (turn_main a h).1 k q r hq (by unfold Fol; rw [hr]; decide) with ⟨m, hm⟩ | he
  · left; rw [hm]; exact sumL_end _ m a (by rw [hr]; decide) (by rw [hr]; decide)
  · exact .inr he
end Sp
end Go.Proofs.YtidfkencjdjkbaaGreatDoor

/-
  CHAPTER 15's MATHEMATICS (4): what is read can be said.
-/
namespace Go.Proofs.YtidfkencjdjkbaaGreatDoor
namespace Sp

theorem numP_say {ps r : List Pc} {n : Int} (h : numP ps = .ok (n, r)) : 0 ≤ n ∧ n ≤ 1048576 := by
  unfold numP at h
  split at h
  · split at h
    · simp only [Except.ok.injEq, Prod.mk.injEq] at h
      omega
    · cases h
  · cases h
theorem sgnP_say {ps r : List Pc} {n : Int} (h : sgnP ps = .ok (n, r)) : Rng n := by
  unfold sgnP at h
  split at h
  · split at h
    · cases h
    · split at h
      · rename_i e
        simp only [Except.ok.injEq, Prod.mk.injEq] at h
        have := numP_say e
        exact ⟨by omega, by omega⟩
      · cases h
  · have := numP_say h
    exact ⟨by omega, by omega⟩
theorem spnP_say {ps r : List Pc} {a : Int × Int} (h : spnP ps = .ok (a, r)) : Rng a.1 ∧ Rng a.2 := by
  unfold spnP at h
  split at h
  · cases h
  · rename_i e1
    split at h
    · cases h
    · split at h
      · cases h
      · rename_i e2
        simp only [Except.ok.injEq, Prod.mk.injEq] at h
        obtain ⟨rfl, _⟩ := h
        exact ⟨sgnP_say e1, sgnP_say e2⟩
theorem nmP_say {ps r : List Pc} {c : By} (h : nmP ps = .ok (c, r)) : nmd c = true := by
  unfold nmP at h
  split at h
  · rename_i c
    simp only [Except.ok.injEq, Prod.mk.injEq] at h
    rw [← h.1]; exact c
  · cases h
theorem dng_le (s : By) : dng s ≤ 6 := by
  unfold dng
  split
  · rename_i h
    have := List.idxOf_lt_length_iff.2 h
    have : sigs.length = 6 := rfl
    omega
  · omega
theorem tstP_say {ps r : List Pc} {t : Tst} (h : tstP ps = .ok (t, r)) : TOk t := by
  unfold tstP at h
  split at h
  · cases h
  · rename_i c0 r0 e1
    split at h
    · cases h
    · rename_i e0
      split at h
      · cases h
      · rename_i e2
        simp only [Except.ok.injEq, Prod.mk.injEq] at h
        obtain ⟨rfl, _⟩ := h
        have := dng_le (hd r0)
        exact ⟨nmP_say e1, by simp only; omega, by simp only; omega, sgnP_say e2⟩
theorem andL_say : ∀ (k : Nat) (l : List Tst) (ps r : List Pc) (l' : List Tst), andL k l ps = .ok (l', r) → l.length + k ≤ 64 → (∀ t ∈ l, TOk t) → WOk l'
  | 0, l, ps, r, l', h, hk, hl => by
    unfold andL at h
    split at h
    · cases h
    · simp only [Except.ok.injEq, Prod.mk.injEq] at h
      obtain ⟨rfl, _⟩ := h
      exact ⟨by omega, hl⟩
  | k + 1, l, ps, r, l', h, hk, hl => by
    unfold andL at h
    split at h
    · simp only at h
      split at h
      · cases h
      · rename_i t r0 e1
        refine andL_say k (l ++ [t]) _ r l' h (by rw [List.length_append, List.length_singleton]; omega) (fun x hx => ?_)
        simp only [List.mem_append, List.mem_singleton] at hx
        rcases hx with hx | rfl
        · exact hl x hx
        · exact tstP_say e1
    · simp only [Except.ok.injEq, Prod.mk.injEq] at h
      obtain ⟨rfl, _⟩ := h
      exact ⟨by omega, hl⟩
theorem whrP_say {ps r : List Pc} {l : List Tst} (h : whrP ps = .ok (l, r)) : WOk l := by
  unfold whrP at h
  split at h
  · split at h
    · cases h
    · rename_i t _ e1
      exact andL_say 63 [t] _ r l h (by simp) (fun x hx => by simp at hx; subst hx; exact tstP_say e1)
  · simp only [Except.ok.injEq, Prod.mk.injEq] at h
    obtain ⟨rfl, _⟩ := h
    exact ⟨by simp, by simp⟩
def SayP (p : List Pc → PR Qu) : Prop := ∀ ps a r, p ps = .ok (a, r) → Say a
theorem brkP_say {q : List Pc → PR Qu} (hq : SayP q) : SayP (brkP q) := by
  intro ps a r h
  unfold brkP at h
  split at h
  · cases h
  · split at h
    · cases h
    · rename_i e
      split at h
      · cases h
      · simp only [Except.ok.injEq, Prod.mk.injEq] at h
        obtain ⟨rfl, _⟩ := h
        exact hq _ _ _ e
theorem bthP_say {q : List Pc → PR Qu} (hq : SayP q) {ps r : List Pc} {a : Qu × Qu} (h : bthP q ps = .ok (a, r)) : Say a.1 ∧ Say a.2 := by
  unfold bthP at h
  split at h
  · cases h
  · split at h
    · cases h
    · rename_i e1
      split at h
      · cases h
      · split at h
        · cases h
        · rename_i e2
          split at h
          · cases h
          · simp only [Except.ok.injEq, Prod.mk.injEq] at h
            obtain ⟨rfl, _⟩ := h
            exact ⟨hq _ _ _ e1, hq _ _ _ e2⟩
theorem thgP_say {q : List Pc → PR Qu} (hq : SayP q) : SayP (thgP q) := by
  intro ps a r h
  unfold thgP at h
  split at h
  · exact brkP_say hq _ _ _ h
  split at h
  · split at h
    · cases h
    · rename_i e
      simp only [Except.ok.injEq, Prod.mk.injEq] at h
      obtain ⟨rfl, _⟩ := h
      exact .inl ⟨rfl, rfl, rfl, rfl, rfl, whrP_say e, rfl, rfl⟩
  split at h
  · split at h
    · cases h
    · rename_i e1
      split at h
      · cases h
      · rename_i e
        simp only [Except.ok.injEq, Prod.mk.injEq] at h
        obtain ⟨rfl, _⟩ := h
        exact .inr (.inr (.inl ⟨rfl, nmP_say e1, rfl, rfl, rfl, whrP_say e, rfl, rfl⟩))
  split at h
  · split at h
    · cases h
    · rename_i e1
      split at h
      · cases h
      · split at h
        · cases h
        · rename_i e2
          split at h
          · cases h
          · rename_i e
            simp only [Except.ok.injEq, Prod.mk.injEq] at h
            obtain ⟨rfl, _⟩ := h
            exact .inr (.inl ⟨rfl, nmP_say e1, (spnP_say e2).1, (spnP_say e2).2, rfl, whrP_say e, rfl, rfl⟩)
  split at h
  · split at h
    · cases h
    · rename_i e
      simp only [Except.ok.injEq, Prod.mk.injEq] at h
      obtain ⟨rfl, _⟩ := h
      exact .inr (.inr (.inr (.inr (.inr (.inl ⟨rfl, rfl, rfl, rfl, rfl, rfl, brkP_say hq _ _ _ e, rfl⟩)))))
  split at h
  · split at h
    · cases h
    · rename_i e1
      split at h
      · cases h
      · rename_i e
        simp only [Except.ok.injEq, Prod.mk.injEq] at h
        obtain ⟨rfl, _⟩ := h
        exact .inr (.inr (.inr (.inr (.inr (.inr (.inr ⟨rfl, rfl, (spnP_say e1).1, (spnP_say e1).2, rfl, rfl, brkP_say hq _ _ _ e, rfl⟩))))))
  split at h
  · split at h
    · cases h
    · rename_i e
      simp only [Except.ok.injEq, Prod.mk.injEq] at h
      obtain ⟨rfl, _⟩ := h
      have := bthP_say hq e
      exact .inr (.inr (.inr (.inl ⟨.inr (.inr rfl), rfl, rfl, rfl, rfl, rfl, this.1, this.2⟩)))
  · cases h
theorem pikL_say : ∀ (k : Nat) (a : Qu) (ps r : List Pc) (b : Qu), pikL k a ps = .ok (b, r) → Say a → Say b
  | 0, a, ps, r, b, h, ha => by
    unfold pikL at h
    split at h
    · cases h
    · simp only [Except.ok.injEq, Prod.mk.injEq] at h
      obtain ⟨rfl, _⟩ := h
      exact ha
  | k + 1, a, ps, r, b, h, ha => by
    by_cases c : hd ps = sLeft
    · rw [pikL_succ c] at h
      split at h
      · cases h
      · rename_i e1
        split at h
        · cases h
        · exact pikL_say k _ _ _ _ h (.inr (.inr (.inr (.inr (.inr (.inr (.inl ⟨rfl, rfl, numP_say e1, rfl, rfl, rfl, ha, rfl⟩)))))))
    · rw [pikL_end _ _ c] at h
      simp only [Except.ok.injEq, Prod.mk.injEq] at h
      obtain ⟨rfl, _⟩ := h
      exact ha
theorem sumL_say {p : List Pc → PR Qu} (hp : SayP p) : ∀ (k : Nat) (a : Qu) (ps r : List Pc) (b : Qu), sumL p k a ps = .ok (b, r) → Say a → Say b
  | 0, a, ps, r, b, h, ha => by
    unfold sumL at h
    split at h
    · cases h
    · simp only [Except.ok.injEq, Prod.mk.injEq] at h
      obtain ⟨rfl, _⟩ := h
      exact ha
  | k + 1, a, ps, r, b, h, ha => by
    by_cases c : hd ps = sPlus ∨ hd ps = sMinus
    · rw [sumL_succ c] at h
      split at h
      · cases h
      · rename_i e1
        refine sumL_say hp k _ _ _ _ h (.inr (.inr (.inr (.inl ⟨?_, rfl, rfl, rfl, rfl, rfl, ha, hp _ _ _ e1⟩))))
        split <;> simp
    · rw [sumL_end p _ _ (fun e => c (.inl e)) (fun e => c (.inr e))] at h
      simp only [Except.ok.injEq, Prod.mk.injEq] at h
      obtain ⟨rfl, _⟩ := h
      exact ha
theorem pikP_say {q : List Pc → PR Qu} (hq : SayP q) (n : Nat) : SayP (pikP q n) := by
  intro ps a r h
  unfold pikP at h
  split at h
  · cases h
  · rename_i e
    exact pikL_say n _ _ _ _ h (thgP_say hq _ _ _ e)
theorem qusP_say {p : List Pc → PR Qu} (hp : SayP p) (n : Nat) : SayP (qusP p n) := by
  intro ps a r h
  unfold qusP at h
  split at h
  · cases h
  · rename_i e
    exact sumL_say hp n _ _ _ _ h (hp _ _ _ e)
theorem prdP_say : ∀ k : Nat, SayP (prdP k)
  | 0 => fun ps a r h => by cases h
  | k + 1 => fun ps a r h => by
    unfold prdP at h
    split at h
    · split at h
      · cases h
      · rename_i e1
        split at h
        · cases h
        · split at h
          · cases h
          · rename_i e2
            simp only [Except.ok.injEq, Prod.mk.injEq] at h
            obtain ⟨rfl, _⟩ := h
            exact .inr (.inr (.inr (.inr (.inl ⟨rfl, rfl, sgnP_say e1, rfl, rfl, rfl, prdP_say k _ _ _ e2, rfl⟩))))
    · exact pikP_say (qusP_say (prdP_say k) 64) 64 _ _ _ h
/-- WHAT IS READ CAN BE SAID -/
theorem read_say {s : By} {a : Qu} (h : readT s = .ok a) : Say a := by
  unfold readT at h
  split at h
  · cases h
  · split at h
    · cases h
    · split at h
      · cases h
      · rename_i e
        split at h
        · simp only [Except.ok.injEq] at h
          subst h
          exact qusP_say (prdP_say 64) 64 _ _ _ e
        · cases h
end Sp
end Go.Proofs.YtidfkencjdjkbaaGreatDoor

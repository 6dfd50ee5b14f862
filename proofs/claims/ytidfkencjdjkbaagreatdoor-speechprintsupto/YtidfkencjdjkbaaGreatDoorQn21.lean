import Derived.Test.YtidfkencjdjkbaaGreatDoorQn04
/-
  CHAPTER 15's MATHEMATICS (6): what is too much to be said, by levels, signs and picks, just as what is too much to be heard.
-/
namespace Go.Proofs.YtidfkencjdjkbaaGreatDoor
namespace Sp
open Go.Lib (decDigits itoa)

/-- signs one behind the other; picks one behind the other -/
def chnN : Qu → Nat
  | .node k _ _ _ _ _ x _ => if k = 4 ∨ k = 5 then chnN x + 1 else 0
  | .none => 0
def pikN : Qu → Nat
  | .node k _ _ _ _ _ x _ => if k = 9 then pikN x + 1 else 0
  | .none => 0
/-- may it be said with so many levels left -/
def okT : Qu → Nat → Bool
  | .none, _ => false
  | .node k _ _ _ _ _ x y, m =>
    if m = 0 then false
    else if k = 1 ∨ k = 2 ∨ k = 3 then true
    else if k = 4 ∨ k = 5 then okT x m && (if isS y = true then okT y (m - 1) else okT y m) && decide (chnN x + 1 ≤ 64)
    else if k = 6 then (if isS x = true then okT x (m - 1 - 1) else okT x (m - 1)) && decide (1 < m)
    else if k = 9 then (if (isS x || isT x) = true then okT x (m - 1) else okT x m) && decide (pikN x + 1 ≤ 64)
    else if k = 8 ∨ k = 10 then okT x (m - 1)
    else okT x (m - 1) && okT y (m - 1)
theorem okT_zero (a : Qu) : okT a 0 = false := by cases a <;> simp [okT]
theorem chn_not {a : Qu} (h : isS a = false) : chnN a = 0 := by
  cases a with
  | none => rfl
  | node k c lo hi wh n x y =>
    simp only [isS, Bool.or_eq_false_iff, decide_eq_false_iff_not] at h
    simp [chnN, h.1, h.2]
theorem okT_sum {k : Int} (hk : k = 4 ∨ k = 5) (c : By) (lo hi : Int) (wh : List Tst) (n : Nat) (x y : Qu) (m : Nat) : okT (.node k c lo hi wh n x y) m = (okT x m && (if isS y = true then okT y (m - 1) else okT y m) && decide (chnN x + 1 ≤ 64)) := by
  cases m with
  | zero => simp [okT_zero]
  | succ m => rcases hk with rfl | rfl <;> simp [okT]
theorem okT_tms (c : By) (lo hi : Int) (wh : List Tst) (n : Nat) (x y : Qu) (m : Nat) : okT (.node 6 c lo hi wh n x y) (m + 1) = ((if isS x = true then okT x (m - 1) else okT x m) && decide (1 < m + 1)) := by simp [okT]
theorem okT_pik (c : By) (lo hi : Int) (wh : List Tst) (n : Nat) (x y : Qu) (m : Nat) : okT (.node 9 c lo hi wh n x y) (m + 1) = ((if (isS x || isT x) = true then okT x m else okT x (m + 1)) && decide (pikN x + 1 ≤ 64)) := by
  rw [okT]
  simp only [Nat.add_one_ne_zero, if_false, Nat.add_sub_cancel]
  simp
theorem okT_one {k : Int} (hk : k = 8 ∨ k = 10) (c : By) (lo hi : Int) (wh : List Tst) (n : Nat) (x y : Qu) (m : Nat) : okT (.node k c lo hi wh n x y) (m + 1) = okT x m := by rcases hk with rfl | rfl <;> simp [okT]
theorem okT_join (c : By) (lo hi : Int) (wh : List Tst) (n : Nat) (x y : Qu) (m : Nat) : okT (.node 7 c lo hi wh n x y) (m + 1) = (okT x m && okT y m) := by simp [okT]
theorem okT_leaf {k : Int} (hk : k = 1 ∨ k = 2 ∨ k = 3) (c : By) (lo hi : Int) (wh : List Tst) (n : Nat) (x y : Qu) (m : Nat) : okT (.node k c lo hi wh n x y) (m + 1) = true := by rcases hk with rfl | rfl | rfl <;> simp [okT]

/-- it is heard, or it is too much -/
def Ex {α : Type} (b : Bool) (r : PR α) (a : α) (rest : List Pc) : Prop := (b = true → r = .ok (a, rest)) ∧ (b = false → Err4 r)
def QX (a : Qu) : Prop := ∀ (m : Nat) (q r : List Pc), q.map (·.1) = toks a → Fol r → (okT a m = true → chnN a ≤ 64 ∧ qusK m (q ++ r) = sumL (prdP m) (64 - chnN a) a r) ∧ (okT a m = false → Err4 (qusK m (q ++ r)))
def PX (a : Qu) : Prop := isS a = false → ∀ (m : Nat) (q r : List Pc), q.map (·.1) = toks a → Fol r → Ex (okT a m) (prdP m (q ++ r)) a r
def KX (a : Qu) : Prop := isS a = false → isT a = false → ∀ (m : Nat) (q r : List Pc), q.map (·.1) = toks a → hd r ≠ wWhere → hd r ≠ wAnd → (okT a (m + 1) = true → pikN a ≤ 64 ∧ pikP (qusK m) 64 (q ++ r) = pikL (64 - pikN a) a r) ∧ (okT a (m + 1) = false → Err4 (pikP (qusK m) 64 (q ++ r)))
def TX (a : Qu) : Prop := ∀ (m : Nat) (q r : List Pc), q.map (·.1) = toks a → hd r ≠ wWhere → hd r ≠ wAnd → Ex (okT a (m + 1)) (thgP (qusK m) (q ++ r)) a r

theorem andL_ex : ∀ (l : List Tst) (k : Nat) (acc : List Tst) (q r : List Pc), q.map (·.1) = tokA l → (∀ t ∈ l, TOk t) → hd r ≠ wAnd → l.length ≤ k → andL k acc (q ++ r) = .ok (acc ++ l, r)
  | [], k, acc, q, r, h, _, hr, _ => by
    simp only [tokA, List.flatMap_nil, List.map_eq_nil_iff] at h
    subst h
    rw [List.nil_append, List.append_nil]
    unfold andL
    rw [if_neg hr]
  | t :: l, k, acc, q, r, h, ht, hr, hk => by
    simp only [tokA, List.flatMap_cons, List.cons_append, List.map_eq_cons_iff] at h
    obtain ⟨p, q1, rfl, hp, hq1⟩ := h
    rw [List.map_eq_append_iff] at hq1
    obtain ⟨q2, q3, rfl, hq2, hq3⟩ := hq1
    have e1 : hd (p :: (q2 ++ q3) ++ r) = wAnd := hp
    unfold andL
    rw [if_pos e1]
    simp only [List.cons_append, List.tail_cons]
    cases k with
    | zero => simp at hk
    | succ k =>
      simp only [List.append_assoc]
      rw [tstP_tok hq2 (ht t (by simp))]
      simp only
      have := andL_ex l k (acc ++ [t]) q3 r hq3 (fun x hx => ht x (by simp [hx])) hr (by simp at hk; omega)
      rwa [List.append_assoc, List.singleton_append] at this
theorem whrP_ex {l : List Tst} {q r : List Pc} (h : q.map (·.1) = tokW l) (hw : WOk l) (h1 : hd r ≠ wWhere) (h2 : hd r ≠ wAnd) : whrP (q ++ r) = .ok (l, r) := by
  obtain ⟨hlen, ht⟩ := hw
  cases l with
  | nil =>
    simp only [tokW, List.map_eq_nil_iff] at h
    subst h
    rw [List.nil_append]
    unfold whrP
    rw [if_neg h1]
  | cons t l =>
    simp only [tokW, List.map_eq_cons_iff] at h
    obtain ⟨p, q1, rfl, hp, hq1⟩ := h
    rw [List.map_eq_append_iff] at hq1
    obtain ⟨q2, q3, rfl, hq2, hq3⟩ := hq1
    have e1 : hd (p :: (q2 ++ q3) ++ r) = wWhere := hp
    unfold whrP
    rw [if_pos e1]
    simp only [List.cons_append, List.tail_cons]
    rw [List.append_assoc, tstP_tok hq2 (ht t (by simp))]
    simp only [List.length_cons] at hlen
    exact andL_ex l 63 [t] q3 r hq3 (fun x hx => ht x (by simp [hx])) h2 (by omega)
theorem kx_px {a : Qu} (hS : Say a) (h : KX a) (hs : isS a = false) (ht : isT a = false) : PX a := by
  intro _ m q r hq hf
  cases m with
  | zero => exact ⟨fun e => (by rw [okT_zero] at e; cases e), fun _ => ⟨_, rfl⟩⟩
  | succ m =>
    rw [prd_pik (by rw [hq]; exact fst_toks hS hs ht)]
    obtain ⟨h1, h2⟩ := h hs ht m q r hq hf.2.1 hf.2.2
    exact ⟨fun e => by rw [(h1 e).2]; exact pikL_end _ a hf.1, h2⟩
theorem px_qx {a : Qu} (h : PX a) (hs : isS a = false) : QX a := by
  intro m q r hq hf
  unfold qusK qusP
  obtain ⟨h1, h2⟩ := h hs m q r hq hf
  rw [chn_not hs]
  refine ⟨fun e => ⟨by omega, by rw [h1 e]⟩, fun e => ?_⟩
  obtain ⟨n, hn⟩ := h2 e
  rw [hn]
  exact ⟨n, rfl⟩
theorem vac_kx {a : Qu} (h : isS a = true ∨ isT a = true) : KX a := by
  intro h1 h2
  rcases h with h | h
  · rw [h1] at h; cases h
  · rw [h2] at h; cases h
theorem tx_kx {a : Qu} (h0 : pikN a = 0) (h : TX a) : KX a := by
  intro _ _ m q r hq h1 h2
  unfold pikP
  obtain ⟨g1, g2⟩ := h m q r hq h1 h2
  rw [h0]
  refine ⟨fun e => ⟨by omega, by rw [g1 e]⟩, fun e => ?_⟩
  obtain ⟨n, hn⟩ := g2 e
  rw [hn]
  exact ⟨n, rfl⟩
theorem QX.shut {a : Qu} (h : QX a) {m : Nat} {q r : List Pc} (hq : q.map (·.1) = toks a) {t : By} (hr : hd r = t) (ht : t = sShut ∨ t = sComma) : Ex (okT a m) (qusK m (q ++ r)) a r := by
  have hf : Fol r := by unfold Fol; rw [hr]; rcases ht with rfl | rfl <;> decide
  obtain ⟨h1, h2⟩ := h m q r hq hf
  refine ⟨fun e => ?_, h2⟩
  rw [(h1 e).2]
  exact sumL_end _ _ a (by rw [hr]; rcases ht with rfl | rfl <;> decide) (by rw [hr]; rcases ht with rfl | rfl <;> decide)
theorem brk_ex {a : Qu} (h : QX a) {m : Nat} {q r : List Pc} (hq : q.map (·.1) = sOpen :: (toks a ++ [sShut])) : Ex (okT a m) (brkP (qusK m) (q ++ r)) a r := by
  simp only [List.map_eq_cons_iff] at hq
  obtain ⟨p, q1, rfl, hp, hq1⟩ := hq
  rw [List.map_eq_append_iff] at hq1
  obtain ⟨q2, q3, rfl, hq2, hq3⟩ := hq1
  simp only [List.map_eq_cons_iff, List.map_eq_nil_iff] at hq3
  obtain ⟨p2, _, rfl, hp2, rfl⟩ := hq3
  unfold brkP
  simp only [List.cons_append, List.append_assoc, List.nil_append]
  rw [Sp.tk_ok hp]
  simp only
  obtain ⟨h1, h2⟩ := h.shut (m := m) hq2 (r := p2 :: r) (t := sShut) hp2 (.inl rfl)
  constructor
  · intro e
    rw [h1 e]
    simp only
    rw [Sp.tk_ok hp2]
  · intro e
    obtain ⟨n, hn⟩ := h2 e
    rw [hn]
    exact ⟨n, rfl⟩
theorem near_ex {a : Qu} (hq : QX a) (hp : PX a) {m : Nat} {q r : List Pc} (h : q.map (·.1) = brc (isS a) (toks a)) (hf : Fol r) : Ex (if isS a = true then okT a (m - 1) else okT a m) (prdP m (q ++ r)) a r := by
  by_cases hs : isS a = true
  · rw [if_pos hs]
    rw [hs] at h
    cases m with
    | zero => exact ⟨fun e => (by rw [okT_zero] at e; cases e), fun _ => ⟨_, rfl⟩⟩
    | succ m =>
      rw [prd_pik (by rw [h]; exact ⟨_, _, rfl, by decide, by decide⟩)]
      unfold pikP thgP
      have hh : hd (q ++ r) = sOpen := by
        simp only [brc, if_pos, List.map_eq_cons_iff] at h
        obtain ⟨p, q1, rfl, hp, _⟩ := h
        exact hp
      rw [if_pos hh]
      obtain ⟨h1, h2⟩ := brk_ex hq (m := m) (q := q) (r := r) (by simpa [brc] using h)
      rw [Nat.add_sub_cancel]
      refine ⟨fun e => ?_, fun e => ?_⟩
      · rw [h1 e]; exact pikL_end _ _ hf.1
      · obtain ⟨n, hn⟩ := h2 e
        rw [hn]; exact ⟨n, rfl⟩
  · rw [if_neg hs]
    have hs' : isS a = false := by simpa using hs
    rw [hs'] at h
    exact hp hs' m q r h hf
theorem sum_qx {k : Int} {x y : Qu} {t : By} (hk : (k = 4 ∧ t = sPlus) ∨ (k = 5 ∧ t = sMinus)) (hx : QX x) (hy : QX y) (py : PX y) (ht : toks (.node k [] 0 0 [] 2 x y) = toks x ++ t :: brc (isS y) (toks y)) : QX (.node k [] 0 0 [] 2 x y) := by
  intro m q r hq hf
  have hk2 : k = 4 ∨ k = 5 := by rcases hk with ⟨h, _⟩ | ⟨h, _⟩ <;> simp [h]
  have hcn : chnN (.node k [] 0 0 [] 2 x y) = chnN x + 1 := by rw [chnN, if_pos hk2]
  rw [okT_sum hk2, hcn]
  rw [ht, List.map_eq_append_iff] at hq
  obtain ⟨q1, q2, rfl, hq1, hq2⟩ := hq
  rw [List.map_eq_cons_iff] at hq2
  obtain ⟨p, q3, rfl, hp, hq3⟩ := hq2
  have hf1 : Fol (p :: q3 ++ r) := fol_of hp (by rcases hk with ⟨_, rfl⟩ | ⟨_, rfl⟩ <;> simp)
  rw [List.append_assoc]
  obtain ⟨hx1, hx2⟩ := hx m q1 (p :: q3 ++ r) hq1 hf1
  obtain ⟨hy1, hy2⟩ := near_ex hy py (m := m) hq3 hf
  have e1 : hd (p :: q3 ++ r) = t := hp
  have e2 : hd (p :: q3 ++ r) = sPlus ∨ hd (p :: q3 ++ r) = sMinus := by rw [e1]; rcases hk with ⟨_, rfl⟩ | ⟨_, rfl⟩ <;> simp
  cases ox : okT x m with
  | false => exact ⟨fun e => by simp at e, fun _ => hx2 ox⟩
  | true =>
    obtain ⟨hc, hm⟩ := hx1 ox
    rw [hm]
    by_cases hz : chnN x = 64
    · rw [hz]
      refine ⟨fun e => by simp at e, fun _ => ⟨_, sumL_zero e2⟩⟩
    · obtain ⟨j, hj⟩ : ∃ j, 64 - chnN x = j + 1 := ⟨64 - chnN x - 1, by omega⟩
      rw [hj, sumL_succ e2]
      simp only [List.cons_append, List.tail_cons]
      have e3 : (if hd (p :: (q3 ++ r)) = sPlus then (4 : Int) else 5) = k := by
        have : hd (p :: (q3 ++ r)) = t := hp
        rw [this]
        rcases hk with ⟨rfl, rfl⟩ | ⟨rfl, rfl⟩ <;> decide
      have hd1 : decide (chnN x + 1 ≤ 64) = true := by simp; omega
      rw [hd1, Bool.true_and, Bool.and_true, e3]
      refine ⟨fun e => ?_, fun e => ?_⟩
      · rw [hy1 e]
        exact ⟨by omega, by rw [show 64 - (chnN x + 1) = j by omega]⟩
      · obtain ⟨n, hn⟩ := hy2 e
        rw [hn]
        exact ⟨n, rfl⟩
theorem pik_kx {lo : Int} {x : Qu} (h0 : 0 ≤ lo) (h1 : lo ≤ 1048576) (hx : QX x) (kx : KX x) : KX (.node 9 [] lo 0 [] 1 x .none) := by
  intro _ _ m q r hq hw ha
  have ht : toks (.node 9 [] lo 0 [] 1 x .none) = brc (isS x || isT x) (toks x) ++ [sLeft, decDigits lo.toNat, sRight] := rfl
  have hpn : pikN (.node 9 [] lo 0 [] 1 x .none) = pikN x + 1 := rfl
  rw [okT_pik, hpn]
  rw [ht, List.map_eq_append_iff] at hq
  obtain ⟨q1, q2, rfl, hq1, hq2⟩ := hq
  simp only [List.map_eq_cons_iff, List.map_eq_nil_iff] at hq2
  obtain ⟨p1, _, rfl, hp1, p2, _, rfl, hp2, p3, _, rfl, hp3, rfl⟩ := hq2
  rw [List.append_assoc]
  have hr : hd ([p1, p2, p3] ++ r) = sLeft := hp1
  obtain ⟨c, hc⟩ : ∃ c, (if (isS x || isT x) = true then okT x m else okT x (m + 1)) = c := ⟨_, rfl⟩
  have key : (c = true → pikN x ≤ 64 ∧ pikP (qusK m) 64 (q1 ++ ([p1, p2, p3] ++ r)) = pikL (64 - pikN x) x ([p1, p2, p3] ++ r)) ∧ (c = false → Err4 (pikP (qusK m) 64 (q1 ++ ([p1, p2, p3] ++ r)))) := by
    by_cases hb : (isS x || isT x) = true
    · rw [if_pos hb] at hc
      have hp0 : pikN x = 0 := by
        cases x with
        | none => rfl
        | node k2 c2 l2 h2 w2 n2 x2 y2 =>
          simp only [isS, isT, Bool.or_eq_true, decide_eq_true_eq] at hb
          have : ¬ k2 = 9 := by omega
          simp [pikN, this]
      rw [hb] at hq1
      have hh : hd (q1 ++ ([p1, p2, p3] ++ r)) = sOpen := by
        simp only [brc, if_pos, List.map_eq_cons_iff] at hq1
        obtain ⟨p, q4, rfl, hp, _⟩ := hq1
        exact hp
      unfold pikP thgP
      rw [if_pos hh]
      obtain ⟨g1, g2⟩ := brk_ex hx (m := m) (q := q1) (r := [p1, p2, p3] ++ r) (by simpa [brc] using hq1)
      rw [hc] at g1 g2
      refine ⟨fun e => ⟨by omega, ?_⟩, fun e => ?_⟩
      · rw [g1 e, hp0]
      · obtain ⟨n, hn⟩ := g2 e
        rw [hn]; exact ⟨n, rfl⟩
    · rw [if_neg hb] at hc
      have hb' : (isS x || isT x) = false := by simpa using hb
      rw [hb'] at hq1
      rw [Bool.or_eq_false_iff] at hb'
      have := kx hb'.1 hb'.2 m q1 _ hq1 (by rw [hr]; decide) (by rw [hr]; decide)
      rw [hc] at this
      exact this
  rw [hc]
  cases c with
  | false => exact ⟨fun e => by simp at e, fun _ => key.2 rfl⟩
  | true =>
    obtain ⟨hle, hm⟩ := key.1 rfl
    rw [hm]
    by_cases hz : pikN x = 64
    · rw [hz]
      exact ⟨fun e => by simp at e, fun _ => ⟨_, pikL_zero hr⟩⟩
    · obtain ⟨j, hj⟩ : ∃ j, 64 - pikN x = j + 1 := ⟨64 - pikN x - 1, by omega⟩
      have hd1 : decide (pikN x + 1 ≤ 64) = true := by simp; omega
      rw [hj, pikL_succ hr, hd1]
      simp only [List.cons_append, List.nil_append, List.tail_cons]
      rw [numP_tok hp2 (by omega)]
      simp only
      rw [Sp.tk_ok hp3]
      simp only
      rw [show ((lo.toNat : Nat) : Int) = lo by omega]
      exact ⟨fun _ => ⟨by omega, by rw [show 64 - (pikN x + 1) = j by omega]⟩, fun e => by simp at e⟩
theorem tms_px {lo : Int} {x : Qu} (hl : Rng lo) (hx : QX x) (px : PX x) : PX (.node 6 [] lo 0 [] 1 x .none) := by
  intro _ m q r hq hf
  cases m with
  | zero => exact ⟨fun e => (by rw [okT_zero] at e; cases e), fun _ => ⟨_, rfl⟩⟩
  | succ m =>
    have ht : toks (.node 6 [] lo 0 [] 1 x .none) = tokN lo ++ sStar :: brc (isS x) (toks x) := rfl
    rw [ht, List.map_eq_append_iff] at hq
    obtain ⟨q1, q2, rfl, hq1, hq2⟩ := hq
    rw [List.map_eq_cons_iff] at hq2
    obtain ⟨p, q3, rfl, hp, hq3⟩ := hq2
    have hh : hd (q1 ++ p :: q3 ++ r) = sMinus ∨ fstD (hd (q1 ++ p :: q3 ++ r)) = true := by
      unfold tokN at hq1
      by_cases c : lo < 0
      · rw [if_pos c, List.map_eq_cons_iff] at hq1
        obtain ⟨p1, q4, rfl, hp1, _⟩ := hq1
        exact .inl hp1
      · rw [if_neg c, List.map_eq_cons_iff] at hq1
        obtain ⟨p1, q4, rfl, hp1, _⟩ := hq1
        right
        show fstD p1.1 = true
        rw [hp1]; exact fstD_dec _
    obtain ⟨h1, h2⟩ := near_ex hx px (m := m) hq3 hf
    rw [okT_tms]
    unfold prdP
    rw [if_pos hh, List.append_assoc, sgnP_tok hq1 hl]
    simp only [List.cons_append]
    rw [Sp.tk_ok hp]
    simp only
    obtain ⟨b, hb⟩ : ∃ b, (if isS x = true then okT x (m - 1) else okT x m) = b := ⟨_, rfl⟩
    rw [hb] at h1 h2 ⊢
    cases b with
    | false =>
      obtain ⟨n, hn⟩ := h2 rfl
      rw [hn]
      exact ⟨fun e => by simp at e, fun _ => ⟨n, rfl⟩⟩
    | true =>
      have hm : 1 < m + 1 := by
        rcases Nat.eq_zero_or_pos m with rfl | h
        · rw [Nat.zero_sub, okT_zero] at hb
          simp at hb
        · omega
      rw [h1 rfl]
      exact ⟨fun _ => rfl, fun e => by simp at e; omega⟩
theorem turn_ex (a : Qu) : Say a → QX a ∧ PX a ∧ KX a := by
  induction a with
  | none => intro h; exact h.elim
  | node k c lo hi wh n x y ihx ihy =>
    intro h
    have hS := h
    have fin : isS (.node k c lo hi wh n x y) = false → isT (.node k c lo hi wh n x y) = false → KX (.node k c lo hi wh n x y) → QX (.node k c lo hi wh n x y) ∧ PX (.node k c lo hi wh n x y) ∧ KX (.node k c lo hi wh n x y) :=
      fun h1 h2 h3 => ⟨px_qx (kx_px hS h3 h1 h2) h1, kx_px hS h3 h1 h2, h3⟩
    rcases h with ⟨rfl, rfl, rfl, rfl, rfl, hw, rfl, rfl⟩ | ⟨rfl, hc, hlo, hhi, rfl, hw, rfl, rfl⟩ | ⟨rfl, hc, rfl, rfl, rfl, hw, rfl, rfl⟩ | ⟨h1, rfl, rfl, rfl, rfl, rfl, sx, sy⟩ | ⟨rfl, rfl, hlo, rfl, rfl, rfl, sx, rfl⟩ | ⟨rfl, rfl, rfl, rfl, rfl, rfl, sx, rfl⟩ | ⟨rfl, rfl, hlo, rfl, rfl, rfl, sx, rfl⟩ | ⟨rfl, rfl, hlo, hhi, rfl, rfl, sx, rfl⟩
    · refine fin rfl rfl (tx_kx rfl fun m q r hq g1 g2 => ?_)
      have ht : toks (.node 1 [] 0 0 wh 0 .none .none) = wCount :: tokW wh := rfl
      rw [ht, List.map_eq_cons_iff] at hq
      obtain ⟨p, q1, rfl, hp, hq1⟩ := hq
      have e : hd (p :: q1 ++ r) = wCount := hp
      rw [okT_leaf (by decide)]
      unfold thgP
      rw [if_neg (by rw [e]; decide), if_pos e, List.cons_append, List.tail_cons, whrP_ex (r := r) hq1 hw g1 g2]
      exact ⟨fun _ => rfl, fun e => by cases e⟩
    · refine fin rfl rfl (tx_kx rfl fun m q r hq g1 g2 => ?_)
      have ht : toks (.node 2 c lo hi wh 0 .none .none) = wSum :: c :: wIn :: (tokS lo hi ++ tokW wh) := rfl
      rw [ht] at hq
      simp only [List.map_eq_cons_iff] at hq
      obtain ⟨p, _, rfl, hp, p2, _, rfl, hp2, p3, q3, rfl, hp3, hq3⟩ := hq
      rw [List.map_eq_append_iff] at hq3
      obtain ⟨q4, q5, rfl, hq4, hq5⟩ := hq3
      have e : hd (p :: p2 :: p3 :: (q4 ++ q5) ++ r) = wSum := hp
      rw [okT_leaf (by decide)]
      unfold thgP
      rw [if_neg (by rw [e]; decide), if_neg (by rw [e]; decide), if_neg (by rw [e]; decide), if_pos e]
      simp only [List.cons_append, List.tail_cons]
      rw [nmP_tok hp2 hc]
      simp only
      rw [Sp.tk_ok hp3]
      simp only
      rw [List.append_assoc, spnP_tok hq4 hlo hhi]
      simp only
      rw [whrP_ex (r := r) hq5 hw g1 g2]
      exact ⟨fun _ => rfl, fun e => by cases e⟩
    · refine fin rfl rfl (tx_kx rfl fun m q r hq g1 g2 => ?_)
      have ht : toks (.node 3 c 0 0 wh 0 .none .none) = wBins :: c :: tokW wh := rfl
      rw [ht] at hq
      simp only [List.map_eq_cons_iff] at hq
      obtain ⟨p, _, rfl, hp, p2, q2, rfl, hp2, hq2⟩ := hq
      have e : hd (p :: p2 :: q2 ++ r) = wBins := hp
      rw [okT_leaf (by decide)]
      unfold thgP
      rw [if_neg (by rw [e]; decide), if_neg (by rw [e]; decide), if_pos e]
      simp only [List.cons_append, List.tail_cons]
      rw [nmP_tok hp2 hc]
      simp only
      rw [whrP_ex (r := r) hq2 hw g1 g2]
      exact ⟨fun _ => rfl, fun e => by cases e⟩
    · obtain ⟨qx, px, kx⟩ := ihx sx
      obtain ⟨qy, py, ky⟩ := ihy sy
      rcases h1 with rfl | rfl | rfl
      · exact ⟨sum_qx (.inl ⟨rfl, rfl⟩) qx qy py rfl, (fun h => by simp [isS] at h), vac_kx (.inl rfl)⟩
      · exact ⟨sum_qx (.inr ⟨rfl, rfl⟩) qx qy py rfl, (fun h => by simp [isS] at h), vac_kx (.inl rfl)⟩
      · refine fin rfl rfl (tx_kx rfl fun m q r hq g1 g2 => ?_)
        have ht : toks (.node 7 [] 0 0 [] 2 x y) = wJoin :: sOpen :: (toks x ++ sComma :: (toks y ++ [sShut])) := rfl
        rw [ht] at hq
        simp only [List.map_eq_cons_iff, List.map_eq_append_iff, List.map_eq_nil_iff] at hq
        obtain ⟨p, _, rfl, hp, p2, _, rfl, hp2, q1, _, rfl, hq1, p3, _, rfl, hp3, q4, _, rfl, hq4, p5, _, rfl, hp5, rfl⟩ := hq
        have e : hd (p :: p2 :: (q1 ++ p3 :: (q4 ++ [p5])) ++ r) = wJoin := hp
        rw [okT_join]
        unfold thgP
        rw [if_neg (by rw [e]; decide), if_neg (by rw [e]; decide), if_neg (by rw [e]; decide), if_neg (by rw [e]; decide), if_neg (by rw [e]; decide), if_neg (by rw [e]; decide), if_pos e]
        simp only [List.cons_append, List.tail_cons]
        unfold bthP
        rw [Sp.tk_ok hp2]
        simp only [List.append_assoc, List.cons_append, List.nil_append]
        obtain ⟨a1, a2⟩ := qx.shut (m := m) hq1 (r := p3 :: (q4 ++ p5 :: r)) (t := sComma) hp3 (.inr rfl)
        obtain ⟨b1, b2⟩ := qy.shut (m := m) hq4 (r := p5 :: r) (t := sShut) hp5 (.inl rfl)
        cases ox : okT x m with
        | false =>
          obtain ⟨j, hj⟩ := a2 ox
          rw [hj]
          exact ⟨fun e => by simp at e, fun _ => ⟨j, rfl⟩⟩
        | true =>
          rw [a1 ox]
          simp only
          rw [Sp.tk_ok hp3]
          simp only
          cases oy : okT y m with
          | false =>
            obtain ⟨j, hj⟩ := b2 oy
            rw [hj]
            exact ⟨fun e => by simp at e, fun _ => ⟨j, rfl⟩⟩
          | true =>
            rw [b1 oy]
            simp only
            rw [Sp.tk_ok hp5]
            exact ⟨fun _ => rfl, fun e => by simp at e⟩
    · obtain ⟨qx, px, kx⟩ := ihx sx
      have hp := tms_px hlo qx px
      exact ⟨px_qx hp rfl, hp, vac_kx (.inr rfl)⟩
    · obtain ⟨qx, px, kx⟩ := ihx sx
      refine fin rfl rfl (tx_kx rfl fun m q r hq g1 g2 => ?_)
      have ht : toks (.node 8 [] 0 0 [] 1 x .none) = wTotal :: (sOpen :: (toks x ++ [sShut])) := rfl
      rw [ht, List.map_eq_cons_iff] at hq
      obtain ⟨p, q1, rfl, hp, hq1⟩ := hq
      have e : hd (p :: q1 ++ r) = wTotal := hp
      rw [okT_one (by decide)]
      unfold thgP
      rw [if_neg (by rw [e]; decide), if_neg (by rw [e]; decide), if_neg (by rw [e]; decide), if_neg (by rw [e]; decide), if_pos e, List.cons_append, List.tail_cons]
      obtain ⟨a1, a2⟩ := brk_ex qx (m := m) (r := r) hq1
      refine ⟨fun e => by rw [a1 e], fun e => ?_⟩
      obtain ⟨j, hj⟩ := a2 e
      rw [hj]; exact ⟨j, rfl⟩
    · obtain ⟨qx, px, kx⟩ := ihx sx
      exact fin rfl rfl (pik_kx hlo.1 hlo.2 qx kx)
    · obtain ⟨qx, px, kx⟩ := ihx sx
      refine fin rfl rfl (tx_kx rfl fun m q r hq g1 g2 => ?_)
      have ht : toks (.node 10 [] lo hi [] 1 x .none) = wClamp :: (tokS lo hi ++ (sOpen :: (toks x ++ [sShut]))) := rfl
      rw [ht, List.map_eq_cons_iff] at hq
      obtain ⟨p, q1, rfl, hp, hq1⟩ := hq
      rw [List.map_eq_append_iff] at hq1
      obtain ⟨q2, q3, rfl, hq2, hq3⟩ := hq1
      have e : hd (p :: (q2 ++ q3) ++ r) = wClamp := hp
      rw [okT_one (by decide)]
      unfold thgP
      rw [if_neg (by rw [e]; decide), if_neg (by rw [e]; decide), if_neg (by rw [e]; decide), if_neg (by rw [e]; decide), if_neg (by rw [e]; decide), if_pos e, List.cons_append, List.tail_cons, List.append_assoc, spnP_tok hq2 hlo hhi]
      simp only
      obtain ⟨a1, a2⟩ := brk_ex qx (m := m) (r := r) hq3
      refine ⟨fun e => by rw [a1 e], fun e => ?_⟩
      obtain ⟨j, hj⟩ := a2 e
      rw [hj]; exact ⟨j, rfl⟩
/-- what is said is heard just where it is not too much -/
theorem said_ex {a : Qu} (h : Say a) (hl : (txtT a).length ≤ 65536) : (okT a 64 = true → readT (txtT a) = .ok a) ∧ (okT a 64 = false → ∃ n, readT (txtT a) = .error (4, n)) := by
  obtain ⟨qs, n, h1, h2⟩ := wrt_cut (chks a) [] 0 (wf_chks h)
  unfold readT
  rw [if_neg (by omega), show cutT (txtT a) 0 = _ from h2]
  simp only
  rw [flat_chks h] at h1
  have hr : hd [(([] : By), n)] = [] := rfl
  obtain ⟨g1, g2⟩ := (turn_ex a h).1 64 qs [([], n)] h1 (by unfold Fol; rw [hr]; decide)
  refine ⟨fun e => ?_, fun e => ?_⟩
  · rw [(g1 e).2, sumL_end _ _ a (by rw [hr]; decide) (by rw [hr]; decide)]
    simp only
    rw [if_pos hr]
  · obtain ⟨j, hj⟩ := g2 e
    rw [hj]; exact ⟨j, rfl⟩
end Sp
end Go.Proofs.YtidfkencjdjkbaaGreatDoor

import Derived.Test.YtidfkencjdjkbaaGreatDoorQn01
/-
  CHAPTER 15's MATHEMATICS (2): what is said is heard, in pieces (Q4 against Q2).
-/
namespace Go.Proofs.YtidfkencjdjkbaaGreatDoor
namespace Sp
open Go.Lib (decDigits itoa)

/-! ### numbers -/
theorem decDigits_step (u : Nat) : decDigits u = if u < 10 then [UInt8.ofNat (48 + u)] else decDigits (u / 10) ++ [UInt8.ofNat (48 + u % 10)] := by
  by_cases h : u < 10
  · rw [if_pos h, decDigits, dif_pos h]
  · rw [if_neg h]
    conv => lhs; rw [decDigits, dif_neg h]
theorem digB_of {d : Nat} (h : d < 10) : digB (UInt8.ofNat (48 + d)) = true ∧ (UInt8.ofNat (48 + d)).toNat = 48 + d := by
  have h1 : (UInt8.ofNat (48 + d)).toNat = 48 + d := by
    rw [UInt8.toNat_ofNat']; omega
  refine ⟨?_, h1⟩
  unfold digB
  rw [h1]
  simp; omega
theorem decDigits_all (u : Nat) : ∀ c ∈ decDigits u, digB c = true := by
  induction u using Nat.strongRecOn with
  | _ u ih =>
    rw [decDigits_step]
    by_cases h : u < 10
    · rw [if_pos h]; intro c hc; rw [List.mem_singleton] at hc; subst hc; exact (digB_of h).1
    · rw [if_neg h]
      intro c hc
      simp only [List.mem_append, List.mem_singleton] at hc
      rcases hc with hc | rfl
      · exact ih (u / 10) (by omega) c hc
      · exact (digB_of (by omega)).1
theorem valN_snoc (s : By) (c : UInt8) : valN (s ++ [c]) = valN s * 10 + (c.toNat - 48) := by simp [valN]
theorem valN_dec (u : Nat) : valN (decDigits u) = u := by
  induction u using Nat.strongRecOn with
  | _ u ih =>
    rw [decDigits_step]
    by_cases h : u < 10
    · rw [if_pos h]; simp only [valN, List.foldl_cons, List.foldl_nil]; rw [(digB_of h).2]; omega
    · rw [if_neg h, valN_snoc, ih (u / 10) (by omega), (digB_of (d := u % 10) (by omega)).2]; omega
theorem decDigits_ne (u : Nat) : decDigits u ≠ [] := by
  rw [decDigits_step]; split <;> simp
theorem decDigits_head (u : Nat) : u ≠ 0 → ∀ c r, decDigits u = c :: r → c ≠ 48 := by
  induction u using Nat.strongRecOn with
  | _ u ih =>
    intro h0 c r hc
    rw [decDigits_step] at hc
    by_cases h : u < 10
    · rw [if_pos h] at hc
      simp only [List.cons.injEq] at hc
      obtain ⟨rfl, _⟩ := hc
      intro e
      have := (digB_of h).2
      rw [e] at this
      have h48 : (48 : UInt8).toNat = 48 := rfl
      omega
    · rw [if_neg h] at hc
      cases hd : decDigits (u / 10) with
      | nil => exact absurd hd (decDigits_ne _)
      | cons d q =>
        rw [hd] at hc
        simp only [List.cons_append, List.cons.injEq] at hc
        obtain ⟨rfl, _⟩ := hc
        exact ih (u / 10) (by omega) (by omega) _ _ hd
theorem fstD_dec (u : Nat) : fstD (decDigits u) = true := by
  cases h : decDigits u with
  | nil => exact absurd h (decDigits_ne u)
  | cons c r => exact decDigits_all u c (by rw [h]; simp)
theorem zeroA_dec (u : Nat) : zeroA (decDigits u) = false := by
  by_cases h0 : u = 0
  · subst h0; rw [decDigits_step]; rfl
  · cases h : decDigits u with
    | nil => exact absurd h (decDigits_ne u)
    | cons c r =>
      cases r with
      | nil => rfl
      | cons d r => simp only [zeroA]; simpa using decDigits_head u h0 _ _ h
theorem dec_zero : decDigits 0 = [48] := by rw [decDigits_step]; rfl
theorem dec_ne_zero {u : Nat} (h : u ≠ 0) : decDigits u ≠ [48] := fun e => decDigits_head u h _ _ e rfl

def tokN (n : Int) : List By := if n < 0 then [sMinus, decDigits n.natAbs] else [decDigits n.toNat]
def Rng (n : Int) : Prop := -1048576 ≤ n ∧ n ≤ 1048576
theorem numP_tok {p : Pc} {r : List Pc} {u : Nat} (h : p.1 = decDigits u) (hu : u ≤ 1048576) : numP (p :: r) = .ok ((u : Int), r) := by
  have e : hd (p :: r) = decDigits u := h
  unfold numP
  rw [e, if_pos ⟨fstD_dec u, zeroA_dec u⟩, valN_dec, if_pos hu, List.tail_cons]
theorem sgnP_tok {q r : List Pc} {n : Int} (h : q.map (·.1) = tokN n) (hn : Rng n) : sgnP (q ++ r) = .ok (n, r) := by
  unfold tokN at h
  obtain ⟨h1, h2⟩ := hn
  by_cases c : n < 0
  · rw [if_pos c] at h
    simp only [List.map_eq_cons_iff, List.map_eq_nil_iff] at h
    obtain ⟨p1, _, rfl, hp1, p2, _, rfl, hp2, rfl⟩ := h
    simp only [List.cons_append, List.nil_append]
    have e1 : hd (p1 :: p2 :: r) = sMinus := hp1
    have e2 : hd (p1 :: p2 :: r).tail ≠ [48] := by
      show p2.1 ≠ [48]
      rw [hp2]; exact dec_ne_zero (by omega)
    unfold sgnP
    rw [if_pos e1, if_neg e2, List.tail_cons, numP_tok hp2 (by omega)]
    simp only [Except.ok.injEq, Prod.mk.injEq, and_true]
    omega
  · rw [if_neg c] at h
    simp only [List.map_eq_cons_iff, List.map_eq_nil_iff] at h
    obtain ⟨p1, _, rfl, hp1, rfl⟩ := h
    simp only [List.cons_append, List.nil_append]
    unfold sgnP
    have hne : hd (p1 :: r) ≠ sMinus := by
      show p1.1 ≠ sMinus
      intro e
      rw [hp1] at e
      have := decDigits_all n.toNat 45 (by rw [e]; simp)
      revert this; decide
    rw [if_neg hne, numP_tok hp1 (by omega)]
    simp only [Except.ok.injEq, Prod.mk.injEq, and_true]
    omega
def tokS (lo hi : Int) : List By := tokN lo ++ sDots :: tokN hi
theorem tk_ok {p : Pc} {r : List Pc} {t : By} (h : p.1 = t) : tk t (p :: r) = .ok ((), r) := by
  have e : hd (p :: r) = t := h
  unfold tk; rw [if_pos e, List.tail_cons]
theorem spnP_tok {q r : List Pc} {lo hi : Int} (h : q.map (·.1) = tokS lo hi) (h1 : Rng lo) (h2 : Rng hi) : spnP (q ++ r) = .ok ((lo, hi), r) := by
  unfold tokS at h
  rw [List.map_eq_append_iff] at h
  obtain ⟨q1, q2, rfl, hq1, hq2⟩ := h
  rw [List.map_eq_cons_iff] at hq2
  obtain ⟨p, q3, rfl, hp, hq3⟩ := hq2
  unfold spnP
  rw [List.append_assoc, sgnP_tok hq1 h1]
  simp only [List.cons_append]
  rw [tk_ok hp]
  simp only
  rw [sgnP_tok hq3 h2]

/-! ### tests -/
def TOk (t : Tst) : Prop := nmd t.1 = true ∧ 1 ≤ t.2.1 ∧ t.2.1 ≤ 6 ∧ Rng t.2.2
def sigN (d : Int) : By := sigs.getD (d.toNat - 1) []
def tokT (t : Tst) : List By := t.1 :: sigN t.2.1 :: tokN t.2.2
theorem dng_sig {d : Int} (h1 : 1 ≤ d) (h2 : d ≤ 6) : (dng (sigN d) : Int) = d := by
  obtain ⟨n, rfl⟩ : ∃ n : Nat, d = n := ⟨d.toNat, by omega⟩
  have : n = 1 ∨ n = 2 ∨ n = 3 ∨ n = 4 ∨ n = 5 ∨ n = 6 := by omega
  rcases this with rfl | rfl | rfl | rfl | rfl | rfl <;> decide
theorem tstP_tok {q r : List Pc} {t : Tst} (h : q.map (·.1) = tokT t) (ht : TOk t) : tstP (q ++ r) = .ok (t, r) := by
  obtain ⟨c, d, v⟩ := t
  obtain ⟨h1, h2, h3, h4⟩ := ht
  simp only [tokT, List.map_eq_cons_iff] at h
  obtain ⟨p1, _, rfl, hp1, p2, q2, rfl, hp2, hq2⟩ := h
  simp only at h1 h2 h3 h4 hp1 hp2
  have e1 : hd (p1 :: (p2 :: q2 ++ r)) = c := hp1
  have e2 : hd (p2 :: q2 ++ r) = sigN d := hp2
  have e3 := dng_sig h2 h3
  unfold tstP nmP
  rw [List.cons_append, e1, if_pos h1, List.tail_cons]
  simp only
  rw [e2, if_neg (by omega)]
  simp only [List.cons_append, List.tail_cons]
  rw [sgnP_tok hq2 h4]
  simp only [e3]
def Err4 {α : Type} (r : PR α) : Prop := ∃ n, r = .error (4, n)
def Gd {α : Type} (r : PR α) (a : α) (rest : List Pc) : Prop := r = .ok (a, rest) ∨ Err4 r
def tokA (l : List Tst) : List By := l.flatMap fun t => wAnd :: tokT t
def tokW : List Tst → List By
  | [] => []
  | t :: l => wWhere :: (tokT t ++ tokA l)
theorem andL_tok : ∀ (l : List Tst) (k : Nat) (acc : List Tst) (q r : List Pc), q.map (·.1) = tokA l → (∀ t ∈ l, TOk t) → hd r ≠ wAnd → Gd (andL k acc (q ++ r)) (acc ++ l) r
  | [], k, acc, q, r, h, _, hr => by
    simp only [tokA, List.flatMap_nil, List.map_eq_nil_iff] at h
    subst h
    left
    rw [List.nil_append, List.append_nil]
    unfold andL
    rw [if_neg hr]
  | t :: l, k, acc, q, r, h, ht, hr => by
    simp only [tokA, List.flatMap_cons, List.cons_append, List.map_eq_cons_iff] at h
    obtain ⟨p, q1, rfl, hp, hq1⟩ := h
    rw [List.map_eq_append_iff] at hq1
    obtain ⟨q2, q3, rfl, hq2, hq3⟩ := hq1
    have e1 : hd (p :: (q2 ++ q3) ++ r) = wAnd := hp
    unfold andL
    rw [if_pos e1]
    simp only [List.cons_append, List.tail_cons]
    cases k with
    | zero => right; exact ⟨_, rfl⟩
    | succ k =>
      simp only [List.append_assoc]
      rw [tstP_tok hq2 (ht t (by simp))]
      simp only
      have := andL_tok l k (acc ++ [t]) q3 r hq3 (fun x hx => ht x (by simp [hx])) hr
      rwa [List.append_assoc, List.singleton_append] at this
theorem whrP_tok {l : List Tst} {q r : List Pc} (h : q.map (·.1) = tokW l) (ht : ∀ t ∈ l, TOk t) (h1 : hd r ≠ wWhere) (h2 : hd r ≠ wAnd) : Gd (whrP (q ++ r)) l r := by
  cases l with
  | nil =>
    simp only [tokW, List.map_eq_nil_iff] at h
    subst h
    left
    rw [List.nil_append]
    unfold whrP
    rw [if_neg h1]
  | cons t l =>
    simp only [tokW, List.map_eq_cons_iff] at h
    obtain ⟨p, q1, rfl, hp, hq1⟩ := h
    rw [List.map_eq_append_iff] at hq1
    obtain ⟨q2, q3, rfl, hq2, hq3⟩ := hq1
    have e1 : hd (p :: (q2 ++ q3) ++ r) = wWhere := hp
    unfold whrP
    rw [if_pos e1]
    simp only [List.cons_append, List.tail_cons]
    rw [List.append_assoc, tstP_tok hq2 (ht t (by simp))]
    exact andL_tok l 63 [t] q3 r hq3 (fun x hx => ht x (by simp [hx])) h2

/-! ### questions -/
def isS : Qu → Bool
  | .node k _ _ _ _ _ _ _ => decide (k = 4) || decide (k = 5)
  | .none => false
def isT : Qu → Bool
  | .node k _ _ _ _ _ _ _ => decide (k = 6)
  | .none => false
def brc (b : Bool) (l : List By) : List By := if b then sOpen :: (l ++ [sShut]) else l
def toks : Qu → List By
  | .none => []
  | .node k c lo hi wh _ x y =>
    if k = 1 then wCount :: tokW wh
    else if k = 2 then wSum :: c :: wIn :: (tokS lo hi ++ tokW wh)
    else if k = 3 then wBins :: c :: tokW wh
    else if k = 4 then toks x ++ sPlus :: brc (isS y) (toks y)
    else if k = 5 then toks x ++ sMinus :: brc (isS y) (toks y)
    else if k = 6 then tokN lo ++ sStar :: brc (isS x) (toks x)
    else if k = 7 then wJoin :: sOpen :: (toks x ++ sComma :: (toks y ++ [sShut]))
    else if k = 8 then wTotal :: brc true (toks x)
    else if k = 9 then brc (isS x || isT x) (toks x) ++ [sLeft, decDigits lo.toNat, sRight]
    else wClamp :: (tokS lo hi ++ brc true (toks x))
def WOk (l : List Tst) : Prop := l.length ≤ 64 ∧ ∀ t ∈ l, TOk t
/-- what can be said -/
def Say : Qu → Prop
  | .none => False
  | .node k c lo hi wh n x y =>
    (k = 1 ∧ c = [] ∧ lo = 0 ∧ hi = 0 ∧ n = 0 ∧ WOk wh ∧ x = .none ∧ y = .none) ∨
    (k = 2 ∧ nmd c = true ∧ Rng lo ∧ Rng hi ∧ n = 0 ∧ WOk wh ∧ x = .none ∧ y = .none) ∨
    (k = 3 ∧ nmd c = true ∧ lo = 0 ∧ hi = 0 ∧ n = 0 ∧ WOk wh ∧ x = .none ∧ y = .none) ∨
    ((k = 4 ∨ k = 5 ∨ k = 7) ∧ c = [] ∧ lo = 0 ∧ hi = 0 ∧ wh = [] ∧ n = 2 ∧ Say x ∧ Say y) ∨
    (k = 6 ∧ c = [] ∧ Rng lo ∧ hi = 0 ∧ wh = [] ∧ n = 1 ∧ Say x ∧ y = .none) ∨
    (k = 8 ∧ c = [] ∧ lo = 0 ∧ hi = 0 ∧ wh = [] ∧ n = 1 ∧ Say x ∧ y = .none) ∨
    (k = 9 ∧ c = [] ∧ (0 ≤ lo ∧ lo ≤ 1048576) ∧ hi = 0 ∧ wh = [] ∧ n = 1 ∧ Say x ∧ y = .none) ∨
    (k = 10 ∧ c = [] ∧ Rng lo ∧ Rng hi ∧ wh = [] ∧ n = 1 ∧ Say x ∧ y = .none)
/-- what may stand behind a question -/
def Fol (r : List Pc) : Prop := hd r ≠ sLeft ∧ hd r ≠ wWhere ∧ hd r ≠ wAnd
theorem fol_of {p : Pc} {r : List Pc} {t : By} (h : p.1 = t) (ht : t = sPlus ∨ t = sMinus ∨ t = sShut ∨ t = sComma) : Fol (p :: r) := by
  unfold Fol
  simp only [hd, h]
  rcases ht with rfl | rfl | rfl | rfl <;> decide
def QS (a : Qu) : Prop := ∀ (k : Nat) (q r : List Pc), q.map (·.1) = toks a → Fol r → (∃ m, qusK k (q ++ r) = sumL (prdP k) m a r) ∨ Err4 (qusK k (q ++ r))
def PS (a : Qu) : Prop := isS a = false → ∀ (k : Nat) (q r : List Pc), q.map (·.1) = toks a → Fol r → Gd (prdP k (q ++ r)) a r
def KS (a : Qu) : Prop := isS a = false → isT a = false → ∀ (k n : Nat) (q r : List Pc), q.map (·.1) = toks a → hd r ≠ wWhere → hd r ≠ wAnd → (∃ m, pikP (qusK k) n (q ++ r) = pikL m a r) ∨ Err4 (pikP (qusK k) n (q ++ r))
theorem sumL_end (p : List Pc → PR Qu) (m : Nat) (a : Qu) {r : List Pc} (h1 : hd r ≠ sPlus) (h2 : hd r ≠ sMinus) : sumL p m a r = .ok (a, r) := by
  unfold sumL; rw [if_neg (by simp only [not_or]; exact ⟨h1, h2⟩)]
theorem pikL_end (m : Nat) (a : Qu) {r : List Pc} (h1 : hd r ≠ sLeft) : pikL m a r = .ok (a, r) := by
  unfold pikL; rw [if_neg h1]
/-- a question that ends where a bracket or a comma stands -/
theorem QS.shut {a : Qu} (h : QS a) {k : Nat} {q r : List Pc} (hq : q.map (·.1) = toks a) {t : By} (hr : hd r = t) (ht : t = sShut ∨ t = sComma) : Gd (qusK k (q ++ r)) a r := by
  have hf : Fol r := by unfold Fol; rw [hr]; rcases ht with rfl | rfl <;> decide
  rcases h k q r hq hf with ⟨m, hm⟩ | he
  · left
    rw [hm]
    exact sumL_end _ m a (by rw [hr]; rcases ht with rfl | rfl <;> decide) (by rw [hr]; rcases ht with rfl | rfl <;> decide)
  · exact .inr he
theorem brk_tok {a : Qu} (h : QS a) {k : Nat} {q r : List Pc} (hq : q.map (·.1) = sOpen :: (toks a ++ [sShut])) : Gd (brkP (qusK k) (q ++ r)) a r := by
  simp only [List.map_eq_cons_iff] at hq
  obtain ⟨p, q1, rfl, hp, hq1⟩ := hq
  rw [List.map_eq_append_iff] at hq1
  obtain ⟨q2, q3, rfl, hq2, hq3⟩ := hq1
  simp only [List.map_eq_cons_iff, List.map_eq_nil_iff] at hq3
  obtain ⟨p2, _, rfl, hp2, rfl⟩ := hq3
  unfold brkP
  simp only [List.cons_append, List.append_assoc, List.nil_append]
  rw [tk_ok hp]
  simp only
  rcases h.shut (k := k) hq2 (r := p2 :: r) (t := sShut) hp2 (.inl rfl) with h1 | ⟨n, h1⟩
  · rw [h1]
    left
    simp only
    rw [tk_ok hp2]
  · rw [h1]
    exact .inr ⟨n, rfl⟩
/-- the first piece -/
def Fst (l : List By) : Prop := ∃ t r, l = t :: r ∧ t ≠ sMinus ∧ fstD t = false
theorem prd_pik {k : Nat} {q r : List Pc} (h : Fst (q.map (·.1))) : prdP (k + 1) (q ++ r) = pikP (qusK k) 64 (q ++ r) := by
  obtain ⟨t, l, hl, h1, h2⟩ := h
  rw [List.map_eq_cons_iff] at hl
  obtain ⟨p, q1, rfl, hp, _⟩ := hl
  have e1 : hd (p :: q1 ++ r) = t := hp
  unfold prdP
  rw [if_neg (by rw [e1]; simp only [not_or]; exact ⟨h1, by rw [h2]; decide⟩)]
  rfl
theorem fst_toks {a : Qu} (h : Say a) (hs : isS a = false) (ht : isT a = false) : Fst (toks a) := by
  induction a with
  | none => exact h.elim
  | node k c lo hi wh n x y ihx ihy =>
    rcases h with ⟨rfl, h⟩ | ⟨rfl, h⟩ | ⟨rfl, h⟩ | ⟨h1, h⟩ | ⟨rfl, h⟩ | ⟨rfl, h⟩ | ⟨rfl, h⟩ | ⟨rfl, h⟩
    · exact ⟨_, _, rfl, by decide, by decide⟩
    · exact ⟨_, _, rfl, by decide, by decide⟩
    · exact ⟨_, _, rfl, by decide, by decide⟩
    · rcases h1 with rfl | rfl | rfl
      · simp [isS] at hs
      · simp [isS] at hs
      · exact ⟨_, _, rfl, by decide, by decide⟩
    · simp [isT] at ht
    · exact ⟨_, _, rfl, by decide, by decide⟩
    · show Fst (brc (isS x || isT x) (toks x) ++ [sLeft, decDigits lo.toNat, sRight])
      by_cases hb : (isS x || isT x) = true
      · rw [hb]
        exact ⟨_, _, rfl, by decide, by decide⟩
      · have hb' : (isS x || isT x) = false := by simpa using hb
        simp only [Bool.or_eq_false_iff] at hb'
        obtain ⟨t, r, h1, h2, h3⟩ := ihx h.2.2.2.2.2.1 hb'.1 hb'.2
        rw [hb'.1, hb'.2]
        refine ⟨t, r ++ [sLeft, decDigits lo.toNat, sRight], ?_, h2, h3⟩
        show toks x ++ _ = _
        rw [h1]; rfl
    · exact ⟨_, _, rfl, by decide, by decide⟩
/-- in brackets, or not: a product -/
theorem near_tok {a : Qu} (hq : QS a) (hp : PS a) {k : Nat} {q r : List Pc} (h : q.map (·.1) = brc (isS a) (toks a)) (hf : Fol r) : Gd (prdP k (q ++ r)) a r := by
  by_cases hs : isS a = true
  · rw [hs] at h
    cases k with
    | zero => exact .inr ⟨_, rfl⟩
    | succ k =>
      rw [prd_pik (by rw [h]; exact ⟨_, _, rfl, by decide, by decide⟩)]
      unfold pikP thgP
      have hh : hd (q ++ r) = sOpen := by
        simp only [brc, if_pos, List.map_eq_cons_iff] at h
        obtain ⟨p, q1, rfl, hp, _⟩ := h
        exact hp
      rw [if_pos hh]
      rcases brk_tok hq (k := k) (q := q) (r := r) (by simpa [brc] using h) with h1 | ⟨n, h1⟩
      · rw [h1]; left; exact pikL_end _ _ hf.1
      · rw [h1]; exact .inr ⟨n, rfl⟩
  · have hs' : isS a = false := by simpa using hs
    rw [hs'] at h
    exact hp hs' k q r h hf
end Sp
end Go.Proofs.YtidfkencjdjkbaaGreatDoor

/-
  CHAPTER 15's MATHEMATICS (3): WHAT IS SAID IS HEARD, in pieces: by induction on the question.
-/
namespace Go.Proofs.YtidfkencjdjkbaaGreatDoor
namespace Sp
open Go.Lib (decDigits itoa)

theorem ks_ps {a : Qu} (hS : Say a) (h : KS a) (hs : isS a = false) (ht : isT a = false) : PS a := by
  intro _ k q r hq hf
  cases k with
  | zero => exact .inr ⟨_, rfl⟩
  | succ k =>
    rw [prd_pik (by rw [hq]; exact fst_toks hS hs ht)]
    rcases h hs ht k 64 q r hq hf.2.1 hf.2.2 with ⟨m, hm⟩ | he
    · left; rw [hm]; exact pikL_end m a hf.1
    · exact .inr he
theorem ps_qs {a : Qu} (h : PS a) (hs : isS a = false) : QS a := by
  intro k q r hq hf
  unfold qusK qusP
  rcases h hs k q r hq hf with h1 | ⟨n, h1⟩
  · left; exact ⟨64, by rw [h1]⟩
  · right; rw [h1]; exact ⟨n, rfl⟩
theorem vac_ks {a : Qu} (h : isS a = true ∨ isT a = true) : KS a := by
  intro h1 h2
  rcases h with h | h
  · rw [h1] at h; cases h
  · rw [h2] at h; cases h
/-- a thing, then its picks -/
theorem thg_ks {a : Qu} (h : ∀ (k : Nat) (q r : List Pc), q.map (·.1) = toks a → hd r ≠ wWhere → hd r ≠ wAnd → Gd (thgP (qusK k) (q ++ r)) a r) : KS a := by
  intro _ _ k n q r hq h1 h2
  unfold pikP
  rcases h k q r hq h1 h2 with h3 | ⟨m, h3⟩
  · left; exact ⟨n, by rw [h3]⟩
  · right; rw [h3]; exact ⟨m, rfl⟩
theorem sumL_zero {p : List Pc → PR Qu} {a : Qu} {ps : List Pc} (h : hd ps = sPlus ∨ hd ps = sMinus) : sumL p 0 a ps = .error (4, hat ps) := by
  unfold sumL; rw [if_pos h]
theorem sumL_succ {p : List Pc → PR Qu} {m : Nat} {a : Qu} {ps : List Pc} (h : hd ps = sPlus ∨ hd ps = sMinus) : sumL p (m + 1) a ps = match p ps.tail with
    | .error e => .error e
    | .ok (b, r) => sumL p m (.node (if hd ps = sPlus then 4 else 5) [] 0 0 [] 2 a b) r := by
  rw [sumL, if_pos h] <;> rfl
theorem pikL_zero {a : Qu} {ps : List Pc} (h : hd ps = sLeft) : pikL 0 a ps = .error (4, hat ps) := by
  unfold pikL; rw [if_pos h]
theorem pikL_succ {m : Nat} {a : Qu} {ps : List Pc} (h : hd ps = sLeft) : pikL (m + 1) a ps = match numP ps.tail with
    | .error e => .error e
    | .ok (n, r) => match tk sRight r with
      | .error e => .error e
      | .ok (_, r) => pikL m (.node 9 [] n 0 [] 1 a .none) r := by
  rw [pikL, if_pos h] <;> rfl
theorem sum_qs {k : Int} {x y : Qu} {t : By} (hk : (k = 4 ∧ t = sPlus) ∨ (k = 5 ∧ t = sMinus)) (hx : QS x) (hy : QS y) (py : PS y) (ht : toks (.node k [] 0 0 [] 2 x y) = toks x ++ t :: brc (isS y) (toks y)) : QS (.node k [] 0 0 [] 2 x y) := by
  intro n q r hq hf
  rw [ht, List.map_eq_append_iff] at hq
  obtain ⟨q1, q2, rfl, hq1, hq2⟩ := hq
  rw [List.map_eq_cons_iff] at hq2
  obtain ⟨p, q3, rfl, hp, hq3⟩ := hq2
  have hf1 : Fol (p :: q3 ++ r) := fol_of hp (by rcases hk with ⟨_, rfl⟩ | ⟨_, rfl⟩ <;> simp)
  rw [List.append_assoc]
  rcases hx n q1 (p :: q3 ++ r) hq1 hf1 with ⟨m, hm⟩ | he
  · rw [hm]
    have e1 : hd (p :: q3 ++ r) = t := hp
    have e2 : hd (p :: q3 ++ r) = sPlus ∨ hd (p :: q3 ++ r) = sMinus := by rw [e1]; rcases hk with ⟨_, rfl⟩ | ⟨_, rfl⟩ <;> simp
    cases m with
    | zero => exact .inr ⟨_, sumL_zero e2⟩
    | succ m =>
      rw [sumL_succ e2]
      simp only [List.cons_append, List.tail_cons]
      rcases near_tok hy py (k := n) hq3 hf with h1 | ⟨j, h1⟩
      · rw [h1]
        simp only
        have e3 : (if hd (p :: (q3 ++ r)) = sPlus then (4 : Int) else 5) = k := by
          have : hd (p :: (q3 ++ r)) = t := hp
          rw [this]
          rcases hk with ⟨rfl, rfl⟩ | ⟨rfl, rfl⟩ <;> decide
        rw [e3]
        exact .inl ⟨m, rfl⟩
      · rw [h1]
        exact .inr ⟨j, rfl⟩
  · exact .inr he
theorem pik_ks {lo : Int} {x : Qu} (h0 : 0 ≤ lo) (h1 : lo ≤ 1048576) (hx : QS x) (kx : KS x) : KS (.node 9 [] lo 0 [] 1 x .none) := by
  intro _ _ k n q r hq hw ha
  have ht : toks (.node 9 [] lo 0 [] 1 x .none) = brc (isS x || isT x) (toks x) ++ [sLeft, decDigits lo.toNat, sRight] := rfl
  rw [ht, List.map_eq_append_iff] at hq
  obtain ⟨q1, q2, rfl, hq1, hq2⟩ := hq
  simp only [List.map_eq_cons_iff, List.map_eq_nil_iff] at hq2
  obtain ⟨p1, _, rfl, hp1, p2, _, rfl, hp2, p3, _, rfl, hp3, rfl⟩ := hq2
  rw [List.append_assoc]
  have hr : hd ([p1, p2, p3] ++ r) = sLeft := hp1
  have key : (∃ m, pikP (qusK k) n (q1 ++ ([p1, p2, p3] ++ r)) = pikL m x ([p1, p2, p3] ++ r)) ∨ Err4 (pikP (qusK k) n (q1 ++ ([p1, p2, p3] ++ r))) := by
    by_cases hb : (isS x || isT x) = true
    · rw [hb] at hq1
      have hh : hd (q1 ++ ([p1, p2, p3] ++ r)) = sOpen := by
        simp only [brc, if_pos, List.map_eq_cons_iff] at hq1
        obtain ⟨p, q4, rfl, hp, _⟩ := hq1
        exact hp
      unfold pikP thgP
      rw [if_pos hh]
      rcases brk_tok hx (k := k) (q := q1) (r := [p1, p2, p3] ++ r) (by simpa [brc] using hq1) with h3 | ⟨m, h3⟩
      · rw [h3]; exact .inl ⟨n, rfl⟩
      · rw [h3]; exact .inr ⟨m, rfl⟩
    · have hb' : (isS x || isT x) = false := by simpa using hb
      rw [hb'] at hq1
      rw [Bool.or_eq_false_iff] at hb'
      exact kx hb'.1 hb'.2 k n q1 _ hq1 (by rw [hr]; decide) (by rw [hr]; decide)
  rcases key with ⟨m, hm⟩ | he
  · rw [hm]
    cases m with
    | zero => exact .inr ⟨_, pikL_zero hr⟩
    | succ m =>
      left
      refine ⟨m, ?_⟩
      rw [pikL_succ hr]
      simp only [List.cons_append, List.nil_append, List.tail_cons]
      rw [numP_tok hp2 (by omega)]
      simp only
      rw [tk_ok hp3]
      simp only
      rw [show ((lo.toNat : Nat) : Int) = lo by omega]
  · exact .inr he
theorem tms_ps {lo : Int} {x : Qu} (hl : Rng lo) (hx : QS x) (px : PS x) : PS (.node 6 [] lo 0 [] 1 x .none) := by
  intro _ k q r hq hf
  cases k with
  | zero => exact .inr ⟨_, rfl⟩
  | succ k =>
    have ht : toks (.node 6 [] lo 0 [] 1 x .none) = tokN lo ++ sStar :: brc (isS x) (toks x) := rfl
    rw [ht, List.map_eq_append_iff] at hq
    obtain ⟨q1, q2, rfl, hq1, hq2⟩ := hq
    rw [List.map_eq_cons_iff] at hq2
    obtain ⟨p, q3, rfl, hp, hq3⟩ := hq2
    have hh : hd (q1 ++ p :: q3 ++ r) = sMinus ∨ fstD (hd (q1 ++ p :: q3 ++ r)) = true := by
      unfold tokN at hq1
      by_cases c : lo < 0
      · rw [if_pos c, List.map_eq_cons_iff] at hq1
        obtain ⟨p1, q4, rfl, hp1, _⟩ := hq1
        exact .inl hp1
      · rw [if_neg c, List.map_eq_cons_iff] at hq1
        obtain ⟨p1, q4, rfl, hp1, _⟩ := hq1
        right
        show fstD p1.1 = true
        rw [hp1]; exact fstD_dec _
    unfold prdP
    rw [if_pos hh, List.append_assoc, sgnP_tok hq1 hl]
    simp only [List.cons_append]
    rw [tk_ok hp]
    simp only
    rcases near_tok hx px (k := k) hq3 hf with h1 | ⟨j, h1⟩
    · rw [h1]; exact .inl rfl
    · rw [h1]; exact .inr ⟨j, rfl⟩
theorem nmP_tok {p : Pc} {r : List Pc} {c : By} (h : p.1 = c) (hn : nmd c = true) : nmP (p :: r) = .ok (c, r) := by
  have e : hd (p :: r) = c := h
  unfold nmP
  rw [e, if_pos hn, List.tail_cons]
theorem turn_main (a : Qu) : Say a → QS a ∧ PS a ∧ KS a := by
  induction a with
  | none => intro h; exact h.elim
  | node k c lo hi wh n x y ihx ihy =>
    intro h
    have hS := h
    have fin : isS (.node k c lo hi wh n x y) = false → isT (.node k c lo hi wh n x y) = false → KS (.node k c lo hi wh n x y) → QS (.node k c lo hi wh n x y) ∧ PS (.node k c lo hi wh n x y) ∧ KS (.node k c lo hi wh n x y) :=
      fun h1 h2 h3 => ⟨ps_qs (ks_ps hS h3 h1 h2) h1, ks_ps hS h3 h1 h2, h3⟩
    rcases h with ⟨rfl, rfl, rfl, rfl, rfl, hw, rfl, rfl⟩ | ⟨rfl, hc, hlo, hhi, rfl, hw, rfl, rfl⟩ | ⟨rfl, hc, rfl, rfl, rfl, hw, rfl, rfl⟩ | ⟨h1, rfl, rfl, rfl, rfl, rfl, sx, sy⟩ | ⟨rfl, rfl, hlo, rfl, rfl, rfl, sx, rfl⟩ | ⟨rfl, rfl, rfl, rfl, rfl, rfl, sx, rfl⟩ | ⟨rfl, rfl, hlo, rfl, rfl, rfl, sx, rfl⟩ | ⟨rfl, rfl, hlo, hhi, rfl, rfl, sx, rfl⟩
    · refine fin rfl rfl (thg_ks fun k q r hq g1 g2 => ?_)
      have ht : toks (.node 1 [] 0 0 wh 0 .none .none) = wCount :: tokW wh := rfl
      rw [ht, List.map_eq_cons_iff] at hq
      obtain ⟨p, q1, rfl, hp, hq1⟩ := hq
      have e : hd (p :: q1 ++ r) = wCount := hp
      unfold thgP
      rw [if_neg (by rw [e]; decide), if_pos e, List.cons_append, List.tail_cons]
      rcases whrP_tok (r := r) hq1 hw.2 g1 g2 with h1 | ⟨j, h1⟩
      · rw [h1]; exact .inl rfl
      · rw [h1]; exact .inr ⟨j, rfl⟩
    · refine fin rfl rfl (thg_ks fun k q r hq g1 g2 => ?_)
      have ht : toks (.node 2 c lo hi wh 0 .none .none) = wSum :: c :: wIn :: (tokS lo hi ++ tokW wh) := rfl
      rw [ht] at hq
      simp only [List.map_eq_cons_iff] at hq
      obtain ⟨p, _, rfl, hp, p2, _, rfl, hp2, p3, q3, rfl, hp3, hq3⟩ := hq
      rw [List.map_eq_append_iff] at hq3
      obtain ⟨q4, q5, rfl, hq4, hq5⟩ := hq3
      have e : hd (p :: p2 :: p3 :: (q4 ++ q5) ++ r) = wSum := hp
      unfold thgP
      rw [if_neg (by rw [e]; decide), if_neg (by rw [e]; decide), if_neg (by rw [e]; decide), if_pos e]
      simp only [List.cons_append, List.tail_cons]
      rw [nmP_tok hp2 hc]
      simp only
      rw [tk_ok hp3]
      simp only
      rw [List.append_assoc, spnP_tok hq4 hlo hhi]
      simp only
      rcases whrP_tok (r := r) hq5 hw.2 g1 g2 with h1 | ⟨j, h1⟩
      · rw [h1]; exact .inl rfl
      · rw [h1]; exact .inr ⟨j, rfl⟩
    · refine fin rfl rfl (thg_ks fun k q r hq g1 g2 => ?_)
      have ht : toks (.node 3 c 0 0 wh 0 .none .none) = wBins :: c :: tokW wh := rfl
      rw [ht] at hq
      simp only [List.map_eq_cons_iff] at hq
      obtain ⟨p, _, rfl, hp, p2, q2, rfl, hp2, hq2⟩ := hq
      have e : hd (p :: p2 :: q2 ++ r) = wBins := hp
      unfold thgP
      rw [if_neg (by rw [e]; decide), if_neg (by rw [e]; decide), if_pos e]
      simp only [List.cons_append, List.tail_cons]
      rw [nmP_tok hp2 hc]
      simp only
      rcases whrP_tok (r := r) hq2 hw.2 g1 g2 with h1 | ⟨j, h1⟩
      · rw [h1]; exact .inl rfl
      · rw [h1]; exact .inr ⟨j, rfl⟩
    · obtain ⟨qx, px, kx⟩ := ihx sx
      obtain ⟨qy, py, ky⟩ := ihy sy
      rcases h1 with rfl | rfl | rfl
      · exact ⟨sum_qs (.inl ⟨rfl, rfl⟩) qx qy py rfl, (fun h => by simp [isS] at h), vac_ks (.inl rfl)⟩
      · exact ⟨sum_qs (.inr ⟨rfl, rfl⟩) qx qy py rfl, (fun h => by simp [isS] at h), vac_ks (.inl rfl)⟩
      · refine fin rfl rfl (thg_ks fun k q r hq g1 g2 => ?_)
        have ht : toks (.node 7 [] 0 0 [] 2 x y) = wJoin :: sOpen :: (toks x ++ sComma :: (toks y ++ [sShut])) := rfl
        rw [ht] at hq
        simp only [List.map_eq_cons_iff, List.map_eq_append_iff, List.map_eq_nil_iff] at hq
        obtain ⟨p, _, rfl, hp, p2, _, rfl, hp2, q1, _, rfl, hq1, p3, _, rfl, hp3, q4, _, rfl, hq4, p5, _, rfl, hp5, rfl⟩ := hq
        have e : hd (p :: p2 :: (q1 ++ p3 :: (q4 ++ [p5])) ++ r) = wJoin := hp
        unfold thgP
        rw [if_neg (by rw [e]; decide), if_neg (by rw [e]; decide), if_neg (by rw [e]; decide), if_neg (by rw [e]; decide), if_neg (by rw [e]; decide), if_neg (by rw [e]; decide), if_pos e]
        simp only [List.cons_append, List.tail_cons]
        unfold bthP
        rw [tk_ok hp2]
        simp only [List.append_assoc, List.cons_append, List.nil_append]
        rcases qx.shut (k := k) hq1 (r := p3 :: (q4 ++ p5 :: r)) (t := sComma) hp3 (.inr rfl) with h1 | ⟨j, h1⟩
        · rw [h1]
          simp only
          rw [tk_ok hp3]
          simp only
          rcases qy.shut (k := k) hq4 (r := p5 :: r) (t := sShut) hp5 (.inl rfl) with h2 | ⟨j, h2⟩
          · rw [h2]
            simp only
            rw [tk_ok hp5]
            exact .inl rfl
          · rw [h2]; exact .inr ⟨j, rfl⟩
        · rw [h1]; exact .inr ⟨j, rfl⟩
    · obtain ⟨qx, px, kx⟩ := ihx sx
      have hp := tms_ps hlo qx px
      exact ⟨ps_qs hp rfl, hp, vac_ks (.inr rfl)⟩
    · obtain ⟨qx, px, kx⟩ := ihx sx
      refine fin rfl rfl (thg_ks fun k q r hq g1 g2 => ?_)
      have ht : toks (.node 8 [] 0 0 [] 1 x .none) = wTotal :: (sOpen :: (toks x ++ [sShut])) := rfl
      rw [ht, List.map_eq_cons_iff] at hq
      obtain ⟨p, q1, rfl, hp, hq1⟩ := hq
      have e : hd (p :: q1 ++ r) = wTotal := hp
      unfold thgP
      rw [if_neg (by rw [e]; decide), if_neg (by rw [e]; decide), if_neg (by rw [e]; decide), if_neg (by rw [e]; decide), if_pos e, List.cons_append, List.tail_cons]
      rcases brk_tok qx (k := k) (r := r) hq1 with h1 | ⟨j, h1⟩
      · rw [h1]; exact .inl rfl
      · rw [h1]; exact .inr ⟨j, rfl⟩
    · obtain ⟨qx, px, kx⟩ := ihx sx
      exact fin rfl rfl (pik_ks hlo.1 hlo.2 qx kx)
    · obtain ⟨qx, px, kx⟩ := ihx sx
      refine fin rfl rfl (thg_ks fun k q r hq g1 g2 => ?_)
      have ht : toks (.node 10 [] lo hi [] 1 x .none) = wClamp :: (tokS lo hi ++ (sOpen :: (toks x ++ [sShut]))) := rfl
      rw [ht, List.map_eq_cons_iff] at hq
      obtain ⟨p, q1, rfl, hp, hq1⟩ := hq
      rw [List.map_eq_append_iff] at hq1
      obtain ⟨q2, q3, rfl, hq2, hq3⟩ := hq1
      have e : hd (p :: (q2 ++ q3) ++ r) = wClamp := hp
      unfold thgP
      rw [if_neg (by rw [e]; decide), if_neg (by rw [e]; decide), if_neg (by rw [e]; decide), if_neg (by rw [e]; decide), if_neg (by rw [e]; decide), if_pos e, List.cons_append, List.tail_cons, List.append_assoc, spnP_tok hq2 hlo hhi]
      simp only
      rcases brk_tok qx (k := k) (r := r) hq3 with h1 | ⟨j, h1⟩
      · rw [h1]; exact .inl rfl
      · rw [h1]; exact .inr ⟨j, rfl⟩
/-- WHAT IS SAID IS HEARD: or it is too much -/
theorem turn_pieces {a : Qu} (h : Say a) {q r : List Pc} {k : Nat} (hq : q.map (·.1) = toks a) (hr : hd r = []) : Gd (qusK k (q ++ r)) a r := by
  rcases (turn_main a h).1 k q r hq (by unfold Fol; rw [hr]; decide) with ⟨m, hm⟩ | he
  · left; rw [hm]; exact sumL_end _ m a (by rw [hr]; decide) (by rw [hr]; decide)
  · exact .inr he
end Sp
end Go.Proofs.YtidfkencjdjkbaaGreatDoor

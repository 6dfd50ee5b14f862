import Derived.Test.YtidfkencjdjkbaaGreatDoorQo02
import Derived.Test.YtidfkencjdjkbaaGreatDoorQo01
import Derived.Defers
import Derived.Recover
import Derived.Deep.DeepCutAuto
/-
  CHAPTER 15's MATHEMATICS (5): the text of a question, and its pieces: WHAT IS SAID IS HEARD.
-/
namespace Go.Proofs.YtidfkencjdjkbaaGreatDoor
namespace Sp
open Go.Lib (decDigits itoa)

/-! ### cutting -/
theorem cutF_fuel : ∀ (n : Nat) (s : By) (f g a : Nat), s.length ≤ n → s.length ≤ f → s.length ≤ g → cutF f s a = cutF g s a := by
  intro n
  induction n with
  | zero =>
    intro s f g a h _ _
    obtain rfl : s = [] := List.length_eq_zero_iff.1 (by omega)
    cases f <;> cases g <;> rfl
  | succ n ih =>
    intro s f g a h hf hg
    cases s with
    | nil => cases f <;> cases g <;> rfl
    | cons c r =>
      simp only [List.length_cons] at h hf hg
      cases f with
      | zero => omega
      | succ f =>
        cases g with
        | zero => omega
        | succ g =>
          unfold cutF
          simp only
          by_cases c1 : c = 32 ∨ c = 10
          · rw [if_pos c1, if_pos c1]
            exact ih r f g (a + 1) (by omega) (by omega) (by omega)
          · rw [if_neg c1, if_neg c1]
            by_cases c2 : lonN (c :: r) = 0
            · rw [if_pos c2, if_pos c2]
            · rw [if_neg c2, if_neg c2]
              rw [ih ((c :: r).drop (lonN (c :: r))) f g _ (by rw [List.length_drop, List.length_cons]; omega) (by rw [List.length_drop, List.length_cons]; omega) (by rw [List.length_drop, List.length_cons]; omega)]
theorem cutT_nil (a : Nat) : cutT [] a = .ok [([], a)] := rfl
theorem cutT_sp (c : UInt8) (h : c = 32 ∨ c = 10) (r : By) (a : Nat) : cutT (c :: r) a = cutT r (a + 1) := by
  show (if c = 32 ∨ c = 10 then cutF r.length r (a + 1) else _) = cutF r.length r (a + 1)
  rw [if_pos h]
/-- what is cut is put ahead -/
def ahead (qs : List Pc) : Except Nat (List Pc) → Except Nat (List Pc)
  | .ok ps => .ok (qs ++ ps)
  | .error e => .error e
theorem ahead_ahead (p q : List Pc) (x : Except Nat (List Pc)) : ahead p (ahead q x) = ahead (p ++ q) x := by cases x <;> simp [ahead]
theorem cutT_pc {s z : By} {c : UInt8} {r : By} (hs : s = c :: r) (hc : ¬ (c = 32 ∨ c = 10)) (hl : lonN (s ++ z) = s.length) (a : Nat) : cutT (s ++ z) a = ahead [(s, a)] (cutT z (a + s.length)) := by
  subst hs
  unfold cutT
  rw [List.cons_append, List.length_cons]
  conv => lhs; unfold cutF
  simp only
  rw [List.cons_append] at hl
  rw [if_neg hc, hl, if_neg (by simp)]
  have e1 : (c :: (r ++ z)).drop (c :: r).length = z := by
    rw [← List.cons_append]; exact List.drop_left
  have e2 : (c :: (r ++ z)).take (c :: r).length = c :: r := by
    rw [← List.cons_append]; exact List.take_left
  rw [e1, e2, cutF_fuel z.length z (r ++ z).length z.length _ (Nat.le_refl _) (by simp) (Nat.le_refl _)]
  cases cutF z.length z (a + (c :: r).length) <;> rfl

/-! ### how long a piece is -/
theorem runL_app {p : UInt8 → Bool} {s z : By} (h : ∀ c ∈ s, p c = true) : runL p (s ++ z) = s.length + runL p z := by
  induction s with
  | nil => simp
  | cons c s ih =>
    show (if p c then runL p (s ++ z) + 1 else 0) = _
    rw [if_pos (h c (by simp)), ih (fun x hx => h x (by simp [hx])), List.length_cons]
    omega
theorem lonN_cons (c : UInt8) (r : By) : lonN (c :: r) = if letB c then runL letB (c :: r) else if digB c then runL digB (c :: r) else if twoB ((c :: r).take 2) then 2 else if oneB c then 1 else 0 := rfl
/-- what may stand right behind a piece -/
def Nx (z : By) : Prop := z = [] ∨ ∃ c r, z = c :: r ∧ (c = 32 ∨ c = 41 ∨ c = 93 ∨ c = 91 ∨ c = 44 ∨ c = 46)
theorem runL_nx {p : UInt8 → Bool} (hp : p 32 = false ∧ p 41 = false ∧ p 93 = false ∧ p 91 = false ∧ p 44 = false ∧ p 46 = false) {z : By} (h : Nx z) : runL p z = 0 := by
  rcases h with rfl | ⟨c, r, rfl, h⟩
  · rfl
  · unfold runL
    rw [if_neg]
    obtain ⟨h1, h2, h3, h4, h5, h6⟩ := hp
    rcases h with rfl | rfl | rfl | rfl | rfl | rfl <;> simp [h1, h2, h3, h4, h5, h6]
theorem lon_let {s z : By} (hs : s ≠ []) (h : ∀ c ∈ s, letB c = true) (hz : Nx z) : lonN (s ++ z) = s.length := by
  cases s with
  | nil => exact absurd rfl hs
  | cons c r =>
    rw [List.cons_append]
    rw [lonN_cons]
    rw [if_pos (h c (by simp)), ← List.cons_append, runL_app h, runL_nx (by decide) hz]
    omega
theorem dig_not_let {c : UInt8} (h : digB c = true) : letB c = false := by
  unfold digB at h
  unfold letB
  simp at h ⊢
  omega
theorem lon_dig {s z : By} (hs : s ≠ []) (h : ∀ c ∈ s, digB c = true) (hz : Nx z) : lonN (s ++ z) = s.length := by
  cases s with
  | nil => exact absurd rfl hs
  | cons c r =>
    rw [List.cons_append]
    rw [lonN_cons]
    have hc := h c (by simp)
    rw [if_neg (by rw [dig_not_let hc]; decide), if_pos hc, ← List.cons_append, runL_app h, runL_nx (by decide) hz]
    omega
/-- signs of one byte that begin no sign of two -/
theorem lon_one {c : UInt8} {z : By} (h1 : letB c = false) (h2 : digB c = false) (h3 : oneB c = true) (h4 : c ≠ 46 ∧ c ≠ 60 ∧ c ≠ 62) : lonN ([c] ++ z) = [c].length := by
  show lonN (c :: z) = 1
  rw [lonN_cons]
  rw [if_neg (by rw [h1]; decide), if_neg (by rw [h2]; decide), if_neg, if_pos h3]
  unfold twoB
  simp only [decide_eq_true_eq]
  intro h
  cases z with
  | nil => simp at h
  | cons d z =>
    simp only [List.take_succ_cons, List.take_zero, List.mem_cons, List.cons.injEq, and_true, List.not_mem_nil, or_false] at h
    rcases h with h | h | h | h
    · exact h4.1 h.1
    · exact h4.2.1 h.1
    · exact h4.2.2 h.1
    · exact h4.2.1 h.1
/-- signs of two bytes -/
theorem lon_two {c d : UInt8} {z : By} (h1 : letB c = false) (h2 : digB c = false) (h3 : twoB [c, d] = true) : lonN ([c, d] ++ z) = [c, d].length := by
  show lonN (c :: d :: z) = 2
  rw [lonN_cons]
  rw [if_neg (by rw [h1]; decide), if_neg (by rw [h2]; decide), if_pos]
  simpa using h3
/-- less, more: what stands behind them makes no sign of two -/
theorem lon_cmp {c : UInt8} {z : By} (hc : c = 60 ∨ c = 62) (hz : Nx z) : lonN ([c] ++ z) = [c].length := by
  show lonN (c :: z) = 1
  rw [lonN_cons]
  have h1 : letB c = false := by rcases hc with rfl | rfl <;> decide
  have h2 : digB c = false := by rcases hc with rfl | rfl <;> decide
  have h3 : oneB c = true := by rcases hc with rfl | rfl <;> decide
  rw [if_neg (by rw [h1]; decide), if_neg (by rw [h2]; decide), if_neg, if_pos h3]
  unfold twoB
  simp only [decide_eq_true_eq]
  rcases hz with rfl | ⟨d, r, rfl, hd⟩
  · rcases hc with rfl | rfl <;> decide
  · simp only [List.take_succ_cons, List.take_zero]
    rcases hc with rfl | rfl <;> rcases hd with rfl | rfl | rfl | rfl | rfl | rfl <;> decide

/-! ### chunks: what is written at once -/
inductive Ck where
  | cw (t : By)
  | cn (v : Int)
  | cs (lo hi : Int)
def Ck.txt : Ck → By
  | .cw s => s
  | .cn v => itoa v
  | .cs lo hi => itoa lo ++ (sDots ++ itoa hi)
def Ck.tok : Ck → List By
  | .cw s => [s]
  | .cn v => tokN v
  | .cs lo hi => tokS lo hi
def apt (last next : By) : Bool := !decide (last ∈ ([[], sOpen, sLeft] : List By)) && !decide (next ∈ ([sShut, sRight, sLeft, sComma] : List By))
def wrt (last : By) : List Ck → By
  | [] => []
  | c :: r => (if apt last c.txt then [32] else []) ++ (c.txt ++ wrt c.txt r)
def WfC : Ck → Prop
  | .cw s => (s ≠ [] ∧ ∀ c ∈ s, letB c = true) ∨ s ∈ ([sPlus, sMinus, sStar, sOpen, sShut, sLeft, sRight, sComma] : List By) ∨ s ∈ sigs
  | _ => True
theorem itoa_neg {v : Int} (h : v < 0) : itoa v = sMinus ++ decDigits v.natAbs := by rw [itoa, if_pos h]; rfl
theorem itoa_pos {v : Int} (h : ¬ v < 0) : itoa v = decDigits v.toNat := by rw [itoa, if_neg h]
theorem cut_dec (u : Nat) {z : By} (hz : Nx z) (a : Nat) : cutT (decDigits u ++ z) a = ahead [(decDigits u, a)] (cutT z (a + (decDigits u).length)) := by
  cases h : decDigits u with
  | nil => exact absurd h (decDigits_ne u)
  | cons c r =>
    have hc : digB c = true := decDigits_all u c (by rw [h]; simp)
    refine cutT_pc rfl ?_ ?_ a
    · rintro (rfl | rfl) <;> exact absurd hc (by decide)
    · rw [← h]; exact lon_dig (decDigits_ne u) (decDigits_all u) hz
theorem cut_minus {z : By} (a : Nat) : cutT (sMinus ++ z) a = ahead [(sMinus, a)] (cutT z (a + 1)) :=
  cutT_pc (c := 45) (r := []) rfl (by decide) (lon_one (by decide) (by decide) (by decide) (by decide)) a
theorem cut_dots {z : By} (a : Nat) : cutT (sDots ++ z) a = ahead [(sDots, a)] (cutT z (a + 2)) :=
  cutT_pc (c := 46) (r := [46]) rfl (by decide) (lon_two (by decide) (by decide) (by decide)) a
theorem cut_num (v : Int) {z : By} (hz : Nx z) (a : Nat) : ∃ qs, qs.map (·.1) = tokN v ∧ cutT (itoa v ++ z) a = ahead qs (cutT z (a + (itoa v).length)) := by
  unfold tokN
  by_cases h : v < 0
  · rw [if_pos h, itoa_neg h, List.append_assoc, cut_minus, cut_dec _ hz, ahead_ahead]
    refine ⟨[(sMinus, a), (decDigits v.natAbs, a + 1)], rfl, ?_⟩
    rw [List.length_append, show sMinus.length = 1 from rfl, Nat.add_assoc]
    rfl
  · rw [if_neg h, itoa_pos h, cut_dec _ hz]
    exact ⟨_, rfl, rfl⟩
/-- what may stand behind a chunk -/
def NxC (c : Ck) (z : By) : Prop := c.txt = sOpen ∨ c.txt = sLeft ∨ Nx z
theorem itoa_ne {v : Int} {c : UInt8} (hc : digB c = false) (h45 : c ≠ 45) : itoa v ≠ [c] := by
  intro e
  by_cases h : v < 0
  · rw [itoa_neg h] at e
    rw [List.cons_append, List.nil_append, List.cons.injEq] at e
    exact h45 e.1.symm
  · rw [itoa_pos h] at e
    have := decDigits_all v.toNat c (by rw [e]; simp)
    rw [hc] at this; cases this
theorem cut_ck {c : Ck} (hw : WfC c) {z : By} (hz : NxC c z) (a : Nat) : ∃ qs, qs.map (·.1) = c.tok ∧ cutT (c.txt ++ z) a = ahead qs (cutT z (a + c.txt.length)) := by
  cases c with
  | cw s =>
    refine ⟨[(s, a)], rfl, ?_⟩
    rcases hw with ⟨h1, h2⟩ | h | h
    · have hz' : Nx z := by
        rcases hz with hz | hz | hz
        · rw [show s = sOpen from hz] at h2; exact absurd (h2 40 (by simp)) (by decide)
        · rw [show s = sLeft from hz] at h2; exact absurd (h2 91 (by simp)) (by decide)
        · exact hz
      cases s with
      | nil => exact absurd rfl h1
      | cons c r =>
        refine cutT_pc rfl ?_ (lon_let h1 h2 hz') a
        have hc := h2 c (by simp)
        rintro (rfl | rfl) <;> exact absurd hc (by decide)
    · simp only [List.mem_cons, List.not_mem_nil, or_false] at h
      rcases h with rfl | rfl | rfl | rfl | rfl | rfl | rfl | rfl <;> exact cutT_pc rfl (by decide) (lon_one (by decide) (by decide) (by decide) (by decide)) a
    · have hz' : Nx z := by
        rcases hz with hz | hz | hz
        · rw [show s = sOpen from hz] at h; exact absurd h (by decide)
        · rw [show s = sLeft from hz] at h; exact absurd h (by decide)
        · exact hz
      simp only [sigs, List.mem_cons, List.not_mem_nil, or_false] at h
      rcases h with rfl | rfl | rfl | rfl | rfl | rfl
      · exact cutT_pc rfl (by decide) (lon_one (by decide) (by decide) (by decide) (by decide)) a
      · exact cutT_pc rfl (by decide) (lon_cmp (.inl rfl) hz') a
      · exact cutT_pc rfl (by decide) (lon_two (by decide) (by decide) (by decide)) a
      · exact cutT_pc rfl (by decide) (lon_cmp (.inr rfl) hz') a
      · exact cutT_pc rfl (by decide) (lon_two (by decide) (by decide) (by decide)) a
      · exact cutT_pc rfl (by decide) (lon_two (by decide) (by decide) (by decide)) a
  | cn v =>
    have hz' : Nx z := by
      rcases hz with hz | hz | hz
      · exact absurd hz (itoa_ne (by decide) (by decide))
      · exact absurd hz (itoa_ne (by decide) (by decide))
      · exact hz
    exact cut_num v hz' a
  | cs lo hi =>
    have hne : ∀ c : UInt8, (itoa lo ++ (sDots ++ itoa hi)) ≠ [c] := by
      intro c e
      have := congrArg List.length e
      simp at this
      omega
    have hz' : Nx z := by
      rcases hz with hz | hz | hz
      · exact absurd hz (hne _)
      · exact absurd hz (hne _)
      · exact hz
    obtain ⟨q1, h1, e1⟩ := cut_num lo (z := sDots ++ (itoa hi ++ z)) (.inr ⟨46, 46 :: (itoa hi ++ z), rfl, by simp⟩) a
    obtain ⟨q2, h2, e2⟩ := cut_num hi hz' (a + (itoa lo).length + 2)
    refine ⟨q1 ++ ((sDots, a + (itoa lo).length) :: q2), ?_, ?_⟩
    · rw [List.map_append, List.map_cons, h1, h2]; rfl
    · show cutT (itoa lo ++ (sDots ++ itoa hi) ++ z) a = ahead _ (cutT z (a + (itoa lo ++ (sDots ++ itoa hi)).length))
      rw [List.append_assoc, List.append_assoc, e1, cut_dots, e2, ahead_ahead, ahead_ahead]
      have : a + (itoa lo).length + 2 + (itoa hi).length = a + (itoa lo ++ (sDots ++ itoa hi)).length := by
        rw [List.length_append, List.length_append, show sDots.length = 2 from rfl]; omega
      rw [this, List.append_assoc]
      rfl
theorem txt_ne {c : Ck} (hw : WfC c) : c.txt ≠ [] := by
  cases c with
  | cw s =>
    rcases hw with ⟨h1, _⟩ | h | h
    · exact h1
    · rintro rfl; revert h; decide
    · rintro rfl; revert h; decide
  | cn v =>
    show itoa v ≠ []
    by_cases h : v < 0
    · rw [itoa_neg h]; simp
    · rw [itoa_pos h]; exact decDigits_ne _
  | cs lo hi => show itoa lo ++ (sDots ++ itoa hi) ≠ []; simp
theorem wrt_cut : ∀ (cs : List Ck) (last : By) (a : Nat), (∀ c ∈ cs, WfC c) → ∃ qs n, qs.map (·.1) = cs.flatMap Ck.tok ∧ cutT (wrt last cs) a = .ok (qs ++ [([], n)])
  | [], last, a, _ => ⟨[], a, rfl, rfl⟩
  | c :: r, last, a, h => by
    have hc := h c (by simp)
    have hnx : NxC c (wrt c.txt r) := by
      cases r with
      | nil => exact .inr (.inr (.inl rfl))
      | cons d r =>
        unfold wrt
        by_cases h1 : apt c.txt d.txt = true
        · rw [if_pos h1]
          exact .inr (.inr (.inr ⟨32, _, rfl, by simp⟩))
        · rw [if_neg h1]
          unfold apt at h1
          simp only [Bool.and_eq_true, Bool.not_eq_true', decide_eq_false_iff_not, not_and, Decidable.not_not] at h1
          by_cases h2 : c.txt ∈ ([[], sOpen, sLeft] : List By)
          · simp only [List.mem_cons, List.not_mem_nil, or_false] at h2
            rcases h2 with h2 | h2 | h2
            · exact absurd h2 (txt_ne hc)
            · exact .inl h2
            · exact .inr (.inl h2)
          · have h3 := h1 h2
            simp only [List.mem_cons, List.not_mem_nil, or_false] at h3
            right; right; right
            rcases h3 with h3 | h3 | h3 | h3 <;> rw [h3] <;> exact ⟨_, _, rfl, by simp⟩
    have key : ∀ a, ∃ qs n, qs.map (·.1) = (c :: r).flatMap Ck.tok ∧ cutT (c.txt ++ wrt c.txt r) a = .ok (qs ++ [([], n)]) := by
      intro a
      obtain ⟨q1, h1, e1⟩ := cut_ck hc hnx a
      obtain ⟨q2, n, h2, e2⟩ := wrt_cut r c.txt (a + c.txt.length) (fun x hx => h x (by simp [hx]))
      refine ⟨q1 ++ q2, n, ?_, ?_⟩
      · rw [List.map_append, h1, h2, List.flatMap_cons]
      · rw [e1, e2]; simp [ahead]
    unfold wrt
    by_cases h1 : apt last c.txt = true
    · rw [if_pos h1]
      show ∃ qs n, _ ∧ cutT (32 :: (c.txt ++ wrt c.txt r)) a = _
      rw [cutT_sp 32 (.inl rfl)]
      exact key (a + 1)
    · rw [if_neg h1, List.nil_append]
      exact key a

/-! ### the text of a question -/
def chkT (t : Tst) : List Ck := [.cw t.1, .cw (sigN t.2.1), .cn t.2.2]
def chkW : List Tst → List Ck
  | [] => []
  | t :: l => .cw wWhere :: (chkT t ++ l.flatMap fun t => .cw wAnd :: chkT t)
def brcC (b : Bool) (l : List Ck) : List Ck := if b then .cw sOpen :: (l ++ [.cw sShut]) else l
def chks : Qu → List Ck
  | .none => []
  | .node k c lo hi wh _ x y =>
    if k = 1 then .cw wCount :: chkW wh
    else if k = 2 then .cw wSum :: .cw c :: .cw wIn :: .cs lo hi :: chkW wh
    else if k = 3 then .cw wBins :: .cw c :: chkW wh
    else if k = 4 then chks x ++ .cw sPlus :: brcC (isS y) (chks y)
    else if k = 5 then chks x ++ .cw sMinus :: brcC (isS y) (chks y)
    else if k = 6 then .cn lo :: .cw sStar :: brcC (isS x) (chks x)
    else if k = 7 then .cw wJoin :: .cw sOpen :: (chks x ++ .cw sComma :: (chks y ++ [.cw sShut]))
    else if k = 8 then .cw wTotal :: brcC true (chks x)
    else if k = 9 then brcC (isS x || isT x) (chks x) ++ [.cw sLeft, .cn lo, .cw sRight]
    else .cw wClamp :: .cs lo hi :: brcC true (chks x)
theorem flat_chkT (t : Tst) : (chkT t).flatMap Ck.tok = tokT t := by simp [chkT, Ck.tok, tokT]
theorem flat_chkW (l : List Tst) : (chkW l).flatMap Ck.tok = tokW l := by
  have h : ∀ l : List Tst, (l.flatMap fun t => Ck.cw wAnd :: chkT t).flatMap Ck.tok = tokA l := by
    intro l
    induction l with
    | nil => rfl
    | cons t l ih => rw [List.flatMap_cons, List.flatMap_append, ih, List.flatMap_cons, flat_chkT]; rfl
  cases l with
  | nil => rfl
  | cons t l => unfold chkW tokW; rw [List.flatMap_cons, List.flatMap_append, flat_chkT, h]; rfl
theorem flat_brcC (b : Bool) (l : List Ck) : (brcC b l).flatMap Ck.tok = brc b (l.flatMap Ck.tok) := by
  cases b <;> simp [brcC, brc, Ck.tok]
theorem flat_chks {a : Qu} (h : Say a) : (chks a).flatMap Ck.tok = toks a := by
  induction a with
  | none => exact h.elim
  | node k c lo hi wh n x y ihx ihy =>
    rcases h with ⟨rfl, h⟩ | ⟨rfl, h⟩ | ⟨rfl, h⟩ | ⟨h1, h⟩ | ⟨rfl, h⟩ | ⟨rfl, h⟩ | ⟨rfl, h⟩ | ⟨rfl, h⟩
    · show (Ck.cw wCount :: chkW wh).flatMap Ck.tok = wCount :: tokW wh
      rw [List.flatMap_cons, flat_chkW]; rfl
    · show (Ck.cw wSum :: .cw c :: .cw wIn :: .cs lo hi :: chkW wh).flatMap Ck.tok = wSum :: c :: wIn :: (tokS lo hi ++ tokW wh)
      simp only [List.flatMap_cons, flat_chkW]; rfl
    · show (Ck.cw wBins :: .cw c :: chkW wh).flatMap Ck.tok = wBins :: c :: tokW wh
      simp only [List.flatMap_cons, flat_chkW]; rfl
    · have ex := ihx h.2.2.2.2.2.1
      have ey := ihy h.2.2.2.2.2.2
      rcases h1 with rfl | rfl | rfl
      · show (chks x ++ .cw sPlus :: brcC (isS y) (chks y)).flatMap Ck.tok = toks x ++ sPlus :: brc (isS y) (toks y)
        rw [List.flatMap_append, List.flatMap_cons, flat_brcC, ex, ey]; rfl
      · show (chks x ++ .cw sMinus :: brcC (isS y) (chks y)).flatMap Ck.tok = toks x ++ sMinus :: brc (isS y) (toks y)
        rw [List.flatMap_append, List.flatMap_cons, flat_brcC, ex, ey]; rfl
      · show (Ck.cw wJoin :: .cw sOpen :: (chks x ++ .cw sComma :: (chks y ++ [.cw sShut]))).flatMap Ck.tok = wJoin :: sOpen :: (toks x ++ sComma :: (toks y ++ [sShut]))
        simp only [List.flatMap_cons, List.flatMap_append, ex, ey]; rfl
    · have ex := ihx h.2.2.2.2.2.1
      show (Ck.cn lo :: .cw sStar :: brcC (isS x) (chks x)).flatMap Ck.tok = tokN lo ++ sStar :: brc (isS x) (toks x)
      simp only [List.flatMap_cons, flat_brcC, ex]; rfl
    · have ex := ihx h.2.2.2.2.2.1
      show (Ck.cw wTotal :: brcC true (chks x)).flatMap Ck.tok = wTotal :: brc true (toks x)
      simp only [List.flatMap_cons, flat_brcC, ex]; rfl
    · have ex := ihx h.2.2.2.2.2.1
      show (brcC (isS x || isT x) (chks x) ++ [Ck.cw sLeft, Ck.cn lo, Ck.cw sRight]).flatMap Ck.tok = brc (isS x || isT x) (toks x) ++ [sLeft, decDigits lo.toNat, sRight]
      rw [List.flatMap_append, flat_brcC, ex]
      have : tokN lo = [decDigits lo.toNat] := by unfold tokN; rw [if_neg (by have := h.2.1.1; omega)]
      simp [Ck.tok, this]
    · have ex := ihx h.2.2.2.2.2.1
      show (Ck.cw wClamp :: .cs lo hi :: brcC true (chks x)).flatMap Ck.tok = wClamp :: (tokS lo hi ++ brc true (toks x))
      simp only [List.flatMap_cons, flat_brcC, ex]; rfl
theorem nmd_let {c : By} (h : nmd c = true) : c ≠ [] ∧ ∀ x ∈ c, letB x = true := by
  unfold nmd namB at h
  simp only [Bool.and_eq_true, decide_eq_true_eq, List.all_eq_true] at h
  exact ⟨by rintro rfl; simp at h, h.1.2⟩
theorem wf_chkW {l : List Tst} (h : ∀ t ∈ l, TOk t) : ∀ c ∈ chkW l, WfC c := by
  have ht : ∀ t : Tst, TOk t → ∀ c ∈ chkT t, WfC c := by
    intro t ht c hc
    simp only [chkT, List.mem_cons, List.not_mem_nil, or_false] at hc
    rcases hc with rfl | rfl | rfl
    · exact .inl (nmd_let ht.1)
    · refine .inr (.inr ?_)
      obtain ⟨n, hn⟩ : ∃ n : Nat, t.2.1 = n := ⟨t.2.1.toNat, by have := ht.2.1; omega⟩
      have h1 := ht.2.1
      have h2 := ht.2.2.1
      rw [hn] at h1 h2 ⊢
      have : n = 1 ∨ n = 2 ∨ n = 3 ∨ n = 4 ∨ n = 5 ∨ n = 6 := by omega
      rcases this with rfl | rfl | rfl | rfl | rfl | rfl <;> decide
    · trivial
  cases l with
  | nil => intro c hc; cases hc
  | cons t l =>
    intro c hc
    simp only [chkW, List.mem_cons, List.mem_append, List.mem_flatMap] at hc
    rcases hc with rfl | hc | ⟨u, hu, hc⟩
    · exact .inl ⟨by decide, by decide⟩
    · exact ht t (h t (by simp)) c hc
    · rcases hc with rfl | hc
      · exact .inl ⟨by decide, by decide⟩
      · exact ht u (h u (by simp [hu])) c hc
theorem wf_brcC {b : Bool} {l : List Ck} (h : ∀ c ∈ l, WfC c) : ∀ c ∈ brcC b l, WfC c := by
  cases b with
  | false => exact h
  | true =>
    intro c hc
    simp only [brcC, if_pos, List.mem_cons, List.mem_append, List.not_mem_nil, or_false] at hc
    rcases hc with rfl | hc | rfl
    · exact .inr (.inl (by decide))
    · exact h c hc
    · exact .inr (.inl (by decide))
theorem wf_chks {a : Qu} (h : Say a) : ∀ c ∈ chks a, WfC c := by
  induction a with
  | none => exact h.elim
  | node k c lo hi wh n x y ihx ihy =>
    rcases h with ⟨rfl, h⟩ | ⟨rfl, h⟩ | ⟨rfl, h⟩ | ⟨h1, h⟩ | ⟨rfl, h⟩ | ⟨rfl, h⟩ | ⟨rfl, h⟩ | ⟨rfl, h⟩
    · intro d hd
      rcases List.mem_cons.1 (show d ∈ Ck.cw wCount :: chkW wh from hd) with rfl | hd
      · exact .inl ⟨by decide, by decide⟩
      · exact wf_chkW h.2.2.2.2.1.2 d hd
    · intro d hd
      have hd := (show d ∈ Ck.cw wSum :: .cw c :: .cw wIn :: .cs lo hi :: chkW wh from hd)
      simp only [List.mem_cons] at hd
      rcases hd with rfl | rfl | rfl | rfl | hd
      · exact .inl ⟨by decide, by decide⟩
      · exact .inl (nmd_let h.1)
      · exact .inl ⟨by decide, by decide⟩
      · trivial
      · exact wf_chkW h.2.2.2.2.1.2 d hd
    · intro d hd
      have hd := (show d ∈ Ck.cw wBins :: .cw c :: chkW wh from hd)
      simp only [List.mem_cons] at hd
      rcases hd with rfl | rfl | hd
      · exact .inl ⟨by decide, by decide⟩
      · exact .inl (nmd_let h.1)
      · exact wf_chkW h.2.2.2.2.1.2 d hd
    · have ex := ihx h.2.2.2.2.2.1
      have ey := ihy h.2.2.2.2.2.2
      rcases h1 with rfl | rfl | rfl
      · intro d hd
        have hd := (show d ∈ chks x ++ .cw sPlus :: brcC (isS y) (chks y) from hd)
        simp only [List.mem_cons, List.mem_append] at hd
        rcases hd with hd | rfl | hd
        · exact ex d hd
        · exact .inr (.inl (by decide))
        · exact wf_brcC ey d hd
      · intro d hd
        have hd := (show d ∈ chks x ++ .cw sMinus :: brcC (isS y) (chks y) from hd)
        simp only [List.mem_cons, List.mem_append] at hd
        rcases hd with hd | rfl | hd
        · exact ex d hd
        · exact .inr (.inl (by decide))
        · exact wf_brcC ey d hd
      · intro d hd
        have hd := (show d ∈ Ck.cw wJoin :: .cw sOpen :: (chks x ++ .cw sComma :: (chks y ++ [.cw sShut])) from hd)
        simp only [List.mem_cons, List.mem_append, List.not_mem_nil, or_false] at hd
        rcases hd with rfl | rfl | hd | rfl | hd | rfl
        · exact .inl ⟨by decide, by decide⟩
        · exact .inr (.inl (by decide))
        · exact ex d hd
        · exact .inr (.inl (by decide))
        · exact ey d hd
        · exact .inr (.inl (by decide))
    · have ex := ihx h.2.2.2.2.2.1
      intro d hd
      have hd := (show d ∈ Ck.cn lo :: .cw sStar :: brcC (isS x) (chks x) from hd)
      simp only [List.mem_cons] at hd
      rcases hd with rfl | rfl | hd
      · trivial
      · exact .inr (.inl (by decide))
      · exact wf_brcC ex d hd
    · have ex := ihx h.2.2.2.2.2.1
      intro d hd
      have hd := (show d ∈ Ck.cw wTotal :: brcC true (chks x) from hd)
      simp only [List.mem_cons] at hd
      rcases hd with rfl | hd
      · exact .inl ⟨by decide, by decide⟩
      · exact wf_brcC ex d hd
    · have ex := ihx h.2.2.2.2.2.1
      intro d hd
      have hd := (show d ∈ brcC (isS x || isT x) (chks x) ++ [.cw sLeft, .cn lo, .cw sRight] from hd)
      simp only [List.mem_cons, List.mem_append, List.not_mem_nil, or_false] at hd
      rcases hd with hd | rfl | rfl | rfl
      · exact wf_brcC ex d hd
      · exact .inr (.inl (by decide))
      · trivial
      · exact .inr (.inl (by decide))
    · have ex := ihx h.2.2.2.2.2.1
      intro d hd
      have hd := (show d ∈ Ck.cw wClamp :: .cs lo hi :: brcC true (chks x) from hd)
      simp only [List.mem_cons] at hd
      rcases hd with rfl | rfl | hd
      · exact .inl ⟨by decide, by decide⟩
      · trivial
      · exact wf_brcC ex d hd
/-- the text of a question -/
def txtT (a : Qu) : By := wrt [] (chks a)
/-- WHAT IS SAID IS HEARD, or it is too much -/
theorem read_said {a : Qu} (h : Say a) (hl : (txtT a).length ≤ 65536) : readT (txtT a) = .ok a ∨ ∃ n, readT (txtT a) = .error (4, n) := by
  obtain ⟨qs, n, h1, h2⟩ := wrt_cut (chks a) [] 0 (wf_chks h)
  unfold readT
  rw [if_neg (by omega), show cutT (txtT a) 0 = _ from h2]
  simp only
  rw [flat_chks h] at h1
  rcases turn_pieces h (k := 64) h1 (r := [([], n)]) rfl with h3 | ⟨m, h3⟩
  · rw [h3]; left; simp only; rw [if_pos (show hd [([], n)] = [] from rfl)]
  · rw [h3]; right; exact ⟨m, rfl⟩
end Sp
end Go.Proofs.YtidfkencjdjkbaaGreatDoor

/-
  PACKAGE speech, what is thrown: must, caught.
-/
namespace Go.Proofs.YtidfkencjdjkbaaGreatDoor
open Go.RowKit

/-- what is thrown -/
def chn (e : Int) (a : Int) : List PanicEntry := [{ v := .iface 75 (.agg #[.int .i64 e, .int .i64 a]), recovered := false }]
theorem must_ok (e a : Int) (w : World) : Calls Tryz.prog 16 #[.bool true, .int .i64 e, .int .i64 a] w fun x w' => x = .returned (.tuple #[]) ∧ w' = w := by
  go_enter Tryz.func16, Tryz.ntmps16
  go_wp2
  go_end0
  exact ⟨rfl, rfl⟩
theorem must_no (e a : Int) (w : World) : Calls Tryz.prog 16 #[.bool false, .int .i64 e, .int .i64 a] w fun x w' => x = .panicked (chn e a) ∧ w' = w := by
  go_enter Tryz.func16, Tryz.ntmps16
  go_wp2
  exact ⟨rfl, rfl, rfl⟩
theorem hmf : ∀ (fn : Fn) (first cap : Array Value) (w : World), (Instr.makeFunc fn first cap).run Tryz.prog w = .ok (.func fn first cap) w := fun _ _ _ _ => rfl
theorem assert68 (v : Value) (w : World) : (Instr.typeAssert (.iface 75 v) 20 75 true).run Tryz.prog w = .ok (.tuple #[v, .bool true]) w := by
  simp [Instr.typeAssert, run_underlying Tryz.underlying75]
theorem eqnil68 (v : Value) (w : World) : (binOp .eql 20 (.iface 75 v) .nilIface).run Tryz.prog w = .ok (.bool false) w := by
  have h : ∀ d : Nat, (Op.equalIn (d + 1) 20 (.iface 75 v) .nilIface).run Tryz.prog w = .ok false w := fun d => by simp [Op.equalIn, run_underlying Tryz.underlying20]
  simp only [binOp]
  simp [Op.equal, Op.maxDepth, h 9999]
/-- a cell of one's own -/
structure Cl (w : World) (b k : Nat) (v : Value) : Prop where
  c : w.cell? ⟨b, k, none⟩ = some v
  f : w.frozen? ⟨b, k, none⟩ = false
  lt : b < w.heap.size
theorem Cl.at {w w' : World} {b k : Nat} {v : Value} (h : Cl w b k v) (hb : Below w.heap.size w w') : Cl w' b k v :=
  ⟨(hb.cell (p := ⟨b, k, none⟩) h.lt).trans h.c, (hb.frozen (p := ⟨b, k, none⟩) h.lt).trans h.f, Nat.lt_of_lt_of_le h.lt hb.size⟩
theorem Cl.new {w : World} {N : Nat} (cs : Array Value) (t : TypeId) (k : Nat) (x : Value) (hN : N = w.heap.size) (hx : cs[k]? = some x) : Cl (w.alloc (.cells cs t)) N k x :=
  ⟨nc cs t k x hN hx, nf cs t k hN, by subst hN; simp⟩
theorem Cl.set {w : World} {b k : Nat} {v : Value} (h : Cl w b k v) (u : Value) : Cl (w.setCell ⟨b, k, none⟩ u) b k u :=
  ⟨sc_same h.c, sc_frozen.trans h.f, by simpa using h.lt⟩
theorem Cl.oth {w : World} {b k b' k' : Nat} {v : Value} (h : Cl w b k v) (hne : b' ≠ b ∨ k' ≠ k) (u : Value) : Cl (w.setCell ⟨b', k', none⟩ u) b k v :=
  ⟨(sc_other (by intro e; simp only [Addr.mk.injEq] at e; omega)).trans h.c, sc_frozen.trans h.f, by simpa using h.lt⟩
/-- a block with these cells -/
def Bx (w : World) (b : Nat) (cs : List Value) : Prop := ∀ k v, cs[k]? = some v → Cl w b k v
theorem Bx.at {w w' : World} {b : Nat} {cs : List Value} (h : Bx w b cs) (hb : Below w.heap.size w w') : Bx w' b cs := fun k v hk => (h k v hk).at hb
theorem Bx.new (w : World) (cs : List Value) (t : TypeId) {N : Nat} (hN : N = w.heap.size) : Bx (w.alloc (.cells cs.toArray t)) N cs := fun k v hk => Cl.new _ t k v hN (by simpa using hk)
theorem Bx.set {w : World} {b i : Nat} {cs : List Value} (h : Bx w b cs) (hi : i < cs.length) (u : Value) : Bx (w.setCell ⟨b, i, none⟩ u) b (cs.set i u) := fun k v hk => by
  by_cases c : i = k
  · subst c
    rw [List.getElem?_set_self hi] at hk
    cases hk
    obtain ⟨z, hz⟩ : ∃ z, cs[i]? = some z := ⟨_, List.getElem?_eq_getElem hi⟩
    exact (h i z hz).set _
  · rw [List.getElem?_set_ne c] at hk
    exact (h k v hk).oth (.inr c) _
theorem Bx.oth {w : World} {b b' k : Nat} {cs : List Value} (h : Bx w b cs) (hne : b' ≠ b) (u : Value) : Bx (w.setCell ⟨b', k, none⟩ u) b cs := fun j v hj => (h j v hj).oth (.inl hne) _

/-- deferred, of a frame that throws -/
theorem catchA_no (p : Nat) (x y : Value) (e a : Int) (w : World) (hc : Bx w p [x, y]) :
    CallsD Tryz.prog 45 #[.pointer (some ⟨p, 0, none⟩)] (.panicking (chn e a)) w fun r u' w' =>
      r = .returned (.tuple #[]) ∧ u' = .panicking [{ v := .iface 75 (.agg #[.int .i64 e, .int .i64 a]), recovered := true }] ∧ w' = ((w.alloc (.cells #[.int .i64 e, .int .i64 a] 75)).setCell ⟨p, 0, none⟩ (.int .i64 e)).setCell ⟨p, 1, none⟩ (.int .i64 a) := by
  refine callsD_of_wpS Tryz.func45 rfl fun c₀ cs hu => ?_
  apply wpS_seq
  apply wpS_region
  simp [wpOpsS, go_sem, recoverD, hu, chn, Tryz.ntmps45, Exit.thenS]
  refine wpS_of_wp ?_
  change Code.wp Tryz.prog _ _ { tmps := #[.pointer (some ⟨p, 0, none⟩), undef, undef, undef, .iface 75 (.agg #[.int .i64 e, .int .i64 a]), undef, undef, undef, undef, undef, undef, undef], defers := [] } w
  have ha := assert68
  have hq := eqnil68
  have hz := hc.at (ba w (.cells #[.int .i64 e, .int .i64 a] 75))
  have z0 := (hz 0 _ rfl).c
  have z1 := (hz 1 _ rfl).c
  have y0 := (hz 0 _ rfl).f
  have y1 := (hz 1 _ rfl).f
  go_wp2
  exact ⟨rfl, _, rfl, _, results_none rfl _ _ _, rfl, rfl, rfl⟩
theorem catchA_ok (p : Addr) (w : World) :
    CallsD Tryz.prog 45 #[.pointer (some p)] .returning w fun r u' w' => r = .returned (.tuple #[]) ∧ u' = .returning ∧ w' = w := by
  refine callsD_of_wpS Tryz.func45 rfl fun c₀ cs hu => ?_
  apply wpS_seq
  apply wpS_region
  simp [wpOpsS, go_sem, recoverD, hu, Tryz.ntmps45, Exit.thenS]
  refine wpS_of_wp ?_
  change Code.wp Tryz.prog _ _ { tmps := #[.pointer (some p), undef, undef, undef, .nilIface, undef, undef, undef, undef, undef, undef, undef], defers := [] } w
  go_wp2
  exact ⟨rfl, .returning, by rw [← hu], _, results_none rfl _ _ _, rfl, rfl, rfl⟩
end Go.Proofs.YtidfkencjdjkbaaGreatDoor

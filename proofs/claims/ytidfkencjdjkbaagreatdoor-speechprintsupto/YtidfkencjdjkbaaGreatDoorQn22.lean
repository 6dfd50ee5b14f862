import Derived.Test.YtidfkencjdjkbaaGreatDoorQn21
import Derived.Test.YtidfkencjdjkbaaGreatDoorQn05
import Derived.Test.YtidfkencjdjkbaaGreatDoorQn20
import Derived.Laws.BytesArg
import Derived.BigRegion
/-
  CHAPTER 15's MATHEMATICS (7): the text of a question, put together from the texts of its parts.
-/
namespace Go.Proofs.YtidfkencjdjkbaaGreatDoor
namespace Sp
open Go.Lib (decDigits itoa)

def opL : List By := [[], sOpen, sLeft]
def shL : List By := [sShut, sRight, sLeft, sComma]
/-- a blank, where one stands behind something -/
def spB (last : By) : By := if last ∈ opL then [] else [32]
def lstC : By → List Ck → By
  | last, [] => last
  | _, c :: r => lstC c.txt r
theorem wrt_app : ∀ (l r : List Ck) (last : By), wrt last (l ++ r) = wrt last l ++ wrt (lstC last l) r
  | [], r, last => rfl
  | c :: l, r, last => by
    rw [List.cons_append, wrt, wrt, wrt_app l r c.txt]
    simp only [List.append_assoc]
    rfl
theorem lst_app : ∀ (l r : List Ck) (last : By), lstC last (l ++ r) = lstC (lstC last l) r
  | [], _, _ => rfl
  | c :: l, r, _ => lst_app l r c.txt
theorem apt_eq (last s : By) : apt last s = (!decide (last ∈ opL) && !decide (s ∈ shL)) := rfl
theorem wrt_go {c : Ck} (h : c.txt ∉ shL) (last : By) (r : List Ck) : wrt last (c :: r) = spB last ++ (c.txt ++ wrt c.txt r) := by
  rw [wrt, apt_eq, spB]
  by_cases h1 : last ∈ opL
  · simp [h1]
  · simp [h1, h]
theorem wrt_sh {c : Ck} (h : c.txt ∈ shL) (last : By) (r : List Ck) : wrt last (c :: r) = c.txt ++ wrt c.txt r := by
  rw [wrt, apt_eq]
  simp [h]
theorem sp_op {s : By} (h : s ∈ opL) : spB s = [] := if_pos h
theorem sp_cl {s : By} (h : s ∉ opL) : spB s = [32] := if_neg h
theorem itoa_not {v : Int} {c : UInt8} (hc : digB c = false) (h45 : c ≠ 45) : itoa v ≠ [c] := itoa_ne hc h45
theorem itoa_nil (v : Int) : itoa v ≠ [] := by
  by_cases h : v < 0
  · rw [itoa_neg h]; simp
  · rw [itoa_pos h]; exact decDigits_ne _
theorem num_sh (v : Int) : itoa v ∉ shL := by
  simp only [shL, List.mem_cons, List.not_mem_nil, or_false, not_or]
  exact ⟨itoa_ne (by decide) (by decide), itoa_ne (by decide) (by decide), itoa_ne (by decide) (by decide), itoa_ne (by decide) (by decide)⟩
theorem num_op (v : Int) : itoa v ∉ opL := by
  simp only [opL, List.mem_cons, List.not_mem_nil, or_false, not_or]
  exact ⟨itoa_nil v, itoa_ne (by decide) (by decide), itoa_ne (by decide) (by decide)⟩
theorem long_sh {s : By} (h : 2 ≤ s.length) : s ∉ shL := by
  simp only [shL, List.mem_cons, List.not_mem_nil, or_false, not_or]
  refine ⟨?_, ?_, ?_, ?_⟩ <;> (rintro rfl; simp at h)
theorem long_op {s : By} (h : 2 ≤ s.length) : s ∉ opL := by
  simp only [opL, List.mem_cons, List.not_mem_nil, or_false, not_or]
  refine ⟨?_, ?_, ?_⟩ <;> (rintro rfl; simp at h)
theorem span_long (lo hi : Int) : 2 ≤ (itoa lo ++ (sDots ++ itoa hi)).length := by
  simp only [List.length_append, sDots, List.length_cons, List.length_nil]
  omega
theorem nmd_sh {c : By} (h : nmd c = true) : c ∉ shL := by
  have := (nmd_let h).2
  simp only [shL, List.mem_cons, List.not_mem_nil, or_false, not_or]
  refine ⟨?_, ?_, ?_, ?_⟩ <;> (rintro rfl; exact absurd (this _ (by simp; rfl)) (by decide))
theorem nmd_op {c : By} (h : nmd c = true) : c ∉ opL := by
  have := nmd_let h
  simp only [opL, List.mem_cons, List.not_mem_nil, or_false, not_or]
  refine ⟨this.1, ?_, ?_⟩ <;> (rintro rfl; exact absurd (this.2 _ (by simp; rfl)) (by decide))
theorem sig_sh {d : Int} (h1 : 1 ≤ d) (h2 : d ≤ 6) : sigN d ∉ shL ∧ sigN d ∉ opL := by
  obtain ⟨n, rfl⟩ : ∃ n : Nat, d = n := ⟨d.toNat, by omega⟩
  have : n = 1 ∨ n = 2 ∨ n = 3 ∨ n = 4 ∨ n = 5 ∨ n = 6 := by omega
  rcases this with rfl | rfl | rfl | rfl | rfl | rfl <;> decide

/-! ### the texts of tests -/
abbrev bWhere : By := [32, 119, 104, 101, 114, 101, 32]
abbrev bAnd : By := [32, 97, 110, 100, 32]
def tT (t : Tst) : By := t.1 ++ ([32] ++ (sigN t.2.1 ++ ([32] ++ itoa t.2.2)))
def teA (l : List Tst) : By := l.flatMap fun t => bAnd ++ tT t
def teT : List Tst → By
  | [] => []
  | t :: l => bWhere ++ (tT t ++ teA l)
theorem teT_snoc (l : List Tst) (t : Tst) : teT (l ++ [t]) = teT l ++ ((if l.length = 0 then bWhere else bAnd) ++ tT t) := by
  cases l with
  | nil => simp [teT, teA]
  | cons u l => simp [teT, teA, List.append_assoc]
theorem wrt_tst {t : Tst} (h : TOk t) (last : By) : wrt last (chkT t) = spB last ++ tT t ∧ lstC last (chkT t) ∉ opL := by
  obtain ⟨h1, h2, h3, h4⟩ := h
  have hs := sig_sh h2 h3
  refine ⟨?_, num_op _⟩
  rw [chkT, wrt_go (c := .cw t.1) (nmd_sh h1), wrt_go (c := .cw (sigN t.2.1)) hs.1, wrt_go (c := .cn t.2.2) (num_sh _)]
  simp only [Ck.txt, wrt, List.append_nil, sp_cl (nmd_op h1), sp_cl hs.2]
  rfl
theorem wrt_and : ∀ (l : List Tst) (last : By), (∀ t ∈ l, TOk t) → last ∉ opL → wrt last (l.flatMap fun t => Ck.cw wAnd :: chkT t) = teA l ∧ lstC last (l.flatMap fun t => Ck.cw wAnd :: chkT t) ∉ opL
  | [], last, _, hl => ⟨rfl, hl⟩
  | t :: l, last, h, hl => by
    obtain ⟨e1, e2⟩ := wrt_tst (h t (by simp)) wAnd
    obtain ⟨f1, f2⟩ := wrt_and l (lstC wAnd (chkT t)) (fun x hx => h x (by simp [hx])) e2
    have hc : (Ck.cw wAnd).txt ∉ shL := by decide
    constructor
    · rw [List.flatMap_cons, List.cons_append, wrt_go hc, sp_cl hl]
      show [32] ++ (wAnd ++ wrt wAnd (chkT t ++ _)) = _
      rw [wrt_app, e1, f1, sp_cl (s := wAnd) (by decide)]
      simp [teA]
    · rw [List.flatMap_cons, List.cons_append]
      show lstC wAnd (chkT t ++ _) ∉ opL
      rw [lst_app]
      exact f2
theorem wrt_whr {l : List Tst} (h : WOk l) {last : By} (hl : last ∉ opL) : wrt last (chkW l) = teT l ∧ lstC last (chkW l) ∉ opL := by
  cases l with
  | nil => exact ⟨rfl, hl⟩
  | cons t l =>
    obtain ⟨e1, e2⟩ := wrt_tst (h.2 t (by simp)) wWhere
    obtain ⟨f1, f2⟩ := wrt_and l (lstC wWhere (chkT t)) (fun x hx => h.2 x (by simp [hx])) e2
    have hc : (Ck.cw wWhere).txt ∉ shL := by decide
    constructor
    · rw [chkW, wrt_go hc, sp_cl hl]
      show [32] ++ (wWhere ++ wrt wWhere (chkT t ++ _)) = _
      rw [wrt_app, e1, f1, sp_cl (s := wWhere) (by decide)]
      simp [teT]
    · show lstC wWhere (chkT t ++ _) ∉ opL
      rw [lst_app]
      exact f2

/-! ### the texts of questions -/
def bkT (b : Bool) (s : By) : By := if b then sOpen ++ (s ++ sShut) else s
/-- the document's own text of a question -/
def tQ : Qu → By
  | .none => []
  | .node k c lo hi wh _ x y =>
    if k = 1 then wCount ++ teT wh
    else if k = 3 then wBins ++ ([32] ++ (c ++ teT wh))
    else if k = 2 then wSum ++ ([32] ++ (c ++ ([32, 105, 110, 32] ++ (itoa lo ++ (sDots ++ (itoa hi ++ teT wh))))))
    else if k = 4 then tQ x ++ ([32, 43, 32] ++ bkT (isS y) (tQ y))
    else if k = 5 then tQ x ++ ([32, 45, 32] ++ bkT (isS y) (tQ y))
    else if k = 6 then itoa lo ++ ([32, 42, 32] ++ bkT (isS x) (tQ x))
    else if k = 9 then bkT (isS x || isT x) (tQ x) ++ (sLeft ++ (itoa lo ++ sRight))
    else if k = 8 then wTotal ++ ([32] ++ bkT true (tQ x))
    else if k = 10 then wClamp ++ ([32] ++ (itoa lo ++ (sDots ++ (itoa hi ++ ([32] ++ bkT true (tQ x))))))
    else wJoin ++ ([32] ++ (sOpen ++ (tQ x ++ ([44, 32] ++ (tQ y ++ sShut)))))
/-- chunks that begin with what a blank may stand ahead of, and end so -/
def Wt (l : List Ck) (s : By) : Prop := ∀ last : By, wrt last l = spB last ++ s ∧ lstC last l ∉ opL
theorem Wt.brc {l : List Ck} {s : By} (h : Wt l s) (b : Bool) : Wt (brcC b l) (bkT b s) := by
  cases b with
  | false => exact h
  | true =>
    intro last
    have hc : (Ck.cw sOpen).txt ∉ shL := by decide
    have hs : (Ck.cw sShut).txt ∈ shL := by decide
    constructor
    · show wrt last (.cw sOpen :: (l ++ [.cw sShut])) = spB last ++ (sOpen ++ (s ++ sShut))
      rw [wrt_go hc]
      show spB last ++ (sOpen ++ wrt sOpen (l ++ [.cw sShut])) = _
      rw [wrt_app, (h sOpen).1, wrt_sh hs, sp_op (s := sOpen) (by decide)]
      simp [Ck.txt, wrt]
    · show lstC sOpen (l ++ [.cw sShut]) ∉ opL
      rw [lst_app]
      show sShut ∉ opL
      decide
theorem wt_q : ∀ a : Qu, Say a → Wt (chks a) (tQ a)
  | .none, h => h.elim
  | .node k c lo hi wh n x y, h => by
    intro last
    rcases h with ⟨rfl, rfl, rfl, rfl, rfl, hw, rfl, rfl⟩ | ⟨rfl, hc, hlo, hhi, rfl, hw, rfl, rfl⟩ | ⟨rfl, hc, rfl, rfl, rfl, hw, rfl, rfl⟩ | ⟨h1, rfl, rfl, rfl, rfl, rfl, sx, sy⟩ | ⟨rfl, rfl, hlo, rfl, rfl, rfl, sx, rfl⟩ | ⟨rfl, rfl, rfl, rfl, rfl, rfl, sx, rfl⟩ | ⟨rfl, rfl, hlo, rfl, rfl, rfl, sx, rfl⟩ | ⟨rfl, rfl, hlo, hhi, rfl, rfl, sx, rfl⟩
    · obtain ⟨e1, e2⟩ := wrt_whr hw (last := wCount) (by decide)
      have hk : (Ck.cw wCount).txt ∉ shL := by decide
      show wrt last (.cw wCount :: chkW wh) = spB last ++ (wCount ++ teT wh) ∧ lstC wCount (chkW wh) ∉ opL
      rw [wrt_go hk]
      exact ⟨by rw [← e1]; rfl, e2⟩
    · obtain ⟨e1, e2⟩ := wrt_whr hw (last := itoa lo ++ (sDots ++ itoa hi)) (long_op (span_long lo hi))
      have h1 : (Ck.cw wSum).txt ∉ shL := by decide
      have h2 : (Ck.cw c).txt ∉ shL := nmd_sh hc
      have h3 : (Ck.cw wIn).txt ∉ shL := by decide
      have h4 : (Ck.cs lo hi).txt ∉ shL := long_sh (span_long lo hi)
      show wrt last (.cw wSum :: .cw c :: .cw wIn :: .cs lo hi :: chkW wh) = spB last ++ (wSum ++ ([32] ++ (c ++ ([32, 105, 110, 32] ++ (itoa lo ++ (sDots ++ (itoa hi ++ teT wh))))))) ∧ lstC (itoa lo ++ (sDots ++ itoa hi)) (chkW wh) ∉ opL
      refine ⟨?_, e2⟩
      rw [wrt_go h1, wrt_go h2, wrt_go h3, wrt_go h4]
      have e3 : spB (Ck.cw wSum).txt = [32] := sp_cl (by decide)
      have e4 : spB (Ck.cw c).txt = [32] := sp_cl (nmd_op hc)
      have e5 : spB (Ck.cw wIn).txt = [32] := sp_cl (by decide)
      rw [e3, e4, e5]
      have e6 : wrt (Ck.cs lo hi).txt (chkW wh) = teT wh := e1
      rw [e6]
      simp [Ck.txt]
    · obtain ⟨e1, e2⟩ := wrt_whr hw (last := c) (nmd_op hc)
      have h1 : (Ck.cw wBins).txt ∉ shL := by decide
      have h2 : (Ck.cw c).txt ∉ shL := nmd_sh hc
      show wrt last (.cw wBins :: .cw c :: chkW wh) = spB last ++ (wBins ++ ([32] ++ (c ++ teT wh))) ∧ lstC c (chkW wh) ∉ opL
      refine ⟨?_, e2⟩
      rw [wrt_go h1, wrt_go h2]
      have e3 : spB (Ck.cw wBins).txt = [32] := sp_cl (by decide)
      have e6 : wrt (Ck.cw c).txt (chkW wh) = teT wh := e1
      rw [e3, e6]
      simp [Ck.txt]
    · obtain ⟨x1, x2⟩ := wt_q x sx last
      have hy := wt_q y sy
      rcases h1 with rfl | rfl | rfl
      · obtain ⟨y1, y2⟩ := hy.brc (isS y) sPlus
        have h1 : (Ck.cw sPlus).txt ∉ shL := by decide
        show wrt last (chks x ++ .cw sPlus :: brcC (isS y) (chks y)) = spB last ++ (tQ x ++ ([32, 43, 32] ++ bkT (isS y) (tQ y))) ∧ lstC last (chks x ++ .cw sPlus :: brcC (isS y) (chks y)) ∉ opL
        rw [wrt_app, lst_app, x1, wrt_go h1, sp_cl x2]
        refine ⟨?_, y2⟩
        have e6 : wrt (Ck.cw sPlus).txt (brcC (isS y) (chks y)) = [32] ++ bkT (isS y) (tQ y) := by
          have := y1
          rwa [sp_cl (by decide)] at this
        rw [e6]
        simp [Ck.txt]
      · obtain ⟨y1, y2⟩ := hy.brc (isS y) sMinus
        have h1 : (Ck.cw sMinus).txt ∉ shL := by decide
        show wrt last (chks x ++ .cw sMinus :: brcC (isS y) (chks y)) = spB last ++ (tQ x ++ ([32, 45, 32] ++ bkT (isS y) (tQ y))) ∧ lstC last (chks x ++ .cw sMinus :: brcC (isS y) (chks y)) ∉ opL
        rw [wrt_app, lst_app, x1, wrt_go h1, sp_cl x2]
        refine ⟨?_, y2⟩
        have e6 : wrt (Ck.cw sMinus).txt (brcC (isS y) (chks y)) = [32] ++ bkT (isS y) (tQ y) := by
          have := y1
          rwa [sp_cl (by decide)] at this
        rw [e6]
        simp [Ck.txt]
      · obtain ⟨x1, x2⟩ := wt_q x sx sOpen
        obtain ⟨y1, y2⟩ := hy sComma
        have h1 : (Ck.cw wJoin).txt ∉ shL := by decide
        have h2 : (Ck.cw sOpen).txt ∉ shL := by decide
        have h3 : (Ck.cw sComma).txt ∈ shL := by decide
        have h4 : (Ck.cw sShut).txt ∈ shL := by decide
        show wrt last (.cw wJoin :: .cw sOpen :: (chks x ++ .cw sComma :: (chks y ++ [.cw sShut]))) = spB last ++ (wJoin ++ ([32] ++ (sOpen ++ (tQ x ++ ([44, 32] ++ (tQ y ++ sShut)))))) ∧ lstC sOpen (chks x ++ .cw sComma :: (chks y ++ [.cw sShut])) ∉ opL
        constructor
        · rw [wrt_go h1, wrt_go h2]
          show spB last ++ (wJoin ++ (spB wJoin ++ (sOpen ++ wrt sOpen (chks x ++ .cw sComma :: (chks y ++ [.cw sShut]))))) = _
          rw [wrt_app, x1, wrt_sh h3]
          show spB last ++ (wJoin ++ (spB wJoin ++ (sOpen ++ (spB sOpen ++ tQ x ++ (sComma ++ wrt sComma (chks y ++ [.cw sShut])))))) = _
          rw [wrt_app, y1, wrt_sh h4, sp_cl (s := wJoin) (by decide), sp_op (s := sOpen) (by decide), sp_cl (s := sComma) (by decide)]
          simp [Ck.txt, wrt]
        · rw [lst_app]
          show lstC sComma (chks y ++ [.cw sShut]) ∉ opL
          rw [lst_app]
          show sShut ∉ opL
          decide
    · obtain ⟨x1, x2⟩ := (wt_q x sx).brc (isS x) sStar
      have h1 : (Ck.cn lo).txt ∉ shL := num_sh lo
      have h2 : (Ck.cw sStar).txt ∉ shL := by decide
      show wrt last (.cn lo :: .cw sStar :: brcC (isS x) (chks x)) = spB last ++ (itoa lo ++ ([32, 42, 32] ++ bkT (isS x) (tQ x))) ∧ lstC sStar (brcC (isS x) (chks x)) ∉ opL
      refine ⟨?_, x2⟩
      rw [wrt_go h1, wrt_go h2]
      show spB last ++ (itoa lo ++ (spB (itoa lo) ++ (sStar ++ wrt sStar (brcC (isS x) (chks x))))) = _
      rw [x1, sp_cl (num_op lo), sp_cl (s := sStar) (by decide)]
      simp
    · obtain ⟨x1, x2⟩ := (wt_q x sx).brc true wTotal
      have h1 : (Ck.cw wTotal).txt ∉ shL := by decide
      show wrt last (.cw wTotal :: brcC true (chks x)) = spB last ++ (wTotal ++ ([32] ++ bkT true (tQ x))) ∧ lstC wTotal (brcC true (chks x)) ∉ opL
      refine ⟨?_, x2⟩
      rw [wrt_go h1]
      show spB last ++ (wTotal ++ wrt wTotal (brcC true (chks x))) = _
      rw [x1, sp_cl (s := wTotal) (by decide)]
    · obtain ⟨x1, x2⟩ := (wt_q x sx).brc (isS x || isT x) last
      have h1 : (Ck.cw sLeft).txt ∈ shL := by decide
      have h2 : (Ck.cn lo).txt ∉ shL := num_sh lo
      have h3 : (Ck.cw sRight).txt ∈ shL := by decide
      show wrt last (brcC (isS x || isT x) (chks x) ++ [.cw sLeft, .cn lo, .cw sRight]) = spB last ++ (bkT (isS x || isT x) (tQ x) ++ (sLeft ++ (itoa lo ++ sRight))) ∧ lstC last (brcC (isS x || isT x) (chks x) ++ [.cw sLeft, .cn lo, .cw sRight]) ∉ opL
      constructor
      · rw [wrt_app, x1, wrt_sh h1, wrt_go h2, wrt_sh h3]
        have e : spB (Ck.cw sLeft).txt = [] := sp_op (by decide)
        rw [e]
        simp [Ck.txt, wrt]
      · rw [lst_app]
        show sRight ∉ opL
        decide
    · obtain ⟨x1, x2⟩ := (wt_q x sx).brc true (itoa lo ++ (sDots ++ itoa hi))
      have h1 : (Ck.cw wClamp).txt ∉ shL := by decide
      have h2 : (Ck.cs lo hi).txt ∉ shL := long_sh (span_long lo hi)
      show wrt last (.cw wClamp :: .cs lo hi :: brcC true (chks x)) = spB last ++ (wClamp ++ ([32] ++ (itoa lo ++ (sDots ++ (itoa hi ++ ([32] ++ bkT true (tQ x))))))) ∧ lstC (itoa lo ++ (sDots ++ itoa hi)) (brcC true (chks x)) ∉ opL
      refine ⟨?_, x2⟩
      rw [wrt_go h1, wrt_go h2]
      show spB last ++ (wClamp ++ (spB wClamp ++ ((itoa lo ++ (sDots ++ itoa hi)) ++ wrt (itoa lo ++ (sDots ++ itoa hi)) (brcC true (chks x))))) = _
      rw [x1, sp_cl (s := wClamp) (by decide), sp_cl (long_op (span_long lo hi))]
      simp
/-- the two texts are one -/
theorem tQ_txt {a : Qu} (h : Say a) : tQ a = txtT a := by
  have := (wt_q a h []).1
  rw [sp_op (by decide), List.nil_append] at this
  exact this.symm
end Sp
end Go.Proofs.YtidfkencjdjkbaaGreatDoor

/-
  The document's own answer, chapter 15, Print: names, numbers.
-/
namespace Go.Proofs.YtidfkencjdjkbaaGreatDoor
open Go.RowKit Sp

def farB (n : Int) : Bool := decide (1048576 < n) || decide (n < -1048576)
theorem far_any (n : Int) (w : World) (b : Bool) (hb : farB n = b) : Calls Tryz.prog 37 #[.int .i64 n] w fun e w' => e = .returned (.bool b) ∧ w' = w := by
  have HB : Hid (farB n = b) := hb
  clear hb
  go_enter Tryz.func37, Tryz.ntmps37
  by_cases h1 : 1048576 < n
  · obtain rfl : true = b := by rw [← HB.out]; simp [farB, h1]
    go_wp2
    go_ret
    exact ⟨rfl, rfl⟩
  · by_cases h2 : n < -1048576
    · obtain rfl : true = b := by rw [← HB.out]; simp [farB, h2]
      go_wp2
      go_ret
      exact ⟨ret_b (by simp; try omega), rfl⟩
    · obtain rfl : false = b := by rw [← HB.out]; simp [farB, h1, h2]
      go_wp2
      go_ret
      exact ⟨ret_b (by simp; try omega), rfl⟩
set_option maxHeartbeats 1000000 in
set_option maxRecDepth 100000 in
theorem rown_any (x : By) (w : World) (r : Bool) (hr : decide (x ∈ owns) = r) : Calls Tryz.prog 78 #[.string (tx x)] w fun e w' => e = .returned (.bool r) ∧ Below w.heap.size w w' := by
  have HR : Hid (decide (x ∈ owns) = r) := hr
  obtain ⟨W, hW⟩ : ∃ W, w.alloc (.cells #[.string (tx wCount), .string (tx wSum), .string (tx wBins), .string (tx wTotal), .string (tx wJoin), .string (tx wClamp), .string (tx wWhere), .string (tx wAnd), .string (tx wIn)] 9) = W := ⟨_, rfl⟩
  have HX : Hid (Bx W w.heap.size (owns.map fun s => Value.string (tx s))) := hW ▸ Bx.new w (owns.map fun s => Value.string (tx s)) 9 rfl
  have HB : Hid (Below w.heap.size w W) := hW ▸ ba _ _
  clear hr
  go_enter Tryz.func78, Tryz.ntmps78
  go_wp2
  clear hW
  go_loopw [7] (fun iv wr => ∃ i : Nat, iv = .int .i64 (i : Int) ∧ i ≤ 9 ∧ Hid (∀ j, j < i → owns[j]? ≠ some x) ∧ wr = W) (fun iv _ => 9 - (intOf iv).toNat)
  case atStart => exact ⟨0, rfl, by omega, fun j hj => by omega, rfl⟩
  case round =>
    obtain ⟨i, rfl, hi, HI, rfl⟩ := hrel
    by_cases h7 : i < 9
    · obtain ⟨s, hs⟩ : ∃ s, owns[i]? = some s := ⟨_, List.getElem?_eq_getElem h7⟩
      have p0 : wr.cell? ⟨w.heap.size, i, none⟩ = some (.string (tx s)) := (HX.out i _ (by rw [List.getElem?_map, hs]; rfl)).c
      have h7i : (i : Int) < 9 := by omega
      have HS : Hid (owns[i]? = some s) := hs
      clear hs
      by_cases he : s = x
      · have q := eqs s x true (by simpa using he)
        have q2 : (s == x) = true := by rw [by_beq]; simpa using he
        obtain rfl : true = r := by
          rw [← HR.out]
          symm
          rw [decide_eq_true_eq, ← he]
          exact List.mem_of_getElem? HS.out
        clear he
        go_wp2
        go_ret
        exact ⟨rfl, HB.out⟩
      · have q := eqs s x false (by simpa using he)
        have q2 : (s == x) = false := by rw [by_beq]; simpa using he
        have HN : Hid (∀ j, j < i + 1 → owns[j]? ≠ some x) := fun j hj => by
          by_cases c : j < i
          · exact HI.out j c
          · obtain rfl : j = i := by omega
            rw [HS.out]
            intro e
            exact he (Option.some.inj e)
        clear he
        go_wp2
        go_roundw
        case rel => exact ⟨i + 1, by go_num, by omega, HN, by first | rfl | trivial⟩
        case measure => simp [intOf]; omega
    · obtain rfl : i = 9 := by omega
      obtain rfl : false = r := by
        rw [← HR.out]
        symm
        rw [decide_eq_false_iff_not]
        intro hm
        obtain ⟨j, hj⟩ := List.mem_iff_getElem?.1 hm
        exact HI.out j (by have := (List.getElem?_eq_some_iff.1 hj).1; simpa [owns] using this) hj
      go_wp2
      go_ret
      exact ⟨rfl, HB.out⟩
set_option maxHeartbeats 1000000 in
set_option maxRecDepth 100000 in
theorem rnamd_any (x : By) (hx : x.length ≤ 9223372036854775807) (w : World) (r : Bool) (hr : namB x = r) : Calls Tryz.prog 77 #[.string (tx x)] w fun e w' => e = .returned (.bool r) ∧ w' = w := by
  have HR : Hid (namB x = r) := hr
  have hsz : (tx x).size = x.length := by show x.toArray.size = _; simp
  obtain ⟨n, hn⟩ : ∃ n, x.length = n := ⟨_, rfl⟩
  have HN : Hid (x.length = n) := hn
  have hszn : (tx x).size = n := hsz.trans hn
  rw [hn] at hx
  clear hr hn hsz
  go_enter Tryz.func77, Tryz.ntmps77
  go_wp2
  go_loopw [3] (fun iv wr => ∃ i : Nat, iv = .int .i64 (i : Int) ∧ i ≤ n ∧ Hid ((x.take i).all letB = true) ∧ wr = w) (fun iv _ => n - (intOf iv).toNat)
  case atStart => exact ⟨0, rfl, by omega, by simp [Hid], rfl⟩
  case round =>
    obtain ⟨i, rfl, hi, HI, rfl⟩ := hrel
    by_cases h7 : i < n
    · obtain ⟨c, hc⟩ : ∃ c, x[i]? = some c := ⟨_, List.getElem?_eq_getElem (by rw [HN.out]; exact h7)⟩
      have e0 : ∀ h, (tx x)[i]'h = c := fun h => by
        have h3 : (tx x)[i]'h = x[i]'(by rw [HN.out]; exact h7) := rfl
        rw [h3]
        exact Option.some.inj ((List.getElem?_eq_getElem _).symm.trans hc)
      have h7i : (i : Int) < (n : Int) := by omega
      have h7s : i < (tx x).size := by omega
      have HC : Hid (x[i]? = some c) := hc
      clear hc
      have htk : Hid (x.take (i + 1) = x.take i ++ [c]) := by rw [Hid, List.take_add_one, HC.out]; rfl
      cases hl : letB c with
      | true =>
        have HT : Hid ((x.take (i + 1)).all letB = true) := by rw [Hid, htk.out, List.all_append, HI.out]; simp [hl]
        have hl2 := hl
        simp only [letB, Bool.or_eq_true, Bool.and_eq_true, decide_eq_true_eq] at hl2
        clear hl
        by_cases d1 : 97 ≤ c.toNat
        · have d2 : c.toNat ≤ 122 := by omega
          clear hl2
          go_wp2
          go_roundw
          case rel => exact ⟨i + 1, by go_num, by omega, HT, by first | rfl | trivial⟩
          case measure => simp [intOf]; omega
        · have d3 : c.toNat = 95 := by omega
          clear hl2
          go_wp2
          go_roundw
          case rel => exact ⟨i + 1, by go_num, by omega, HT, by first | rfl | trivial⟩
          case measure => simp [intOf]; omega
      | false =>
        obtain rfl : false = r := by
          rw [← HR.out]
          have : x.all letB = false := List.all_eq_false.2 ⟨c, List.mem_of_getElem? HC.out, by simp [hl]⟩
          simp [namB, this]
        simp only [letB, Bool.or_eq_false_iff, Bool.and_eq_false_iff, decide_eq_false_iff_not] at hl
        have d3 : ¬ c.toNat = 95 := hl.2
        have d4 : ((c.toNat : Int) == 95) = false := by simp; omega
        have d7 : ¬ (c.toNat : Int) = 95 := by omega
        by_cases d1 : 97 ≤ c.toNat
        · have d2 : ¬ c.toNat ≤ 122 := by omega
          have d5 : decide (c.toNat ≤ 122) = false := by simpa using d2
          have d6 : ¬ (c.toNat : Int) ≤ 122 := by omega
          clear hl
          go_wp2
          go_ret
          exact ⟨rfl, rfl⟩
        · have d5 : decide (97 ≤ c.toNat) = false := by simpa using d1
          have d6 : ¬ (97 : Int) ≤ (c.toNat : Int) := by omega
          clear hl
          go_wp2
          go_ret
          exact ⟨rfl, rfl⟩
    · obtain rfl : i = n := by omega
      have HA : Hid (x.all letB = true) := by
        have := HI.out
        rwa [List.take_of_length_le (by rw [HN.out]; omega)] at this
      have HE : Hid (r = (decide (0 < i) && decide (i ≤ 32))) := by
        rw [Hid, ← HR.out, namB, HA.out, HN.out, Bool.and_true]
        rfl
      by_cases e1 : 0 < i
      · have e2 : (0 : Int) < (i : Int) := by omega
        go_wp2
        go_ret
        exact ⟨by rw [HE.out]; simp [e1]; omega, rfl⟩
      · obtain rfl : i = 0 := by omega
        go_wp2
        go_ret
        exact ⟨by rw [HE.out]; rfl, rfl⟩
theorem rnmd_any (x : By) (hx : x.length ≤ 9223372036854775807) (w : World) (r : Bool) (hr : nmd x = r) : Calls Tryz.prog 38 #[.string (tx x)] w fun e w' => e = .returned (.bool r) ∧ Below w.heap.size w w' := by
  obtain ⟨nb, hnb⟩ : ∃ nb, namB x = nb := ⟨_, rfl⟩
  obtain ⟨ob, hob⟩ : ∃ ob, decide (x ∈ owns) = ob := ⟨_, rfl⟩
  have k := rnamd_any x hx w nb hnb
  have k2 := rown_any x w ob hob
  have HR : Hid (r = (nb && !ob)) := by rw [Hid, ← hr, nmd, hnb, hob]
  clear hob hnb hr
  go_enter Tryz.func38, Tryz.ntmps38
  go_wp2_with fail
  refine k.mono ?_
  rintro e w1 ⟨rfl, rfl⟩
  clear k
  cases nb
  · go_wp2
    go_ret
    exact ⟨by rw [HR.out]; rfl, Below.refl _ _⟩
  · go_wp2_with fail
    refine k2.mono ?_
    rintro e w2 ⟨rfl, hb⟩
    go_wp2
    go_ret
    exact ⟨by rw [HR.out]; rfl, hb⟩
end Go.Proofs.YtidfkencjdjkbaaGreatDoor

/-
  The document's own answer, chapter 15, Print: numbers as texts.
-/
namespace Go.Proofs.YtidfkencjdjkbaaGreatDoor
open Go.RowKit Sp
open Go.Lib (decDigits itoa)

theorem u8c {a : Nat} (h : a < 256) : (((UInt8.ofNat a).toNat : Nat) : Int) = (a : Int) := by
  have : (UInt8.ofNat a).toNat = a := by simp; omega
  rw [this]
theorem tx_addR (s t : By) : tx s ++ tx t = tx (s ++ t) := by
  apply ByteArray.ext
  simp
/-- a byte of its own, as a text -/
theorem conv1 (V : World) (x : Int) (n : Nat) (hn : n < 256) (hx : x = (n : Int)) : (convert 83 9 (.slice (some ⟨V.heap.size, 0, none⟩) 1 1)).run Tryz.prog (V.alloc (.cells #[.int .u8 x] 5)) = .ok (.string (tx [UInt8.ofNat n])) (V.alloc (.cells #[.int .u8 x] 5)) := by
  subst hx
  refine run_convert_bytes_back (P := Tryz.prog) _ 83 9 5 ⟨V.heap.size, 0, none⟩ 1 [UInt8.ofNat n] Tryz.underlying83 Tryz.underlying5 Tryz.underlying9 (fun j hj => ?_)
  have hj0 : j = 0 := by simp at hj; exact hj
  subst hj0
  rw [Addr.add_lit, Nat.zero_add, World.cell?_alloc_at _ _ _ _ rfl]
  show some (Value.int .u8 (n : Int)) = some (Value.int .u8 (((UInt8.ofNat n).toNat : Nat) : Int))
  rw [u8c hn]
theorem conv2 {V w1 : World} {x : Int} {n g : Nat} (hn : n < 256) (hx : x = (n : Int)) (hg : g = V.heap.size) (b : Below (V.alloc (.cells #[.int .u8 x] 5)).heap.size (V.alloc (.cells #[.int .u8 x] 5)) w1) : (convert 83 9 (.slice (some ⟨g, 0, none⟩) 1 1)).run Tryz.prog w1 = .ok (.string (tx [UInt8.ofNat n])) w1 := by
  subst hx hg
  refine run_convert_bytes_back (P := Tryz.prog) _ 83 9 5 ⟨V.heap.size, 0, none⟩ 1 [UInt8.ofNat n] Tryz.underlying83 Tryz.underlying5 Tryz.underlying9 (fun j hj => ?_)
  have hj0 : j = 0 := by simp at hj; exact hj
  subst hj0
  rw [Addr.add_lit, Nat.zero_add]
  rw [b.cell (p := ⟨V.heap.size, 0, none⟩) (by simp), World.cell?_alloc_at _ _ _ _ rfl]
  show some (Value.int .u8 (n : Int)) = some (Value.int .u8 (((UInt8.ofNat n).toNat : Nat) : Int))
  rw [u8c hn]
theorem conv1d (V : World) (x : Int) (n : Nat) (hn : n < 256) (hx : x = (n : Int)) : (convert 83 9 (.slice (some ⟨V.heap.size, 0, none⟩) 1 1)).run Tryz.prog (V.alloc (.cells #[.int .u8 x] 5)).drew = .ok (.string (tx [UInt8.ofNat n])) (V.alloc (.cells #[.int .u8 x] 5)).drew :=
  conv2 hn hx rfl (Below.refl _ _).drew
theorem conv2d {V w1 : World} {x : Int} {n g : Nat} (hn : n < 256) (hx : x = (n : Int)) (hg : g = V.heap.size) (b : Below (V.alloc (.cells #[.int .u8 x] 5)).drew.heap.size (V.alloc (.cells #[.int .u8 x] 5)).drew w1) : (convert 83 9 (.slice (some ⟨g, 0, none⟩) 1 1)).run Tryz.prog w1 = .ok (.string (tx [UInt8.ofNat n])) w1 :=
  conv2 (V := V) hn hx hg ((Below.refl _ _).drew.trans b)
theorem bdA {V w1 : World} {o : Obj} (b : Below (V.alloc o).drew.heap.size (V.alloc o).drew w1) : Below V.heap.size V w1 := (ba V o).drew.trans (b.mono (by simp))
theorem bdB {V w1 : World} {o : Obj} (b : Below V.drew.heap.size V.drew w1) : Below V.heap.size V (w1.alloc o) := bal ((Below.refl _ _).drew.trans b) o
theorem dec_len (u : Nat) : (decDigits u).length ≤ u + 1 := by
  induction u using Nat.strongRecOn with
  | _ u ih =>
    rw [decDigits_step]
    by_cases h : u < 10
    · rw [if_pos h]; simp
    · rw [if_neg h]
      have := ih (u / 10) (by omega)
      simp only [List.length_append, List.length_cons, List.length_nil]
      omega
set_option maxHeartbeats 2000000 in
set_option maxRecDepth 100000 in
theorem rdgs_any (n : Nat) (hn : n ≤ 1048576) (w : World) : Calls Tryz.prog 79 #[.int .i64 (n : Int)] w fun e w' => e = .returned (.string (tx (decDigits n))) ∧ Below w.heap.size w w' := by
  induction n using Nat.strongRecOn generalizing w with
  | ind n ih =>
    by_cases c : n < 10
    · have z : (n : Int) < 10 := by omega
      obtain ⟨q, hq⟩ : ∃ q, IntKind.i64.wrap (48 + (n : Int)) = q := ⟨_, rfl⟩
      have hq2 : q = 48 + (n : Int) := by rw [← hq, IntKind.wrap_i64]; omega
      obtain ⟨y, hy⟩ : ∃ y, IntKind.u8.wrap q = y := ⟨_, rfl⟩
      have hy2 : y = ((48 + n : Nat) : Int) := by
        have e8 : IntKind.u8.wrap q = q % 256 := by simp [IntKind.wrap, IntKind.bits, IntKind.signed]
        rw [← hy, e8]; omega
      have hc := conv1 w y (48 + n) (by omega) hy2
      rw [decDigits_step, if_pos c]
      clear ih hq2 hy2 c
      generalize UInt8.ofNat (48 + n) = B at *
      go_enter Tryz.func79, Tryz.ntmps79
      go_wp2
      go_ret
      exact ⟨rfl, ba _ _⟩
    · have z : ¬ (n : Int) < 10 := by omega
      have k := fun W => ih (n / 10) (by omega) (by omega) W
      obtain ⟨d, hd⟩ : ∃ d, (n : Int) / 10 = d := ⟨_, rfl⟩
      have hd2 : ((n / 10 : Nat) : Int) = d := by omega
      rw [hd2] at k
      have hdt : (n : Int).tdiv 10 = d := by rw [← hd, Int.tdiv_eq_ediv_of_nonneg (by omega)]
      have hwd : IntKind.i64.wrap d = d := by rw [IntKind.wrap_i64]; omega
      obtain ⟨r, hr⟩ : ∃ r, (n : Int).tmod 10 = r := ⟨_, rfl⟩
      have hr2 : r = (n : Int) % 10 := by rw [← hr, Int.tmod_eq_emod_of_nonneg (by omega)]
      have hrm : (n : Int) % 10 = r := hr2.symm
      have hwr : IntKind.i64.wrap r = r := by rw [IntKind.wrap_i64]; omega
      obtain ⟨q, hq⟩ : ∃ q, IntKind.i64.wrap (48 + r) = q := ⟨_, rfl⟩
      have hq2 : q = 48 + r := by rw [← hq, IntKind.wrap_i64]; omega
      obtain ⟨y, hy⟩ : ∃ y, IntKind.u8.wrap q = y := ⟨_, rfl⟩
      have hy2 : y = ((48 + n % 10 : Nat) : Int) := by
        have e8 : IntKind.u8.wrap q = q % 256 := by simp [IntKind.wrap, IntKind.bits, IntKind.signed]
        rw [← hy, e8]; omega
      have hcU := fun V => conv1 V y (48 + n % 10) (by omega) hy2
      have hcD := fun V => conv1d V y (48 + n % 10) (by omega) hy2
      have hcV := fun (V w1 : World) (g : Nat) (hg : g = V.heap.size) (b : Below (V.alloc (.cells #[.int .u8 y] 5)).drew.heap.size (V.alloc (.cells #[.int .u8 y] 5)).drew w1) => conv2d (n := 48 + n % 10) (by omega) hy2 hg b
      have hadd := tx_addR (decDigits (n / 10)) [UInt8.ofNat (48 + n % 10)]
      have hlen : ¬ (9223372036854775807 < (decDigits (n / 10)).length + ([UInt8.ofNat (48 + n % 10)] : By).length) := by
        have := dec_len (n / 10)
        simp only [List.length_cons, List.length_nil]; omega
      have HC : Hid (decDigits n = decDigits (n / 10) ++ [UInt8.ofNat (48 + n % 10)]) := by rw [Hid, decDigits_step, if_neg c]
      rw [HC.out]
      generalize UInt8.ofNat (48 + n % 10) = B at *
      generalize decDigits (n / 10) = C at *
      have HV : Hid (∀ (V w1 : World) (g : Nat), g = V.heap.size → Below (V.alloc (.cells #[.int .u8 y] 5)).drew.heap.size (V.alloc (.cells #[.int .u8 y] 5)).drew w1 → (convert 83 9 (.slice (some ⟨g, 0, none⟩) 1 1)).run Tryz.prog w1 = .ok (.string (tx [B])) w1) := hcV
      clear ih hcV HC c hd2 hr2 hq2 hy2
      go_enter Tryz.func79, Tryz.ntmps79
      go_wp2_with fail
      go_region_with (go_at_call 79; refine (k _).mono ?_; rintro e w1 ⟨rfl, b1⟩; try (have hc2 := HV.out _ _ w.heap.size rfl b1))
      all_goals (go_wp2; go_ret; refine ⟨rfl, ?_⟩; first | exact bdA b1 | exact bdB b1)
theorem rnum_any (x : Int) (h1 : -1048576 ≤ x) (h2 : x ≤ 1048576) (w : World) : Calls Tryz.prog 40 #[.int .i64 x] w fun e w' => e = .returned (.string (tx (itoa x))) ∧ Below w.heap.size w w' := by
  by_cases c : x < 0
  · obtain ⟨n, hn⟩ : ∃ n : Nat, x.natAbs = n := ⟨_, rfl⟩
    have hnx : x = -(n : Int) := by omega
    have k := rdgs_any n (by omega) w
    have hw : IntKind.i64.wrap (-x) = (n : Int) := by rw [IntKind.wrap_i64]; omega
    have hadd := tx_addR sMinus (decDigits n)
    have hlen : ¬ (9223372036854775807 < (sMinus : By).length + (decDigits n).length) := by
      have := dec_len n
      simp only [List.length_cons, List.length_nil]; omega
    rw [itoa_neg c, hn]
    clear hnx hn
    generalize decDigits n = C at *
    go_enter Tryz.func40, Tryz.ntmps40
    go_wp2_with fail
    refine k.mono ?_
    rintro e w1 ⟨rfl, b1⟩
    go_wp2
    go_ret
    exact ⟨rfl, b1⟩
  · obtain ⟨n, hn⟩ : ∃ n : Nat, x.toNat = n := ⟨_, rfl⟩
    obtain rfl : x = (n : Int) := by omega
    have k := rdgs_any n (by omega) w
    rw [itoa_pos c]
    have hn2 : ((n : Int)).toNat = n := by omega
    rw [hn2]
    clear hn hn2
    generalize decDigits n = C at *
    go_enter Tryz.func40, Tryz.ntmps40
    go_wp2_with fail
    refine k.mono ?_
    rintro e w1 ⟨rfl, b1⟩
    go_wp2
    go_ret
    exact ⟨rfl, b1⟩
end Go.Proofs.YtidfkencjdjkbaaGreatDoor

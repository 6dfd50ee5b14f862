import Derived.Test.YtnoedkebmpfagaaWfr
/-
  CHAPTER 16: streams: the mathematics.
-/
namespace Go.Proofs.Ytnoedkebmpfagaa
open Wc

def be4 : By → Nat
  | a :: b :: c :: d :: _ => a.toNat * 16777216 + b.toNat * 65536 + c.toNat * 256 + d.toNat
  | _ => 0
theorem be4_hd4 {n : Nat} (h : n ≤ 65536) (r : By) : be4 (hd4 n ++ r) = n := by
  simp only [hd4, be4, List.cons_append, List.nil_append]
  rw [u8_toNat (by omega), u8_toNat (by omega), u8_toNat (by omega), u8_toNat (by omega)]
  omega
theorem be4_app {x : By} (h : 4 ≤ x.length) (y : By) : be4 (x ++ y) = be4 x := by
  match x, h with
  | a :: b :: c :: d :: r, _ => rfl
theorem be4_take {x : By} (h : 4 ≤ x.length) : be4 (x.take 4) = be4 x := by
  match x, h with
  | a :: b :: c :: d :: r, _ => rfl
theorem hd4_be4 {x : By} (h : 4 ≤ x.length) (hn : be4 x ≤ 65536) : hd4 (be4 x) ++ x.drop 4 = x := by
  match x, h with
  | a :: b :: c :: d :: r, _ =>
    have ha := a.toNat_lt
    have hb := b.toNat_lt
    have hc := c.toNat_lt
    have hd := d.toNat_lt
    simp only [be4, Nat.reducePow] at hn ha hb hc hd
    have e0 : UInt8.ofNat ((a.toNat * 16777216 + b.toNat * 65536 + c.toNat * 256 + d.toNat) / 16777216) = a := by
      rw [show (a.toNat * 16777216 + b.toNat * 65536 + c.toNat * 256 + d.toNat) / 16777216 = a.toNat by omega]; simp
    have e1 : UInt8.ofNat ((a.toNat * 16777216 + b.toNat * 65536 + c.toNat * 256 + d.toNat) / 65536 % 256) = b := by
      rw [show (a.toNat * 16777216 + b.toNat * 65536 + c.toNat * 256 + d.toNat) / 65536 % 256 = b.toNat by omega]; simp
    have e2 : UInt8.ofNat ((a.toNat * 16777216 + b.toNat * 65536 + c.toNat * 256 + d.toNat) / 256 % 256) = c := by
      rw [show (a.toNat * 16777216 + b.toNat * 65536 + c.toNat * 256 + d.toNat) / 256 % 256 = c.toNat by omega]; simp
    have e3 : UInt8.ofNat ((a.toNat * 16777216 + b.toNat * 65536 + c.toNat * 256 + d.toNat) % 256) = d := by
      rw [show (a.toNat * 16777216 + b.toNat * 65536 + c.toNat * 256 + d.toNat) % 256 = d.toNat by omega]; simp
    simp only [be4, hd4, e0, e1, e2, e3]
    rfl
/-- the frames with which a text begins; what is left; whether it is broken -/
def feedT (x : By) : List By × By × Bool :=
  if _h : 4 ≤ x.length then
    if be4 x = 0 ∨ 65536 < be4 x then ([], [], true)
    else if x.length < 4 + be4 x then ([], x, false)
    else ((x.drop 4).take (be4 x) :: (feedT (x.drop (4 + be4 x))).1, (feedT (x.drop (4 + be4 x))).2)
  else ([], x, false)
termination_by x.length
decreasing_by all_goals (simp; omega)
theorem feedT_few {x : By} (h : ¬ 4 ≤ x.length) : feedT x = ([], x, false) := by rw [feedT, dif_neg h]
theorem feedT_bad {x : By} (h : 4 ≤ x.length) (hb : be4 x = 0 ∨ 65536 < be4 x) : feedT x = ([], [], true) := by rw [feedT, dif_pos h, if_pos hb]
theorem feedT_wait {x : By} (h : 4 ≤ x.length) (hb : ¬ (be4 x = 0 ∨ 65536 < be4 x)) (hw : x.length < 4 + be4 x) : feedT x = ([], x, false) := by rw [feedT, dif_pos h, if_neg hb, if_pos hw]
theorem feedT_next {x : By} (h : 4 ≤ x.length) (hb : ¬ (be4 x = 0 ∨ 65536 < be4 x)) (hw : ¬ x.length < 4 + be4 x) : feedT x = ((x.drop 4).take (be4 x) :: (feedT (x.drop (4 + be4 x))).1, (feedT (x.drop (4 + be4 x))).2) := by rw [feedT, dif_pos h, if_neg hb, if_neg hw]
/-- what is left stays -/
theorem feedT_left (x : By) : (feedT x).2.2 = false → feedT (feedT x).2.1 = ([], (feedT x).2.1, false) := by
  induction hn : x.length using Nat.strongRecOn generalizing x with
  | ind n ih =>
    intro hk
    by_cases h : 4 ≤ x.length
    · by_cases hb : be4 x = 0 ∨ 65536 < be4 x
      · rw [feedT_bad h hb] at hk; simp at hk
      · by_cases hw : x.length < 4 + be4 x
        · rw [feedT_wait h hb hw, feedT_wait h hb hw]
        · rw [feedT_next h hb hw] at hk ⊢
          exact ih _ (by simp; omega) (x.drop (4 + be4 x)) rfl hk
    · rw [feedT_few h, feedT_few h]
theorem feedT_len (x : By) : (feedT x).2.1.length ≤ x.length ∧ (feedT x).1.length ≤ x.length := by
  induction hn : x.length using Nat.strongRecOn generalizing x with
  | ind n ih =>
    by_cases h : 4 ≤ x.length
    · by_cases hb : be4 x = 0 ∨ 65536 < be4 x
      · rw [feedT_bad h hb]; simp
      · by_cases hw : x.length < 4 + be4 x
        · rw [feedT_wait h hb hw]; simp; omega
        · rw [feedT_next h hb hw]
          have := ih _ (by simp; omega) (x.drop (4 + be4 x)) rfl
          simp at this ⊢
          omega
    · rw [feedT_few h]; simp; omega
theorem feedT_small (x : By) (hk : feedT x = ([], x, false)) : x.length ≤ 65540 := by
  by_cases h : 4 ≤ x.length
  · by_cases hb : be4 x = 0 ∨ 65536 < be4 x
    · rw [feedT_bad h hb] at hk; simp at hk
    · by_cases hw : x.length < 4 + be4 x
      · omega
      · rw [feedT_next h hb hw] at hk; simp at hk
  · omega
theorem feedT_frames (x : By) : ∀ f ∈ (feedT x).1, f.length ≤ 65536 := by
  induction hn : x.length using Nat.strongRecOn generalizing x with
  | ind n ih =>
    by_cases h : 4 ≤ x.length
    · by_cases hb : be4 x = 0 ∨ 65536 < be4 x
      · rw [feedT_bad h hb]; simp
      · by_cases hw : x.length < 4 + be4 x
        · rw [feedT_wait h hb hw]; simp
        · rw [feedT_next h hb hw]
          intro f hf
          rcases List.mem_cons.1 hf with rfl | hf
          · simp; omega
          · exact ih _ (by simp; omega) (x.drop (4 + be4 x)) rfl f hf
    · rw [feedT_few h]; simp
/-- HOWEVER IT IS BROKEN UP -/
theorem feedT_app (x y : By) : ((feedT x).2.2 = true → feedT (x ++ y) = ((feedT x).1, [], true)) ∧
    ((feedT x).2.2 = false → feedT (x ++ y) = ((feedT x).1 ++ (feedT ((feedT x).2.1 ++ y)).1, (feedT ((feedT x).2.1 ++ y)).2)) := by
  induction hn : x.length using Nat.strongRecOn generalizing x with
  | ind n ih =>
    by_cases h : 4 ≤ x.length
    · have h' : 4 ≤ (x ++ y).length := by simp; omega
      have e := be4_app h y
      by_cases hb : be4 x = 0 ∨ 65536 < be4 x
      · rw [feedT_bad h hb]
        refine ⟨fun _ => feedT_bad h' (by rw [e]; exact hb), fun hk => by simp at hk⟩
      · by_cases hw : x.length < 4 + be4 x
        · rw [feedT_wait h hb hw]
          exact ⟨fun hk => by simp at hk, fun _ => by simp⟩
        · have hi := ih _ (by simp; omega) (x.drop (4 + be4 x)) rfl
          have hw' : ¬ (x ++ y).length < 4 + be4 (x ++ y) := by rw [e]; simp; omega
          have ed : (x ++ y).drop (4 + be4 x) = x.drop (4 + be4 x) ++ y := List.drop_append_of_le_length (by omega)
          have et : ((x ++ y).drop 4).take (be4 x) = (x.drop 4).take (be4 x) := by
            rw [List.drop_append_of_le_length h, List.take_append_of_le_length (by simp; omega)]
          rw [feedT_next h hb hw, feedT_next h' (by rw [e]; exact hb) hw', e, ed, et]
          refine ⟨fun hk => ?_, fun hk => ?_⟩
          · rw [hi.1 hk]
          · rw [hi.2 hk]; rfl
    · rw [feedT_few h]
      exact ⟨fun hk => by simp at hk, fun _ => by simp⟩
/-- a body that can be framed -/
def okB (b : By) : Bool := decide (0 < b.length ∧ b.length ≤ 65536)
def frmL : List By → By
  | [] => []
  | b :: r => if okB b then hd4 b.length ++ b ++ frmL r else frmL r
theorem hd4_len (n : Nat) : (hd4 n).length = 4 := rfl
theorem feedT_frm : ∀ l : List By, feedT (frmL l) = (l.filter okB, [], false)
  | [] => by rw [frmL, feedT_few (by simp)]; rfl
  | b :: r => by
    by_cases h : okB b = true
    · have hb : 0 < b.length ∧ b.length ≤ 65536 := by simpa [okB] using h
      have e : frmL (b :: r) = hd4 b.length ++ (b ++ frmL r) := by simp [frmL, h]
      have eb : be4 (hd4 b.length ++ (b ++ frmL r)) = b.length := be4_hd4 hb.2 _
      have hl := hd4_len b.length
      rw [e, feedT_next (by simp [hl]) (by rw [eb]; omega) (by rw [eb]; simp [hl]), eb]
      have ed : (hd4 b.length ++ (b ++ frmL r)).drop 4 = b ++ frmL r := by
        rw [List.drop_append_of_le_length (by rw [hl]; exact Nat.le_refl _), List.drop_of_length_le (by rw [hl]; exact Nat.le_refl _), List.nil_append]
      have ed2 : (hd4 b.length ++ (b ++ frmL r)).drop (4 + b.length) = frmL r := by
        rw [← List.drop_drop, ed]; simp
      rw [ed, ed2, feedT_frm r, List.filter_cons_of_pos h]
      simp
    · have e : frmL (b :: r) = frmL r := by simp [frmL, h]
      rw [e, feedT_frm r, List.filter_cons_of_neg h]
/-- crumb by crumb: what is held (none: broken) -/
def crmT : Option By → List By → List (List By × Int)
  | _, [] => []
  | none, _ :: r => ([], 9) :: crmT none r
  | some h, b :: r => ((feedT (h ++ b)).1, if (feedT (h ++ b)).2.2 then 2 else 0) :: crmT (if (feedT (h ++ b)).2.2 then none else some (feedT (h ++ b)).2.1) r
/-- one crumb -/
def stpT : Option By → By → (List By × Int) × Option By
  | none, _ => (([], 9), none)
  | some h, b => (((feedT (h ++ b)).1, if (feedT (h ++ b)).2.2 then 2 else 0), if (feedT (h ++ b)).2.2 then none else some (feedT (h ++ b)).2.1)
theorem crmT_cons (s : Option By) (b : By) (r : List By) : crmT s (b :: r) = (stpT s b).1 :: crmT (stpT s b).2 r := by
  cases s <;> rfl
def runT (s : Option By) (l : List By) : Option By := l.foldl (fun s b => (stpT s b).2) s
theorem crmT_snoc : ∀ (l : List By) (s : Option By) (b : By), crmT s (l ++ [b]) = crmT s l ++ [(stpT (runT s l) b).1]
  | [], s, b => by simp [crmT_cons, runT, crmT]
  | c :: l, s, b => by
    rw [List.cons_append, crmT_cons, crmT_cons, crmT_snoc l]
    simp [runT]
theorem runT_snoc (s : Option By) (l : List By) (b : By) : runT s (l ++ [b]) = (stpT (runT s l) b).2 := by simp [runT]
theorem crmT_len : ∀ (l : List By) (s : Option By), (crmT s l).length = l.length
  | [], s => by cases s <;> rfl
  | b :: l, s => by rw [crmT_cons]; simp [crmT_len l]
/-- THE FRAMES THAT COME OUT ARE THOSE THAT WERE PUT IN -/
theorem crm_all : ∀ (l : List By) (h : By) (fs : List By), feedT (h ++ l.flatten) = (fs, [], false) → feedT h = ([], h, false) → (∀ p ∈ crmT (some h) l, p.2 = 0) ∧ ((crmT (some h) l).map (·.1)).flatten = fs
  | [], h, fs, hf, hh => by
    simp only [List.flatten_nil, List.append_nil] at hf
    rw [hh] at hf
    simp only [Prod.mk.injEq] at hf
    simp [crmT, hf.1]
  | b :: l, h, fs, hf, hh => by
    have ha := feedT_app (h ++ b) l.flatten
    rw [List.flatten_cons, ← List.append_assoc] at hf
    have hk : (feedT (h ++ b)).2.2 = false := by
      cases hc : (feedT (h ++ b)).2.2 with
      | false => rfl
      | true => rw [ha.1 hc] at hf; simp at hf
    have hg := ha.2 hk
    rw [hf] at hg
    simp only [Prod.mk.injEq] at hg
    obtain ⟨g1, g2⟩ := hg
    have hl := feedT_left (h ++ b) hk
    obtain ⟨i1, i2⟩ := crm_all l (feedT (h ++ b)).2.1 (feedT ((feedT (h ++ b)).2.1 ++ l.flatten)).1 (Prod.ext rfl g2.symm) hl
    have e : crmT (some h) (b :: l) = ((feedT (h ++ b)).1, 0) :: crmT (some (feedT (h ++ b)).2.1) l := by simp [crmT, hk]
    rw [e]
    refine ⟨fun p hp => ?_, ?_⟩
    · rcases List.mem_cons.1 hp with rfl | hp
      · rfl
      · exact i1 p hp
    · rw [List.map_cons, List.flatten_cons, i2, g1]
end Go.Proofs.Ytnoedkebmpfagaa

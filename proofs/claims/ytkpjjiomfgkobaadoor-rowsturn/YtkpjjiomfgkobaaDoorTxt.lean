import Derived.Test.YtkpjjiomfgkobaaDoorMem
import Derived.Test.YtkpjjiomfgkobaaDoorTbl
import Derived.Lib.ItoaNum
import Derived.Lib.Join
import Derived.Lib.Repeat
namespace Go.Proofs.YtkpjjiomfgkobaaDoor
open Go.RowKit Go.Proofs.YtkpjjiomfgkobaaDoor.Ds

/-! ### what is written -/
def wordC (c : Col) : List UInt8 := c.1.data.toList ++ 58 :: Lib.itoa c.2
def lineT (ws : List (List UInt8)) : List UInt8 := Lib.join ws [32] ++ [10]
def lineR (r : List Int) : List UInt8 := lineT (r.map Lib.itoa)
def textR (rs : List (List Int)) : List UInt8 := rs.flatMap lineR
def textT (l : List Col) (rs : List (List Int)) : List UInt8 := lineT (l.map wordC) ++ textR rs

theorem nDigits_le (u : Nat) : Lib.nDigits u ≤ u + 1 := by
  induction u using Nat.strongRecOn with
  | _ u ih =>
    by_cases h : u < 10
    · rw [Lib.nDigits_small h]; omega
    · rw [Lib.nDigits_big h]; have := ih (u / 10) (by omega); omega
theorem itoa_nat (u : Nat) : Lib.itoa (u : Int) = Lib.decDigits u := by
  rw [Lib.itoa, if_neg (by omega)]; simp
theorem itoa_pos {v : Int} (h : 0 ≤ v) : Lib.itoa v = Lib.decDigits v.toNat := by
  rw [Lib.itoa, if_neg (by omega)]
theorem itoa_len {v : Int} (h : 0 ≤ v) (h2 : v ≤ 4096) : (Lib.itoa v).length ≤ 4097 := by
  rw [itoa_pos h, Lib.decDigits_length]; have := nDigits_le v.toNat; omega

theorem join_len {ws : List (List UInt8)} {K : Nat} (h : ∀ x ∈ ws, x.length ≤ K) : (Lib.join ws [32]).length ≤ ws.length * (K + 1) := by
  cases ws with
  | nil => simp [Lib.join_nil]
  | cons x r =>
    rw [Lib.join_cons]
    have h1 := h x (by simp)
    have h2 : (Lib.joinTail [32] r).length ≤ r.length * (K + 1) := by
      clear h1
      induction r with
      | nil => simp [Lib.joinTail]
      | cons y r ih =>
        have a := h y (by simp)
        have b := ih (fun z hz => h z (by simp at hz ⊢; rcases hz with e | e <;> simp [e]))
        simp only [Lib.joinTail, List.map_cons, List.flatten_cons, List.length_append, List.length_cons, List.length_nil] at b ⊢
        rw [Nat.add_mul]
        omega
    simp only [List.length_append, List.length_cons]
    rw [Nat.add_mul]
    omega
theorem lineT_len {ws : List (List UInt8)} {K : Nat} (h : ∀ x ∈ ws, x.length ≤ K) (h6 : ws.length ≤ 6) : (lineT ws).length ≤ 6 * (K + 1) + 1 := by
  have := join_len h
  have h2 : ws.length * (K + 1) ≤ 6 * (K + 1) := Nat.mul_le_mul_right _ h6
  simp only [lineT, List.length_append, List.length_cons, List.length_nil]
  omega

theorem rowOk_bd {l : List Col} {r : List Int} (h : RowOk l r) (hs : Szs l) : ∀ v ∈ r, 0 ≤ v ∧ v < 4096 := by
  induction l generalizing r with
  | nil => cases r with
    | nil => simp
    | cons a r => simp [RowOk] at h
  | cons c l ih =>
    cases r with
    | nil => simp
    | cons a r =>
      simp only [RowOk] at h
      intro v hv
      simp only [List.mem_cons] at hv
      rcases hv with rfl | hv
      · have := hs c (by simp); omega
      · exact ih h.2.2 (fun d hd => hs d (by simp [hd])) v hv
theorem lineR_len {l : List Col} {r : List Int} (h : RowOk l r) (hs : Szs l) (h6 : l.length ≤ 6) : (lineR r).length ≤ 24589 := by
  refine Nat.le_trans (lineT_len (K := 4097) ?_ (by rw [List.length_map, h.len]; exact h6)) (by omega)
  intro x hx
  obtain ⟨v, hv, rfl⟩ := List.mem_map.1 hx
  have := rowOk_bd h hs v hv
  exact itoa_len this.1 (by omega)
def Nms (l : List Col) : Prop := ∀ c ∈ l, namB c.1.data.toList = true
theorem lineC_len {l : List Col} (hn : Nms l) (hs : Szs l) (h6 : l.length ≤ 6) : (lineT (l.map wordC)).length ≤ 24787 := by
  refine Nat.le_trans (lineT_len (K := 4130) ?_ (by rw [List.length_map]; exact h6)) (by omega)
  intro x hx
  obtain ⟨c, hc, rfl⟩ := List.mem_map.1 hx
  have h1 := hn c hc
  have h2 := hs c hc
  have h3 := itoa_len (v := c.2) (by omega) (by omega)
  simp only [namB, Bool.and_eq_true, decide_eq_true_eq] at h1
  simp only [wordC, List.length_append, List.length_cons]
  omega
theorem colL_nms {pre l : List Col} (h : colL pre l = 0) : Nms l := by
  induction l generalizing pre with
  | nil => intro c hc; cases hc
  | cons c l ih =>
    simp only [colL] at h
    intro d hd
    by_cases hn : namB c.1.data.toList = true
    · simp only [List.mem_cons] at hd
      rcases hd with rfl | hd
      · exact hn
      · rw [if_pos hn] at h
        split at h
        · exact absurd h (by decide)
        · split at h
          · exact absurd h (by decide)
          · exact ih h d hd
    · rw [if_neg hn] at h; exact absurd h (by decide)

theorem repeatL_eq (l : List UInt8) (n : Nat) : Lib.repeatL l n = (List.replicate n l).flatten := by
  induction n with
  | zero => rfl
  | succ n ih => rw [Lib.repeatL, ih, List.replicate_succ, List.flatten_cons]
theorem textR_app (a b : List (List Int)) : textR (a ++ b) = textR a ++ textR b := by simp [textR]
theorem textR_rep (r : List Int) (n : Nat) : textR (List.replicate n r) = Lib.repeatL (lineR r) n := by
  induction n with
  | zero => rfl
  | succ n ih => rw [List.replicate_succ, Lib.repeatL, ← ih]; simp [textR]
theorem repeatL_len (l : List UInt8) (n : Nat) : (Lib.repeatL l n).length = n * l.length := Lib.repeatL_length l n

/-! ### what is read -/
def digB (b : UInt8) : Bool := decide (48 ≤ b.toNat) && decide (b.toNat ≤ 57)
def dnT : List UInt8 → Nat
  | [] => 0
  | b :: l => if digB b then dnT l + 1 else 0
def stpT (a : Nat) (b : UInt8) : Nat := a * 10 + (b.toNat - 48)
def valT (a : Nat) (l : List UInt8) : Nat := l.foldl stpT a
theorem valT_nil (a : Nat) : valT a [] = a := by rw [valT, List.foldl_nil]
theorem valT_cons (a : Nat) (b : UInt8) (l : List UInt8) : valT a (b :: l) = valT (a * 10 + (b.toNat - 48)) l := by
  rw [valT, List.foldl_cons, stpT, valT]
theorem dig_of (d : Nat) (h : d < 10) : digB (UInt8.ofNat (48 + d)) = true ∧ (UInt8.ofNat (48 + d)).toNat = 48 + d := by
  have e : (UInt8.ofNat (48 + d)).toNat = 48 + d := by simp [UInt8.toNat_ofNat']; omega
  exact ⟨by simp only [digB, e]; simp; omega, e⟩
theorem dec_digs (u : Nat) : (Lib.decDigits u).all digB = true := by
  induction u using Nat.strongRecOn with
  | _ u ih =>
    rw [Lib.decDigits]
    split
    · rename_i h; simp only [List.all_cons, List.all_nil, (dig_of u h).1]; rfl
    · rw [List.all_append, ih (u / 10) (by omega)]; simp only [List.all_cons, List.all_nil, (dig_of (u % 10) (Nat.mod_lt _ (by omega))).1]; rfl
theorem dec_ne (u : Nat) : 1 ≤ (Lib.decDigits u).length := by rw [Lib.decDigits_length]; exact Lib.nDigits_pos u
theorem dec_small {u : Nat} (h : u < 10) : Lib.decDigits u = [UInt8.ofNat (48 + u)] := Lib.decDigits_one h
theorem dec_big {u : Nat} (h : ¬ u < 10) : Lib.decDigits u = Lib.decDigits (u / 10) ++ [UInt8.ofNat (48 + u % 10)] := by rw [Lib.decDigits, dif_neg h]
theorem dec_head {u : Nat} (h : 1 ≤ u) : ∃ b t, Lib.decDigits u = b :: t ∧ b.toNat ≠ 48 := by
  induction u using Nat.strongRecOn with
  | _ u ih =>
    by_cases h2 : u < 10
    · have e := (dig_of u h2).2
      generalize hb : UInt8.ofNat (48 + u) = b at e
      exact ⟨b, [], by rw [dec_small h2, hb], by omega⟩
    · obtain ⟨b, t, e, hb⟩ := ih (u / 10) (by omega) (by omega)
      exact ⟨b, t ++ [UInt8.ofNat (48 + u % 10)], by rw [dec_big h2, e, List.cons_append], hb⟩
theorem valT_app (a : Nat) (l m : List UInt8) : valT a (l ++ m) = valT (valT a l) m := by
  rw [valT, valT, valT, List.foldl_append]
theorem dec_val (u : Nat) : valT 0 (Lib.decDigits u) = u := by
  induction u using Nat.strongRecOn with
  | _ u ih =>
    rw [Lib.decDigits]
    split
    · rename_i h; rw [valT_cons, valT_nil, (dig_of u h).2]; omega
    · rw [valT_app, ih (u / 10) (by omega), valT_cons, valT_nil, (dig_of (u % 10) (by omega)).2]; omega
theorem valT_le (a : Nat) (l : List UInt8) : a ≤ valT a l := by
  induction l generalizing a with
  | nil => rw [valT_nil]; exact Nat.le_refl _
  | cons b l ih => rw [valT_cons]; exact Nat.le_trans (by omega) (ih _)
theorem valT_next {l : List UInt8} {i : Nat} {b : UInt8} (h : l[i]? = some b) : valT 0 (l.take (i + 1)) = valT 0 (l.take i) * 10 + (b.toNat - 48) := by
  rw [List.take_add_one, h, valT_app, Option.toList_some, valT_cons, valT_nil]
theorem valT_pre (l : List UInt8) (i : Nat) : valT 0 (l.take i) ≤ valT 0 l := by
  conv => rhs; rw [← List.take_append_drop i l, valT_app]
  exact valT_le _ _
theorem dnT_app {d : List UInt8} (h : d.all digB = true) (t : List UInt8) : dnT (d ++ t) = d.length + dnT t := by
  induction d with
  | nil => simp
  | cons b d ih =>
    simp only [List.all_cons, Bool.and_eq_true] at h
    simp only [List.cons_append, dnT, h.1, if_true, ih h.2, List.length_cons]
    omega
theorem lnT_app {d : List UInt8} (h : d.all letB = true) (t : List UInt8) : lnT (d ++ t) = d.length + lnT t := by
  induction d with
  | nil => simp
  | cons b d ih =>
    simp only [List.all_cons, Bool.and_eq_true] at h
    simp only [List.cons_append, lnT, h.1, if_true, ih h.2, List.length_cons]
    omega
theorem dnT_le (l : List UInt8) : dnT l ≤ l.length := by
  induction l with
  | nil => exact Nat.le_refl _
  | cons b l ih => simp only [dnT, List.length_cons]; split <;> omega
end Go.Proofs.YtkpjjiomfgkobaaDoor

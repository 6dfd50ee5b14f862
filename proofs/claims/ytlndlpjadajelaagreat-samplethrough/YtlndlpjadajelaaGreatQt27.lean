import Derived.Test.YtlndlpjadajelaaGreatRows
import Derived.WalkKit
import Derived.WalkSpells
import Derived.Deep.QuietTactic
import Derived.BigQuiet
import Derived.WalkSmall
namespace Go.Proofs.YtlndlpjadajelaaGreat.K.Ds

/-- the order of lists: -1, 0, 1 -/
def cmpT : List Int → List Int → Int
  | [], [] => 0
  | [], _ :: _ => -1
  | _ :: _, [] => 1
  | a :: x, b :: y => if a < b then -1 else if b < a then 1 else cmpT x y

theorem cmpT_cases (x y : List Int) : cmpT x y = -1 ∨ cmpT x y = 0 ∨ cmpT x y = 1 := by
  induction x generalizing y with
  | nil => cases y <;> simp [cmpT]
  | cons a x ih => cases y with
    | nil => simp [cmpT]
    | cons b y => simp only [cmpT]; split; · simp
                  · split; · simp
                    · exact ih y

theorem cmpT_swap (x y : List Int) : cmpT y x = - cmpT x y := by
  induction x generalizing y with
  | nil => cases y <;> simp [cmpT]
  | cons a x ih => cases y with
    | nil => simp [cmpT]
    | cons b y =>
      simp only [cmpT]
      by_cases h1 : a < b
      · simp [h1, Int.not_lt.2 (Int.le_of_lt h1)]
      · by_cases h2 : b < a
        · simp [h1, h2]
        · simp [h1, h2, ih y]

theorem cmpT_self (x : List Int) : cmpT x x = 0 := by
  have := cmpT_swap x x; omega

theorem cmpT_zero (x y : List Int) : cmpT x y = 0 ↔ x = y := by
  constructor
  · intro h
    induction x generalizing y with
    | nil => cases y with | nil => rfl | cons b y => simp [cmpT] at h
    | cons a x ih => cases y with
      | nil => simp [cmpT] at h
      | cons b y =>
        simp only [cmpT] at h
        by_cases h1 : a < b
        · simp [h1] at h
        · by_cases h2 : b < a
          · simp [h1, h2] at h
          · simp [h1, h2] at h
            rw [ih y h, show a = b by omega]
  · rintro rfl; exact cmpT_self x


end Go.Proofs.YtlndlpjadajelaaGreat.K.Ds

namespace Go.Proofs.YtlndlpjadajelaaGreat.K
open Go.RowKit Go.Proofs.YtlndlpjadajelaaGreat.K.Ds

/-- THE NUMBERS BEHIND A SLICE, in a block below B that is not nb. -/
def Ints (w : World) (B nb : Nat) (v : Value) (xs : List Int) : Prop :=
  ∃ a c, v = .slice a xs.length c ∧ xs.length ≤ c ∧ xs.length ≤ 9223372036854775807 ∧
    (xs ≠ [] → ∃ b o, a = some ⟨b, o, none⟩ ∧ b < B ∧ b ≠ nb ∧ ∀ i x, xs[i]? = some x → w.cell? ⟨b, o + i, none⟩ = some (.int .i64 x))

theorem Ints.keep {w w' : World} {B nb : Nat} {v : Value} {xs : List Int} (h : Ints w B nb v xs) (hb : Below B w w') : Ints w' B nb v xs := by
  obtain ⟨a, c, hv, hc, hl, hx⟩ := h
  refine ⟨a, c, hv, hc, hl, fun hne => ?_⟩
  obtain ⟨b, o, ha, hB, hn, hcell⟩ := hx hne
  exact ⟨b, o, ha, hB, hn, fun i x hi => (hb.cell (p := ⟨b, o + i, none⟩) hB).trans (hcell i x hi)⟩

theorem Ints.mono {w : World} {B B' nb nb' : Nat} {v : Value} {xs : List Int} (h : Ints w B nb v xs) (hB : B ≤ B') (hn : nb' = nb ∨ B ≤ nb') : Ints w B' nb' v xs := by
  obtain ⟨a, c, hv, hc, hl, hx⟩ := h
  refine ⟨a, c, hv, hc, hl, fun hne => ?_⟩
  obtain ⟨b, o, ha, hb, hnb, hcell⟩ := hx hne
  exact ⟨b, o, ha, by omega, by rcases hn with h | h <;> omega, hcell⟩

theorem get_lt {α : Type} {l : List α} {i : Nat} (h : i < l.length) : ∃ x, l[i]? = some x := ⟨l[i], List.getElem?_eq_getElem h⟩
theorem ne_of_lt {α : Type} {l : List α} {i : Nat} (h : i < l.length) : l ≠ [] := by rintro rfl; simp at h
theorem ret_b {a b : Bool} (h : a = b) : Ending.returned (.bool a) = .returned (.bool b) := by rw [h]

theorem dr2 (w : World) (a b c : Nat) : ∃ q, ((w.drewN a).drewN b).drewN c = w.drewN q := by simp only [World.drewN_drewN]; exact ⟨_, rfl⟩
theorem dr1 (w : World) (a b : Nat) : ∃ q, (w.drewN a).drewN b = w.drewN q := by simp only [World.drewN_drewN]; exact ⟨_, rfl⟩

/-! ### comparing -/

theorem cmpT_step {x y : List Int} {i : Nat} {a b : Int} (hx : x[i]? = some a) (hy : y[i]? = some b) :
    cmpT (x.drop i) (y.drop i) = if a < b then -1 else if b < a then 1 else cmpT (x.drop (i + 1)) (y.drop (i + 1)) := by
  rw [List.drop_eq_getElem_cons (List.getElem?_eq_some_iff.1 hx).1, List.drop_eq_getElem_cons (List.getElem?_eq_some_iff.1 hy).1, (List.getElem?_eq_some_iff.1 hx).2, (List.getElem?_eq_some_iff.1 hy).2]
  rfl

set_option maxHeartbeats 400000 in
theorem refCompare_any (B n1 n2 : Nat) (u v : Value) (x y : List Int) (w : World) (hx : Ints w B n1 u x) (hy : Ints w B n2 v y) (r : Int) (hr : cmpT x y = r) :
    Calls Tryz.prog 58 #[u, v] w fun e w' => e = .returned (.int .i64 r) ∧ ∃ q, w' = w.drewN q := by
  obtain ⟨ax, cx, rfl, hcx, hlx, hxx⟩ := hx
  obtain ⟨ay, cy, rfl, hcy, hly, hyy⟩ := hy
  have HX : Hid (x ≠ [] → ∃ b o, ax = some ⟨b, o, none⟩ ∧ b < B ∧ b ≠ n1 ∧ ∀ i z, x[i]? = some z → w.cell? ⟨b, o + i, none⟩ = some (.int .i64 z)) := hxx
  have HY : Hid (y ≠ [] → ∃ b o, ay = some ⟨b, o, none⟩ ∧ b < B ∧ b ≠ n2 ∧ ∀ i z, y[i]? = some z → w.cell? ⟨b, o + i, none⟩ = some (.int .i64 z)) := hyy
  have HR : Hid (cmpT x y = r) := hr
  clear hxx hyy hr
  go_enter Tryz.func58, Tryz.ntmps58
  go_wp2
  go_loopw [8] (fun s wr => ∃ i : Nat, s = .int .i64 (i : Int) ∧ i ≤ x.length ∧ i ≤ y.length ∧ cmpT (x.drop i) (y.drop i) = r ∧ ∃ q, wr = w.drewN q) (fun s _ => x.length - (intOf s).toNat)
  case atStart => exact ⟨0, rfl, Nat.zero_le _, Nat.zero_le _, HR.out, 0, rfl⟩
  case round =>
    obtain ⟨i, rfl, hix, hiy, hc, q, rfl⟩ := hrel
    have HC : Hid (cmpT (x.drop i) (y.drop i) = r) := hc
    clear hc
    by_cases h1 : i < x.length
    · obtain ⟨bx, ox, rfl, hbx, hnx, hcx⟩ := HX.out (ne_of_lt h1)
      obtain ⟨zx, hzx⟩ := get_lt h1
      have cx1 := hcx i zx hzx
      by_cases h2 : i < y.length
      · obtain ⟨by', oy, rfl, hby, hny, hcy⟩ := HY.out (ne_of_lt h2)
        obtain ⟨zy, hzy⟩ := get_lt h2
        have cy1 := hcy i zy hzy
        have st := cmpT_step hzx hzy
        have ST : Hid (cmpT (x.drop i) (y.drop i) = if zx < zy then -1 else if zy < zx then 1 else cmpT (x.drop (i + 1)) (y.drop (i + 1))) := st
        clear st hcx hcy HX HY hzx hzy
        by_cases c1 : zx = zy
        · subst c1
          go_wp2
          go_quiet (fail)
          go_wp2
          go_roundw
          case rel => exact ⟨i + 1, by go_num, h1, h2, by rw [← HC.out, ST.out]; simp, _, rfl⟩
          case measure => simp [intOf]; omega
        · by_cases c2 : zx < zy
          · have hr1 : r = -1 := by rw [← HC.out, ST.out]; simp [c2]
            subst hr1
            go_wp2
            go_quiet (fail)
            go_wp2
            go_quiet (fail)
            go_wp2
            go_ret
            exact ⟨rfl, dr2 _ _ _ _⟩
          · have hr1 : r = 1 := by rw [← HC.out, ST.out]; simp [c2, show zy < zx by omega]
            subst hr1
            go_wp2
            go_quiet (fail)
            go_wp2
            go_quiet (fail)
            go_wp2
            go_ret
            exact ⟨rfl, dr2 _ _ _ _⟩
      · have hr1 : r = 1 := by
          rw [← HC.out, List.drop_eq_getElem_cons h1, List.drop_eq_nil_of_le (show y.length ≤ i by omega)]; rfl
        subst hr1
        clear hcx HX HY
        go_wp2
        go_ret
        exact ⟨rfl, _, rfl⟩
    · by_cases h2 : i < y.length
      · have hr1 : r = -1 := by
          rw [← HC.out, List.drop_eq_nil_of_le (show x.length ≤ i by omega), List.drop_eq_getElem_cons h2]; rfl
        subst hr1
        have h3 : x.length < y.length := by omega
        clear HX HY
        go_wp2
        go_ret
        exact ⟨rfl, _, rfl⟩
      · have hr1 : r = 0 := by
          rw [← HC.out, List.drop_eq_nil_of_le (show x.length ≤ i by omega), List.drop_eq_nil_of_le (show y.length ≤ i by omega)]; rfl
        subst hr1
        have h3 : ¬ x.length < y.length := by omega
        clear HX HY
        go_wp2
        go_ret
        exact ⟨rfl, _, rfl⟩
end Go.Proofs.YtlndlpjadajelaaGreat.K

namespace Go.Proofs.YtlndlpjadajelaaGreat.K.Ds

/-- a column: its name, its Size -/
abbrev Col := ByteArray × Int

def letB (b : UInt8) : Bool := (decide (97 ≤ b.toNat) && decide (b.toNat ≤ 122)) || decide (b.toNat = 95)
/-- letters ahead of all else -/
def lnT : List UInt8 → Nat
  | [] => 0
  | b :: r => if letB b then lnT r + 1 else 0
theorem lnT_le (l : List UInt8) : lnT l ≤ l.length := by
  induction l with
  | nil => simp [lnT]
  | cons b r ih => simp only [lnT]; split <;> simp <;> omega
def namB (s : List UInt8) : Bool := decide (1 ≤ s.length) && decide (s.length ≤ 32) && s.all letB
theorem lnT_all (l : List UInt8) : lnT l = l.length ↔ l.all letB = true := by
  induction l with
  | nil => simp [lnT]
  | cons b r ih =>
    simp only [lnT]
    by_cases h : letB b
    · simp [h]; exact (Iff.trans (by omega) ih).trans (by simp)
    · simp [h]

/-- column by column -/
def colL : List Col → List Col → Int
  | _, [] => 0
  | pre, c :: r => if namB c.1.data.toList then (if pre.any (fun d => decide (d.1 = c.1)) then 7 else if c.2 < 1 ∨ 4096 < c.2 then 3 else colL (pre ++ [c]) r) else 2
/-- as many cells as there are -/
def prd : List Col → Nat
  | [] => 1
  | c :: r => c.2.toNat * prd r
def colE (l : List Col) : Int := if l.length < 1 ∨ 6 < l.length then 5 else if colL [] l = 0 then (if 4096 < prd l then 4 else 0) else colL [] l

/-- Sizes are right -/
def Szs (l : List Col) : Prop := ∀ c ∈ l, 1 ≤ c.2 ∧ c.2 ≤ 4096
theorem colL_szs {pre l : List Col} (h : colL pre l = 0) : Szs l := by
  induction l generalizing pre with
  | nil => intro c hc; cases hc
  | cons c r ih =>
    simp only [colL] at h
    split at h
    · split at h
      · cases h
      · split at h
        · cases h
        · intro d hd
          rcases List.mem_cons.1 hd with rfl | hd
          · omega
          · exact ih h d hd
    · cases h
theorem prd_pos {l : List Col} (h : Szs l) : 1 ≤ prd l := by
  induction l with
  | nil => simp [prd]
  | cons c r ih =>
    have h1 := h c (by simp)
    have h2 := ih fun d hd => h d (by simp [hd])
    simp only [prd]
    exact Nat.mul_pos (by omega) (by omega)
theorem prd_app (l m : List Col) : prd (l ++ m) = prd l * prd m := by
  induction l with
  | nil => simp [prd]
  | cons c r ih => simp [prd, ih, Nat.mul_assoc]
theorem colE_ok {l : List Col} (h : colE l = 0) : 1 ≤ l.length ∧ l.length ≤ 6 ∧ Szs l ∧ prd l ≤ 4096 ∧ colL [] l = 0 := by
  unfold colE at h
  split at h
  · cases h
  · split at h
    · rename_i h1 h2
      split at h
      · cases h
      · exact ⟨by omega, by omega, colL_szs h2, by omega, h2⟩
    · rename_i h1 h2; exact absurd h h2
theorem prd_pre {l : List Col} (h : Szs l) (i : Nat) : prd (l.take i) ≤ prd l := by
  have h2 : Szs (l.drop i) := fun c hc => h c (List.mem_of_mem_drop hc)
  have := prd_pos h2
  have e : prd l = prd (l.take i) * prd (l.drop i) := by rw [← prd_app, List.take_append_drop]
  rw [e]
  exact Nat.le_mul_of_pos_right _ (by omega)
theorem prd_suf {l : List Col} (h : Szs l) (i : Nat) : prd (l.drop i) ≤ prd l := by
  have h2 : Szs (l.take i) := fun c hc => h c (List.mem_of_mem_take hc)
  have := prd_pos h2
  have e : prd l = prd (l.take i) * prd (l.drop i) := by rw [← prd_app, List.take_append_drop]
  rw [e]
  exact Nat.le_mul_of_pos_left _ (by omega)
theorem prd_next {l : List Col} {i : Nat} {c : Col} (h : l[i]? = some c) : prd (l.take (i + 1)) = prd (l.take i) * c.2.toNat := by
  rw [List.take_add_one, h, prd_app]; simp [prd]
theorem prd_prev {l : List Col} {i : Nat} {c : Col} (h : l[i]? = some c) : prd (l.drop i) = c.2.toNat * prd (l.drop (i + 1)) := by
  rw [List.drop_eq_getElem_cons (List.getElem?_eq_some_iff.1 h).1, (List.getElem?_eq_some_iff.1 h).2]; rfl
theorem colL_step {l : List Col} {i : Nat} {c : Col} (h : l[i]? = some c) : colL (l.take i) (l.drop i) = if namB c.1.data.toList then (if (l.take i).any (fun d => decide (d.1 = c.1)) then 7 else if c.2 < 1 ∨ 4096 < c.2 then 3 else colL (l.take (i + 1)) (l.drop (i + 1))) else 2 := by
  have hi := (List.getElem?_eq_some_iff.1 h).1
  rw [List.drop_eq_getElem_cons hi, (List.getElem?_eq_some_iff.1 h).2]
  simp only [colL]
  rw [List.take_add_one, h]; rfl

/-- rows -/
def rowL : List Col → List Int → Int
  | c :: l, v :: r => if v < 0 ∨ c.2 ≤ v then 3 else rowL l r
  | _, _ => 0
def rowE (l : List Col) (r : List Int) : Int := if l.length = r.length then rowL l r else 8
def rowsL (l : List Col) : List (List Int) → Int
  | [] => 0
  | r :: rs => if rowE l r = 0 then rowsL l rs else rowE l r
def wroE (l : List Col) (rs : List (List Int)) : Int := if colE l = 0 then (if 4096 < rs.length then 4 else rowsL l rs) else colE l
theorem rowL_step {l : List Col} {r : List Int} {i : Nat} {c : Col} {v : Int} (hc : l[i]? = some c) (hv : r[i]? = some v) : rowL (l.drop i) (r.drop i) = if v < 0 ∨ c.2 ≤ v then 3 else rowL (l.drop (i + 1)) (r.drop (i + 1)) := by
  rw [List.drop_eq_getElem_cons (List.getElem?_eq_some_iff.1 hc).1, (List.getElem?_eq_some_iff.1 hc).2, List.drop_eq_getElem_cons (List.getElem?_eq_some_iff.1 hv).1, (List.getElem?_eq_some_iff.1 hv).2]
  rfl
theorem rowsL_step {l : List Col} {rs : List (List Int)} {i : Nat} {r : List Int} (h : rs[i]? = some r) : rowsL l (rs.drop i) = if rowE l r = 0 then rowsL l (rs.drop (i + 1)) else rowE l r := by
  rw [List.drop_eq_getElem_cons (List.getElem?_eq_some_iff.1 h).1, (List.getElem?_eq_some_iff.1 h).2]; rfl
/-- a row is right -/
def RowOk : List Col → List Int → Prop
  | [], [] => True
  | c :: l, v :: r => 0 ≤ v ∧ v < c.2 ∧ RowOk l r
  | _, _ => False
theorem rowE_ok {l : List Col} {r : List Int} : rowE l r = 0 ↔ RowOk l r := by
  induction l generalizing r with
  | nil => cases r <;> simp [rowE, rowL, RowOk]
  | cons c l ih =>
    cases r with
    | nil => simp [rowE, RowOk]
    | cons v r =>
      have := ih (r := r)
      simp only [rowE, rowL, RowOk, List.length_cons, Nat.add_right_cancel_iff] at *
      by_cases h1 : v < 0 ∨ c.2 ≤ v
      · simp [h1]; split <;> (simp; try omega)
      · simp only [h1, if_false]
        rw [this]
        constructor
        · intro h; exact ⟨by omega, by omega, h⟩
        · intro h; exact h.2.2
theorem RowOk.len {l : List Col} {r : List Int} (h : RowOk l r) : r.length = l.length := by
  induction l generalizing r with
  | nil => cases r <;> simp_all [RowOk]
  | cons c l ih => cases r with
    | nil => simp [RowOk] at h
    | cons v r => simp [ih h.2.2]
theorem rowsL_ok {l : List Col} {rs : List (List Int)} : rowsL l rs = 0 ↔ ∀ r ∈ rs, RowOk l r := by
  induction rs with
  | nil => simp [rowsL]
  | cons r rs ih =>
    simp only [rowsL]
    split
    · rename_i h; rw [ih]; simp [rowE_ok.1 h]
    · rename_i h
      constructor
      · intro h2; exact absurd h2 h
      · intro h2; exact absurd (rowE_ok.2 (h2 r (by simp))) h
theorem wroE_ok {l : List Col} {rs : List (List Int)} (h : wroE l rs = 0) : colE l = 0 ∧ rs.length ≤ 4096 ∧ ∀ r ∈ rs, RowOk l r := by
  unfold wroE at h
  split at h
  · split at h
    · cases h
    · exact ⟨by assumption, by omega, rowsL_ok.1 h⟩
  · rename_i h1; exact absurd h h1
theorem wroE_of {l : List Col} {rs : List (List Int)} (h1 : colE l = 0) (h2 : rs.length ≤ 4096) (h3 : ∀ r ∈ rs, RowOk l r) : wroE l rs = 0 := by
  unfold wroE
  rw [if_pos h1, if_neg (by omega)]
  exact rowsL_ok.2 h3
theorem rowE_codes (l : List Col) (r : List Int) : rowE l r = 0 ∨ rowE l r = 3 ∨ rowE l r = 8 := by
  have h : ∀ (l : List Col) (r : List Int), rowL l r = 0 ∨ rowL l r = 3 := by
    intro l
    induction l with
    | nil => intro r; cases r <;> simp [rowL]
    | cons c l ih =>
      intro r
      cases r with
      | nil => simp [rowL]
      | cons v r => simp only [rowL]; split; · simp
                    · exact ih r
  unfold rowE
  split
  · rcases h l r with h | h <;> simp [h]
  · simp

/-- where a row stands -/
def plc : List Col → List Int → Nat
  | _ :: l, v :: r => v.toNat * prd l + plc l r
  | _, _ => 0
theorem plc_lt {l : List Col} {r : List Int} (h : RowOk l r) : plc l r < prd l := by
  induction l generalizing r with
  | nil => cases r <;> simp_all [RowOk, plc, prd]
  | cons c l ih =>
    cases r with
    | nil => simp [RowOk] at h
    | cons v r =>
      have h1 := ih h.2.2
      simp only [plc, prd]
      have h2 : v.toNat + 1 ≤ c.2.toNat := by have := h.1; have := h.2.1; omega
      have h3 : (v.toNat + 1) * prd l ≤ c.2.toNat * prd l := Nat.mul_le_mul_right _ h2
      rw [Nat.add_mul] at h3
      omega
/-- .. column by column -/
def plcF (at' : Nat) : List Col → List Int → Nat
  | c :: l, v :: r => plcF (at' * c.2.toNat + v.toNat) l r
  | _, _ => at'
theorem plcF_eq {l : List Col} {r : List Int} (h : RowOk l r) (a : Nat) : plcF a l r = a * prd l + plc l r := by
  induction l generalizing r a with
  | nil => cases r <;> simp_all [RowOk, plcF, plc, prd]
  | cons c l ih =>
    cases r with
    | nil => simp [RowOk] at h
    | cons v r =>
      simp only [plcF, plc, prd]
      rw [ih h.2.2, Nat.add_mul, Nat.mul_assoc, Nat.add_assoc]

/-- the row that stands at a place -/
def cel : List Col → Nat → List Int
  | [], _ => []
  | c :: l, i => ((i / prd l % c.2.toNat : Nat) : Int) :: cel l i
theorem cel_len (l : List Col) (i : Nat) : (cel l i).length = l.length := by
  induction l with
  | nil => rfl
  | cons c l ih => simp [cel, ih]
theorem cel_ok {l : List Col} (h : Szs l) (i : Nat) : RowOk l (cel l i) := by
  induction l with
  | nil => trivial
  | cons c l ih =>
    have h1 := h c (by simp)
    refine ⟨Int.natCast_nonneg _, ?_, ih fun d hd => h d (by simp [hd])⟩
    have := Nat.mod_lt (i / prd l) (y := c.2.toNat) (by omega)
    omega
theorem cel_more {l : List Col} (h : Szs l) (q j : Nat) : cel l (q * prd l + j) = cel l j := by
  induction l generalizing q with
  | nil => rfl
  | cons c l ih =>
    have h2 : Szs l := fun d hd => h d (by simp [hd])
    have hp := prd_pos h2
    simp only [cel, prd]
    rw [← Nat.mul_assoc, ih h2, Nat.add_comm (q * c.2.toNat * prd l) j, Nat.add_mul_div_right _ _ (by omega : 0 < prd l)]
    rw [Nat.add_comm, Nat.mul_comm q, Nat.mul_add_mod]
theorem cel_plc {l : List Col} (hs : Szs l) {r : List Int} (h : RowOk l r) : cel l (plc l r) = r := by
  induction l generalizing r with
  | nil => cases r <;> simp_all [RowOk, cel]
  | cons c l ih =>
    cases r with
    | nil => simp [RowOk] at h
    | cons v r =>
      have h2 : Szs l := fun d hd => hs d (by simp [hd])
      have hp := prd_pos h2
      have hlt := plc_lt h.2.2
      simp only [cel, plc]
      rw [cel_more h2, ih h2 h.2.2, Nat.add_comm, Nat.add_mul_div_right _ _ (by omega : 0 < prd l), Nat.div_eq_of_lt hlt, Nat.zero_add, Nat.mod_eq_of_lt (by have := h.1; have := h.2.1; omega)]
      rw [Int.toNat_of_nonneg h.1]
theorem plc_cel {l : List Col} (hs : Szs l) (i : Nat) : plc l (cel l i) = i % prd l := by
  induction l with
  | nil => simp [plc, prd, Nat.mod_one]
  | cons c l ih =>
    have h2 : Szs l := fun d hd => hs d (by simp [hd])
    simp only [cel, plc, prd]
    rw [ih h2, Int.toNat_natCast]
    rw [Nat.mul_comm c.2.toNat, Nat.mod_mul, Nat.mul_comm (prd l), Nat.add_comm]
theorem cel_get {l : List Col} {i k : Nat} {c : Col} (h : l[k]? = some c) : (cel l i)[k]? = some ((i / prd (l.drop (k + 1)) % c.2.toNat : Nat) : Int) := by
  induction l generalizing k with
  | nil => simp at h
  | cons d l ih =>
    cases k with
    | zero => simp at h; subst h; simp [cel]
    | succ k => simp at h; simpa [cel] using ih h

/-- all rows that there may be, in order -/
def allT (l : List Col) : List (List Int) := (List.range (prd l)).map (cel l)
theorem allT_len (l : List Col) : (allT l).length = prd l := by simp [allT]
theorem allT_get {l : List Col} {i : Nat} (h : i < prd l) : (allT l)[i]? = some (cel l i) := by simp [allT, h]
/-- one column more -/
def allS (out : List (List Int)) (n : Nat) : List (List Int) := out.flatMap fun r => (List.range n).map fun v => r ++ [((v : Nat) : Int)]
def allF (out : List (List Int)) : List Col → List (List Int)
  | [] => out
  | c :: l => allF (allS out c.2.toNat) l
theorem fm_congr {α β : Type} {l : List α} {f g : α → List β} (h : ∀ x ∈ l, f x = g x) : l.flatMap f = l.flatMap g := by
  induction l with
  | nil => rfl
  | cons a l ih => rw [List.flatMap_cons, List.flatMap_cons, h a (by simp), ih fun x hx => h x (by simp [hx])]
theorem fm_len {α β : Type} {l : List α} {f : α → List β} {k : Nat} (h : ∀ x ∈ l, (f x).length = k) : (l.flatMap f).length = l.length * k := by
  induction l with
  | nil => simp
  | cons a l ih => rw [List.flatMap_cons, List.length_append, h a (by simp), ih fun x hx => h x (by simp [hx]), List.length_cons, Nat.add_mul]; omega
theorem range_mul (n k : Nat) : List.range (n * k) = (List.range n).flatMap fun q => (List.range k).map fun j => q * k + j := by
  induction n with
  | zero => simp
  | succ n ih => rw [Nat.add_mul, Nat.one_mul, List.range_add, ih, List.range_succ, List.flatMap_append]; simp
theorem allT_cons {c : Col} {l : List Col} (hs : Szs (c :: l)) : allT (c :: l) = (List.range c.2.toNat).flatMap fun v => (allT l).map fun r => ((v : Nat) : Int) :: r := by
  have h2 : Szs l := fun d hd => hs d (by simp [hd])
  have hp := prd_pos h2
  simp only [allT, prd]
  rw [range_mul, List.map_flatMap]
  refine fm_congr fun v hv => ?_
  simp only [List.map_map]
  refine List.map_congr_left fun j hj => ?_
  have hv := List.mem_range.1 hv
  have hj := List.mem_range.1 hj
  simp only [Function.comp, cel]
  rw [cel_more h2, Nat.add_comm (v * prd l), Nat.add_mul_div_right _ _ (by omega : 0 < prd l), Nat.div_eq_of_lt hj, Nat.zero_add, Nat.mod_eq_of_lt hv]
theorem allF_eq {l : List Col} (hs : Szs l) (out : List (List Int)) : allF out l = out.flatMap fun p => (allT l).map fun r => p ++ r := by
  induction l generalizing out with
  | nil => simp [allF, allT, prd, cel]
  | cons c l ih =>
    have h2 : Szs l := fun d hd => hs d (by simp [hd])
    simp only [allF]
    rw [ih h2, allT_cons hs, allS, List.flatMap_assoc]
    refine fm_congr fun p _ => ?_
    rw [List.flatMap_map, List.map_flatMap]
    refine fm_congr fun v _ => ?_
    simp [List.map_map, Function.comp]
theorem allF_nil {l : List Col} (hs : Szs l) : allF [[]] l = allT l := by rw [allF_eq hs]; simp
theorem allT_mem {l : List Col} (hs : Szs l) {r : List Int} (h : r ∈ allT l) : RowOk l r := by
  obtain ⟨i, _, rfl⟩ := List.mem_map.1 h
  exact cel_ok hs i
theorem allF_len {l : List Col} (out : List (List Int)) : (allF out l).length = out.length * prd l := by
  induction l generalizing out with
  | nil => simp [allF, prd]
  | cons c l ih =>
    simp only [allF, prd]
    rw [ih]
    have : (allS out c.2.toNat).length = out.length * c.2.toNat := by
      exact fm_len fun _ _ => by simp
    rw [this, Nat.mul_assoc]

/-- how many of each -/
def cntT (rs : List (List Int)) (r : List Int) : Int := ((rs.count r : Nat) : Int)
def celT (l : List Col) (rs : List (List Int)) : List Int := (allT l).map (cntT rs)
theorem celT_len (l : List Col) (rs : List (List Int)) : (celT l rs).length = prd l := by simp [celT, allT_len]
/-- .. counted by places -/
def cadd (xs : List Int) (k : Nat) : List Int := xs.set k (xs.getD k 0 + 1)
theorem celT_get {l : List Col} {rs : List (List Int)} {i : Nat} (h : i < prd l) : (celT l rs)[i]? = some (cntT rs (cel l i)) := by
  simp [celT, allT_get h]
theorem celT_nil (l : List Col) : celT l [] = List.replicate (prd l) 0 := by
  refine List.ext_getElem? fun i => ?_
  by_cases h : i < prd l
  · rw [celT_get h]; simp [cntT, h]
  · rw [List.getElem?_eq_none (by rw [celT_len]; omega), List.getElem?_eq_none (by simp; omega)]
theorem celT_snoc {l : List Col} (hs : Szs l) {rs : List (List Int)} {r : List Int} (h : RowOk l r) : celT l (rs ++ [r]) = cadd (celT l rs) (plc l r) := by
  refine List.ext_getElem? fun i => ?_
  have hlt := plc_lt h
  by_cases hi : i < prd l
  · rw [celT_get hi, cadd]
    by_cases e : plc l r = i
    · subst e
      rw [List.getElem?_set_self (by rw [celT_len]; omega), List.getD, celT_get hi, cel_plc hs h]
      simp [cntT, List.count_append]
    · rw [List.getElem?_set_ne e, celT_get hi]
      have : cel l i ≠ r := by
        rintro rfl
        rw [plc_cel hs, Nat.mod_eq_of_lt hi] at e
        exact e rfl
      simp [cntT, List.count_append, List.count_nil, Ne.symm this]
  · rw [List.getElem?_eq_none (by rw [celT_len]; omega), List.getElem?_eq_none (by simp [cadd, celT_len]; omega)]

/-- .. and back -/
def togE (a : Int) : List Int → Int
  | [] => 0
  | n :: r => if n < 0 then 3 else if 4096 - a < n then 4 else togE (a + n) r
def togS : List Int → Int
  | [] => 0
  | n :: r => n + togS r
def froR (rows : List (List Int)) (cells : List Int) : List (List Int) := (rows.zip cells).flatMap fun p => List.replicate p.2.toNat p.1
def froE (l : List Col) (cells : List Int) : Int := if colE l = 0 then (if cells.length = prd l then togE 0 cells else 8) else colE l
def froT (l : List Col) (cells : List Int) : List (List Int) := if froE l cells = 0 then froR (allT l) cells else []
def froC (l : List Col) (cells : List Int) : List Col := if froE l cells = 0 then l else []
theorem togE_step {cells : List Int} {i : Nat} {n a : Int} (h : cells[i]? = some n) : togE a (cells.drop i) = if n < 0 then 3 else if 4096 - a < n then 4 else togE (a + n) (cells.drop (i + 1)) := by
  rw [List.drop_eq_getElem_cons (List.getElem?_eq_some_iff.1 h).1, (List.getElem?_eq_some_iff.1 h).2]; rfl
theorem froR_step {rows : List (List Int)} {cells : List Int} {i : Nat} {r : List Int} {n : Int} (h : cells[i]? = some n) (hr : rows[i]? = some r) : froR (rows.take (i + 1)) (cells.take (i + 1)) = froR (rows.take i) (cells.take i) ++ List.replicate n.toNat r := by
  have h1 := (List.getElem?_eq_some_iff.1 h).1
  have h2 := (List.getElem?_eq_some_iff.1 hr).1
  unfold froR
  rw [List.take_add_one, List.take_add_one, h, hr, List.zip_append (by simp; omega)]
  simp
theorem togE_codes (a : Int) (l : List Int) : togE a l = 0 ∨ togE a l = 3 ∨ togE a l = 4 := by
  induction l generalizing a with
  | nil => simp [togE]
  | cons n r ih => simp only [togE]; split; · simp
                   · split; · simp
                     · exact ih _

/-- how far apart -/
def apaS : List Int → List Int → Int
  | x :: a, y :: b => max (x - y) (y - x) + apaS a b
  | _, _ => 0
def apaE (a b : List Col) (ra rb : List (List Int)) : Int := if wroE a ra = 0 then (if wroE b rb = 0 then (if a = b then 0 else 8) else wroE b rb) else wroE a ra
def apaT (a b : List Col) (ra rb : List (List Int)) : Int := if apaE a b ra rb = 0 then apaS (celT a ra) (celT b rb) else 0
theorem apaS_step {x y : List Int} {i : Nat} {a b : Int} (hx : x[i]? = some a) (hy : y[i]? = some b) : apaS (x.drop i) (y.drop i) = max (a - b) (b - a) + apaS (x.drop (i + 1)) (y.drop (i + 1)) := by
  rw [List.drop_eq_getElem_cons (List.getElem?_eq_some_iff.1 hx).1, List.drop_eq_getElem_cons (List.getElem?_eq_some_iff.1 hy).1, (List.getElem?_eq_some_iff.1 hx).2, (List.getElem?_eq_some_iff.1 hy).2]
  rfl
theorem cntT_bd (rs : List (List Int)) (r : List Int) : 0 ≤ cntT rs r ∧ cntT rs r ≤ rs.length := by
  refine ⟨by simp [cntT], ?_⟩
  have := List.count_le_length (a := r) (l := rs)
  simp only [cntT]; omega
theorem celT_bd {l : List Col} {rs : List (List Int)} {x : Int} (h : x ∈ celT l rs) : 0 ≤ x ∧ x ≤ rs.length := by
  obtain ⟨r, _, rfl⟩ := List.mem_map.1 h
  exact cntT_bd rs r

end Go.Proofs.YtlndlpjadajelaaGreat.K.Ds

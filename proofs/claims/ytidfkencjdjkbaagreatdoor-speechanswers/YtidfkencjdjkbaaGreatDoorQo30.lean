import Derived.Test.YtidfkencjdjkbaaGreatDoorRows
import Derived.WalkKit
import Derived.WalkSpells
import Derived.Deep.QuietTactic
import Derived.BigQuiet
import Derived.WalkSmall
import Derived.Laws.IdiomCopy
import Derived.Test.YtidfkencjdjkbaaGreatDoorQo04
namespace Go.Proofs.YtidfkencjdjkbaaGreatDoor.K.Ds

/-- the order of lists: -1, 0, 1 -/
def cmpT : List Int → List Int → Int
  | [], [] => 0
  | [], _ :: _ => -1
  | _ :: _, [] => 1
  | a :: x, b :: y => if a < b then -1 else if b < a then 1 else cmpT x y

end Go.Proofs.YtidfkencjdjkbaaGreatDoor.K.Ds

namespace Go.Proofs.YtidfkencjdjkbaaGreatDoor.K
open Go.RowKit Go.Proofs.YtidfkencjdjkbaaGreatDoor.K.Ds

/-- THE NUMBERS BEHIND A SLICE, in a block below B that is not nb. -/
def Ints (w : World) (B nb : Nat) (v : Value) (xs : List Int) : Prop :=
  ∃ a c, v = .slice a xs.length c ∧ xs.length ≤ c ∧ xs.length ≤ 9223372036854775807 ∧
    (xs ≠ [] → ∃ b o, a = some ⟨b, o, none⟩ ∧ b < B ∧ b ≠ nb ∧ ∀ i x, xs[i]? = some x → w.cell? ⟨b, o + i, none⟩ = some (.int .i64 x))

theorem Ints.keep {w w' : World} {B nb : Nat} {v : Value} {xs : List Int} (h : Ints w B nb v xs) (hb : Below B w w') : Ints w' B nb v xs := by
  obtain ⟨a, c, hv, hc, hl, hx⟩ := h
  refine ⟨a, c, hv, hc, hl, fun hne => ?_⟩
  obtain ⟨b, o, ha, hB, hn, hcell⟩ := hx hne
  exact ⟨b, o, ha, hB, hn, fun i x hi => (hb.cell (p := ⟨b, o + i, none⟩) hB).trans (hcell i x hi)⟩

theorem Ints.mono {w : World} {B B' nb nb' : Nat} {v : Value} {xs : List Int} (h : Ints w B nb v xs) (hB : B ≤ B') (hn : nb' = nb ∨ B ≤ nb') : Ints w B' nb' v xs := by
  obtain ⟨a, c, hv, hc, hl, hx⟩ := h
  refine ⟨a, c, hv, hc, hl, fun hne => ?_⟩
  obtain ⟨b, o, ha, hb, hnb, hcell⟩ := hx hne
  exact ⟨b, o, ha, by omega, by rcases hn with h | h <;> omega, hcell⟩

theorem get_lt {α : Type} {l : List α} {i : Nat} (h : i < l.length) : ∃ x, l[i]? = some x := ⟨l[i], List.getElem?_eq_getElem h⟩
theorem ne_of_lt {α : Type} {l : List α} {i : Nat} (h : i < l.length) : l ≠ [] := by rintro rfl; simp at h
theorem ret_b {a b : Bool} (h : a = b) : Ending.returned (.bool a) = .returned (.bool b) := by rw [h]

theorem dr2 (w : World) (a b c : Nat) : ∃ q, ((w.drewN a).drewN b).drewN c = w.drewN q := by simp only [World.drewN_drewN]; exact ⟨_, rfl⟩
/-! ### comparing -/

theorem cmpT_step {x y : List Int} {i : Nat} {a b : Int} (hx : x[i]? = some a) (hy : y[i]? = some b) :
    cmpT (x.drop i) (y.drop i) = if a < b then -1 else if b < a then 1 else cmpT (x.drop (i + 1)) (y.drop (i + 1)) := by
  rw [List.drop_eq_getElem_cons (List.getElem?_eq_some_iff.1 hx).1, List.drop_eq_getElem_cons (List.getElem?_eq_some_iff.1 hy).1, (List.getElem?_eq_some_iff.1 hx).2, (List.getElem?_eq_some_iff.1 hy).2]
  rfl

set_option maxHeartbeats 400000 in
theorem refCompare_any (B n1 n2 : Nat) (u v : Value) (x y : List Int) (w : World) (hx : Ints w B n1 u x) (hy : Ints w B n2 v y) (r : Int) (hr : cmpT x y = r) :
    Calls Tryz.prog 10 #[u, v] w fun e w' => e = .returned (.int .i64 r) ∧ ∃ q, w' = w.drewN q := by
  obtain ⟨ax, cx, rfl, hcx, hlx, hxx⟩ := hx
  obtain ⟨ay, cy, rfl, hcy, hly, hyy⟩ := hy
  have HX : Hid (x ≠ [] → ∃ b o, ax = some ⟨b, o, none⟩ ∧ b < B ∧ b ≠ n1 ∧ ∀ i z, x[i]? = some z → w.cell? ⟨b, o + i, none⟩ = some (.int .i64 z)) := hxx
  have HY : Hid (y ≠ [] → ∃ b o, ay = some ⟨b, o, none⟩ ∧ b < B ∧ b ≠ n2 ∧ ∀ i z, y[i]? = some z → w.cell? ⟨b, o + i, none⟩ = some (.int .i64 z)) := hyy
  have HR : Hid (cmpT x y = r) := hr
  clear hxx hyy hr
  go_enter Tryz.func10, Tryz.ntmps10
  go_wp2
  go_loopw [8] (fun s wr => ∃ i : Nat, s = .int .i64 (i : Int) ∧ i ≤ x.length ∧ i ≤ y.length ∧ cmpT (x.drop i) (y.drop i) = r ∧ ∃ q, wr = w.drewN q) (fun s _ => x.length - (intOf s).toNat)
  case atStart => exact ⟨0, rfl, Nat.zero_le _, Nat.zero_le _, HR.out, 0, rfl⟩
  case round =>
    obtain ⟨i, rfl, hix, hiy, hc, q, rfl⟩ := hrel
    have HC : Hid (cmpT (x.drop i) (y.drop i) = r) := hc
    clear hc
    by_cases h1 : i < x.length
    · obtain ⟨bx, ox, rfl, hbx, hnx, hcx⟩ := HX.out (ne_of_lt h1)
      obtain ⟨zx, hzx⟩ := get_lt h1
      have cx1 := hcx i zx hzx
      by_cases h2 : i < y.length
      · obtain ⟨by', oy, rfl, hby, hny, hcy⟩ := HY.out (ne_of_lt h2)
        obtain ⟨zy, hzy⟩ := get_lt h2
        have cy1 := hcy i zy hzy
        have st := cmpT_step hzx hzy
        have ST : Hid (cmpT (x.drop i) (y.drop i) = if zx < zy then -1 else if zy < zx then 1 else cmpT (x.drop (i + 1)) (y.drop (i + 1))) := st
        clear st hcx hcy HX HY hzx hzy
        by_cases c1 : zx = zy
        · subst c1
          go_wp2
          go_quiet (fail)
          go_wp2
          go_roundw
          case rel => exact ⟨i + 1, by go_num, h1, h2, by rw [← HC.out, ST.out]; simp, _, rfl⟩
          case measure => simp [intOf]; omega
        · by_cases c2 : zx < zy
          · have hr1 : r = -1 := by rw [← HC.out, ST.out]; simp [c2]
            subst hr1
            go_wp2
            go_quiet (fail)
            go_wp2
            go_quiet (fail)
            go_wp2
            go_ret
            exact ⟨rfl, dr2 _ _ _ _⟩
          · have hr1 : r = 1 := by rw [← HC.out, ST.out]; simp [c2, show zy < zx by omega]
            subst hr1
            go_wp2
            go_quiet (fail)
            go_wp2
            go_quiet (fail)
            go_wp2
            go_ret
            exact ⟨rfl, dr2 _ _ _ _⟩
      · have hr1 : r = 1 := by
          rw [← HC.out, List.drop_eq_getElem_cons h1, List.drop_eq_nil_of_le (show y.length ≤ i by omega)]; rfl
        subst hr1
        clear hcx HX HY
        go_wp2
        go_ret
        exact ⟨rfl, _, rfl⟩
    · by_cases h2 : i < y.length
      · have hr1 : r = -1 := by
          rw [← HC.out, List.drop_eq_nil_of_le (show x.length ≤ i by omega), List.drop_eq_getElem_cons h2]; rfl
        subst hr1
        have h3 : x.length < y.length := by omega
        clear HX HY
        go_wp2
        go_ret
        exact ⟨rfl, _, rfl⟩
      · have hr1 : r = 0 := by
          rw [← HC.out, List.drop_eq_nil_of_le (show x.length ≤ i by omega), List.drop_eq_nil_of_le (show y.length ≤ i by omega)]; rfl
        subst hr1
        have h3 : ¬ x.length < y.length := by omega
        clear HX HY
        go_wp2
        go_ret
        exact ⟨rfl, _, rfl⟩
end Go.Proofs.YtidfkencjdjkbaaGreatDoor.K

namespace Go.Proofs.YtidfkencjdjkbaaGreatDoor.K.Ds

/-- a column: its name, its Size -/
abbrev Col := ByteArray × Int

def letB (b : UInt8) : Bool := (decide (97 ≤ b.toNat) && decide (b.toNat ≤ 122)) || decide (b.toNat = 95)
def namB (s : List UInt8) : Bool := decide (1 ≤ s.length) && decide (s.length ≤ 32) && s.all letB
/-- column by column -/
def colL : List Col → List Col → Int
  | _, [] => 0
  | pre, c :: r => if namB c.1.data.toList then (if pre.any (fun d => decide (d.1 = c.1)) then 7 else if c.2 < 1 ∨ 4096 < c.2 then 3 else colL (pre ++ [c]) r) else 2
/-- as many cells as there are -/
def prd : List Col → Nat
  | [] => 1
  | c :: r => c.2.toNat * prd r
def colE (l : List Col) : Int := if l.length < 1 ∨ 6 < l.length then 5 else if colL [] l = 0 then (if 4096 < prd l then 4 else 0) else colL [] l

/-- Sizes are right -/
def Szs (l : List Col) : Prop := ∀ c ∈ l, 1 ≤ c.2 ∧ c.2 ≤ 4096
theorem colL_szs {pre l : List Col} (h : colL pre l = 0) : Szs l := by
  induction l generalizing pre with
  | nil => intro c hc; cases hc
  | cons c r ih =>
    simp only [colL] at h
    split at h
    · split at h
      · cases h
      · split at h
        · cases h
        · intro d hd
          rcases List.mem_cons.1 hd with rfl | hd
          · omega
          · exact ih h d hd
    · cases h
theorem prd_app (l m : List Col) : prd (l ++ m) = prd l * prd m := by
  induction l with
  | nil => simp [prd]
  | cons c r ih => simp [prd, ih, Nat.mul_assoc]
theorem colE_ok {l : List Col} (h : colE l = 0) : 1 ≤ l.length ∧ l.length ≤ 6 ∧ Szs l ∧ prd l ≤ 4096 ∧ colL [] l = 0 := by
  unfold colE at h
  split at h
  · cases h
  · split at h
    · rename_i h1 h2
      split at h
      · cases h
      · exact ⟨by omega, by omega, colL_szs h2, by omega, h2⟩
    · rename_i h1 h2; exact absurd h h2
theorem prd_next {l : List Col} {i : Nat} {c : Col} (h : l[i]? = some c) : prd (l.take (i + 1)) = prd (l.take i) * c.2.toNat := by
  rw [List.take_add_one, h, prd_app]; simp [prd]
theorem colL_step {l : List Col} {i : Nat} {c : Col} (h : l[i]? = some c) : colL (l.take i) (l.drop i) = if namB c.1.data.toList then (if (l.take i).any (fun d => decide (d.1 = c.1)) then 7 else if c.2 < 1 ∨ 4096 < c.2 then 3 else colL (l.take (i + 1)) (l.drop (i + 1))) else 2 := by
  have hi := (List.getElem?_eq_some_iff.1 h).1
  rw [List.drop_eq_getElem_cons hi, (List.getElem?_eq_some_iff.1 h).2]
  simp only [colL]
  rw [List.take_add_one, h]; rfl

/-- rows -/
def rowL : List Col → List Int → Int
  | c :: l, v :: r => if v < 0 ∨ c.2 ≤ v then 3 else rowL l r
  | _, _ => 0
def rowE (l : List Col) (r : List Int) : Int := if l.length = r.length then rowL l r else 8
def rowsL (l : List Col) : List (List Int) → Int
  | [] => 0
  | r :: rs => if rowE l r = 0 then rowsL l rs else rowE l r
def wroE (l : List Col) (rs : List (List Int)) : Int := if colE l = 0 then (if 4096 < rs.length then 4 else rowsL l rs) else colE l
theorem rowL_step {l : List Col} {r : List Int} {i : Nat} {c : Col} {v : Int} (hc : l[i]? = some c) (hv : r[i]? = some v) : rowL (l.drop i) (r.drop i) = if v < 0 ∨ c.2 ≤ v then 3 else rowL (l.drop (i + 1)) (r.drop (i + 1)) := by
  rw [List.drop_eq_getElem_cons (List.getElem?_eq_some_iff.1 hc).1, (List.getElem?_eq_some_iff.1 hc).2, List.drop_eq_getElem_cons (List.getElem?_eq_some_iff.1 hv).1, (List.getElem?_eq_some_iff.1 hv).2]
  rfl
theorem rowsL_step {l : List Col} {rs : List (List Int)} {i : Nat} {r : List Int} (h : rs[i]? = some r) : rowsL l (rs.drop i) = if rowE l r = 0 then rowsL l (rs.drop (i + 1)) else rowE l r := by
  rw [List.drop_eq_getElem_cons (List.getElem?_eq_some_iff.1 h).1, (List.getElem?_eq_some_iff.1 h).2]; rfl
/-- a row is right -/
def RowOk : List Col → List Int → Prop
  | [], [] => True
  | c :: l, v :: r => 0 ≤ v ∧ v < c.2 ∧ RowOk l r
  | _, _ => False
theorem rowE_ok {l : List Col} {r : List Int} : rowE l r = 0 ↔ RowOk l r := by
  induction l generalizing r with
  | nil => cases r <;> simp [rowE, rowL, RowOk]
  | cons c l ih =>
    cases r with
    | nil => simp [rowE, RowOk]
    | cons v r =>
      have := ih (r := r)
      simp only [rowE, rowL, RowOk, List.length_cons, Nat.add_right_cancel_iff] at *
      by_cases h1 : v < 0 ∨ c.2 ≤ v
      · simp [h1]; split <;> (simp; try omega)
      · simp only [h1, if_false]
        rw [this]
        constructor
        · intro h; exact ⟨by omega, by omega, h⟩
        · intro h; exact h.2.2
theorem RowOk.len {l : List Col} {r : List Int} (h : RowOk l r) : r.length = l.length := by
  induction l generalizing r with
  | nil => cases r <;> simp_all [RowOk]
  | cons c l ih => cases r with
    | nil => simp [RowOk] at h
    | cons v r => simp [ih h.2.2]
theorem rowsL_ok {l : List Col} {rs : List (List Int)} : rowsL l rs = 0 ↔ ∀ r ∈ rs, RowOk l r := by
  induction rs with
  | nil => simp [rowsL]
  | cons r rs ih =>
    simp only [rowsL]
    split
    · rename_i h; rw [ih]; simp [rowE_ok.1 h]
    · rename_i h
      constructor
      · intro h2; exact absurd h2 h
      · intro h2; exact absurd (rowE_ok.2 (h2 r (by simp))) h
theorem wroE_ok {l : List Col} {rs : List (List Int)} (h : wroE l rs = 0) : colE l = 0 ∧ rs.length ≤ 4096 ∧ ∀ r ∈ rs, RowOk l r := by
  unfold wroE at h
  split at h
  · split at h
    · cases h
    · exact ⟨by assumption, by omega, rowsL_ok.1 h⟩
  · rename_i h1; exact absurd h h1
end Go.Proofs.YtidfkencjdjkbaaGreatDoor.K.Ds

namespace Go.Proofs.YtidfkencjdjkbaaGreatDoor.K
open Go.RowKit Go.Proofs.YtidfkencjdjkbaaGreatDoor.K.Ds

theorem ba (w : World) (o : Obj) : Below w.heap.size w (w.alloc o) := (Below.refl _ _).alloc (Nat.le_refl _) o
theorem bt {w w1 w2 : World} (h : Below w.heap.size w w1) (k : Below w1.heap.size w1 w2) : Below w.heap.size w w2 := h.trans (k.mono h.size)
theorem bal {w w1 : World} (h : Below w.heap.size w w1) (o : Obj) : Below w.heap.size w (w1.alloc o) := h.alloc h.size o
theorem bs {w w1 : World} (h : Below w.heap.size w w1) {p : Addr} (hp : w.heap.size ≤ p.block) (u : Value) : Below w.heap.size w (w1.setCell p u) := h.setCell hp u
theorem Ints.at {w w' : World} {B nb : Nat} {v : Value} {xs : List Int} (h : Ints w B nb v xs) (hB : B ≤ w.heap.size) (hb : Below w.heap.size w w') : Ints w' B nb v xs := h.keep (hb.mono hB)
theorem sc_other {w : World} {a b : Addr} {v : Value} (h : a ≠ b) : (w.setCell a v).cell? b = w.cell? b := World.cell?_setCell_other _ _ _ _ h
theorem sc_same {w : World} {a : Addr} {u v : Value} (h : w.cell? a = some u) : (w.setCell a v).cell? a = some v := World.cell?_setCell_same _ _ _ h
theorem sc_frozen {w : World} {a b : Addr} {v : Value} : (w.setCell a v).frozen? b = w.frozen? b := World.frozen?_setCell _ _ _ _

/-- COLUMNS BEHIND A SLICE, in a block below B. -/
def Cols (w : World) (B : Nat) (v : Value) (l : List Col) : Prop :=
  ∃ a c, v = .slice a l.length c ∧ l.length ≤ c ∧ l.length ≤ 9223372036854775807 ∧ (∀ x ∈ l, x.1.size ≤ 9223372036854775807) ∧
    (l ≠ [] → ∃ b o, a = some ⟨b, o, none⟩ ∧ b < B ∧ ∀ i x, l[i]? = some x → w.cell? ⟨b, o + i * 2, none⟩ = some (.string x.1) ∧ w.cell? ⟨b, o + i * 2 + 1, none⟩ = some (.int .i64 x.2))

theorem Cols.keep {w w' : World} {B : Nat} {v : Value} {l : List Col} (h : Cols w B v l) (hb : Below B w w') : Cols w' B v l := by
  obtain ⟨a, c, hv, hc, hl, hn, hx⟩ := h
  refine ⟨a, c, hv, hc, hl, hn, fun hne => ?_⟩
  obtain ⟨b, o, ha, hB, hcell⟩ := hx hne
  exact ⟨b, o, ha, hB, fun i x hi => ⟨(hb.cell (p := ⟨b, o + i * 2, none⟩) hB).trans (hcell i x hi).1, (hb.cell (p := ⟨b, o + i * 2 + 1, none⟩) hB).trans (hcell i x hi).2⟩⟩
theorem Cols.mono {w : World} {B B' : Nat} {v : Value} {l : List Col} (h : Cols w B v l) (hB : B ≤ B') : Cols w B' v l := by
  obtain ⟨a, c, hv, hc, hl, hn, hx⟩ := h
  refine ⟨a, c, hv, hc, hl, hn, fun hne => ?_⟩
  obtain ⟨b, o, ha, hb, hcell⟩ := hx hne
  exact ⟨b, o, ha, by omega, hcell⟩
theorem Cols.at {w w' : World} {B : Nat} {v : Value} {l : List Col} (h : Cols w B v l) (hB : B ≤ w.heap.size) (hb : Below w.heap.size w w') : Cols w' B v l := h.keep (hb.mono hB)
theorem Cols.slice {w : World} {B : Nat} {v : Value} {l : List Col} (h : Cols w B v l) : ∃ a c, v = .slice a l.length c ∧ l.length ≤ c ∧ l.length ≤ 9223372036854775807 := by
  obtain ⟨a, c, hv, hc, hl, _⟩ := h
  exact ⟨a, c, hv, hc, hl⟩
theorem Cols.get {w wr : World} {B : Nat} {a : Option Addr} {n c : Nat} {l : List Col} (h : Cols w B (.slice a n c) l) (hB : B ≤ w.heap.size) (hb : Below w.heap.size w wr) {i : Nat} (hi : i < l.length) :
    ∃ b o nm sz, a = some ⟨b, o, none⟩ ∧ b < B ∧ l[i]? = some (nm, sz) ∧ wr.cell? ⟨b, o + i * 2, none⟩ = some (.string nm) ∧ wr.cell? ⟨b, o + i * 2 + 1, none⟩ = some (.int .i64 sz) ∧ nm.size ≤ 9223372036854775807 := by
  obtain ⟨a', c', hv, _, _, hn, hx⟩ := h.at hB hb
  simp only [Value.slice.injEq] at hv
  obtain ⟨rfl, rfl, rfl⟩ := hv
  obtain ⟨b, o, rfl, hbB, hcell⟩ := hx (ne_of_lt hi)
  obtain ⟨⟨nm, sz⟩, hx⟩ := get_lt hi
  exact ⟨b, o, nm, sz, rfl, hbB, hx, (hcell i _ hx).1, (hcell i _ hx).2, hn _ (List.mem_of_getElem? hx)⟩

theorem wrap_id {a : Int} (h : -9223372036854775808 ≤ a ∧ a ≤ 9223372036854775807) : wrap64 a = a := by
  unfold wrap64; omega
theorem str_eq (x y : ByteArray) : (x.toList == y.toList) = decide (x = y) := by
  rw [Bool.eq_iff_iff, ByteArray.toList_eq, ByteArray.toList_eq]
  simp only [beq_iff_eq, decide_eq_true_eq]
  constructor
  · intro h; exact ByteArray.ext (Array.ext' h)
  · rintro rfl; rfl
theorem min_step (p z : Nat) (hz : 1 ≤ z) : min (p * z) 4097 = min (min p 4097 * z) 4097 := by
  rcases Nat.le_total p 4097 with h | h
  · rw [Nat.min_eq_left h]
  · have h1 : 4097 * 1 ≤ 4097 * z := Nat.mul_le_mul_left _ hz
    have h2 : 4097 * z ≤ p * z := Nat.mul_le_mul_right _ h
    rw [Nat.min_eq_right h]
    omega
set_option maxHeartbeats 400000 in
/-- as many cells as there are, at most one more than MaxCells -/
theorem size_any (B : Nat) (v : Value) (l : List Col) (w : World) (hB : B ≤ w.heap.size) (hp : Cols w B v l) (hs : Szs l) (n : Nat) (hr : min (prd l) 4097 = n) :
    Calls Tryz.prog 89 #[v] w fun e w' => e = .returned (.int .i64 (n : Int)) ∧ Below w.heap.size w w' := by
  have HP : Hid (Cols w B v l) := hp
  have HS : Hid (Szs l) := hs
  have HR : Hid (min (prd l) 4097 = n) := hr
  obtain ⟨a, c, rfl, hc, hl⟩ := hp.slice
  clear hr hs
  go_enter Tryz.func89, Tryz.ntmps89
  go_wp2
  go_loopw [3, 8] (fun nv s wr => ∃ (i k : Nat), nv = .int .i64 (k : Int) ∧ s = .int .i64 (i : Int) ∧ i ≤ l.length ∧ k ≤ 4097 ∧ Hid (min (prd (l.take i)) 4097 = k) ∧ Below w.heap.size w wr) (fun _ s _ => l.length - (intOf s).toNat)
  case atStart => exact ⟨0, 1, rfl, rfl, Nat.zero_le _, by omega, by simp [Hid, prd], Below.refl _ _⟩
  case round =>
    obtain ⟨i, k, rfl, rfl, hi, hk, HI, hbl⟩ := hrel
    by_cases h1 : i < l.length
    · obtain ⟨b, o, nm, sz, rfl, hb, hg, c1, c2, hn⟩ := HP.out.get hB hbl h1
      have hsz := HS.out _ (List.mem_of_getElem? hg)
      simp only at hsz
      have HG : Hid (l[i]? = some (nm, sz)) := hg
      clear hg
      have hm : 0 ≤ (k : Int) * sz ∧ (k : Int) * sz ≤ 4097 * 4096 := ⟨Int.mul_nonneg (by omega) (by omega), Int.mul_le_mul (by omega) (by omega) (by omega) (by omega)⟩
      have hw : wrap64 ((k : Int) * sz) = (k : Int) * sz := wrap_id (by omega)
      have HM : Hid (min (prd (l.take (i + 1))) 4097 = min (k * sz.toNat) 4097) := by
        show _ = _
        rw [prd_next HG.out, ← HI.out]
        exact min_step _ _ (by omega)
      have HK : Hid ((if 4097 < (k : Int) * sz then (4097 : Int) else (k : Int) * sz) = ((min (k * sz.toNat) 4097 : Nat) : Int)) := by
        have e : ((k * sz.toNat : Nat) : Int) = (k : Int) * sz := by rw [Int.natCast_mul, Int.toNat_of_nonneg (by omega)]
        show _ = _
        split <;> omega
      clear hm
      go_wp2
      go_roundw
      case rel => exact ⟨i + 1, min (k * sz.toNat) 4097, congrArg _ HK.out, by go_num, h1, by omega, HM, bal hbl _⟩
      case measure => simp [intOf]; omega
    · have HN : Hid (k = n) := by have := HI.out; rw [List.take_of_length_le (by omega)] at this; exact this.symm.trans HR.out
      go_wp2
      go_ret
      exact ⟨by rw [← HN.out]; rfl, hbl⟩

theorem any_step {l : List Col} {i : Nat} {nm nm0 : ByteArray} {sz : Int} (h : l[i]? = some (nm, sz)) : (l.take (i + 1)).any (fun d => decide (d.1 = nm0)) = ((l.take i).any (fun d => decide (d.1 = nm0)) || decide (nm = nm0)) := by
  rw [List.take_add_one, h, List.any_append]; simp
theorem any_hit {l : List Col} {i : Nat} {nm nm0 : ByteArray} {sz : Int} (h : l[i]? = some (nm, sz)) (h2 : decide (nm = nm0) = true) : l.any (fun d => decide (d.1 = nm0)) = true :=
  List.any_eq_true.2 ⟨_, List.mem_of_getElem? h, h2⟩
theorem ahead_any (g : Nat) (n1 n2 : ByteArray) (s1 : Int) (w : World) (hg : g < w.heap.size) (hc : w.cell? ⟨g, 0, none⟩ = some (.string n2)) (r : Bool) (hr : decide (n1 = n2) = r) :
    Calls Tryz.prog 88 #[.agg #[.string n1, .int .i64 s1], .pointer (some ⟨g, 0, none⟩)] w fun e w' => e = .returned (.bool r) ∧ Below w.heap.size w w' := by
  have hq : (n1.toList == n2.toList) = r := (str_eq _ _).trans hr
  clear hr
  go_enter Tryz.func88, Tryz.ntmps88
  go_wp2
  go_ret
  exact ⟨rfl, ba _ _⟩

set_option maxHeartbeats 400000 in
theorem index_any (B g : Nat) (v : Value) (l : List Col) (nm0 : ByteArray) (w : World) (hB : B ≤ w.heap.size) (hp : Cols w B v l) (hg : g < w.heap.size) (hc0 : w.cell? ⟨g, 0, none⟩ = some (.string nm0)) (r : Bool) (hr : l.any (fun d => decide (d.1 = nm0)) = r) :
    Calls Tryz.prog 92 #[v, .func (.func 88) #[] #[.pointer (some ⟨g, 0, none⟩)]] w fun e w' => ∃ k : Int, e = .returned (.int .i64 k) ∧ decide (0 ≤ k) = r ∧ Below w.heap.size w w' := by
  have HP : Hid (Cols w B v l) := hp
  have HR : Hid (l.any (fun d => decide (d.1 = nm0)) = r) := hr
  have HC0 : Hid (w.cell? ⟨g, 0, none⟩ = some (.string nm0)) := hc0
  obtain ⟨a, c, rfl, hc, hl⟩ := hp.slice
  clear hr hc0
  go_enter Tryz.func92, Tryz.ntmps92
  go_wp2
  go_loopw [8] (fun s wr => ∃ (i : Nat), s = .int .i64 (i : Int) ∧ i ≤ l.length ∧ Hid ((l.take i).any (fun d => decide (d.1 = nm0)) = false) ∧ Below w.heap.size w wr) (fun s _ => l.length - (intOf s).toNat)
  case atStart => exact ⟨0, rfl, Nat.zero_le _, by simp [Hid], Below.refl _ _⟩
  case round =>
    obtain ⟨i, rfl, hi, HI, hbl⟩ := hrel
    by_cases h1 : i < l.length
    · obtain ⟨b, o, nm, sz, rfl, hb, hgt, c1, c2, hn⟩ := HP.out.get hB hbl h1
      have HG : Hid (l[i]? = some (nm, sz)) := hgt
      clear hgt
      have hgr : g < wr.heap.size := Nat.lt_of_lt_of_le hg hbl.size
      have HCR : Hid (wr.cell? ⟨g, 0, none⟩ = some (.string nm0)) := (hbl.cell (p := ⟨g, 0, none⟩) hg).trans HC0.out
      cases he : decide (nm = nm0) with
      | true =>
        have HE : Hid (decide (nm = nm0) = true) := he
        clear he
        obtain rfl : true = r := by rw [← HR.out]; exact (any_hit HG.out HE.out).symm
        go_wp2_with fail
        refine (ahead_any g nm nm0 sz _ hgr HCR.out true HE.out).mono ?_
        rintro e w1 ⟨rfl, hb1⟩
        go_wp2
        go_ret
        exact ⟨i, rfl, by simp, bt hbl hb1⟩
      | false =>
        have HE : Hid (decide (nm = nm0) = false) := he
        clear he
        go_wp2_with fail
        refine (ahead_any g nm nm0 sz _ hgr HCR.out false HE.out).mono ?_
        rintro e w1 ⟨rfl, hb1⟩
        go_wp2
        go_roundw
        case rel => exact ⟨i + 1, by go_num, h1, by show _ = _; rw [any_step HG.out, HI.out, HE.out]; rfl, bt hbl hb1⟩
        case measure => simp [intOf]; omega
    · obtain rfl : false = r := by rw [← HR.out]; have := HI.out; rw [List.take_of_length_le (by omega)] at this; exact this.symm
      go_wp2
      go_ret
      exact ⟨-1, rfl, by simp, hbl⟩

theorem contains_any (B g : Nat) (v : Value) (l : List Col) (nm0 : ByteArray) (w : World) (hB : B ≤ w.heap.size) (hp : Cols w B v l) (hg : g < w.heap.size) (hc0 : w.cell? ⟨g, 0, none⟩ = some (.string nm0)) (r : Bool) (hr : l.any (fun d => decide (d.1 = nm0)) = r) :
    Calls Tryz.prog 87 #[v, .func (.func 88) #[] #[.pointer (some ⟨g, 0, none⟩)]] w fun e w' => e = .returned (.bool r) ∧ Below w.heap.size w w' := by
  have HP : Hid (Cols w B v l) := hp
  have HR : Hid (l.any (fun d => decide (d.1 = nm0)) = r) := hr
  have HC0 : Hid (w.cell? ⟨g, 0, none⟩ = some (.string nm0)) := hc0
  obtain ⟨a, c, rfl, hc, hl⟩ := hp.slice
  clear hr hc0
  go_enter Tryz.func87, Tryz.ntmps87
  go_wp2_with fail
  refine (index_any B g _ l nm0 w hB HP.out hg HC0.out r HR.out).mono ?_
  rintro e w1 ⟨k, rfl, hk, hb1⟩
  go_wp2
  go_ret
  refine ⟨ret_b ?_, hb1⟩
  first | rfl | exact hk | simp

theorem Cols.take {w : World} {B : Nat} {a : Option Addr} {n c : Nat} {l : List Col} (h : Cols w B (.slice a n c) l) (u : Nat) (hu : u ≤ l.length) : Cols w B (.slice a u c) (l.take u) := by
  obtain ⟨a', c', hv, hc, hl, hn, hx⟩ := h
  simp only [Value.slice.injEq] at hv
  obtain ⟨rfl, rfl, rfl⟩ := hv
  have e : (l.take u).length = u := by rw [List.length_take]; omega
  refine ⟨a, c, by rw [e], by rw [e]; omega, by rw [e]; omega, fun x hx => hn x (List.mem_of_mem_take hx), fun hne => ?_⟩
  obtain ⟨b, o, ha, hb, hcell⟩ := hx (by rintro rfl; simp at hne)
  refine ⟨b, o, ha, hb, fun i x hi => hcell i x ?_⟩
  rw [List.getElem?_take] at hi
  split at hi
  · exact hi
  · cases hi
end Go.Proofs.YtidfkencjdjkbaaGreatDoor.K

namespace Go.Proofs.YtidfkencjdjkbaaGreatDoor.K
open Go.RowKit Go.Proofs.YtidfkencjdjkbaaGreatDoor.K.Ds

theorem named_any (s : ByteArray) (hs : s.size ≤ 9223372036854775807) (w : World) (r : Bool) (hr : namB s.data.toList = r) : Calls Tryz.prog 69 #[.string s] w fun e w' => e = .returned (.bool r) ∧ w' = w := name_any s hs w r hr
end Go.Proofs.YtidfkencjdjkbaaGreatDoor.K

namespace Go.Proofs.YtidfkencjdjkbaaGreatDoor.K
open Go.RowKit Go.Proofs.YtidfkencjdjkbaaGreatDoor.K.Ds

theorem nc {w : World} {N : Nat} (cs : Array Value) (t : TypeId) (k : Nat) (x : Value) (hN : N = w.heap.size) (hx : cs[k]? = some x) : (w.alloc (.cells cs t)).cell? ⟨N, k, none⟩ = some x := by
  rw [World.cell?_alloc_at _ _ _ _ hN]; exact hx
theorem nf {w : World} {N : Nat} (cs : Array Value) (t : TypeId) (k : Nat) (hN : N = w.heap.size) : (w.alloc (.cells cs t)).frozen? ⟨N, k, none⟩ = false := World.frozen?_alloc_at _ _ _ _ hN

set_option maxHeartbeats 1000000 in
theorem columns_any (B : Nat) (v : Value) (l : List Col) (w : World) (hB : B ≤ w.heap.size) (hp : Cols w B v l) (er : Int) (hr : colE l = er) :
    Calls Tryz.prog 52 #[v] w fun e w' => e = .returned (.int .i64 er) ∧ Below w.heap.size w w' := by
  have HP : Hid (Cols w B v l) := hp
  have HR : Hid (colE l = er) := hr
  obtain ⟨a, c, rfl, hc, hl⟩ := hp.slice
  clear hr
  go_enter Tryz.func52, Tryz.ntmps52
  by_cases h0 : l.length = 0
  · have hq : ((l.length : Int) == 0) = true := by simp [h0]
    obtain rfl : 5 = er := by rw [← HR.out, colE, if_pos (by omega)]
    go_wp2
    go_ret
    exact ⟨rfl, Below.refl _ _⟩
  have hq : ((l.length : Int) == 0) = false := by rw [beq_eq_false_iff_ne]; omega
  have HQ0 : Hid (l.length ≠ 0) := h0
  clear h0
  by_cases h6 : 6 < l.length
  · obtain rfl : 5 = er := by rw [← HR.out, colE, if_pos (by omega)]
    go_wp2
    go_ret
    exact ⟨rfl, Below.refl _ _⟩
  have HE : Hid (colE l = if colL [] l = 0 then (if 4096 < prd l then 4 else 0) else colL [] l) := by show _ = _; rw [colE, if_neg (by have := HQ0.out; omega)]
  go_wp2
  go_loopw [15] (fun s wr => ∃ (i : Nat), s = .int .i64 (i : Int) ∧ i ≤ l.length ∧ Hid (colL (l.take i) (l.drop i) = colL [] l) ∧ Below w.heap.size w wr) (fun s _ => l.length - (intOf s).toNat)
  case atStart => exact ⟨0, rfl, Nat.zero_le _, by simp [Hid], Below.refl _ _⟩
  case round =>
    obtain ⟨i, rfl, hi, HI, hbl⟩ := hrel
    by_cases h1 : i < l.length
    · obtain ⟨b, o, nm, sz, rfl, hb, hgt, c1, c2, hn⟩ := HP.out.get hB hbl h1
      have ST : Hid (colL [] l = if namB nm.data.toList then (if (l.take i).any (fun d => decide (d.1 = nm)) then 7 else if sz < 1 ∨ 4096 < sz then 3 else colL (l.take (i + 1)) (l.drop (i + 1))) else 2) := HI.out.symm.trans (colL_step hgt)
      clear hgt HI
      have hsz := hbl.size
      cases hnm : namB nm.data.toList with
      | false =>
        have HN : Hid (namB nm.data.toList = false) := hnm
        clear hnm
        obtain rfl : 2 = er := by rw [← HR.out, HE.out, ST.out, HN.out]; simp
        go_wp2_with fail
        refine (named_any nm hn _ false HN.out).mono ?_
        rintro e w1 ⟨rfl, rfl⟩
        go_wp2
        go_ret
        exact ⟨rfl, bal hbl _⟩
      | true =>
        have HN : Hid (namB nm.data.toList = true) := hnm
        clear hnm
        cases han : (l.take i).any (fun d => decide (d.1 = nm)) with
        | true =>
          have HA : Hid ((l.take i).any (fun d => decide (d.1 = nm)) = true) := han
          clear han
          obtain rfl : 7 = er := by rw [← HR.out, HE.out, ST.out, HN.out, HA.out]; simp
          have kc := contains_any B wr.heap.size (.slice (some ⟨b, o, none⟩) i c) (l.take i) nm (wr.alloc (.cells #[.string nm, .int .i64 sz] 109)) (by simp; omega) (((HP.out.take i hi).at hB hbl).at (by omega) (ba _ _)) (by simp) (nc _ _ 0 _ rfl rfl) true HA.out
          go_wp2_with fail
          refine (named_any nm hn _ true HN.out).mono ?_
          rintro e w1 ⟨rfl, rfl⟩
          go_wp2_with fail
          refine kc.mono ?_
          rintro e w1 ⟨rfl, hb1⟩
          have hb2 : Below w.heap.size w w1 := bt (bal hbl _) hb1
          clear hb1 kc
          go_wp2
          go_ret
          exact ⟨rfl, hb2⟩
        | false =>
          have HA : Hid ((l.take i).any (fun d => decide (d.1 = nm)) = false) := han
          clear han
          have kc := contains_any B wr.heap.size (.slice (some ⟨b, o, none⟩) i c) (l.take i) nm (wr.alloc (.cells #[.string nm, .int .i64 sz] 109)) (by simp; omega) (((HP.out.take i hi).at hB hbl).at (by omega) (ba _ _)) (by simp) (nc _ _ 0 _ rfl rfl) false HA.out
          have hcell : (wr.alloc (.cells #[.string nm, .int .i64 sz] 109)).cell? ⟨wr.heap.size, 1, none⟩ = some (.int .i64 sz) := nc _ _ 1 _ rfl rfl
          by_cases hz : sz < 1 ∨ 4096 < sz
          · obtain rfl : 3 = er := by rw [← HR.out, HE.out, ST.out, HN.out, HA.out]; simp [hz]
            go_wp2_with fail
            refine (named_any nm hn _ true HN.out).mono ?_
            rintro e w1 ⟨rfl, rfl⟩
            go_wp2_with fail
            refine kc.mono ?_
            rintro e w1 ⟨rfl, hb1⟩
            have hb2 : Below w.heap.size w w1 := bt (bal hbl _) hb1
            have hc1 : w1.cell? ⟨wr.heap.size, 1, none⟩ = some (.int .i64 sz) := (hb1.cell (p := ⟨wr.heap.size, 1, none⟩) (by simp)).trans hcell
            clear hb1 kc hcell
            by_cases hz1 : sz < 1
            · clear hz
              go_wp2
              go_ret
              exact ⟨rfl, hb2⟩
            · have hz2 : 4096 < sz := by omega
              clear hz
              go_wp2
              go_ret
              exact ⟨rfl, hb2⟩
          · have HI2 : Hid (colL (l.take (i + 1)) (l.drop (i + 1)) = colL [] l) := by show _ = _; rw [ST.out, HN.out, HA.out]; simp [hz]
            have hz1 : ¬ sz < 1 := by omega
            have hz2 : ¬ 4096 < sz := by omega
            clear hz
            go_wp2_with fail
            refine (named_any nm hn _ true HN.out).mono ?_
            rintro e w1 ⟨rfl, rfl⟩
            go_wp2_with fail
            refine kc.mono ?_
            rintro e w1 ⟨rfl, hb1⟩
            have hb2 : Below w.heap.size w w1 := bt (bal hbl _) hb1
            have hc1 : w1.cell? ⟨wr.heap.size, 1, none⟩ = some (.int .i64 sz) := (hb1.cell (p := ⟨wr.heap.size, 1, none⟩) (by simp)).trans hcell
            clear hb1 kc hcell
            go_wp2
            go_roundw
            case rel => exact ⟨i + 1, by go_num, h1, HI2, hb2⟩
            case measure => simp [intOf]; omega
    · have HN : Hid (colL [] l = 0) := by have := HI.out; rw [List.drop_eq_nil_of_le (by omega)] at this; exact this.symm.trans rfl
      have HS : Hid (Szs l) := colL_szs HN.out
      have kc := size_any B _ l wr (Nat.le_trans hB hbl.size) (HP.out.at hB hbl) HS.out _ rfl
      by_cases hpz : 4096 < prd l
      · obtain rfl : 4 = er := by rw [← HR.out, HE.out, HN.out]; simp [hpz]
        have hm : min (prd l) 4097 = 4097 := by omega
        rw [hm] at kc
        go_wp2_with fail
        refine kc.mono ?_
        rintro e w1 ⟨rfl, hb1⟩
        go_wp2
        go_ret
        exact ⟨rfl, bt hbl hb1⟩
      · obtain rfl : 0 = er := by rw [← HR.out, HE.out, HN.out]; simp [hpz]
        have hm : min (prd l) 4097 = prd l := by omega
        rw [hm] at kc
        go_wp2_with fail
        refine kc.mono ?_
        rintro e w1 ⟨rfl, hb1⟩
        go_wp2
        go_ret
        exact ⟨rfl, bt hbl hb1⟩
end Go.Proofs.YtidfkencjdjkbaaGreatDoor.K

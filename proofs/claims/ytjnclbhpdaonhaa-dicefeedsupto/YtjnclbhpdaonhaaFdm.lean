import Derived.Test.YtjnclbhpdaonhaaRls
namespace Go.Proofs.Ytjnclbhpdaonhaa
open Go.RowKit Go.Proofs.Ytjnclbhpdaonhaa.Ds

/-- a number's lowest digit to the base 2 -/
def lowB (x : Int) : Int := bits .and .i64 x 1
theorem lowB_bit (x : Int) : 0 ≤ lowB x ∧ lowB x ≤ 1 := by
  unfold lowB bits
  simp only
  have h : (BitVec.ofInt IntKind.i64.bits x &&& BitVec.ofInt IntKind.i64.bits 1).toNat ≤ 1 := by
    rw [BitVec.toNat_and]
    exact Nat.le_trans Nat.and_le_right (by decide)
  generalize (BitVec.ofInt IntKind.i64.bits x &&& BitVec.ofInt IntKind.i64.bits 1).toNat = q at h
  rw [IntKind.wrap_i64]
  omega

/-- all draws of bits that are fed one by one -/
def fdT (T : Int) (l : List Pt) : Int → Int → Int → List Int → List Pt
  | _, _, _, [] => []
  | pl, nd, u, b :: r => match (lvT T pl l)[(2 * nd + b).toNat]? with
    | some o => (o, u + 1) :: fdT T l 1 0 0 r
    | none => fdT T l (2 * pl % T) (2 * nd + b - (lvT T pl l).length) (u + 1) r

theorem fdT_is (T : Int) (l : List Pt) (xs : List Int) : ∀ (pl nd u : Int) (t : Nat), xs.length ≤ t + 1 →
    fdT T l pl nd u xs = match roT T l pl nd u xs with | none => [] | some (o, k, r) => (o, k) :: drT (fun ys => roT T l 1 0 0 ys) t r := by
  induction xs with
  | nil => intro pl nd u t _; rfl
  | cons b r ih =>
    intro pl nd u t ht
    simp only [fdT, roT]
    cases e : (lvT T pl l)[(2 * nd + b).toNat]? with
    | none => simp only; exact ih _ _ _ t (by simp at ht; omega)
    | some o =>
      simp only
      congr 1
      simp at ht
      cases t with
      | zero =>
        obtain rfl : r = [] := by
          cases r with
          | nil => rfl
          | cons x r => simp at ht
        rfl
      | succ t =>
        rw [ih 1 0 0 t ht, drT]
        cases roT T l 1 0 0 r with
        | none => rfl
        | some p => rfl
theorem fdT_all (T : Int) (l : List Pt) (xs : List Int) : drT (fun ys => roT T l 1 0 0 ys) xs.length xs = fdT T l 1 0 0 xs := by
  cases xs with
  | nil => rfl
  | cons b r =>
    rw [fdT_is T l (b :: r) 1 0 0 r.length (by simp), List.length_cons, drT]
    cases roT T l 1 0 0 (b :: r) with
    | none => rfl
    | some p => rfl

/-- what plain.Feed tells -/
def feedT (l : List Pt) (xs : List Int) : List Pt × Int := if (ownT l).2 = 0 then (match l with | [p] => [(p.1, 0)] | l => fdT (tot l) l 1 0 0 (xs.map lowB), 0) else ([], (ownT l).2)

theorem feed_rolls {l : List Pt} (h : (ownT l).2 = 0) (xs : List Int) (hx : xs.length ≤ 4000) : rollsT l (xs.map lowB) (if l.length = 1 then 1 else (xs.length : Int)) = ((feedT l xs).1, 0) := by
  have hb : badB (xs.map lowB) = false := by
    refine List.any_eq_false.2 fun b hb => ?_
    obtain ⟨x, _, rfl⟩ := List.mem_map.1 hb
    have := lowB_bit x
    simp; omega
  have hw : ∀ t : Int, 0 ≤ t ∧ t ≤ 4096 → wrB (xs.map lowB) t = 0 := fun t ht => by
    unfold wrB
    rw [hb, List.length_map, if_neg (by omega), if_neg (by simp; omega)]
  unfold rollsT feedT drawsT
  rw [if_pos h, if_pos h]
  match l with
  | [p] =>
    simp only [List.length_singleton, if_true]
    rw [if_pos (hw 1 (by omega))]
    rfl
  | [] =>
    rw [if_neg (show ¬ ([] : List Pt).length = 1 by simp), if_pos (hw _ (by omega)), Int.toNat_natCast]
    have := fdT_all (tot []) [] (xs.map lowB)
    rw [List.length_map] at this
    simp only
    rw [← this]
    rfl
  | p :: q :: l =>
    rw [if_neg (show ¬ (p :: q :: l).length = 1 by simp), if_pos (hw _ (by omega)), Int.toNat_natCast]
    have := fdT_all (tot (p :: q :: l)) (p :: q :: l) (xs.map lowB)
    rw [List.length_map] at this
    simp only
    rw [← this]
    rfl
end Go.Proofs.Ytjnclbhpdaonhaa

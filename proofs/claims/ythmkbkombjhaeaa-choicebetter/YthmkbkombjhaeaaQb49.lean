import Derived.Test.YthmkbkombjhaeaaQb45
import Derived.Test.YthmkbkombjhaeaaQb19
namespace Go.Proofs.Ythmkbkombjhaeaa
open Go.RowKit Go.Proofs.Ythmkbkombjhaeaa.Ds

theorem weigh_alive : weighT 2 1 [1, 0] = ([([0], 2), ([1], 1)], 0) := by decide
theorem alive_any (w : World) : Calls Try.prog 17 #[] w fun x w' => x = .returned (.bool true) ∧ Below w.heap.size w w' := by
  have kw := weigh_any (w.heap.size + 1) 2 1 _ [1, 0] _ (num_two w 1 0) (by simp) _ 0 weigh_alive
  go_enter Try.func17, Try.ntmps17
  go_wp2_with fail
  refine kw.mono ?_
  rintro e w1 ⟨v1, us, rfl, h1, h2, h3, _⟩
  have hul : us.length = 2 := by
    have := congrArg List.length h1
    simpa [rd] using this
  obtain ⟨a1, c1, rfl⟩ := h2.slice
  rw [hul]
  have G1 := bt (ba _ _) h3
  clear kw h1 h2 hul
  go_wp2
  go_ret
  exact ⟨rfl, G1⟩
end Go.Proofs.Ythmkbkombjhaeaa

namespace Go.Proofs.Ythmkbkombjhaeaa
open Go.RowKit Go.Proofs.Ythmkbkombjhaeaa.Ds

/-- how far two remainders are, and how far they were -/
def Dif (i : Nat) (D U X v y : Int) : Prop := U * y - X * v = 2 ^ i * D

theorem Dif.both {i : Nat} {D U X v y : Int} (h : Dif i D U X v y) : Dif (i + 1) D (2 * U - v) (2 * X - y) v y := by
  unfold Dif at *
  rw [Int.pow_succ, Int.mul_right_comm, ← h, Int.sub_mul, Int.sub_mul, Int.mul_assoc, Int.mul_assoc, Int.mul_comm v y]
  omega
theorem Dif.none {i : Nat} {D U X v y : Int} (h : Dif i D U X v y) : Dif (i + 1) D (2 * U) (2 * X) v y := by
  unfold Dif at *
  rw [Int.pow_succ, Int.mul_right_comm (2 ^ i) 2 D, ← h, Int.mul_assoc 2 U, Int.mul_assoc 2 X]
  omega
theorem dif_pos {i : Nat} {D U X v y : Int} (h : Dif i D U X v y) (hv : 0 < v) (hy : 0 < y) (h1 : v ≤ 2 * U) (h2 : 2 * X < y) : 0 < D := by
  unfold Dif at h
  have a1 : v * y ≤ 2 * U * y := Int.mul_le_mul_of_nonneg_right h1 (by omega)
  have a2 : 2 * X * v < y * v := Int.mul_lt_mul_of_pos_right h2 hv
  rw [Int.mul_assoc] at a1 a2
  rw [Int.mul_comm y v] at a2
  by_cases hD : 0 < D
  · exact hD
  · have : 2 ^ i * D ≤ 0 := Int.mul_nonpos_of_nonneg_of_nonpos (Int.le_of_lt (Int.pow_pos (by decide))) (by omega)
    omega
theorem dif_neg {i : Nat} {D U X v y : Int} (h : Dif i D U X v y) (hv : 0 < v) (hy : 0 < y) (h1 : 2 * U < v) (h2 : y ≤ 2 * X) : ¬ 0 < D := by
  intro hD
  have h' : Dif i (-D) X U y v := by unfold Dif at *; rw [Int.mul_neg, ← h]; omega
  have := dif_pos h' hy hv h2 h1
  omega
theorem dif_end {D U X v y : Int} (h : Dif 124 D U X v y) (hv : 0 < v) (hy : 0 < y) (hv1 : v ≤ 1152921504606846976) (hy1 : y ≤ 1152921504606846976) (hU1 : U < v) (hX : 0 ≤ X) : ¬ 0 < D := by
  intro hD
  unfold Dif at h
  have a1 : U * y ≤ v * y := Int.mul_le_mul_of_nonneg_right (by omega) (by omega)
  have a2 : 0 ≤ X * v := Int.mul_nonneg hX (by omega)
  have a3 : v * y ≤ 1152921504606846976 * 1152921504606846976 := Int.mul_le_mul hv1 hy1 (by omega) (by decide)
  have a4 : (2 : Int) ^ 124 * 1 ≤ 2 ^ 124 * D := Int.mul_le_mul_of_nonneg_left (by omega) (by decide)
  have a5 : (1152921504606846976 * 1152921504606846976 : Int) < 2 ^ 124 * 1 := by decide
  omega

theorem dif_start {u v x y : Int} (hq : u / v = x / y) : Dif 0 (u * y - x * v) (u % v) (x % y) v y := by
  unfold Dif
  rw [Int.emod_def, Int.emod_def, hq, Int.sub_mul, Int.sub_mul, Int.pow_zero, Int.one_mul]
  have : v * (x / y) * y = y * (x / y) * v := by rw [Int.mul_comm v, Int.mul_assoc, Int.mul_comm v y, ← Int.mul_assoc, Int.mul_comm (x / y) y]
  omega
theorem quo_more {u v x y : Int} (hv : 0 < v) (hy : 0 < y) (h : x / y < u / v) : 0 < u * y - x * v := by
  have h1 : (u / v) * v ≤ u := Int.ediv_mul_le u (by omega)
  have h2 : x < (x / y + 1) * y := Int.lt_ediv_add_one_mul_self x hy
  have a1 : (u / v) * v * y ≤ u * y := Int.mul_le_mul_of_nonneg_right h1 (by omega)
  have a2 : x * v < (x / y + 1) * y * v := Int.mul_lt_mul_of_pos_right h2 hv
  have a3 : (x / y + 1) * (y * v) ≤ (u / v) * (y * v) := Int.mul_le_mul_of_nonneg_right (by omega) (Int.mul_nonneg (by omega) (by omega))
  rw [Int.mul_assoc] at a1 a2
  rw [Int.mul_comm v y] at a1
  omega
theorem quo_less {u v x y : Int} (hv : 0 < v) (hy : 0 < y) (h : u / v < x / y) : ¬ 0 < u * y - x * v := by
  have := quo_more hy hv h
  omega

set_option maxHeartbeats 1000000 in
set_option maxRecDepth 100000 in
theorem more_any (u v x y : Int) (hu0 : 0 ≤ u) (hu : u ≤ 2305843009213693952) (hv0 : 1 ≤ v) (hv : v ≤ 1152921504606846976) (hx0 : 0 ≤ x) (hx : x ≤ 2305843009213693952) (hy0 : 1 ≤ y) (hy : y ≤ 1152921504606846976) (r : Bool) (hr : decide (0 < u * y - x * v) = r) (w : World) :
    Calls Try.prog 20 #[.int .i64 u, .int .i64 v, .int .i64 x, .int .i64 y] w fun e w' => e = .returned (.bool r) ∧ Below w.heap.size w w' := by
  have HR : Hid (decide (0 < u * y - x * v) = r) := hr
  clear hr
  have n1 : ¬ (v : Int) = 0 := by omega
  have n2 : ¬ (y : Int) = 0 := by omega
  have t1 : u.tdiv v = u / v := Int.tdiv_eq_ediv_of_nonneg hu0
  have t2 : x.tdiv y = x / y := Int.tdiv_eq_ediv_of_nonneg hx0
  have t3 : u.tmod v = u % v := Int.tmod_eq_emod_of_nonneg hu0
  have t4 : x.tmod y = x % y := Int.tmod_eq_emod_of_nonneg hx0
  have b1 : 0 ≤ u / v ∧ u / v ≤ u := ⟨Int.ediv_nonneg hu0 (by omega), Int.ediv_le_self _ hu0⟩
  have b2 : 0 ≤ x / y ∧ x / y ≤ x := ⟨Int.ediv_nonneg hx0 (by omega), Int.ediv_le_self _ hx0⟩
  have b3 : 0 ≤ u % v ∧ u % v < v := ⟨Int.emod_nonneg _ n1, Int.emod_lt_of_pos _ (by omega)⟩
  have b4 : 0 ≤ x % y ∧ x % y < y := ⟨Int.emod_nonneg _ n2, Int.emod_lt_of_pos _ (by omega)⟩
  obtain ⟨q1, h1⟩ : ∃ q, u / v = q := ⟨_, rfl⟩
  obtain ⟨q2, h2⟩ : ∃ q, x / y = q := ⟨_, rfl⟩
  obtain ⟨r1, h3⟩ : ∃ q, u % v = q := ⟨_, rfl⟩
  obtain ⟨r2, h4⟩ : ∃ q, x % y = q := ⟨_, rfl⟩
  have HQ : Hid (u / v = q1 ∧ x / y = q2 ∧ u % v = r1 ∧ x % y = r2) := ⟨h1, h2, h3, h4⟩
  rw [h1] at b1 t1
  rw [h2] at b2 t2
  rw [h3] at b3 t3
  rw [h4] at b4 t4
  by_cases hq : q1 = q2
  · have HD : Hid (Dif 0 (u * y - x * v) r1 r2 v y) := by have := dif_start (u := u) (v := v) (x := x) (y := y) (by rw [h1, h2, hq]); rwa [h3, h4] at this
    subst hq
    clear h1 h2 h3 h4
    go_enter Try.func20, Try.ntmps20
    go_wp2
    go_quiet (fail)
    go_wp2
    go_quiet (fail)
    go_wp2
    go_loopw [0, 2, 9] (fun s t k wr => ∃ (i : Nat) (U X : Int), s = .int .i64 U ∧ t = .int .i64 X ∧ k = .int .i64 (i : Int) ∧ i ≤ 124 ∧ 0 ≤ U ∧ U < v ∧ 0 ≤ X ∧ X < y ∧ Hid (Dif i (u * y - x * v) U X v y) ∧ Below w.heap.size w wr) (fun _ _ k _ => 124 - (intOf k).toNat)
    case atStart => exact ⟨0, r1, r2, rfl, rfl, rfl, by omega, b3.1, b3.2, b4.1, b4.2, HD, below_drewN (below_drewN (Below.refl _ _) _) _⟩
    case round =>
      obtain ⟨i, U, X, rfl, rfl, rfl, hi, hU, hU1, hX, hX1, HI, hb⟩ := hrel
      by_cases hii : i = 124
      · subst hii
        have hno : r = false := by rw [← HR.out]; exact decide_eq_false (dif_end HI.out (by omega) (by omega) hv hy hU1 hX)
        subst hno
        go_wp2
        go_ret
        exact ⟨rfl, hb⟩
      · have hi4 : i < 124 := by omega
        by_cases c1 : v ≤ 2 * U
        · by_cases c2 : y ≤ 2 * X
          · have HN : Hid (Dif (i + 1) (u * y - x * v) (2 * U - v) (2 * X - y) v y) := HI.out.both
            go_wp2
            go_roundw
            case rel => exact ⟨i + 1, 2 * U - v, 2 * X - y, by go_num, by go_num, by go_num, by omega, by omega, by omega, by omega, by omega, HN, hb⟩
            case measure => simp [intOf]; omega
          · have hyes : r = true := by rw [← HR.out]; exact decide_eq_true (dif_pos HI.out (by omega) (by omega) c1 (by omega))
            subst hyes
            go_wp2
            go_ret
            exact ⟨rfl, hb⟩
        · by_cases c2 : y ≤ 2 * X
          · have hno : r = false := by rw [← HR.out]; exact decide_eq_false (dif_neg HI.out (by omega) (by omega) (by omega) c2)
            subst hno
            go_wp2
            go_ret
            exact ⟨rfl, hb⟩
          · have HN : Hid (Dif (i + 1) (u * y - x * v) (2 * U) (2 * X) v y) := HI.out.none
            go_wp2
            go_roundw
            case rel => exact ⟨i + 1, 2 * U, 2 * X, by go_num, by go_num, by go_num, by omega, by omega, by omega, by omega, by omega, HN, hb⟩
            case measure => simp [intOf]; omega
  · have hq' : (q1 == q2) = false := by simpa using hq
    have hq'' : (q1 != q2) = true := by simpa using hq
    by_cases hlt : q2 < q1
    · have hyes : r = true := by rw [← HR.out]; exact decide_eq_true (quo_more (by omega) (by omega) (by rw [h1, h2]; exact hlt))
      subst hyes
      clear h1 h2 h3 h4
      go_enter Try.func20, Try.ntmps20
      go_wp2
      go_quiet (fail)
      go_wp2
      go_quiet (fail)
      go_wp2
      go_ret
      exact ⟨rfl, below_drewN (below_drewN (Below.refl _ _) _) _⟩
    · have hlt' : decide (q2 < q1) = false := decide_eq_false hlt
      have hno : r = false := by rw [← HR.out]; exact decide_eq_false (quo_less (by omega) (by omega) (by rw [h1, h2]; omega))
      subst hno
      clear h1 h2 h3 h4
      go_enter Try.func20, Try.ntmps20
      go_wp2
      go_quiet (fail)
      go_wp2
      go_quiet (fail)
      go_wp2
      go_ret
      exact ⟨rfl, below_drewN (below_drewN (Below.refl _ _) _) _⟩
end Go.Proofs.Ythmkbkombjhaeaa

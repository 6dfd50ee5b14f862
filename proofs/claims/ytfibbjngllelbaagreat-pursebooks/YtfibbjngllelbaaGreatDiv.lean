import Derived.Test.YtfibbjngllelbaaGreatRows
import Derived.Test.YtfibbjngllelbaaGreatMath
import Derived.WalkKit
import Derived.WalkSpells
import Derived.Deep.QuietTactic
import Derived.BigQuiet
import Derived.WalkSmall
namespace Go.Proofs.YtfibbjngllelbaaGreat
open Go.RowKit

theorem ret_i {k : IntKind} {a b : Int} (h : a = b) : Ending.returned (.int k a) = .returned (.int k b) := by rw [h]

theorem gcd_tmod (x y : Int) : Int.gcd y (x.tmod y) = Int.gcd x y := by
  have h : (x.tmod y).natAbs = x.natAbs % y.natAbs := Int.natAbs_tmod x y
  rw [Int.gcd, h, Int.gcd, Nat.gcd_comm x.natAbs, Nat.gcd_rec y.natAbs x.natAbs, Nat.gcd_comm]

set_option maxHeartbeats 400000 in
theorem divisor_int (a b : Int) (ha0 : -9223372036854775807 ≤ a) (ha : a ≤ 9223372036854775807) (hb0 : -9223372036854775807 ≤ b) (hb : b ≤ 9223372036854775807) (w : World) :
    Calls Tryz.prog 49 #[.int .i64 a, .int .i64 b] w fun e w' => e = .returned (.int .i64 (Int.gcd a b : Nat)) ∧ Below w.heap.size w w' := by
  go_enter Tryz.func49, Tryz.ntmps49
  go_wp2
  go_loopw [0, 1] (fun s t wr => ∃ x y : Int, s = .int .i64 x ∧ t = .int .i64 y ∧ -9223372036854775807 ≤ x ∧ x ≤ 9223372036854775807 ∧ -9223372036854775807 ≤ y ∧ y ≤ 9223372036854775807 ∧ Int.gcd x y = Int.gcd a b ∧ Below w.heap.size w wr) (fun _ t _ => (intOf t).natAbs)
  case atStart => exact ⟨a, b, rfl, rfl, ha0, ha, hb0, hb, rfl, Below.refl _ _⟩
  case round =>
    obtain ⟨x, y, rfl, rfl, hx0, hx, hy0, hy, hg, hbl⟩ := hrel
    have HG : Hid (Int.gcd x y = Int.gcd a b) := hg
    clear hg
    by_cases hz : y = 0
    · subst hz
      go_wp2
      all_goals
        go_ret
        refine ⟨ret_i ?_, hbl⟩
        rw [← HG.out, Int.gcd_zero_right]
        omega
    · have hz' : (y == 0) = false := by simp; omega
      have hm : (x.tmod y).natAbs < y.natAbs := by rw [Int.natAbs_tmod]; exact Nat.mod_lt _ (by omega)
      have hm1 : -9223372036854775807 ≤ x.tmod y := by omega
      have hm2 : x.tmod y ≤ 9223372036854775807 := by omega
      have HM : Hid ((x.tmod y).natAbs < y.natAbs) := hm
      clear hm
      go_wp2
      go_quiet (fail)
      go_wp2
      go_roundw
      case rel => exact ⟨y, x.tmod y, rfl, by go_num, hy0, hy, hm1, hm2, by rw [gcd_tmod]; exact HG.out, below_drewN hbl nq⟩
      case measure => exact HM.out

theorem divisor_any (a b : Nat) (ha : (a : Int) ≤ 9223372036854775807) (hb : (b : Int) ≤ 9223372036854775807) (w : World) :
    Calls Tryz.prog 49 #[.int .i64 a, .int .i64 b] w fun e w' => e = .returned (.int .i64 (Nat.gcd a b : Nat)) ∧ Below w.heap.size w w' :=
  divisor_int a b (by omega) ha (by omega) hb w

set_option maxHeartbeats 400000 in
theorem refDivisor_any (a b : Nat) (ha : (a : Int) ≤ 9223372036854775807) (hb1 : 1 ≤ b) (hb : (b : Int) ≤ 9223372036854775807) (w : World) :
    Calls Tryz.prog 47 #[.int .i64 a, .int .i64 b] w fun e w' => e = .returned (.int .i64 (Nat.gcd a b : Nat)) ∧ w' = w := by
  by_cases h0 : a = 0
  · subst h0
    go_enter Tryz.func47, Tryz.ntmps47
    go_wp2
    go_ret
    exact ⟨ret_i (by simp), rfl⟩
  have h0' : ((a : Int) == 0) = false := by simp; omega
  have hgpos : 0 < Nat.gcd a b := Nat.gcd_pos_of_pos_right _ (by omega)
  have hgle : Nat.gcd a b ≤ b := Nat.gcd_le_right _ (by omega)
  generalize hG : Nat.gcd a b = g at *
  have HG0 : Hid (Nat.gcd a b = g) := hG
  clear hG
  go_enter Tryz.func47, Tryz.ntmps47
  go_wp2
  go_loop [0, 1, 5] (fun s t u => ∃ x y k : Nat, s = .int .i64 (x : Int) ∧ t = .int .i64 (y : Int) ∧ u = .int .i64 (k : Int) ∧ 1 ≤ x ∧ 1 ≤ y ∧ x ≤ a ∧ y ≤ b ∧ k + y ≤ b ∧ 2 ^ k * Nat.gcd x y = g) (fun s _ _ => (intOf s).toNat)
  case atStart => exact ⟨a, b, 0, rfl, rfl, rfl, by omega, by omega, by omega, by omega, by omega, by rw [HG0.out]; simp⟩
  case round =>
    obtain ⟨x, y, k, rfl, rfl, rfl, hx1, hy1, hx, hy, hk, hg⟩ := hrel
    have HG : Hid (2 ^ k * Nat.gcd x y = g) := hg
    clear hg
    by_cases hc : x % 2 = 0 ∧ y % 2 = 0
    · obtain ⟨hc1, hc2⟩ := hc
      have e1 : ((x : Int) % 2 == 0) = true := by simp; omega
      have e2 : ((y : Int) % 2 == 0) = true := by simp; omega
      go_wp2
      go_round
      case rel => exact ⟨x / 2, y / 2, k + 1, by go_num, by go_num, by go_num, by omega, by omega, by omega, by omega, by omega, by rw [← HG.out, Nat.pow_succ, Nat.mul_assoc, Rt.gcd_half_both x y hc1 hc2]⟩
      case measure => simp [intOf]; omega
    · have hh1 : 1 ≤ Nat.gcd x y := Nat.gcd_pos_of_pos_right _ (by omega)
      have hkg : k < 2 ^ 63 := by omega
      have HC : Hid (¬ (x % 2 = 0 ∧ y % 2 = 0)) := hc
      have e0 : ((x : Int) % 2 == 0) = true ∧ ((y : Int) % 2 == 0) = false ∨ ((x : Int) % 2 == 0) = false := by
        by_cases hxx : x % 2 = 0
        · exact .inl ⟨by simp; omega, by simp; omega⟩
        · exact .inr (by simp; omega)
      clear hc h0'
      rcases e0 with ⟨e1, e2⟩ | e1
      all_goals
        go_wp2
        clear e1
        try clear e2
        go_loop [0, 1] (fun s t => ∃ x' y' : Nat, s = .int .i64 (x' : Int) ∧ t = .int .i64 (y' : Int) ∧ 1 ≤ x' ∧ 1 ≤ y' ∧ x' ≤ a ∧ y' ≤ b ∧ ¬ (x' % 2 = 0 ∧ y' % 2 = 0) ∧ Nat.gcd x' y' = Nat.gcd x y) (fun s t => (intOf s).toNat + (intOf t).toNat)
        case atStart => exact ⟨x, y, rfl, rfl, hx1, hy1, hx, hy, HC.out, rfl⟩
        case round =>
          obtain ⟨p, q, rfl, rfl, hp1, hq1, hp, hq, hpq, hgg⟩ := hrel
          have HGG : Hid (Nat.gcd p q = Nat.gcd x y) := hgg
          clear hgg
          by_cases c0 : p = q
          · subst c0
            have hpz : 2 ^ k * p = g := by rw [← HG.out, ← HGG.out, Nat.gcd_self]
            have HPZ : Hid (2 ^ k * p = g) := hpz
            clear hpz
            go_wp2
            go_loop [0, 5] (fun s u => ∃ z j : Nat, s = .int .i64 (z : Int) ∧ u = .int .i64 (j : Int) ∧ j ≤ k ∧ 2 ^ j * z = g) (fun _ u => (intOf u).toNat)
            case atStart => exact ⟨p, k, rfl, rfl, Nat.le_refl _, HPZ.out⟩
            case round =>
              obtain ⟨z, j, rfl, rfl, hj, hzj⟩ := hrel
              have HZJ : Hid (2 ^ j * z = g) := hzj
              clear hzj
              by_cases c9 : j = 0
              · subst c9
                go_wp2
                go_ret
                exact ⟨ret_i (by have := HZJ.out; simp at this; rw [this]), rfl⟩
              · have hj0 : 0 < j := by omega
                have hz2 : 2 * z ≤ g := by
                  rw [← HZJ.out]
                  obtain ⟨i, rfl⟩ : ∃ i, j = i + 1 := ⟨j - 1, by omega⟩
                  rw [Nat.pow_succ, Nat.mul_assoc]
                  exact Nat.le_mul_of_pos_left _ (Nat.two_pow_pos i)
                go_wp2
                go_round
                case rel => exact ⟨2 * z, j - 1, by go_num, by go_num, by omega, by rw [← Nat.mul_assoc, ← Nat.pow_succ, show (j - 1).succ = j by omega]; exact HZJ.out⟩
                case measure => simp [intOf]; omega
          · have c0' : ((p : Int) == (q : Int)) = false := by simp; omega
            have c0'' : ((p : Int) != (q : Int)) = true := by simp; omega
            by_cases c1 : p % 2 = 0
            · have d1 : ((p : Int) % 2 == 0) = true := by simp; omega
              have HP : Hid (Nat.gcd (p / 2) q = Nat.gcd x y) := by rw [Hid, Rt.gcd_half_left p q c1 (by omega)]; exact HGG.out
              go_wp2
              go_round
              case rel => exact ⟨p / 2, q, by go_num, rfl, by omega, by omega, by omega, by omega, by omega, HP.out⟩
              case measure => simp [intOf]; omega
            · have d1 : ((p : Int) % 2 == 0) = false := by simp; omega
              by_cases c2 : q % 2 = 0
              · have d2 : ((q : Int) % 2 == 0) = true := by simp; omega
                have HP : Hid (Nat.gcd p (q / 2) = Nat.gcd x y) := by rw [Hid, Rt.gcd_half_right p q (by omega) c2]; exact HGG.out
                go_wp2
                go_round
                case rel => exact ⟨p, q / 2, rfl, by go_num, by omega, by omega, by omega, by omega, by omega, HP.out⟩
                case measure => simp [intOf]; omega
              · have d2 : ((q : Int) % 2 == 0) = false := by simp; omega
                by_cases c3 : q < p
                · have HP : Hid (Nat.gcd (p - q) q = Nat.gcd x y) := by rw [Hid, Rt.gcd_less_left p q (by omega)]; exact HGG.out
                  go_wp2
                  go_round
                  case rel => exact ⟨p - q, q, by go_num, rfl, by omega, by omega, by omega, by omega, by omega, HP.out⟩
                  case measure => simp [intOf]; omega
                · have HP : Hid (Nat.gcd p (q - p) = Nat.gcd x y) := by rw [Hid, Rt.gcd_less_right p q (by omega)]; exact HGG.out
                  go_wp2
                  go_round
                  case rel => exact ⟨p, q - p, rfl, by go_num, by omega, by omega, by omega, by omega, by omega, HP.out⟩
                  case measure => simp [intOf]; omega
end Go.Proofs.YtfibbjngllelbaaGreat

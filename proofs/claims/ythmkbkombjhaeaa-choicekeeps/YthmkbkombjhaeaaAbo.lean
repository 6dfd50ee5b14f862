import Derived.Test.YthmkbkombjhaeaaApw
import Derived.Test.YthmkbkombjhaeaaShelf2
namespace Go.Proofs.Ythmkbkombjhaeaa
open Go.RowKit Go.Shelf Go.Proofs.Ythmkbkombjhaeaa.Ds

theorem mul64_any (x y : Nat) (hx : x < 18446744073709551616) (hy : y < 18446744073709551616) (w : World) :
    Calls Try.prog 71 #[.int .u64 x, .int .u64 y] w fun e w' => e = .returned (.tuple #[.int .u64 ((x * y / 18446744073709551616 : Nat) : Int), .int .u64 ((x * y % 18446744073709551616 : Nat) : Int)]) ∧ w' = w :=
  Any.bits_Mul64 Try.mul64 x y hx hy w

set_option maxHeartbeats 1000000 in
theorem above_any (a b c d : Nat) (ha : a ≤ 1152921504606846976) (hb : b ≤ 1152921504606846976) (hc : c ≤ 1152921504606846976) (hd : d ≤ 1152921504606846976) (r : Bool) (hr : decide (c * b < a * d) = r) (w : World) :
    Calls Try.prog 58 #[.int .i64 a, .int .i64 b, .int .i64 c, .int .i64 d] w fun e w' => e = .returned (.bool r) ∧ w' = w := by
  have k1 := mul64_any a d (by omega) (by omega) w
  have k2 := mul64_any c b (by omega) (by omega) w
  have HR : Hid (decide (c * b < a * d) = r) := hr
  clear hr
  obtain ⟨P, hP⟩ : ∃ P, a * d = P := ⟨_, rfl⟩
  obtain ⟨Q, hQ⟩ : ∃ Q, c * b = Q := ⟨_, rfl⟩
  rw [hP] at k1
  rw [hQ] at k2
  rw [hP, hQ] at HR
  obtain ⟨ph, hph⟩ : ∃ x, P / 18446744073709551616 = x := ⟨_, rfl⟩
  obtain ⟨pl, hpl⟩ : ∃ x, P % 18446744073709551616 = x := ⟨_, rfl⟩
  obtain ⟨qh, hqh⟩ : ∃ x, Q / 18446744073709551616 = x := ⟨_, rfl⟩
  obtain ⟨ql, hql⟩ : ∃ x, Q % 18446744073709551616 = x := ⟨_, rfl⟩
  rw [hph, hpl] at k1
  rw [hqh, hql] at k2
  have HD : Hid (P = ph * 18446744073709551616 + pl ∧ Q = qh * 18446744073709551616 + ql ∧ pl < 18446744073709551616 ∧ ql < 18446744073709551616) := by
    refine ⟨?_, ?_, ?_, ?_⟩ <;> omega
  have w1 : IntKind.u64.wrap (a : Int) = a := by rw [IntKind.wrap_u64]; omega
  have w2 : IntKind.u64.wrap (b : Int) = b := by rw [IntKind.wrap_u64]; omega
  have w3 : IntKind.u64.wrap (c : Int) = c := by rw [IntKind.wrap_u64]; omega
  have w4 : IntKind.u64.wrap (d : Int) = d := by rw [IntKind.wrap_u64]; omega
  clear hP hQ hph hpl hqh hql
  by_cases h1 : qh < ph
  · have hr1 : r = true := by rw [← HR.out]; exact decide_eq_true (by have := HD.out; omega)
    subst hr1
    go_enter Try.func58, Try.ntmps58
    go_wp2_with fail
    refine k1.mono ?_
    rintro e w' ⟨rfl, rfl⟩
    go_wp2_with fail
    refine k2.mono ?_
    rintro e w' ⟨rfl, rfl⟩
    go_wp2
    go_ret
    exact ⟨rfl, rfl⟩
  · by_cases h2 : ph = qh
    · subst h2
      by_cases h3 : ql < pl
      · have hr1 : r = true := by rw [← HR.out]; exact decide_eq_true (by have := HD.out; omega)
        subst hr1
        go_enter Try.func58, Try.ntmps58
        go_wp2_with fail
        refine k1.mono ?_
        rintro e w' ⟨rfl, rfl⟩
        go_wp2_with fail
        refine k2.mono ?_
        rintro e w' ⟨rfl, rfl⟩
        go_wp2
        go_ret
        exact ⟨rfl, rfl⟩
      · have hr1 : r = false := by rw [← HR.out]; exact decide_eq_false (by have := HD.out; omega)
        subst hr1
        go_enter Try.func58, Try.ntmps58
        go_wp2_with fail
        refine k1.mono ?_
        rintro e w' ⟨rfl, rfl⟩
        go_wp2_with fail
        refine k2.mono ?_
        rintro e w' ⟨rfl, rfl⟩
        go_wp2
        go_ret
        exact ⟨rfl, rfl⟩
    · have hr1 : r = false := by rw [← HR.out]; exact decide_eq_false (by have := HD.out; omega)
      have h2' : ((ph : Int) == (qh : Int)) = false := by simp; omega
      subst hr1
      go_enter Try.func58, Try.ntmps58
      go_wp2_with fail
      refine k1.mono ?_
      rintro e w' ⟨rfl, rfl⟩
      go_wp2_with fail
      refine k2.mono ?_
      rintro e w' ⟨rfl, rfl⟩
      go_wp2
      go_ret
      exact ⟨rfl, rfl⟩
end Go.Proofs.Ythmkbkombjhaeaa

import Derived.Test.YtgmhhfipniiboaaTnu
import Derived.Test.YtgmhhfipniiboaaMkm
namespace Go.Proofs.Ytgmhhfipniiboaa
open Go.RowKit

theorem below_any (a b : Int) (r : Bool) (hr : inM b a = r) (W : World) : Calls Try.prog 16 #[.int .i64 a, .int .i64 b] W fun e W' => e = .returned (.bool r) ∧ W' = W := by
  have HR : Hid (inM b a = r) := hr
  clear hr
  by_cases c1 : 0 ≤ a
  · have c1' : a ≥ 0 := c1
    by_cases c2 : a < b
    · obtain rfl : true = r := by rw [← HR.out]; simp [inM, c1, c2]
      clear HR
      go_enter Try.func16, Try.ntmps16
      go_wp2
      go_ret
      exact ⟨rfl, rfl⟩
    · obtain rfl : false = r := by rw [← HR.out]; simp [inM, c2]
      clear HR
      go_enter Try.func16, Try.ntmps16
      go_wp2
      go_ret
      exact ⟨rfl, rfl⟩
  · obtain rfl : false = r := by rw [← HR.out]; simp [inM, c1]
    have c1' : ¬ a ≥ 0 := c1
    clear HR
    go_enter Try.func16, Try.ntmps16
    go_wp2
    go_ret
    exact ⟨rfl, rfl⟩
theorem plus_any (m a b : Int) (hm : 2 ≤ m) (hm2 : m ≤ 1073741824) (ha : 0 ≤ a) (ha2 : a < m) (hb : 0 ≤ b) (hb2 : b < m) (r : Int) (hr : (a + b) % m = r) (W : World) : Calls Try.prog 19 #[.int .i64 m, .int .i64 a, .int .i64 b] W fun e W' => e = .returned (.int .i64 r) ∧ W' = W := by
  have HR : Hid ((a + b) % m = r) := hr
  have h0 : ¬ m = 0 := by omega
  have ht : (a + b).tmod m = r := by rw [md_tm _ _ (by omega), hr]
  have hr0 : 0 ≤ r := by rw [← hr]; exact Int.emod_nonneg _ h0
  have hr1 : r < m := by rw [← hr]; exact Int.emod_lt_of_pos _ (by omega)
  go_enter Try.func19, Try.ntmps19
  go_wp2
  go_ret
  exact ⟨ret_i (by first | rfl | omega), rfl⟩
theorem minus_any (m a b : Int) (hm : 2 ≤ m) (hm2 : m ≤ 1073741824) (ha : 0 ≤ a) (ha2 : a < m) (hb : 0 ≤ b) (hb2 : b < m) (r : Int) (hr : (a - b) % m = r) (W : World) : Calls Try.prog 23 #[.int .i64 m, .int .i64 a, .int .i64 b] W fun e W' => e = .returned (.int .i64 r) ∧ W' = W := by
  have hr' : (a + m - b) % m = r := by rw [← hr, show a + m - b = (a - b) + m by omega, md_m]
  have h0 : ¬ m = 0 := by omega
  have ht : (a + m - b).tmod m = r := by rw [md_tm _ _ (by omega), hr']
  have hr0 : 0 ≤ r := by rw [← hr]; exact Int.emod_nonneg _ h0
  have hr1 : r < m := by rw [← hr]; exact Int.emod_lt_of_pos _ (by omega)
  clear hr
  go_enter Try.func23, Try.ntmps23
  go_wp2
  go_ret
  exact ⟨ret_i (by first | rfl | omega), rfl⟩
theorem mod_any (n m : Int) (hm : 2 ≤ m) (hm2 : m ≤ 1073741824) (r : Int) (hr : n % m = r) (W : World) : Calls Try.prog 13 #[.int .i64 n, .int .i64 m] W fun e W' => e = .returned (.int .i64 r) ∧ W' = W := by
  have h0 : ¬ m = 0 := by omega
  obtain ⟨t, ht⟩ : ∃ t, n.tmod m = t := ⟨_, rfl⟩
  have ht1 : -1073741824 ≤ t ∧ t ≤ 1073741824 := by
    have h1 := Int.lt_tmod_of_pos n (show 0 < m by omega)
    have h2 := Int.tmod_lt_of_pos n (show 0 < m by omega)
    omega
  have hr' : (t + m).tmod m = r := by rw [← ht, md_mod _ _ hm, hr]
  have hr0 : 0 ≤ r := by rw [← hr]; exact Int.emod_nonneg _ h0
  have hr1 : r < m := by rw [← hr]; exact Int.emod_lt_of_pos _ (by omega)
  have hwt : IntKind.i64.wrap (n.tmod m) = t := by rw [ht, IntKind.wrap_i64]; omega
  clear hr
  go_enter Try.func13, Try.ntmps13
  go_wp2
  go_ret
  exact ⟨ret_i (by first | rfl | omega), rfl⟩
theorem wrong_any (m n : Int) (r : Int) (hr : tmE m n = r) (W : World) : Calls Try.prog 15 #[.int .i64 m, .int .i64 n] W fun e W' => e = .returned (.int .i64 r) ∧ W' = W := by
  by_cases c1 : m < 2
  · obtain rfl : 3 = r := by rw [← hr, tmE, if_pos (.inl c1)]
    clear hr
    go_enter Try.func15, Try.ntmps15
    go_wp2
    go_ret
    exact ⟨rfl, rfl⟩
  · by_cases c2 : m > 1073741824
    · obtain rfl : 3 = r := by rw [← hr, tmE, if_pos (.inr c2)]
      clear hr
      go_enter Try.func15, Try.ntmps15
      go_wp2
      go_ret
      exact ⟨rfl, rfl⟩
    · by_cases c3 : n < 1
      · obtain rfl : 5 = r := by rw [← hr, tmE, if_neg (by omega), if_pos (.inl c3)]
        clear hr
        go_enter Try.func15, Try.ntmps15
        go_wp2
        go_ret
        exact ⟨rfl, rfl⟩
      · by_cases c4 : n > 16
        · obtain rfl : 5 = r := by rw [← hr, tmE, if_neg (by omega), if_pos (.inr c4)]
          clear hr
          go_enter Try.func15, Try.ntmps15
          go_wp2
          go_ret
          exact ⟨rfl, rfl⟩
        · obtain rfl : 0 = r := by rw [← hr, tmE, if_neg (by omega), if_neg (by omega)]
          clear hr
          go_enter Try.func15, Try.ntmps15
          go_wp2
          go_ret
          exact ⟨rfl, rfl⟩
theorem team_any (m n : Int) (r : Int) (hr : tmE m n = r) (W : World) : Calls Try.prog 20 #[.int .i64 m, .int .i64 n] W fun e W' => e = .returned (.int .i64 r) ∧ W' = W := by
  by_cases c1 : m < 2
  · obtain rfl : 3 = r := by rw [← hr, tmE, if_pos (.inl c1)]
    clear hr
    go_enter Try.func20, Try.ntmps20
    go_wp2
    go_ret
    exact ⟨rfl, rfl⟩
  · by_cases c2 : m > 1073741824
    · obtain rfl : 3 = r := by rw [← hr, tmE, if_pos (.inr c2)]
      clear hr
      go_enter Try.func20, Try.ntmps20
      go_wp2
      go_ret
      exact ⟨rfl, rfl⟩
    · by_cases c3 : n < 1
      · obtain rfl : 5 = r := by rw [← hr, tmE, if_neg (by omega), if_pos (.inl c3)]
        clear hr
        go_enter Try.func20, Try.ntmps20
        go_wp2
        go_ret
        exact ⟨rfl, rfl⟩
      · by_cases c4 : n > 16
        · obtain rfl : 5 = r := by rw [← hr, tmE, if_neg (by omega), if_pos (.inr c4)]
          clear hr
          go_enter Try.func20, Try.ntmps20
          go_wp2
          go_ret
          exact ⟨rfl, rfl⟩
        · obtain rfl : 0 = r := by rw [← hr, tmE, if_neg (by omega), if_neg (by omega)]
          clear hr
          go_enter Try.func20, Try.ntmps20
          go_wp2
          go_ret
          exact ⟨rfl, rfl⟩
/-- unfit -/
def unE (m n x : Int) (l : Nat) : Int := if (l : Int) = n then (if inM m x then 0 else 3) else 8
theorem unfit_any (m n x : Int) (a : Option Addr) (l c : Nat) (r : Int) (hr : unE m n x l = r) (W : World) : Calls Try.prog 21 #[.int .i64 m, .int .i64 n, .int .i64 x, .slice a l c] W fun e W' => e = .returned (.int .i64 r) ∧ W' = W := by
  obtain ⟨q, hq⟩ : ∃ q, inM m x = q := ⟨_, rfl⟩
  have kb := below_any x m q hq W
  by_cases c1 : (l : Int) = n
  · rw [unE, if_pos c1, hq] at hr
    have z1 : ((l : Int) != n) = false := by simp [c1]
    subst c1
    clear hq
    cases q with
    | true =>
      obtain rfl : 0 = r := hr
      go_enter Try.func21, Try.ntmps21
      go_wp2_with fail
      refine kb.mono ?_
      rintro e w1 ⟨rfl, rfl⟩
      go_wp2
      go_ret
      exact ⟨rfl, rfl⟩
    | false =>
      obtain rfl : 3 = r := hr
      go_enter Try.func21, Try.ntmps21
      go_wp2_with fail
      refine kb.mono ?_
      rintro e w1 ⟨rfl, rfl⟩
      go_wp2
      go_ret
      exact ⟨rfl, rfl⟩
  · obtain rfl : 8 = r := by rw [← hr, unE, if_neg c1]
    have z1 : ((l : Int) != n) = true := by simp [c1]
    clear hr kb hq
    go_enter Try.func21, Try.ntmps21
    go_wp2
    go_ret
    exact ⟨rfl, rfl⟩
theorem yes_any (k : Int) (W : World) : Calls Try.prog 18 #[.int .i64 k] W fun e W' => e = .returned (.bool true) ∧ W' = W := by
  go_enter Try.func18, Try.ntmps18
  go_wp2
  go_ret
  exact ⟨rfl, rfl⟩
/-- what Sum knows in its closure: who is there -/
structure Thr (W : World) (B b : Nat) (v : Value) (ts : List Bool) : Prop where
  box : W.cell? ⟨b, 0, none⟩ = some v
  is : Bls W B v ts
theorem away_any (B b : Nat) (v : Value) (ts : List Bool) (W : World) (h : Thr W B b v ts) (k : Nat) (hk : k < ts.length) (r : Bool) (hr : away ts k = r) : Calls Try.prog 22 #[.int .i64 (k : Int), .pointer (some ⟨b, 0, none⟩)] W fun e W' => e = .returned (.bool r) ∧ W' = W := by
  obtain ⟨b', o, c, x, rfl, hc, hb, hx, hcx⟩ := h.is.get hk
  have h1 := h.box
  have z1 : (k : Int) < (ts.length : Int) := by omega
  obtain rfl : (!x) = r := by rw [← hr, away, gb_get hx]
  clear h hr hx
  go_enter Try.func22, Try.ntmps22
  go_wp2
  go_ret
  exact ⟨rfl, rfl⟩
end Go.Proofs.Ytgmhhfipniiboaa

import Derived.Test.YtfofdbcmaokkcaaCmp
namespace Go.Proofs.Ytfofdbcmaokkcaa
open Go.RowKit

/-- The value of what is told. -/
abbrev rv (n m : Int) : Value := .agg #[.int .i64 n, .int .i64 m]

set_option maxHeartbeats 400000 in
theorem rmake_any (u d n m e : Int) (hu : u ≤ 9223372036854775807) (hd : d ≤ 9223372036854775807) (h : Rt.mkT u d = (n, m, e)) (w : World) :
    Calls Try.prog 51 #[.int .i64 u, .int .i64 d] w fun x w' => x = .returned (.tuple #[rv n m, .int .i64 e]) ∧ Below w.heap.size w w' := by
  have H : Hid (Rt.mkT u d = (n, m, e)) := h
  clear h
  by_cases c1 : u < 0
  · have hr : (0, 0, 3) = (n, m, e) := by rw [← H.out]; unfold Rt.mkT; rw [if_pos (.inl c1)]
    simp only [Prod.mk.injEq] at hr
    obtain ⟨rfl, rfl, rfl⟩ := hr
    go_enter Try.func51, Try.ntmps51
    go_wp2
    exact bodyPost_ret (v := .tuple #[rv 0 0, .int .i64 3]) (by simp [results, Try.results51, go_sem]) rfl ⟨rfl, ba _ _⟩
  by_cases c2 : d < 1
  · have hr : (0, 0, 3) = (n, m, e) := by rw [← H.out]; unfold Rt.mkT; rw [if_pos (.inr c2)]
    simp only [Prod.mk.injEq] at hr
    obtain ⟨rfl, rfl, rfl⟩ := hr
    go_enter Try.func51, Try.ntmps51
    go_wp2
    exact bodyPost_ret (v := .tuple #[rv 0 0, .int .i64 3]) (by simp [results, Try.results51, go_sem]) rfl ⟨rfl, ba _ _⟩
  have hm := Rt.mkT_of u d n m e (by omega) (by omega) H.out
  clear H
  obtain ⟨x, rfl⟩ := Int.eq_ofNat_of_zero_le (show 0 ≤ u by omega)
  obtain ⟨y, rfl⟩ := Int.eq_ofNat_of_zero_le (show 0 ≤ d by omega)
  rw [show Int.gcd (x : Int) (y : Int) = Nat.gcd x y from rfl] at hm
  have hg1 : 1 ≤ Nat.gcd x y := Nat.gcd_pos_of_pos_right _ (by omega)
  have hg2 : Nat.gcd x y ≤ y := Nat.gcd_le_right _ (by omega)
  have q1 : 0 ≤ (x : Int) / (Nat.gcd x y : Nat) := Int.ediv_nonneg (by omega) (by omega)
  have q2 : 0 ≤ (y : Int) / (Nat.gcd x y : Nat) := Int.ediv_nonneg (by omega) (by omega)
  have q3 : (x : Int) / (Nat.gcd x y : Nat) ≤ 9223372036854775807 := Int.le_trans (Int.ediv_le_self _ (by omega)) hu
  have q4 : (y : Int) / (Nat.gcd x y : Nat) ≤ 9223372036854775807 := Int.le_trans (Int.ediv_le_self _ (by omega)) hd
  rcases hm with ⟨hc, rfl, rfl, rfl⟩ | ⟨hc1, hc2, rfl, rfl, rfl⟩
  · have hc' : 1073741824 < (x : Int) / (Nat.gcd x y : Nat) ∨ ((x : Int) / (Nat.gcd x y : Nat) ≤ 1073741824 ∧ 1073741824 < (y : Int) / (Nat.gcd x y : Nat)) := by omega
    clear hc
    rcases hc' with hc1 | ⟨hc1, hc2⟩
    all_goals
      go_enter Try.func51, Try.ntmps51
      go_wp2_with (go_at_call 38; refine (divisor_any _ _ (by omega) (by omega) _).mono ?_; rintro e w' ⟨rfl, hbl⟩)
      obtain ⟨hcell, hfroz⟩ := bcell hbl
      generalize Nat.gcd x y = g at *
      have hz : w.heap.size < w'.heap.size := by have := hbl.size; simp at this; omega
      go_region
      go_wp2
      exact bodyPost_ret (v := .tuple #[rv 0 0, .int .i64 4]) (by simp [results, Try.results51, go_sem, hcell, hz]) rfl ⟨rfl, (bal (bs (bs (bt (ba _ _) hbl) (Nat.le_refl _) _) (Nat.le_refl _) _) _).drew⟩
  · go_enter Try.func51, Try.ntmps51
    go_wp2_with (go_at_call 38; refine (divisor_any _ _ (by omega) (by omega) _).mono ?_; rintro e w' ⟨rfl, hbl⟩)
    obtain ⟨hcell, hfroz⟩ := bcell hbl
    have hz : w.heap.size < w'.heap.size := by have := hbl.size; simp at this; omega
    go_region
    go_wp2
    exact bodyPost_ret (v := .tuple #[rv (x / (Nat.gcd x y : Nat)) (y / (Nat.gcd x y : Nat)), .int .i64 0]) (by simp [results, Try.results51, go_sem, hcell, hz]) rfl ⟨rfl, (bal (bs (bs (bt (ba _ _) hbl) (Nat.le_refl _) _) (Nat.le_refl _) _) _).drew⟩
end Go.Proofs.Ytfofdbcmaokkcaa

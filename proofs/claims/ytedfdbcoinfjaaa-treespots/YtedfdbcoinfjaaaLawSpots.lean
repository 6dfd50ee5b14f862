import Derived.Test.YtedfdbcoinfjaaaTrs
import Derived.Test.YtedfdbcoinfjaaaTrp
import Derived.Test.YtedfdbcoinfjaaaTss
namespace Go.Proofs.Ytedfdbcoinfjaaa
open Go.RowKit Go.Proofs.Ytedfdbcoinfjaaa.Ds

def spR (h t : Int) : List Sp × Int := if 0 ≤ h ∧ h ≤ 10 ∧ 0 ≤ t ∧ t < ((2 ^ h.toNat : Nat) : Int) then (spT t.toNat (h.toNat + 1), 0) else ([], 3)
theorem spR_bad {h t : Int} (hb : ¬ (0 ≤ h ∧ h ≤ 10) ∨ (∃ k : Nat, h = k ∧ k ≤ 10 ∧ (t < 0 ∨ ((2 ^ k : Nat) : Int) ≤ t))) : spR h t = ([], 3) := by
  unfold spR
  rw [if_neg]
  rintro ⟨h1, h2, h3, h4⟩
  rcases hb with hb | ⟨k, rfl, hk, hb⟩
  · exact hb ⟨h1, h2⟩
  · rw [Int.toNat_natCast] at h4
    omega
theorem spR_ok {h t : Nat} (hh : h ≤ 10) (ht : t < 2 ^ h) : spR h t = (spT t (h + 1), 0) := by
  unfold spR
  rw [Int.toNat_natCast, Int.toNat_natCast, if_pos ⟨by omega, by omega, by omega, by exact_mod_cast ht⟩]
theorem spR_cases (h t : Int) : (¬ (0 ≤ h ∧ h ≤ 10) ∨ (∃ k : Nat, h = k ∧ k ≤ 10 ∧ (t < 0 ∨ ((2 ^ k : Nat) : Int) ≤ t))) ∨ ∃ k n : Nat, h = k ∧ t = n ∧ k ≤ 10 ∧ n < 2 ^ k := by
  by_cases c : 0 ≤ h ∧ h ≤ 10
  · obtain ⟨k, rfl⟩ := Int.eq_ofNat_of_zero_le c.1
    by_cases c1 : t < 0
    · exact .inl (.inr ⟨k, rfl, by omega, .inl c1⟩)
    · obtain ⟨n, rfl⟩ := Int.eq_ofNat_of_zero_le (show 0 ≤ t by omega)
      by_cases c2 : n < 2 ^ k
      · exact .inr ⟨k, n, rfl, rfl, by omega, c2⟩
      · exact .inl (.inr ⟨k, rfl, by omega, .inr (by exact_mod_cast Nat.le_of_not_lt c2)⟩)
  · exact .inl (.inl c)
def cvR (h t : Int) : List Sp × Int := if 0 ≤ h ∧ h ≤ 10 ∧ 0 ≤ t ∧ t ≤ ((2 ^ h.toNat : Nat) : Int) then (cov h.toNat t.toNat, 0) else ([], 3)
theorem cvR_bad {h t : Int} (hb : ¬ (0 ≤ h ∧ h ≤ 10) ∨ (∃ k : Nat, h = k ∧ k ≤ 10 ∧ (t < 0 ∨ ((2 ^ k : Nat) : Int) < t))) : cvR h t = ([], 3) := by
  unfold cvR
  rw [if_neg]
  rintro ⟨h1, h2, h3, h4⟩
  rcases hb with hb | ⟨k, rfl, hk, hb⟩
  · exact hb ⟨h1, h2⟩
  · rw [Int.toNat_natCast] at h4
    omega
theorem cvR_ok {h t : Nat} (hh : h ≤ 10) (ht : t ≤ 2 ^ h) : cvR h t = (cov h t, 0) := by
  unfold cvR
  rw [Int.toNat_natCast, Int.toNat_natCast, if_pos ⟨by omega, by omega, by omega, by exact_mod_cast ht⟩]
theorem cvR_cases (h t : Int) : (¬ (0 ≤ h ∧ h ≤ 10) ∨ (∃ k : Nat, h = k ∧ k ≤ 10 ∧ (t < 0 ∨ ((2 ^ k : Nat) : Int) < t))) ∨ ∃ k n : Nat, h = k ∧ t = n ∧ k ≤ 10 ∧ n ≤ 2 ^ k := so_cases h t
theorem spR_len {h t : Int} {l : List Sp} {er : Int} (hr : spR h t = (l, er)) : l.length ≤ 1048576 := by
  rcases spR_cases h t with hb | ⟨k, n, rfl, rfl, hk, hn⟩
  · rw [spR_bad hb] at hr
    simp only [Prod.mk.injEq] at hr
    obtain ⟨rfl, rfl⟩ := hr
    simp
  · rw [spR_ok hk hn] at hr
    simp only [Prod.mk.injEq] at hr
    obtain ⟨rfl, rfl⟩ := hr
    rw [spT_len]; omega
theorem cvR_len {h t : Int} {l : List Sp} {er : Int} (hr : cvR h t = (l, er)) : l.length ≤ 1048576 := by
  rcases cvR_cases h t with hb | ⟨k, n, rfl, rfl, hk, hn⟩
  · rw [cvR_bad hb] at hr
    simp only [Prod.mk.injEq] at hr
    obtain ⟨rfl, rfl⟩ := hr
    simp
  · rw [cvR_ok hk hn] at hr
    simp only [Prod.mk.injEq] at hr
    obtain ⟨rfl, rfl⟩ := hr
    have := (cov_gre hn).2.2
    omega
theorem spots_any (h t : Int) (l : List Sp) (er : Int) (hr : spR h t = (l, er)) (w : World) : Calls Try.prog 5 #[.int .i64 h, .int .i64 t] w fun e w' => ∃ v, e = .returned (.tuple #[v, .int .i64 er]) ∧ w'.ownsRow w.heap.size 37 2 v l.length (encP l) ∧ Below w.heap.size w w' := by
  rcases spR_cases h t with hb | ⟨k, n, rfl, rfl, hk, hn⟩
  · rw [spR_bad hb] at hr
    simp only [Prod.mk.injEq] at hr
    obtain ⟨rfl, rfl⟩ := hr
    refine (spots_bad h t hb w).mono ?_
    rintro e w1 ⟨rfl, rfl⟩
    exact ⟨_, rfl, ⟨rfl, .inl ⟨rfl, rfl⟩⟩, Below.refl _ _⟩
  · rw [spR_ok hk hn] at hr
    simp only [Prod.mk.injEq] at hr
    obtain ⟨rfl, rfl⟩ := hr
    refine (spots_ok k n hk hn w).mono ?_
    rintro e w1 ⟨v, rfl, h1, h2⟩
    exact ⟨v, rfl, by rw [spT_len]; exact h1, h2⟩
theorem rspots_any (h t : Int) (l : List Sp) (er : Int) (hr : spR h t = (l, er)) (w : World) : Calls Try.prog 6 #[.int .i64 h, .int .i64 t] w fun e w' => ∃ v, e = .returned (.tuple #[v, .int .i64 er]) ∧ w'.ownsRow w.heap.size 37 2 v l.length (encP l) ∧ Below w.heap.size w w' := by
  rcases spR_cases h t with hb | ⟨k, n, rfl, rfl, hk, hn⟩
  · rw [spR_bad hb] at hr
    simp only [Prod.mk.injEq] at hr
    obtain ⟨rfl, rfl⟩ := hr
    refine (rspots_bad h t hb w).mono ?_
    rintro e w1 ⟨rfl, rfl⟩
    exact ⟨_, rfl, ⟨rfl, .inl ⟨rfl, rfl⟩⟩, Below.refl _ _⟩
  · rw [spR_ok hk hn] at hr
    simp only [Prod.mk.injEq] at hr
    obtain ⟨rfl, rfl⟩ := hr
    refine (rspots_ok k n hk hn w).mono ?_
    rintro e w1 ⟨v, rfl, h1, h2⟩
    exact ⟨v, rfl, by rw [spT_len]; exact h1, h2⟩
theorem cover_any (h t : Int) (l : List Sp) (er : Int) (hr : cvR h t = (l, er)) (w : World) : Calls Try.prog 8 #[.int .i64 h, .int .i64 t] w fun e w' => ∃ v, e = .returned (.tuple #[v, .int .i64 er]) ∧ w'.ownsRow w.heap.size 37 2 v l.length (encP l) ∧ Below w.heap.size w w' := by
  rcases cvR_cases h t with hb | ⟨k, n, rfl, rfl, hk, hn⟩
  · rw [cvR_bad hb] at hr
    simp only [Prod.mk.injEq] at hr
    obtain ⟨rfl, rfl⟩ := hr
    refine (cover_bad h t hb w).mono ?_
    rintro e w1 ⟨rfl, rfl⟩
    exact ⟨_, rfl, ⟨rfl, .inl ⟨rfl, rfl⟩⟩, Below.refl _ _⟩
  · rw [cvR_ok hk hn] at hr
    simp only [Prod.mk.injEq] at hr
    obtain ⟨rfl, rfl⟩ := hr
    refine (cover_ok k n hk hn w).mono ?_
    rintro e w1 ⟨v, rfl, h1, h2⟩
    exact ⟨v, rfl, h1, h2⟩
theorem rcover_any (h t : Int) (l : List Sp) (er : Int) (hr : cvR h t = (l, er)) (w : World) : Calls Try.prog 9 #[.int .i64 h, .int .i64 t] w fun e w' => ∃ v, e = .returned (.tuple #[v, .int .i64 er]) ∧ w'.ownsRow w.heap.size 37 2 v l.length (encP l) ∧ Below w.heap.size w w' := by
  rcases cvR_cases h t with hb | ⟨k, n, rfl, rfl, hk, hn⟩
  · rw [cvR_bad hb] at hr
    simp only [Prod.mk.injEq] at hr
    obtain ⟨rfl, rfl⟩ := hr
    refine (rcover_bad h t hb w).mono ?_
    rintro e w1 ⟨rfl, rfl⟩
    exact ⟨_, rfl, ⟨rfl, .inl ⟨rfl, rfl⟩⟩, Below.refl _ _⟩
  · rw [cvR_ok hk hn] at hr
    simp only [Prod.mk.injEq] at hr
    obtain ⟨rfl, rfl⟩ := hr
    refine (rcover_ok k n hk hn w).mono ?_
    rintro e w1 ⟨v, rfl, h1, h2⟩
    exact ⟨v, rfl, h1, h2⟩

set_option maxRecDepth 100000 in
set_option maxHeartbeats 2000000 in
theorem treeSpots_walk (B : Nat) (h t : Int) (v : Value) (ts : List Rw) (w : World) (hB : B ≤ w.heap.size) (hr : Rws w B v ts) : Calls Try.prog 3 #[.int .i64 h, .int .i64 t, v] w fun e w' => e = .returned (.bool true) ∧ Below w.heap.size w w' := by
  obtain ⟨l1, e1, h1⟩ : ∃ l er, spR h t = (l, er) := ⟨_, _, rfl⟩
  obtain ⟨l2, e2, h2⟩ : ∃ l er, cvR h t = (l, er) := ⟨_, _, rfl⟩
  obtain ⟨n, e3, h3⟩ : ∃ l er, soR h t (rr ts) = (l, er) := ⟨_, _, rfl⟩
  have HRW : Hid (Rws w B v ts) := hr
  obtain ⟨a, c, rfl, hc, hl⟩ := hr.slice
  have k1 := fun W => spots_any h t l1 e1 h1 W
  have k2 := fun W => rspots_any h t l1 e1 h1 W
  have k3 := fun W => cover_any h t l2 e2 h2 W
  have k4 := fun W => rcover_any h t l2 e2 h2 W
  have k5 := fun W hb2 hr2 => so_any B (.slice a ts.length c) ts h t W hb2 hr2 n e3 h3
  have k6 := fun W hb2 hr2 => rso_any B (.slice a ts.length c) ts h t W hb2 hr2 n e3 h3
  have hl1 := spR_len h1
  have hl2 := cvR_len h2
  clear h1 h2 h3 hr
  go_enter Try.func3, Try.ntmps3
  go_wp2_with fail
  refine (k1 _).mono ?_
  rintro x1 w1 ⟨u1, rfl, r1, b1⟩
  go_wp2_with fail
  refine (k2 _).mono ?_
  rintro x2 w2 ⟨u2, rfl, r2, b2⟩
  have ks := sameSpots_any _ _ u1 u2 l1 w2 (row_gb r1 (gb_none b2) (by simp)) r2 hl1
  obtain ⟨a1, c1, rfl⟩ := row_slice r1
  obtain ⟨a2, c2, rfl⟩ := row_slice r2
  clear k1 k2 r1 r2
  go_wp2_with fail
  refine ks.mono ?_
  rintro x3 w3 ⟨rfl, b3⟩
  clear ks
  go_wp2_with fail
  refine (k3 _).mono ?_
  rintro x4 w4 ⟨u4, rfl, r4, b4⟩
  go_wp2_with fail
  refine (k4 _).mono ?_
  rintro x5 w5 ⟨u5, rfl, r5, b5⟩
  have ks := sameSpots_any _ _ u4 u5 l2 w5 (row_gb r4 (gb_none b5) (by simp)) r5 hl2
  obtain ⟨a4, c4, rfl⟩ := row_slice r4
  obtain ⟨a5, c5, rfl⟩ := row_slice r5
  clear k3 k4 r4 r5
  go_wp2_with fail
  refine ks.mono ?_
  rintro x6 w6 ⟨rfl, b6⟩
  clear ks
  have B6 : Below w.heap.size w w6 := bt (bt (bt (bt (bt b1 b2) b3) b4) b5) b6
  have s6 := B6.size
  go_wp2_with fail
  refine (k5 _ (by omega) (HRW.out.at hB B6)).mono ?_
  rintro x7 w7 ⟨rfl, b7⟩
  have B7 : Below w.heap.size w w7 := bt B6 b7
  have s7 := B7.size
  go_wp2_with fail
  refine (k6 _ (by omega) (HRW.out.at hB B7)).mono ?_
  rintro x8 w8 ⟨rfl, b8⟩
  have B8 : Below w.heap.size w w8 := bt B7 b8
  clear k5 k6
  go_wp2
  go_ret
  exact ⟨by simp, B8⟩
end Go.Proofs.Ytedfdbcoinfjaaa

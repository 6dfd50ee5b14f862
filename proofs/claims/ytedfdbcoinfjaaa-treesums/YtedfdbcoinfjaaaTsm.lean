import Derived.Test.YtedfdbcoinfjaaaTso
namespace Go.Proofs.Ytedfdbcoinfjaaa
open Go.RowKit Go.Proofs.Ytedfdbcoinfjaaa.Ds

/-- what the first i items make -/
def sm (xs : List Int) (i : Nat) : Int := (xs.take i).sum
def Ibd (xs : List Int) : Prop := ∀ (i : Nat) (x : Int), xs[i]? = some x → 0 ≤ x ∧ x ≤ 1000
theorem sm_zero (xs : List Int) : sm xs 0 = 0 := by simp [sm]
theorem sm_succ {xs : List Int} {i : Nat} {x : Int} (h : xs[i]? = some x) : sm xs (i + 1) = sm xs i + x := by
  unfold sm
  rw [List.take_add_one, h]
  simp
theorem sm_over {xs : List Int} {i : Nat} (h : xs.length ≤ i) : sm xs (i + 1) = sm xs i := by
  unfold sm
  rw [List.take_of_length_le h, List.take_of_length_le (by omega)]
theorem sm_step {xs : List Int} (hb : Ibd xs) (i : Nat) : sm xs i ≤ sm xs (i + 1) ∧ sm xs (i + 1) ≤ sm xs i + 1000 := by
  by_cases c : i < xs.length
  · obtain ⟨x, hx⟩ := get_lt c
    have := hb i x hx
    rw [sm_succ hx]; omega
  · rw [sm_over (by omega)]; omega
theorem sm_bd {xs : List Int} (hb : Ibd xs) : ∀ i : Nat, 0 ≤ sm xs i ∧ sm xs i ≤ 1000 * (i : Int)
  | 0 => by rw [sm_zero]; simp
  | i + 1 => by
    have h1 := sm_bd hb i
    have h2 := sm_step hb i
    rw [Int.natCast_add]
    omega
theorem sm_mono {xs : List Int} (hb : Ibd xs) (i : Nat) : ∀ d, sm xs i ≤ sm xs (i + d)
  | 0 => Int.le_refl _
  | d + 1 => Int.le_trans (sm_mono hb i d) (sm_step hb (i + d)).1
theorem sm_sub {xs : List Int} (hb : Ibd xs) {i j : Nat} (h : i ≤ j) : 0 ≤ sm xs j - sm xs i ∧ sm xs j - sm xs i ≤ 1000 * (j : Int) := by
  obtain ⟨d, rfl⟩ := Nat.exists_eq_add_of_le h
  have h1 := sm_mono hb i d
  have h2 := sm_bd hb (i + d)
  have h3 := sm_bd hb i
  omega
/-- the sums, one behind the other -/
def sumL (xs : List Int) (j : Nat) : List Int := (List.range j).map (sm xs)
theorem sumL_succ (xs : List Int) (j : Nat) : sumL xs (j + 1) = sumL xs j ++ [sm xs j] := by simp [sumL, List.range_succ]
theorem sumL_one (xs : List Int) : sumL xs 1 = [0] := by simp [sumL, sm_zero]
theorem sumL_get {xs : List Int} {i j : Nat} (h : i < j) : (sumL xs j)[i]? = some (sm xs i) := by simp [sumL, h]
theorem sumL_len (xs : List Int) (j : Nat) : (sumL xs j).length = j := by simp [sumL]
/-- what is told at a step: the true count of each node that ends there -/
def rowL (xs : List Int) (t k : Nat) : List Int := (List.range k).map fun i => sm xs t - sm xs (t - 2 ^ i)
theorem rowL_succ (xs : List Int) (t k : Nat) : rowL xs t (k + 1) = rowL xs t k ++ [sm xs t - sm xs (t - 2 ^ k)] := by simp [rowL, List.range_succ]
theorem rowL_get {xs : List Int} {t i k : Nat} (h : i < k) : (rowL xs t k)[i]? = some (sm xs t - sm xs (t - 2 ^ i)) := by simp [rowL, h]
theorem rowL_len (xs : List Int) (t k : Nat) : (rowL xs t k).length = k := by simp [rowL]
def Rok (h : Nat) (xs : List Int) (t : Nat) (r : List Int) : Prop := ∃ m, r = rowL xs t m ∧ ¬ (m ≤ h ∧ 2 ^ m ∣ t)
theorem rowL_good {xs : List Int} (hb : Ibd xs) {t : Nat} (ht : t ≤ 1024) (k : Nat) : (rowL xs t k).any badB = false := by
  rw [List.any_eq_false]
  intro x hx
  obtain ⟨i, _, rfl⟩ := List.mem_map.1 hx
  have := sm_sub hb (Nat.sub_le t (2 ^ i))
  simp [badB]
  omega
theorem toT_row {h : Nat} {xs : List Int} (hb : Ibd xs) {tt : List (List Int)} {s : Sp} {e : Nat} {r : List Int} (he : (s.2 + 1) * 2 ^ s.1 = e) (ht : e ≤ 1024) (hr : tt[e - 1]? = some r) (hok : Rok h xs e r) (hs : s.1 ≤ h) : toT tt s = some (sm xs e - sm xs (e - 2 ^ s.1)) := by
  obtain ⟨m, rfl, hm⟩ := hok
  have hlt : s.1 < m := by
    rcases Nat.lt_or_ge s.1 m with c | c
    · exact c
    · exact absurd ⟨by omega, Nat.dvd_trans (Nat.pow_dvd_pow 2 c) ⟨s.2 + 1, by rw [← he, Nat.mul_comm]⟩⟩ hm
  rw [toT_some (xs := rowL xs e m) (by rw [he]; exact hr), rowL_len, rowL_good hb ht, if_neg (by simp; omega), List.getD, rowL_get hlt]
  rfl
theorem so_sum {h t : Nat} {xs : List Int} (hh : h ≤ 10) (ht : t ≤ 2 ^ h) (hb : Ibd xs) {tt : List (List Int)} (hl : t ≤ tt.length) (hok : ∀ i r, tt[i]? = some r → Rok h xs (i + 1) r) :
    ∀ d i, (cov h t).length = i + d → soA tt ((cov h t).drop i) (sm xs (endT ((cov h t).take i))) = (sm xs t, 0)
  | 0, i, hd => by
    rw [List.drop_eq_nil_of_le (by omega), List.take_of_length_le (by omega), (cov_gre ht).2.1]
    rfl
  | d + 1, i, hd => by
    obtain ⟨s, hs⟩ := get_lt (show i < (cov h t).length by omega)
    obtain ⟨a1, a2, a3, a4, a5, a6, a7⟩ := cov_at hh ht hs
    have hs1 := ((cov_gre ht).1 i s hs).2.1
    obtain ⟨e, he⟩ : ∃ e, (s.2 + 1) * 2 ^ s.1 = e := ⟨_, rfl⟩
    rw [he] at a4 a5 a7
    obtain ⟨r, hr⟩ := get_lt (show e - 1 < tt.length by omega)
    have hok1 := hok (e - 1) r hr
    rw [show e - 1 + 1 = e by omega] at hok1
    have h1 := toT_row hb he (by omega) hr hok1 hs1
    rw [soA_some hs h1]
    have h2 : e - 2 ^ s.1 = endT ((cov h t).take i) := by
      rw [a7, end_take_succ hs]; omega
    rw [h2, show sm xs (endT ((cov h t).take i)) + (sm xs e - sm xs (endT ((cov h t).take i))) = sm xs (endT ((cov h t).take (i + 1))) by rw [← a7]; omega]
    exact so_sum hh ht hb hl hok d (i + 1) (by omega)
theorem so_sums {h t : Nat} {xs : List Int} (hh : h ≤ 10) (ht : t ≤ 2 ^ h) (hb : Ibd xs) {tt : List (List Int)} (hl : t ≤ tt.length) (hok : ∀ i r, tt[i]? = some r → Rok h xs (i + 1) r) : soR h t tt = (sm xs t, 0) := by
  rw [soR_ok hh ht, if_neg (by omega)]
  have := so_sum hh ht hb hl hok (cov h t).length 0 (by omega)
  simpa [sm_zero, endT] using this
end Go.Proofs.Ytedfdbcoinfjaaa

import Derived.Test.YtjembpcpefgdpaaDoorQc01
import Derived.Test.YtjembpcpefgdpaaDoorQc02
namespace Go.Proofs.YtjembpcpefgdpaaDoor
open Go.Proofs.YtjembpcpefgdpaaDoor.Ds

/-! ### WHAT CHAPTER 6 SAYS, ON LISTS -/
/-- what is wrong with a loss -/
def lossE (u d : Int) : Int := if Rt.rightB u d = true then (if u < d then 3 else 0) else 2
/-- d, k times, times u, R - k times -/
def gk (u d : Int) (R k : Nat) : Int := d ^ k * u ^ (R - k)
/-- what a place weighs: i steps above the lowest one, where the number is a steps above it -/
def hwt (u d : Int) (R a i : Nat) : Int := gk u d R (i - a + (a - i)) * (if i = 0 ∨ i = R then u else u - d)
/-- the parts of what may be told -/
def hidL (u d lo : Int) (R a : Nat) : List Pt := (List.range (R + 1)).map fun (i : Nat) => ([lo + (i : Int)], hwt u d R a i)
/-- how far the number lies above the lowest place, brought in -/
def plcT (lo hi n : Int) : Int := min (max n lo) hi
/-- Hide -/
def hideT (u d lo hi n : Int) : List Pt × Int :=
  if lossE u d ≠ 0 then ([], lossE u d)
  else if ¬ (-1073741824 ≤ lo ∧ lo ≤ hi ∧ hi ≤ 1073741824 ∧ hi - lo ≤ 64) then ([], 3)
  else if lo = hi then makeT [([lo], 1)]
  else if 1073741824 < (u + d) * u ^ (hi - lo).toNat then ([], 4)
  else makeT (hidL u d lo (hi - lo).toNat (plcT lo hi n - lo).toNat)
/-- Lost -/
def lostT (u d n : Int) : Int × Int × Int := if lossE u d ≠ 0 then (0, 0, lossE u d) else Rt.powT u d n
/-- the parts of what may be said -/
def resL (u d truth : Int) (many : Nat) : List Pt := (List.range many).map fun (i : Nat) => ([(i : Int)], if (i : Int) = truth then u else d)
/-- Respond -/
def resT (u d many truth : Int) : List Pt × Int :=
  if lossE u d ≠ 0 then ([], lossE u d)
  else if ¬ (1 ≤ many ∧ many ≤ 4096 ∧ 0 ≤ truth ∧ truth < many) then ([], 3)
  else if 1073741824 < u + (many - 1) * d then ([], 4)
  else makeT (resL u d truth many.toNat)

theorem loss_ok {u d : Int} (h : lossE u d = 0) : Rt.rightB u d = true ∧ d ≤ u ∧ 1 ≤ d ∧ u ≤ 1073741824 := by
  unfold lossE at h
  split at h
  · rename_i h1
    have := Rt.right_bd h1
    split at h
    · omega
    · exact ⟨h1, by omega, by omega, by omega⟩
  · omega
theorem loss_bd (u d : Int) : 0 ≤ lossE u d ∧ lossE u d ≤ 3 := by
  unfold lossE; split
  · split <;> omega
  · omega

/-! ### powers -/
theorem pow_pos' {u : Int} (h : 1 ≤ u) (n : Nat) : 1 ≤ u ^ n := by
  have := Int.pow_pos (n := u) (m := n) (by omega)
  omega
theorem pow_mono {u : Int} (h : 1 ≤ u) {n m : Nat} (hnm : n ≤ m) : u ^ n ≤ u ^ m := by
  obtain ⟨k, rfl⟩ := Nat.le.dest hnm
  rw [Int.pow_add]
  have h1 := pow_pos' h n
  have h2 := pow_pos' h k
  have := Int.mul_le_mul_of_nonneg_left h2 (show 0 ≤ u ^ n by omega)
  omega
theorem pow_le {u d : Int} (hd : 0 ≤ d) (h : d ≤ u) (n : Nat) : d ^ n ≤ u ^ n := by
  induction n with
  | zero => simp
  | succ n ih =>
    rw [Int.pow_succ, Int.pow_succ]
    exact Int.mul_le_mul ih h hd (Int.pow_nonneg (by omega))
theorem pow_nn {d : Int} (hd : 0 ≤ d) (n : Nat) : 0 ≤ d ^ n := Int.pow_nonneg hd

/-! ### weights -/
theorem gk_zero (u d : Int) (R : Nat) : gk u d R 0 = u ^ R := by simp [gk]
theorem gk_step (u d : Int) {R k : Nat} (h : k < R) : u * gk u d R (k + 1) = d * gk u d R k := by
  unfold gk
  rw [show R - k = (R - (k + 1)) + 1 from by omega, Int.pow_succ, Int.pow_succ]
  simp only [Int.mul_comm, Int.mul_left_comm, Int.mul_assoc]
theorem gk_far (u d : Int) {R k : Nat} (s : Nat) (h : k + s ≤ R) : u ^ s * gk u d R (k + s) = d ^ s * gk u d R k := by
  induction s with
  | zero => simp
  | succ s ih =>
    have h1 := ih (by omega)
    have h2 := gk_step u d (R := R) (k := k + s) (by omega)
    rw [Int.pow_succ, Int.pow_succ, ← Nat.add_assoc, Int.mul_assoc, h2, ← Int.mul_assoc, Int.mul_right_comm, h1, Int.mul_right_comm]
theorem gk_nn {u d : Int} (hu : 0 ≤ u) (hd : 0 ≤ d) (R k : Nat) : 0 ≤ gk u d R k := Int.mul_nonneg (pow_nn hd _) (pow_nn hu _)
theorem gk_pos {u d : Int} (hu : 1 ≤ u) (hd : 1 ≤ d) (R k : Nat) : 0 < gk u d R k := Int.mul_pos (by have := pow_pos' hd k; omega) (by have := pow_pos' hu (R - k); omega)
theorem gk_anti {u d : Int} (hd : 1 ≤ d) (h : d ≤ u) {R k s : Nat} (hk : k + s ≤ R) : gk u d R (k + s) ≤ gk u d R k := by
  have h1 := gk_far u d s hk
  have h2 := pow_le (show 0 ≤ d by omega) h s
  have h3 := gk_nn (show 0 ≤ u by omega) (show 0 ≤ d by omega) R k
  have h4 : u ^ s * gk u d R (k + s) ≤ u ^ s * gk u d R k := by rw [h1]; exact Int.mul_le_mul_of_nonneg_right h2 h3
  exact Int.le_of_mul_le_mul_left h4 (by have := pow_pos' (show 1 ≤ u by omega) s; omega)

/-- how likely one is against another, as far apart as their places are -/
theorem gk_bd {u d : Int} (hd : 1 ≤ d) (h : d ≤ u) {R k k' f : Nat} (hk : k ≤ R) (hk' : k' ≤ R) (hf : k' ≤ k + f) : gk u d R k * d ^ f ≤ u ^ f * gk u d R k' := by
  have hu : 1 ≤ u := by omega
  by_cases c : k' ≤ k
  · obtain ⟨s, rfl⟩ := Nat.le.dest c
    have h1 := gk_anti hd h (R := R) (k := k') (s := s) hk
    have h2 := pow_le (show 0 ≤ d by omega) h f
    rw [Int.mul_comm (u ^ f)]
    exact Int.mul_le_mul h1 h2 (pow_nn (by omega) _) (gk_nn (by omega) (by omega) _ _)
  · obtain ⟨s, rfl⟩ := Nat.le.dest (show k ≤ k' by omega)
    have h1 := gk_far u d s hk'
    obtain ⟨t, rfl⟩ := Nat.le.dest (show s ≤ f by omega)
    rw [Int.pow_add, Int.pow_add, Int.mul_right_comm, h1, Int.mul_comm (gk u d R k), Int.mul_right_comm (d ^ s) (d ^ t)]
    have h2 := pow_le (show 0 ≤ d by omega) h t
    have h3 : 0 ≤ d ^ s * gk u d R k := Int.mul_nonneg (pow_nn (by omega) _) (gk_nn (by omega) (by omega) _ _)
    exact Int.mul_le_mul_of_nonneg_left h2 h3

/-! ### all weights together -/
def sumR (f : Nat → Int) : Nat → Int
  | 0 => 0
  | n + 1 => sumR f n + f n
theorem tot_range (f : Nat → List Int) (g : Nat → Int) (n : Nat) : tot ((List.range n).map fun i => (f i, g i)) = sumR g n := by
  induction n with
  | zero => rfl
  | succ n ih => rw [List.range_succ, List.map_append, tot_append, ih]; simp [sumR, tot_cons]
theorem hwt_low {u d : Int} {R a : Nat} (ha : a ≤ R) {j : Nat} (hj : j ≤ a) (h : j < R) : sumR (hwt u d R a) (j + 1) = u * gk u d R (a - j) := by
  induction j with
  | zero => simp [sumR, hwt]; rw [Int.mul_comm]
  | succ j ih =>
    have h1 := ih (by omega) (by omega)
    rw [sumR, h1]
    have e1 : hwt u d R a (j + 1) = gk u d R (a - (j + 1)) * (u - d) := by
      unfold hwt
      rw [if_neg (by omega), show j + 1 - a + (a - (j + 1)) = a - (j + 1) from by omega]
    have h2 := gk_step u d (R := R) (k := a - (j + 1)) (by omega)
    rw [show a - (j + 1) + 1 = a - j from by omega] at h2
    rw [e1, h2, Int.mul_sub, Int.mul_comm (gk u d R (a - (j + 1))) u, Int.mul_comm (gk u d R (a - (j + 1))) d]
    omega
theorem hwt_high {u d : Int} {R a : Nat} (ha : a < R) {j : Nat} (hj : a ≤ j) (h : j < R) : sumR (hwt u d R a) (j + 1) = u * gk u d R 0 + d * gk u d R 0 - u * gk u d R (j + 1 - a) := by
  obtain ⟨s, rfl⟩ := Nat.le.dest hj
  clear hj
  induction s with
  | zero =>
    have h1 := hwt_low (u := u) (d := d) (R := R) (a := a) (by omega) (j := a) (Nat.le_refl _) ha
    have h2 := gk_step u d (R := R) (k := 0) (by omega)
    rw [Nat.add_zero, h1, show a + 1 - a = 0 + 1 from by omega, h2, Nat.sub_self]
    omega
  | succ s ih =>
    have h1 := ih (by omega)
    rw [← Nat.add_assoc, sumR, h1]
    have e1 : hwt u d R a (a + s + 1) = gk u d R (s + 1) * (u - d) := by
      unfold hwt
      rw [if_neg (by omega), show a + s + 1 - a + (a - (a + s + 1)) = s + 1 from by omega]
    have h2 := gk_step u d (R := R) (k := s + 1) (by omega)
    rw [e1, show a + s + 1 - a = s + 1 from by omega, show a + s + 1 + 1 - a = s + 1 + 1 from by omega, h2, Int.mul_sub, Int.mul_comm (gk u d R (s + 1)) u, Int.mul_comm (gk u d R (s + 1)) d]
    omega
/-- wherever the number is, all weights together are the same -/
theorem hwt_all {u d : Int} {R a : Nat} (ha : a ≤ R) (hR : 1 ≤ R) : sumR (hwt u d R a) (R + 1) = (u + d) * u ^ R := by
  rw [sumR, ← gk_zero u d R]
  obtain ⟨r, rfl⟩ : ∃ r, R = r + 1 := ⟨R - 1, by omega⟩
  by_cases c : a = r + 1
  · subst c
    have h1 := hwt_low (u := u) (d := d) (R := r + 1) (a := r + 1) (Nat.le_refl _) (j := r) (by omega) (by omega)
    have h2 := gk_step u d (R := r + 1) (k := 0) (by omega)
    rw [h1, show r + 1 - r = 0 + 1 from by omega, h2]
    unfold hwt
    rw [if_pos (.inr rfl), show r + 1 - (r + 1) + (r + 1 - (r + 1)) = 0 from by omega, Int.add_mul, Int.mul_comm (gk u d (r + 1) 0) u]
    omega
  · have h1 := hwt_high (u := u) (d := d) (R := r + 1) (a := a) (by omega) (j := r) (by omega) (by omega)
    rw [h1]
    unfold hwt
    rw [if_pos (.inr rfl), show r + 1 - a + (a - (r + 1)) = r + 1 - a from by omega, Int.add_mul, Int.mul_comm (gk u d (r + 1) (r + 1 - a)) u]
    omega
theorem hid_tot {u d lo : Int} {R a : Nat} (ha : a ≤ R) (hR : 1 ≤ R) : tot (hidL u d lo R a) = (u + d) * u ^ R := by
  unfold hidL
  rw [tot_range (fun i => [lo + (i : Int)]) (hwt u d R a) (R + 1), hwt_all ha hR]
theorem hwt_nn {u d : Int} (hd : 1 ≤ d) (h : d ≤ u) (R a i : Nat) : 0 ≤ hwt u d R a i := by
  unfold hwt
  refine Int.mul_nonneg (gk_nn (by omega) (by omega) _ _) ?_
  split <;> omega
theorem sumR_mem {f : Nat → Int} (h : ∀ i, 0 ≤ f i) : ∀ {n i : Nat}, i < n → f i ≤ sumR f n
  | 0, _, hi => absurd hi (by omega)
  | n + 1, i, hi => by
    rw [sumR]
    have h0 : ∀ m, 0 ≤ sumR f m := by intro m; induction m with
      | zero => simp [sumR]
      | succ m ih => rw [sumR]; have := h m; omega
    by_cases c : i = n
    · subst c; have := h0 i; omega
    · have := sumR_mem h (n := n) (i := i) (by omega); have := h n; omega
theorem hwt_le {u d : Int} (hd : 1 ≤ d) (h : d ≤ u) {R a i : Nat} (ha : a ≤ R) (hR : 1 ≤ R) (hi : i ≤ R) : hwt u d R a i ≤ (u + d) * u ^ R := by
  rw [← hwt_all ha hR]
  exact sumR_mem (hwt_nn hd h R a) (by omega)
theorem res_tot (u d truth : Int) {many : Nat} (h0 : 0 ≤ truth) : tot (resL u d truth many) = if truth < many then u + ((many : Int) - 1) * d else many * d := by
  unfold resL
  rw [tot_range (fun i => [(i : Int)]) (fun i => if (i : Int) = truth then u else d) many]
  induction many with
  | zero => simp [sumR]; omega
  | succ n ih =>
    rw [sumR, ih]
    by_cases c1 : truth < n
    · rw [if_pos c1, if_neg (by omega), if_pos (by omega)]
      rw [show ((n + 1 : Nat) : Int) - 1 = (n : Int) from by omega, Int.sub_mul]; omega
    · by_cases c2 : (n : Int) = truth
      · rw [if_neg c1, if_pos c2, if_pos (by omega), show ((n + 1 : Nat) : Int) - 1 = (n : Int) from by omega]; omega
      · rw [if_neg c1, if_neg c2, if_neg (by omega)]
        rw [Int.natCast_add, Int.add_mul]; simp
end Go.Proofs.YtjembpcpefgdpaaDoor

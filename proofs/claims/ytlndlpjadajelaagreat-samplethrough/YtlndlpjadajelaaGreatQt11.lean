import Derived.Test.YtlndlpjadajelaaGreatQt01
import Derived.Test.YtlndlpjadajelaaGreatQt10
namespace Go.Proofs.YtlndlpjadajelaaGreat
open Go.Proofs.YtlndlpjadajelaaGreat.Ds

/-! ### WHAT CHAPTER 6 SAYS, ON LISTS -/
/-- what is wrong with a loss -/
def lossE (u d : Int) : Int := if Rt.rightB u d = true then (if u < d then 3 else 0) else 2
/-- d, k times, times u, R - k times -/
def gk (u d : Int) (R k : Nat) : Int := d ^ k * u ^ (R - k)
/-- what a place weighs: i steps above the lowest one, where the number is a steps above it -/
def hwt (u d : Int) (R a i : Nat) : Int := gk u d R (i - a + (a - i)) * (if i = 0 ∨ i = R then u else u - d)
/-- the parts of what may be told -/
def hidL (u d lo : Int) (R a : Nat) : List Pt := (List.range (R + 1)).map fun (i : Nat) => ([lo + (i : Int)], hwt u d R a i)
/-- how far the number lies above the lowest place, brought in -/
def plcT (lo hi n : Int) : Int := min (max n lo) hi
/-- Hide -/
def hideT (u d lo hi n : Int) : List Pt × Int :=
  if lossE u d ≠ 0 then ([], lossE u d)
  else if ¬ (-1073741824 ≤ lo ∧ lo ≤ hi ∧ hi ≤ 1073741824 ∧ hi - lo ≤ 64) then ([], 3)
  else if lo = hi then makeT [([lo], 1)]
  else if 1073741824 < (u + d) * u ^ (hi - lo).toNat then ([], 4)
  else makeT (hidL u d lo (hi - lo).toNat (plcT lo hi n - lo).toNat)
/-- Lost -/
def lostT (u d n : Int) : Int × Int × Int := if lossE u d ≠ 0 then (0, 0, lossE u d) else Rt.powT u d n
/-- the parts of what may be said -/
def resL (u d truth : Int) (many : Nat) : List Pt := (List.range many).map fun (i : Nat) => ([(i : Int)], if (i : Int) = truth then u else d)
/-- Respond -/
def resT (u d many truth : Int) : List Pt × Int :=
  if lossE u d ≠ 0 then ([], lossE u d)
  else if ¬ (1 ≤ many ∧ many ≤ 4096 ∧ 0 ≤ truth ∧ truth < many) then ([], 3)
  else if 1073741824 < u + (many - 1) * d then ([], 4)
  else makeT (resL u d truth many.toNat)

theorem loss_ok {u d : Int} (h : lossE u d = 0) : Rt.rightB u d = true ∧ d ≤ u ∧ 1 ≤ d ∧ u ≤ 1073741824 := by
  unfold lossE at h
  split at h
  · rename_i h1
    have := Rt.right_bd h1
    split at h
    · omega
    · exact ⟨h1, by omega, by omega, by omega⟩
  · omega
theorem loss_bd (u d : Int) : 0 ≤ lossE u d ∧ lossE u d ≤ 3 := by
  unfold lossE; split
  · split <;> omega
  · omega

/-! ### powers -/
theorem pow_pos' {u : Int} (h : 1 ≤ u) (n : Nat) : 1 ≤ u ^ n := by
  have := Int.pow_pos (n := u) (m := n) (by omega)
  omega
theorem pow_mono {u : Int} (h : 1 ≤ u) {n m : Nat} (hnm : n ≤ m) : u ^ n ≤ u ^ m := by
  obtain ⟨k, rfl⟩ := Nat.le.dest hnm
  rw [Int.pow_add]
  have h1 := pow_pos' h n
  have h2 := pow_pos' h k
  have := Int.mul_le_mul_of_nonneg_left h2 (show 0 ≤ u ^ n by omega)
  omega
theorem pow_le {u d : Int} (hd : 0 ≤ d) (h : d ≤ u) (n : Nat) : d ^ n ≤ u ^ n := by
  induction n with
  | zero => simp
  | succ n ih =>
    rw [Int.pow_succ, Int.pow_succ]
    exact Int.mul_le_mul ih h hd (Int.pow_nonneg (by omega))
theorem pow_nn {d : Int} (hd : 0 ≤ d) (n : Nat) : 0 ≤ d ^ n := Int.pow_nonneg hd

/-! ### weights -/
theorem gk_zero (u d : Int) (R : Nat) : gk u d R 0 = u ^ R := by simp [gk]
theorem gk_step (u d : Int) {R k : Nat} (h : k < R) : u * gk u d R (k + 1) = d * gk u d R k := by
  unfold gk
  rw [show R - k = (R - (k + 1)) + 1 from by omega, Int.pow_succ, Int.pow_succ]
  simp only [Int.mul_comm, Int.mul_left_comm, Int.mul_assoc]
theorem gk_far (u d : Int) {R k : Nat} (s : Nat) (h : k + s ≤ R) : u ^ s * gk u d R (k + s) = d ^ s * gk u d R k := by
  induction s with
  | zero => simp
  | succ s ih =>
    have h1 := ih (by omega)
    have h2 := gk_step u d (R := R) (k := k + s) (by omega)
    rw [Int.pow_succ, Int.pow_succ, ← Nat.add_assoc, Int.mul_assoc, h2, ← Int.mul_assoc, Int.mul_right_comm, h1, Int.mul_right_comm]
theorem gk_nn {u d : Int} (hu : 0 ≤ u) (hd : 0 ≤ d) (R k : Nat) : 0 ≤ gk u d R k := Int.mul_nonneg (pow_nn hd _) (pow_nn hu _)
theorem gk_pos {u d : Int} (hu : 1 ≤ u) (hd : 1 ≤ d) (R k : Nat) : 0 < gk u d R k := Int.mul_pos (by have := pow_pos' hd k; omega) (by have := pow_pos' hu (R - k); omega)
theorem gk_anti {u d : Int} (hd : 1 ≤ d) (h : d ≤ u) {R k s : Nat} (hk : k + s ≤ R) : gk u d R (k + s) ≤ gk u d R k := by
  have h1 := gk_far u d s hk
  have h2 := pow_le (show 0 ≤ d by omega) h s
  have h3 := gk_nn (show 0 ≤ u by omega) (show 0 ≤ d by omega) R k
  have h4 : u ^ s * gk u d R (k + s) ≤ u ^ s * gk u d R k := by rw [h1]; exact Int.mul_le_mul_of_nonneg_right h2 h3
  exact Int.le_of_mul_le_mul_left h4 (by have := pow_pos' (show 1 ≤ u by omega) s; omega)

/-- how likely one is against another, as far apart as their places are -/
theorem gk_bd {u d : Int} (hd : 1 ≤ d) (h : d ≤ u) {R k k' f : Nat} (hk : k ≤ R) (hk' : k' ≤ R) (hf : k' ≤ k + f) : gk u d R k * d ^ f ≤ u ^ f * gk u d R k' := by
  have hu : 1 ≤ u := by omega
  by_cases c : k' ≤ k
  · obtain ⟨s, rfl⟩ := Nat.le.dest c
    have h1 := gk_anti hd h (R := R) (k := k') (s := s) hk
    have h2 := pow_le (show 0 ≤ d by omega) h f
    rw [Int.mul_comm (u ^ f)]
    exact Int.mul_le_mul h1 h2 (pow_nn (by omega) _) (gk_nn (by omega) (by omega) _ _)
  · obtain ⟨s, rfl⟩ := Nat.le.dest (show k ≤ k' by omega)
    have h1 := gk_far u d s hk'
    obtain ⟨t, rfl⟩ := Nat.le.dest (show s ≤ f by omega)
    rw [Int.pow_add, Int.pow_add, Int.mul_right_comm, h1, Int.mul_comm (gk u d R k), Int.mul_right_comm (d ^ s) (d ^ t)]
    have h2 := pow_le (show 0 ≤ d by omega) h t
    have h3 : 0 ≤ d ^ s * gk u d R k := Int.mul_nonneg (pow_nn (by omega) _) (gk_nn (by omega) (by omega) _ _)
    exact Int.mul_le_mul_of_nonneg_left h2 h3

/-! ### all weights together -/
def sumR (f : Nat → Int) : Nat → Int
  | 0 => 0
  | n + 1 => sumR f n + f n
theorem tot_range (f : Nat → List Int) (g : Nat → Int) (n : Nat) : tot ((List.range n).map fun i => (f i, g i)) = sumR g n := by
  induction n with
  | zero => rfl
  | succ n ih => rw [List.range_succ, List.map_append, tot_append, ih]; simp [sumR, tot_cons]
theorem hwt_low {u d : Int} {R a : Nat} (ha : a ≤ R) {j : Nat} (hj : j ≤ a) (h : j < R) : sumR (hwt u d R a) (j + 1) = u * gk u d R (a - j) := by
  induction j with
  | zero => simp [sumR, hwt]; rw [Int.mul_comm]
  | succ j ih =>
    have h1 := ih (by omega) (by omega)
    rw [sumR, h1]
    have e1 : hwt u d R a (j + 1) = gk u d R (a - (j + 1)) * (u - d) := by
      unfold hwt
      rw [if_neg (by omega), show j + 1 - a + (a - (j + 1)) = a - (j + 1) from by omega]
    have h2 := gk_step u d (R := R) (k := a - (j + 1)) (by omega)
    rw [show a - (j + 1) + 1 = a - j from by omega] at h2
    rw [e1, h2, Int.mul_sub, Int.mul_comm (gk u d R (a - (j + 1))) u, Int.mul_comm (gk u d R (a - (j + 1))) d]
    omega
theorem hwt_high {u d : Int} {R a : Nat} (ha : a < R) {j : Nat} (hj : a ≤ j) (h : j < R) : sumR (hwt u d R a) (j + 1) = u * gk u d R 0 + d * gk u d R 0 - u * gk u d R (j + 1 - a) := by
  obtain ⟨s, rfl⟩ := Nat.le.dest hj
  clear hj
  induction s with
  | zero =>
    have h1 := hwt_low (u := u) (d := d) (R := R) (a := a) (by omega) (j := a) (Nat.le_refl _) ha
    have h2 := gk_step u d (R := R) (k := 0) (by omega)
    rw [Nat.add_zero, h1, show a + 1 - a = 0 + 1 from by omega, h2, Nat.sub_self]
    omega
  | succ s ih =>
    have h1 := ih (by omega)
    rw [← Nat.add_assoc, sumR, h1]
    have e1 : hwt u d R a (a + s + 1) = gk u d R (s + 1) * (u - d) := by
      unfold hwt
      rw [if_neg (by omega), show a + s + 1 - a + (a - (a + s + 1)) = s + 1 from by omega]
    have h2 := gk_step u d (R := R) (k := s + 1) (by omega)
    rw [e1, show a + s + 1 - a = s + 1 from by omega, show a + s + 1 + 1 - a = s + 1 + 1 from by omega, h2, Int.mul_sub, Int.mul_comm (gk u d R (s + 1)) u, Int.mul_comm (gk u d R (s + 1)) d]
    omega
/-- wherever the number is, all weights together are the same -/
theorem hwt_all {u d : Int} {R a : Nat} (ha : a ≤ R) (hR : 1 ≤ R) : sumR (hwt u d R a) (R + 1) = (u + d) * u ^ R := by
  rw [sumR, ← gk_zero u d R]
  obtain ⟨r, rfl⟩ : ∃ r, R = r + 1 := ⟨R - 1, by omega⟩
  by_cases c : a = r + 1
  · subst c
    have h1 := hwt_low (u := u) (d := d) (R := r + 1) (a := r + 1) (Nat.le_refl _) (j := r) (by omega) (by omega)
    have h2 := gk_step u d (R := r + 1) (k := 0) (by omega)
    rw [h1, show r + 1 - r = 0 + 1 from by omega, h2]
    unfold hwt
    rw [if_pos (.inr rfl), show r + 1 - (r + 1) + (r + 1 - (r + 1)) = 0 from by omega, Int.add_mul, Int.mul_comm (gk u d (r + 1) 0) u]
    omega
  · have h1 := hwt_high (u := u) (d := d) (R := r + 1) (a := a) (by omega) (j := r) (by omega) (by omega)
    rw [h1]
    unfold hwt
    rw [if_pos (.inr rfl), show r + 1 - a + (a - (r + 1)) = r + 1 - a from by omega, Int.add_mul, Int.mul_comm (gk u d (r + 1) (r + 1 - a)) u]
    omega
theorem hid_tot {u d lo : Int} {R a : Nat} (ha : a ≤ R) (hR : 1 ≤ R) : tot (hidL u d lo R a) = (u + d) * u ^ R := by
  unfold hidL
  rw [tot_range (fun i => [lo + (i : Int)]) (hwt u d R a) (R + 1), hwt_all ha hR]
theorem hwt_nn {u d : Int} (hd : 1 ≤ d) (h : d ≤ u) (R a i : Nat) : 0 ≤ hwt u d R a i := by
  unfold hwt
  refine Int.mul_nonneg (gk_nn (by omega) (by omega) _ _) ?_
  split <;> omega
theorem sumR_mem {f : Nat → Int} (h : ∀ i, 0 ≤ f i) : ∀ {n i : Nat}, i < n → f i ≤ sumR f n
  | 0, _, hi => absurd hi (by omega)
  | n + 1, i, hi => by
    rw [sumR]
    have h0 : ∀ m, 0 ≤ sumR f m := by intro m; induction m with
      | zero => simp [sumR]
      | succ m ih => rw [sumR]; have := h m; omega
    by_cases c : i = n
    · subst c; have := h0 i; omega
    · have := sumR_mem h (n := n) (i := i) (by omega); have := h n; omega
theorem hwt_le {u d : Int} (hd : 1 ≤ d) (h : d ≤ u) {R a i : Nat} (ha : a ≤ R) (hR : 1 ≤ R) (hi : i ≤ R) : hwt u d R a i ≤ (u + d) * u ^ R := by
  rw [← hwt_all ha hR]
  exact sumR_mem (hwt_nn hd h R a) (by omega)
theorem res_tot (u d truth : Int) {many : Nat} (h0 : 0 ≤ truth) : tot (resL u d truth many) = if truth < many then u + ((many : Int) - 1) * d else many * d := by
  unfold resL
  rw [tot_range (fun i => [(i : Int)]) (fun i => if (i : Int) = truth then u else d) many]
  induction many with
  | zero => simp [sumR]; omega
  | succ n ih =>
    rw [sumR, ih]
    by_cases c1 : truth < n
    · rw [if_pos c1, if_neg (by omega), if_pos (by omega)]
      rw [show ((n + 1 : Nat) : Int) - 1 = (n : Int) from by omega, Int.sub_mul]; omega
    · by_cases c2 : (n : Int) = truth
      · rw [if_neg c1, if_pos c2, if_pos (by omega), show ((n + 1 : Nat) : Int) - 1 = (n : Int) from by omega]; omega
      · rw [if_neg c1, if_neg c2, if_neg (by omega)]
        rw [Int.natCast_add, Int.add_mul]; simp
end Go.Proofs.YtlndlpjadajelaaGreat

namespace Go.Proofs.YtlndlpjadajelaaGreat
open Go.RowKit Go.Proofs.YtlndlpjadajelaaGreat.Ds

theorem ret_n {a b : Int} (h : a = b) : Ending.returned (.int .i64 a) = .returned (.int .i64 b) := by rw [h]

/-- into -/
theorem into_any (n lo hi : Int) (w : World) :
    Calls Tryz.prog 74 #[.int .i64 n, .int .i64 lo, .int .i64 hi] w fun e w' => e = .returned (.int .i64 (plcT lo hi n)) ∧ w' = w := by
  go_enter Tryz.func74, Tryz.ntmps74
  go_wp2
  all_goals
    go_ret
    refine ⟨ret_n ?_, rfl⟩
    unfold plcT
    first | omega | (split at * <;> omega)

/-- power, of what is not too much -/
theorem npow_any (x : Int) (n : Nat) (hn : n ≤ 4096) (hx : 1 ≤ x) (h : x ^ n ≤ 1073741824) (w : World) :
    Calls Tryz.prog 147 #[.int .i64 x, .int .i64 (n : Int)] w fun e w' => e = .returned (.int .i64 (x ^ n)) ∧ w' = w := by
  have H : Hid (x ^ n ≤ 1073741824) := h
  clear h
  go_enter Tryz.func147, Tryz.ntmps147
  go_wp2
  go_loop [5, 7] (fun a c => ∃ i : Nat, i ≤ n ∧ a = .int .i64 (x ^ i) ∧ c = .int .i64 (i : Int)) (fun _ c => n - (intOf c).toNat)
  case atStart => exact ⟨0, Nat.zero_le _, by simp, rfl⟩
  case round =>
    obtain ⟨i, hi, rfl, rfl⟩ := hrel
    obtain ⟨P, hP⟩ : ∃ P, x ^ i = P := ⟨_, rfl⟩
    by_cases c : i < n
    · have b1 := Int.le_trans (pow_mono hx (show i + 1 ≤ n from c)) H.out
      have b0 := pow_pos' hx (i + 1)
      have HE : Hid (x ^ (i + 1) = P * x) := by show x ^ (i + 1) = P * x; rw [Int.pow_succ, hP]
      rw [HE.out] at b1 b0
      rw [hP]
      clear hP H
      go_wp2
      go_round
      case rel => exact ⟨i + 1, c, by rw [HE.out], by go_num⟩
      case measure => simp [intOf]; omega
    · have : i = n := by omega
      subst this
      go_wp2
      go_ret
      exact ⟨rfl, rfl⟩

/-- much -/
theorem much_any (u d : Int) (n : Nat) (hn : n ≤ 4096) (hd : 1 ≤ d) (hu2 : u ≤ 1073741824) (hdu : d ≤ u) (r : Bool) (hn1 : 1 ≤ n) (hr : decide (1073741824 < (u + d) * u ^ n) = r) (w : World) :
    Calls Tryz.prog 82 #[rv u d, .int .i64 (n : Int)] w fun e w' => e = .returned (.bool r) ∧ Below w.heap.size w w' := by
  have hu : 1 ≤ u := by omega
  have HR : Hid (decide (1073741824 < (u + d) * u ^ n) = r) := hr
  clear hr
  have HB := ba w (.cells #[.int .i64 u, .int .i64 d] 23)
  go_enter Tryz.func82, Tryz.ntmps82
  go_wp2
  go_loop [5, 12] (fun a c => ∃ i : Nat, i ≤ n ∧ a = .int .i64 ((u + d) * u ^ i) ∧ c = .int .i64 (i : Int) ∧ (i = 0 ∨ (u + d) * u ^ i ≤ 1073741824)) (fun _ c => n - (intOf c).toNat)
  case atStart => exact ⟨0, Nat.zero_le _, by simp, rfl, .inl rfl⟩
  case round =>
    obtain ⟨i, hi, rfl, rfl, hle⟩ := hrel
    obtain ⟨P, hP⟩ : ∃ P, (u + d) * u ^ i = P := ⟨_, rfl⟩
    have hP0 : 0 ≤ P := by rw [← hP]; exact Int.mul_nonneg (by omega) (pow_nn (by omega) _)
    have hP1 : P ≤ 2147483648 := by
      rcases hle with rfl | h
      · rw [← hP]; simp; omega
      · omega
    by_cases c : i < n
    · have HE : Hid ((u + d) * u ^ (i + 1) = P * u) := by show _ = _; rw [Int.pow_succ, ← Int.mul_assoc, hP]
      have b0 : 0 ≤ P * u := Int.mul_nonneg hP0 (by omega)
      have b1 : P * u ≤ 2147483648 * 1073741824 := Int.mul_le_mul hP1 hu2 (by omega) (by omega)
      rw [hP]
      clear hle hP
      by_cases c2 : 1073741824 < P * u
      · have hr : r = true := by
          rw [← HR.out, decide_eq_true_iff]
          obtain ⟨k, hk⟩ := Nat.le.dest (show i + 1 ≤ n from c)
          rw [← hk, Int.pow_add, ← Int.mul_assoc, HE.out]
          have h1 := pow_pos' hu k
          have h2 := Int.mul_le_mul_of_nonneg_left h1 b0
          omega
        subst hr
        clear HE HR
        go_wp2
        go_ret
        exact ⟨rfl, HB⟩
      · have c3 : P * u ≤ 1073741824 := by omega
        go_wp2
        go_round
        case rel => exact ⟨i + 1, c, by rw [HE.out], by go_num, .inr (by rw [HE.out]; exact c3)⟩
        case measure => simp [intOf]; omega
    · have : i = n := by omega
      subst this
      have hr : r = false := by
        rw [← HR.out, decide_eq_false_iff_not]
        rcases hle with rfl | h <;> omega
      subst hr
      clear HR hle hP hP0 hP1
      go_wp2
      go_ret
      exact ⟨rfl, HB⟩

/-- the reference's power, up to a limit -/
def lim (x : Int) : Int := if x ≤ 1073741824 then x else 1073741825
theorem rpow_any (x : Int) (n : Nat) (hn : n ≤ 4096) (hx : 1 ≤ x) (h : x ≤ 1073741824) (r : Int) (hr : lim (x ^ n) = r) (w : World) :
    Calls Tryz.prog 108 #[.int .i64 x, .int .i64 (n : Int)] w fun e w' => e = .returned (.int .i64 r) ∧ w' = w := by
  have HR : Hid (lim (x ^ n) = r) := hr
  clear hr
  go_enter Tryz.func108, Tryz.ntmps108
  go_wp2
  go_loop [5, 6] (fun a c => ∃ i : Nat, i ≤ n ∧ a = .int .i64 (x ^ i) ∧ c = .int .i64 (i : Int) ∧ x ^ i ≤ 1152921504606846976) (fun _ c => n - (intOf c).toNat)
  case atStart => exact ⟨0, Nat.zero_le _, by simp, rfl, by simp⟩
  case round =>
    obtain ⟨i, hi, rfl, rfl, hle⟩ := hrel
    obtain ⟨P, hP⟩ : ∃ P, x ^ i = P := ⟨_, rfl⟩
    have hP0 : 1 ≤ P := by rw [← hP]; exact pow_pos' hx i
    rw [hP] at hle
    by_cases c2 : 1073741824 < P
    · have hr : r = 1073741825 := by
        rw [← HR.out, lim, if_neg]
        have := pow_mono hx hi
        omega
      subst hr
      rw [hP]
      clear HR hP
      by_cases c : i < n
      · go_wp2
        go_ret
        exact ⟨rfl, rfl⟩
      · have : i = n := by omega
        subst this
        go_wp2
        go_ret
        exact ⟨rfl, rfl⟩
    · by_cases c : i < n
      · have HE : Hid (x ^ (i + 1) = P * x) := by show _ = _; rw [Int.pow_succ, hP]
        have b0 : 0 ≤ P * x := Int.mul_nonneg (by omega) (by omega)
        have b1 : P * x ≤ 1073741824 * 1073741824 := Int.mul_le_mul (by omega) h (by omega) (by omega)
        rw [hP]
        clear hP
        go_wp2
        go_round
        case rel => exact ⟨i + 1, c, by rw [HE.out], by go_num, by rw [HE.out]; omega⟩
        case measure => simp [intOf]; omega
      · have : i = n := by omega
        subst this
        have hr : r = P := by
          rw [← HR.out, lim, if_pos] <;> omega
        subst hr
        rw [hP]
        clear HR hP
        go_wp2
        go_ret
        exact ⟨rfl, rfl⟩

/-! ### a loss -/
theorem noLoss_any (u d er : Int) (h : lossE u d = er) (w : World) :
    Calls Tryz.prog 76 #[rv u d] w fun e w' => e = .returned (.int .i64 er) ∧ Below w.heap.size w w' := by
  obtain ⟨b, hb⟩ : ∃ b, Rt.rightB u d = b := ⟨_, rfl⟩
  rw [lossE, hb] at h
  have HB := ba w (.cells #[.int .i64 u, .int .i64 d] 23)
  have kc := right_any u d b hb (w.alloc (.cells #[.int .i64 u, .int .i64 d] 23))
  clear hb
  cases b with
  | false =>
    simp at h; subst h
    go_enter Tryz.func76, Tryz.ntmps76
    go_wp2_with fail
    refine kc.mono ?_
    rintro e w1 ⟨rfl, hb1⟩
    have G1 := bt HB hb1
    go_wp2
    go_ret
    exact ⟨rfl, G1⟩
  | true =>
    simp at h
    by_cases c : u < d
    · rw [if_pos c] at h
      subst h
      go_enter Tryz.func76, Tryz.ntmps76
      go_wp2_with fail
      refine kc.mono ?_
      rintro e w1 ⟨rfl, hb1⟩
      have G1 := bt HB hb1
      obtain ⟨hc1, hf1⟩ := bcell hb1
      go_wp2
      go_ret
      exact ⟨rfl, G1⟩
    · rw [if_neg c] at h
      subst h
      go_enter Tryz.func76, Tryz.ntmps76
      go_wp2_with fail
      refine kc.mono ?_
      rintro e w1 ⟨rfl, hb1⟩
      have G1 := bt HB hb1
      obtain ⟨hc1, hf1⟩ := bcell hb1
      go_wp2
      go_ret
      exact ⟨rfl, G1⟩
end Go.Proofs.YtlndlpjadajelaaGreat

namespace Go.Proofs.YtlndlpjadajelaaGreat
open Go.RowKit Go.Proofs.YtlndlpjadajelaaGreat.Ds

/-- the reference's: what is wrong with a loss -/
theorem rloss_any (u d er : Int) (h : lossE u d = er) (w : World) :
    Calls Tryz.prog 80 #[rv u d] w fun e w' => e = .returned (.int .i64 er) ∧ Below w.heap.size w w' := by
  obtain ⟨b, hb⟩ : ∃ b, Rt.rightB u d = b := ⟨_, rfl⟩
  rw [lossE, hb] at h
  have HB := ba w (.cells #[.int .i64 u, .int .i64 d] 23)
  have kc := refRight_any u d b hb (w.alloc (.cells #[.int .i64 u, .int .i64 d] 23))
  clear hb
  cases b with
  | false =>
    simp at h; subst h
    go_enter Tryz.func80, Tryz.ntmps80
    go_wp2_with fail
    refine kc.mono ?_
    rintro e w1 ⟨rfl, hb1⟩
    have G1 := bt HB hb1
    go_wp2
    go_ret
    exact ⟨rfl, G1⟩
  | true =>
    simp at h
    by_cases c : u < d
    · rw [if_pos c] at h
      subst h
      go_enter Tryz.func80, Tryz.ntmps80
      go_wp2_with fail
      refine kc.mono ?_
      rintro e w1 ⟨rfl, hb1⟩
      have G1 := bt HB hb1
      obtain ⟨hc1, hf1⟩ := bcell hb1
      go_wp2
      go_ret
      exact ⟨rfl, G1⟩
    · rw [if_neg c] at h
      subst h
      go_enter Tryz.func80, Tryz.ntmps80
      go_wp2_with fail
      refine kc.mono ?_
      rintro e w1 ⟨rfl, hb1⟩
      have G1 := bt HB hb1
      obtain ⟨hc1, hf1⟩ := bcell hb1
      go_wp2
      go_ret
      exact ⟨rfl, G1⟩

theorem lost_any (u d n p q er : Int) (h : lostT u d n = (p, q, er)) (w : World) :
    Calls Tryz.prog 29 #[rv u d, .int .i64 n] w fun e w' => e = .returned (.tuple #[rv p q, .int .i64 er]) ∧ Below w.heap.size w w' := by
  obtain ⟨e0, he0⟩ : ∃ e0, lossE u d = e0 := ⟨_, rfl⟩
  rw [lostT, he0] at h
  have kc := noLoss_any u d e0 he0
  by_cases c : e0 = 0
  · subst c
    simp at h
    have kp := power_any u d n p q er h
    clear h he0
    go_enter Tryz.func29, Tryz.ntmps29
    go_wp2_with fail
    refine (kc _).mono ?_
    rintro e w1 ⟨rfl, hb1⟩
    have G1 := bt (bal (ba _ _) _) hb1
    obtain ⟨hc1, hf1⟩ := bcell hb1
    go_wp2_with fail
    refine (kp _).mono ?_
    rintro e w2 ⟨rfl, hb2⟩
    have G2 := bt G1 hb2
    obtain ⟨hc2, hf2⟩ := bcell hb2
    have hz1 : w.heap.size + 1 < w1.heap.size := by have := hb1.size; simp at this; omega
    go_wp2_with fail
    exact bodyPost_ret (v := .tuple #[rv p q, .int .i64 er]) (by simp [results, Tryz.results29, go_sem, hc1, hc2, hz1]) rfl ⟨rfl, bs (bs G2 (by simp) _) (by simp) _⟩
  · simp only [ne_eq, c, not_false_eq_true, if_true, Prod.mk.injEq] at h
    obtain ⟨rfl, rfl, rfl⟩ := h
    have c1 : (e0 == 0) = false := by simpa using c
    have c2 : (e0 != 0) = true := by simpa using c
    go_enter Tryz.func29, Tryz.ntmps29
    go_wp2_with fail
    refine (kc _).mono ?_
    rintro e w1 ⟨rfl, hb1⟩
    have G1 := bt (bal (ba _ _) _) hb1
    obtain ⟨hc1, hf1⟩ := bcell hb1
    go_wp2_with fail
    exact bodyPost_ret (v := .tuple #[rv 0 0, .int .i64 e0]) (by simp [results, Tryz.results29, go_sem, hc1]) rfl ⟨rfl, bs (bs G1 (by simp) _) (by simp) _⟩

theorem rlost_any (u d n p q er : Int) (h : lostT u d n = (p, q, er)) (w : World) :
    Calls Tryz.prog 33 #[rv u d, .int .i64 n] w fun e w' => e = .returned (.tuple #[rv p q, .int .i64 er]) ∧ Below w.heap.size w w' := by
  obtain ⟨e0, he0⟩ : ∃ e0, lossE u d = e0 := ⟨_, rfl⟩
  rw [lostT, he0] at h
  have kc := rloss_any u d e0 he0
  by_cases c : e0 = 0
  · subst c
    simp at h
    have kp := refPower_any u d n p q er h
    clear h he0
    go_enter Tryz.func33, Tryz.ntmps33
    go_wp2_with fail
    refine (kc _).mono ?_
    rintro e w1 ⟨rfl, hb1⟩
    have G1 := bt (bal (ba _ _) _) hb1
    obtain ⟨hc1, hf1⟩ := bcell hb1
    go_wp2_with fail
    refine (kp _).mono ?_
    rintro e w2 ⟨rfl, hb2⟩
    have G2 := bt G1 hb2
    obtain ⟨hc2, hf2⟩ := bcell hb2
    have hz1 : w.heap.size + 1 < w1.heap.size := by have := hb1.size; simp at this; omega
    go_wp2_with fail
    exact bodyPost_ret (v := .tuple #[rv p q, .int .i64 er]) (by simp [results, Tryz.results33, go_sem, hc1, hc2, hz1]) rfl ⟨rfl, bs (bs G2 (by simp) _) (by simp) _⟩
  · simp only [ne_eq, c, not_false_eq_true, if_true, Prod.mk.injEq] at h
    obtain ⟨rfl, rfl, rfl⟩ := h
    have c1 : (e0 == 0) = false := by simpa using c
    have c2 : (e0 != 0) = true := by simpa using c
    go_enter Tryz.func33, Tryz.ntmps33
    go_wp2_with fail
    refine (kc _).mono ?_
    rintro e w1 ⟨rfl, hb1⟩
    have G1 := bt (bal (ba _ _) _) hb1
    obtain ⟨hc1, hf1⟩ := bcell hb1
    go_wp2_with fail
    exact bodyPost_ret (v := .tuple #[rv 0 0, .int .i64 e0]) (by simp [results, Tryz.results33, go_sem, hc1]) rfl ⟨rfl, bs (bs G1 (by simp) _) (by simp) _⟩

end Go.Proofs.YtlndlpjadajelaaGreat

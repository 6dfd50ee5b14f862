import Derived.Test.YtlndlpjadajelaaGreatQl01
import Derived.Test.YtlndlpjadajelaaGreatQl13
import Derived.Test.YtlndlpjadajelaaGreatQl07
namespace Go.Proofs.YtlndlpjadajelaaGreat
open Go.Proofs.YtlndlpjadajelaaGreat.Ds

/-! ### WHAT CHAPTER 6 SAYS, ON LISTS -/
/-- what is wrong with a loss -/
def lossE (u d : Int) : Int := if Rt.rightB u d = true then (if u < d then 3 else 0) else 2
/-- d, k times, times u, R - k times -/
def gk (u d : Int) (R k : Nat) : Int := d ^ k * u ^ (R - k)
/-- what a place weighs: i steps above the lowest one, where the number is a steps above it -/
def hwt (u d : Int) (R a i : Nat) : Int := gk u d R (i - a + (a - i)) * (if i = 0 ∨ i = R then u else u - d)
/-- the parts of what may be told -/
def hidL (u d lo : Int) (R a : Nat) : List Pt := (List.range (R + 1)).map fun (i : Nat) => ([lo + (i : Int)], hwt u d R a i)
/-- how far the number lies above the lowest place, brought in -/
def plcT (lo hi n : Int) : Int := min (max n lo) hi
/-- Hide -/
def hideT (u d lo hi n : Int) : List Pt × Int :=
  if lossE u d ≠ 0 then ([], lossE u d)
  else if ¬ (-1073741824 ≤ lo ∧ lo ≤ hi ∧ hi ≤ 1073741824 ∧ hi - lo ≤ 64) then ([], 3)
  else if lo = hi then makeT [([lo], 1)]
  else if 1073741824 < (u + d) * u ^ (hi - lo).toNat then ([], 4)
  else makeT (hidL u d lo (hi - lo).toNat (plcT lo hi n - lo).toNat)
/-- Lost -/
def lostT (u d n : Int) : Int × Int × Int := if lossE u d ≠ 0 then (0, 0, lossE u d) else Rt.powT u d n
/-- the parts of what may be said -/
def resL (u d truth : Int) (many : Nat) : List Pt := (List.range many).map fun (i : Nat) => ([(i : Int)], if (i : Int) = truth then u else d)
/-- Respond -/
def resT (u d many truth : Int) : List Pt × Int :=
  if lossE u d ≠ 0 then ([], lossE u d)
  else if ¬ (1 ≤ many ∧ many ≤ 4096 ∧ 0 ≤ truth ∧ truth < many) then ([], 3)
  else if 1073741824 < u + (many - 1) * d then ([], 4)
  else makeT (resL u d truth many.toNat)

theorem loss_ok {u d : Int} (h : lossE u d = 0) : Rt.rightB u d = true ∧ d ≤ u ∧ 1 ≤ d ∧ u ≤ 1073741824 := by
  unfold lossE at h
  split at h
  · rename_i h1
    have := Rt.right_bd h1
    split at h
    · omega
    · exact ⟨h1, by omega, by omega, by omega⟩
  · omega
theorem loss_bd (u d : Int) : 0 ≤ lossE u d ∧ lossE u d ≤ 3 := by
  unfold lossE; split
  · split <;> omega
  · omega

/-! ### powers -/
theorem pow_pos' {u : Int} (h : 1 ≤ u) (n : Nat) : 1 ≤ u ^ n := by
  have := Int.pow_pos (n := u) (m := n) (by omega)
  omega
theorem pow_mono {u : Int} (h : 1 ≤ u) {n m : Nat} (hnm : n ≤ m) : u ^ n ≤ u ^ m := by
  obtain ⟨k, rfl⟩ := Nat.le.dest hnm
  rw [Int.pow_add]
  have h1 := pow_pos' h n
  have h2 := pow_pos' h k
  have := Int.mul_le_mul_of_nonneg_left h2 (show 0 ≤ u ^ n by omega)
  omega
theorem pow_le {u d : Int} (hd : 0 ≤ d) (h : d ≤ u) (n : Nat) : d ^ n ≤ u ^ n := by
  induction n with
  | zero => simp
  | succ n ih =>
    rw [Int.pow_succ, Int.pow_succ]
    exact Int.mul_le_mul ih h hd (Int.pow_nonneg (by omega))
theorem pow_nn {d : Int} (hd : 0 ≤ d) (n : Nat) : 0 ≤ d ^ n := Int.pow_nonneg hd

/-! ### weights -/
theorem gk_zero (u d : Int) (R : Nat) : gk u d R 0 = u ^ R := by simp [gk]
theorem gk_step (u d : Int) {R k : Nat} (h : k < R) : u * gk u d R (k + 1) = d * gk u d R k := by
  unfold gk
  rw [show R - k = (R - (k + 1)) + 1 from by omega, Int.pow_succ, Int.pow_succ]
  simp only [Int.mul_comm, Int.mul_left_comm, Int.mul_assoc]
theorem gk_far (u d : Int) {R k : Nat} (s : Nat) (h : k + s ≤ R) : u ^ s * gk u d R (k + s) = d ^ s * gk u d R k := by
  induction s with
  | zero => simp
  | succ s ih =>
    have h1 := ih (by omega)
    have h2 := gk_step u d (R := R) (k := k + s) (by omega)
    rw [Int.pow_succ, Int.pow_succ, ← Nat.add_assoc, Int.mul_assoc, h2, ← Int.mul_assoc, Int.mul_right_comm, h1, Int.mul_right_comm]
theorem gk_nn {u d : Int} (hu : 0 ≤ u) (hd : 0 ≤ d) (R k : Nat) : 0 ≤ gk u d R k := Int.mul_nonneg (pow_nn hd _) (pow_nn hu _)
theorem gk_pos {u d : Int} (hu : 1 ≤ u) (hd : 1 ≤ d) (R k : Nat) : 0 < gk u d R k := Int.mul_pos (by have := pow_pos' hd k; omega) (by have := pow_pos' hu (R - k); omega)
theorem gk_anti {u d : Int} (hd : 1 ≤ d) (h : d ≤ u) {R k s : Nat} (hk : k + s ≤ R) : gk u d R (k + s) ≤ gk u d R k := by
  have h1 := gk_far u d s hk
  have h2 := pow_le (show 0 ≤ d by omega) h s
  have h3 := gk_nn (show 0 ≤ u by omega) (show 0 ≤ d by omega) R k
  have h4 : u ^ s * gk u d R (k + s) ≤ u ^ s * gk u d R k := by rw [h1]; exact Int.mul_le_mul_of_nonneg_right h2 h3
  exact Int.le_of_mul_le_mul_left h4 (by have := pow_pos' (show 1 ≤ u by omega) s; omega)

/-- how likely one is against another, as far apart as their places are -/
theorem gk_bd {u d : Int} (hd : 1 ≤ d) (h : d ≤ u) {R k k' f : Nat} (hk : k ≤ R) (hk' : k' ≤ R) (hf : k' ≤ k + f) : gk u d R k * d ^ f ≤ u ^ f * gk u d R k' := by
  have hu : 1 ≤ u := by omega
  by_cases c : k' ≤ k
  · obtain ⟨s, rfl⟩ := Nat.le.dest c
    have h1 := gk_anti hd h (R := R) (k := k') (s := s) hk
    have h2 := pow_le (show 0 ≤ d by omega) h f
    rw [Int.mul_comm (u ^ f)]
    exact Int.mul_le_mul h1 h2 (pow_nn (by omega) _) (gk_nn (by omega) (by omega) _ _)
  · obtain ⟨s, rfl⟩ := Nat.le.dest (show k ≤ k' by omega)
    have h1 := gk_far u d s hk'
    obtain ⟨t, rfl⟩ := Nat.le.dest (show s ≤ f by omega)
    rw [Int.pow_add, Int.pow_add, Int.mul_right_comm, h1, Int.mul_comm (gk u d R k), Int.mul_right_comm (d ^ s) (d ^ t)]
    have h2 := pow_le (show 0 ≤ d by omega) h t
    have h3 : 0 ≤ d ^ s * gk u d R k := Int.mul_nonneg (pow_nn (by omega) _) (gk_nn (by omega) (by omega) _ _)
    exact Int.mul_le_mul_of_nonneg_left h2 h3

/-! ### all weights together -/
def sumR (f : Nat → Int) : Nat → Int
  | 0 => 0
  | n + 1 => sumR f n + f n
theorem tot_range (f : Nat → List Int) (g : Nat → Int) (n : Nat) : tot ((List.range n).map fun i => (f i, g i)) = sumR g n := by
  induction n with
  | zero => rfl
  | succ n ih => rw [List.range_succ, List.map_append, tot_append, ih]; simp [sumR, tot_cons]
theorem hwt_low {u d : Int} {R a : Nat} (ha : a ≤ R) {j : Nat} (hj : j ≤ a) (h : j < R) : sumR (hwt u d R a) (j + 1) = u * gk u d R (a - j) := by
  induction j with
  | zero => simp [sumR, hwt]; rw [Int.mul_comm]
  | succ j ih =>
    have h1 := ih (by omega) (by omega)
    rw [sumR, h1]
    have e1 : hwt u d R a (j + 1) = gk u d R (a - (j + 1)) * (u - d) := by
      unfold hwt
      rw [if_neg (by omega), show j + 1 - a + (a - (j + 1)) = a - (j + 1) from by omega]
    have h2 := gk_step u d (R := R) (k := a - (j + 1)) (by omega)
    rw [show a - (j + 1) + 1 = a - j from by omega] at h2
    rw [e1, h2, Int.mul_sub, Int.mul_comm (gk u d R (a - (j + 1))) u, Int.mul_comm (gk u d R (a - (j + 1))) d]
    omega
theorem hwt_high {u d : Int} {R a : Nat} (ha : a < R) {j : Nat} (hj : a ≤ j) (h : j < R) : sumR (hwt u d R a) (j + 1) = u * gk u d R 0 + d * gk u d R 0 - u * gk u d R (j + 1 - a) := by
  obtain ⟨s, rfl⟩ := Nat.le.dest hj
  clear hj
  induction s with
  | zero =>
    have h1 := hwt_low (u := u) (d := d) (R := R) (a := a) (by omega) (j := a) (Nat.le_refl _) ha
    have h2 := gk_step u d (R := R) (k := 0) (by omega)
    rw [Nat.add_zero, h1, show a + 1 - a = 0 + 1 from by omega, h2, Nat.sub_self]
    omega
  | succ s ih =>
    have h1 := ih (by omega)
    rw [← Nat.add_assoc, sumR, h1]
    have e1 : hwt u d R a (a + s + 1) = gk u d R (s + 1) * (u - d) := by
      unfold hwt
      rw [if_neg (by omega), show a + s + 1 - a + (a - (a + s + 1)) = s + 1 from by omega]
    have h2 := gk_step u d (R := R) (k := s + 1) (by omega)
    rw [e1, show a + s + 1 - a = s + 1 from by omega, show a + s + 1 + 1 - a = s + 1 + 1 from by omega, h2, Int.mul_sub, Int.mul_comm (gk u d R (s + 1)) u, Int.mul_comm (gk u d R (s + 1)) d]
    omega
/-- wherever the number is, all weights together are the same -/
theorem hwt_all {u d : Int} {R a : Nat} (ha : a ≤ R) (hR : 1 ≤ R) : sumR (hwt u d R a) (R + 1) = (u + d) * u ^ R := by
  rw [sumR, ← gk_zero u d R]
  obtain ⟨r, rfl⟩ : ∃ r, R = r + 1 := ⟨R - 1, by omega⟩
  by_cases c : a = r + 1
  · subst c
    have h1 := hwt_low (u := u) (d := d) (R := r + 1) (a := r + 1) (Nat.le_refl _) (j := r) (by omega) (by omega)
    have h2 := gk_step u d (R := r + 1) (k := 0) (by omega)
    rw [h1, show r + 1 - r = 0 + 1 from by omega, h2]
    unfold hwt
    rw [if_pos (.inr rfl), show r + 1 - (r + 1) + (r + 1 - (r + 1)) = 0 from by omega, Int.add_mul, Int.mul_comm (gk u d (r + 1) 0) u]
    omega
  · have h1 := hwt_high (u := u) (d := d) (R := r + 1) (a := a) (by omega) (j := r) (by omega) (by omega)
    rw [h1]
    unfold hwt
    rw [if_pos (.inr rfl), show r + 1 - a + (a - (r + 1)) = r + 1 - a from by omega, Int.add_mul, Int.mul_comm (gk u d (r + 1) (r + 1 - a)) u]
    omega
theorem hid_tot {u d lo : Int} {R a : Nat} (ha : a ≤ R) (hR : 1 ≤ R) : tot (hidL u d lo R a) = (u + d) * u ^ R := by
  unfold hidL
  rw [tot_range (fun i => [lo + (i : Int)]) (hwt u d R a) (R + 1), hwt_all ha hR]
theorem hwt_nn {u d : Int} (hd : 1 ≤ d) (h : d ≤ u) (R a i : Nat) : 0 ≤ hwt u d R a i := by
  unfold hwt
  refine Int.mul_nonneg (gk_nn (by omega) (by omega) _ _) ?_
  split <;> omega
theorem sumR_mem {f : Nat → Int} (h : ∀ i, 0 ≤ f i) : ∀ {n i : Nat}, i < n → f i ≤ sumR f n
  | 0, _, hi => absurd hi (by omega)
  | n + 1, i, hi => by
    rw [sumR]
    have h0 : ∀ m, 0 ≤ sumR f m := by intro m; induction m with
      | zero => simp [sumR]
      | succ m ih => rw [sumR]; have := h m; omega
    by_cases c : i = n
    · subst c; have := h0 i; omega
    · have := sumR_mem h (n := n) (i := i) (by omega); have := h n; omega
theorem hwt_le {u d : Int} (hd : 1 ≤ d) (h : d ≤ u) {R a i : Nat} (ha : a ≤ R) (hR : 1 ≤ R) (hi : i ≤ R) : hwt u d R a i ≤ (u + d) * u ^ R := by
  rw [← hwt_all ha hR]
  exact sumR_mem (hwt_nn hd h R a) (by omega)
theorem res_tot (u d truth : Int) {many : Nat} (h0 : 0 ≤ truth) : tot (resL u d truth many) = if truth < many then u + ((many : Int) - 1) * d else many * d := by
  unfold resL
  rw [tot_range (fun i => [(i : Int)]) (fun i => if (i : Int) = truth then u else d) many]
  induction many with
  | zero => simp [sumR]; omega
  | succ n ih =>
    rw [sumR, ih]
    by_cases c1 : truth < n
    · rw [if_pos c1, if_neg (by omega), if_pos (by omega)]
      rw [show ((n + 1 : Nat) : Int) - 1 = (n : Int) from by omega, Int.sub_mul]; omega
    · by_cases c2 : (n : Int) = truth
      · rw [if_neg c1, if_pos c2, if_pos (by omega), show ((n + 1 : Nat) : Int) - 1 = (n : Int) from by omega]; omega
      · rw [if_neg c1, if_neg c2, if_neg (by omega)]
        rw [Int.natCast_add, Int.add_mul]; simp
end Go.Proofs.YtlndlpjadajelaaGreat

namespace Go.Proofs.YtlndlpjadajelaaGreat
open Go.RowKit Go.Proofs.YtlndlpjadajelaaGreat.Ds

/-! ### what Make makes is one -/
theorem cut_one (l : List Pt) : cut 1 l = l := by
  unfold cut
  conv => rhs; rw [← List.map_id l]
  exact List.map_congr_left fun p _ => by simp
theorem Dis.own {l : List Pt} (h : Dis l) : ownT l = (l, 0) := by
  have hg : gath l = l := gath_is (fun p hp => Int.le_of_lt (h.pos p hp)) h.rise h.pos fun _ => rfl
  have hm : makeT l = (l, 0) := by
    unfold makeT lowT
    rw [if_pos h.ok, hg, if_neg h.ne, h.one]
    simp only [Int.natCast_one, cut_one]
    rw [if_neg (by have := h.le; have := h.few; omega)]
  unfold ownT
  rw [hm]
  simp
theorem grow_tot (g : Int) (l : List Pt) : tot (grow g l) = g * tot l := by
  induction l with
  | nil => simp [grow]
  | cons p l ih =>
    simp only [grow, List.map_cons] at *
    rw [tot_cons, tot_cons, ih, Int.mul_add]
theorem make_told {k l' : List Pt} (h : makeT k = (l', 0)) : Dis l' ∧ ∃ g : Int, 0 < g ∧ (∀ o, wt k o = g * wt l' o) ∧ tot k = g * tot l' := by
  unfold makeT at h
  split at h
  · rename_i hok
    have hp := gath_pos (all_okP hok).1
    obtain ⟨a, b, c, d, e, f⟩ := lowT_ok hp (gath_rise k) h
    have hne : gath k ≠ [] := by intro h0; rw [h0] at h; simp [lowT] at h
    have hl : l' = cut (dv (gath k)) (gath k) := by
      unfold lowT at h
      rw [if_neg hne] at h
      split at h
      · simp at h
      · simp at h; exact h.symm
    have hg : grow (dv (gath k)) l' = gath k := by rw [hl]; exact cut_back fun p hp => dv_dvd_int hp
    have hd := dv_pos hp hne
    have hw : ∀ o, wt k o = (dv (gath k) : Int) * wt l' o := fun o => by rw [← grow_wt, hg, gath_wt]
    refine ⟨⟨a, b, c, d, ?_, e, f⟩, dv (gath k), by omega, hw, by rw [← grow_tot, hg, gath_tot]⟩
    rw [List.all_eq_true]
    intro p hpm
    have h1 : 0 < wt k p.1 := by rw [hw]; exact Int.mul_pos (by omega) (mem_wt_pos a b hpm)
    obtain ⟨q, hq, he⟩ := wt_pos_mem h1
    have h2 := List.all_eq_true.1 hok q hq
    have h3 := Pos.le_tot (Nn.of_pos b) hpm
    have h4 := b p hpm
    unfold okP at *
    rw [Bool.and_eq_true] at *
    exact ⟨by simp; omega, he ▸ h2.2⟩
  · simp at h

theorem cancel2 {g g' x y : Int} (hg : 0 < g) (hg' : 0 < g') (h : g * g' * x ≤ g * g' * y) : x ≤ y :=
  Int.le_of_mul_le_mul_left h (Int.mul_pos hg hg')

/-! ### what Far tells of two that were made -/
theorem pos_cancel {g x : Int} (hg : 0 < g) (h : 0 < g * x) : 0 < x := by
  rcases Int.lt_or_le 0 x with k | k
  · exact k
  · have := Int.mul_le_mul_of_nonneg_left k (Int.le_of_lt hg)
    omega
theorem sup_make {L M l m : List Pt} {g g' : Int} (hg : 0 < g) (hg' : 0 < g') (w1 : ∀ o, wt L o = g * wt l o) (w2 : ∀ o, wt M o = g' * wt m o) (h : Sup L M) : Sup l m := by
  intro o
  have h1 := h o
  rw [w1, w2] at h1
  have e1 : 0 < g * wt l o ↔ 0 < wt l o := ⟨fun k => pos_cancel hg k, fun k => Int.mul_pos hg k⟩
  have e2 : 0 < g' * wt m o ↔ 0 < wt m o := ⟨fun k => pos_cancel hg' k, fun k => Int.mul_pos hg' k⟩
  rw [e1, e2] at h1
  exact h1
theorem bd_make {L M l m : List Pt} {g g' U D : Int} (hg : 0 < g) (hg' : 0 < g') (w1 : ∀ o, wt L o = g * wt l o) (w2 : ∀ o, wt M o = g' * wt m o) (t1 : tot L = g * tot l) (t2 : tot M = g' * tot m) (h : Bd L M U D) : Bd l m U D := by
  refine ⟨h.1, fun o ho => ?_⟩
  have h1 := h.2 o (by rw [w1]; exact Int.mul_pos hg ho)
  rw [w1, w2, t1, t2] at h1
  constructor
  · refine cancel2 hg hg' ?_
    have := h1.1
    calc g * g' * (wt l o * tot m * D) = g * wt l o * (g' * tot m) * D := by simp only [Int.mul_assoc, Int.mul_left_comm]
      _ ≤ U * (g' * wt m o * (g * tot l)) := this
      _ = g * g' * (U * (wt m o * tot l)) := by simp only [Int.mul_assoc, Int.mul_left_comm]
  · refine cancel2 hg hg' ?_
    have := h1.2
    calc g * g' * (wt m o * tot l * D) = g' * wt m o * (g * tot l) * D := by simp only [Int.mul_assoc, Int.mul_left_comm]
      _ ≤ U * (g * wt l o * (g' * tot m)) := this
      _ = g * g' * (U * (wt l o * tot m)) := by simp only [Int.mul_assoc, Int.mul_left_comm]
/-- as far as something is, and no further -/
theorem far_make {L M l m : List Pt} {n d : Int} (h1 : makeT L = (l, 0)) (h2 : makeT M = (m, 0)) (hs : Sup L M) (hb : Bd L M n d) (hn : 0 < n) (hr : Rt.rightB n d = true) (o : List Int) (ho : 0 < wt L o) (hat : wt L o * tot M * d = n * (wt M o * tot L)) : farT l m = (n, d, 0) := by
  obtain ⟨d1, g, hg, w1, t1⟩ := make_told h1
  obtain ⟨d2, g', hg', w2, t2⟩ := make_told h2
  have hsl := sup_make hg hg' w1 w2 hs
  have hbl := bd_make hg hg' w1 w2 t1 t2 hb
  have hrb := Rt.right_bd hr
  have hd : 0 < d := by omega
  have he : twoE l m = 0 := by unfold twoE; rw [d1.own, d2.own]; simp
  rcases far_is d1 d2 he with ⟨h, _⟩ | ⟨_, U, D, hU, hD, hf, hbU, hmin⟩
  · exact absurd hsl h
  · have a1 := hmin n d hn hd hbl
    have hol : 0 < wt l o := by rw [w1] at ho; exact pos_cancel hg ho
    have a2 := (hbU.2 o hol).1
    have e1 : wt l o * tot m * d = n * (wt m o * tot l) := by
      rw [w1, w2, t1, t2] at hat
      have hgg : 0 < g * g' := Int.mul_pos hg hg'
      refine Int.eq_of_mul_eq_mul_left (show g * g' ≠ 0 by omega) ?_
      calc g * g' * (wt l o * tot m * d) = g * wt l o * (g' * tot m) * d := by simp only [Int.mul_assoc, Int.mul_left_comm]
        _ = n * (g' * wt m o * (g * tot l)) := hat
        _ = g * g' * (n * (wt m o * tot l)) := by simp only [Int.mul_assoc, Int.mul_left_comm]
    have hY : 0 < wt m o * tot l := Int.mul_pos ((hsl o).1 hol) (tot_pos2 d1.pos d1.ne)
    have a3 : n * D ≤ U * d := by
      refine Int.le_of_mul_le_mul_right (a := wt m o * tot l) ?_ hY
      calc n * D * (wt m o * tot l) = n * (wt m o * tot l) * D := Int.mul_right_comm _ _ _
        _ = wt l o * tot m * d * D := by rw [e1]
        _ = wt l o * tot m * D * d := Int.mul_right_comm _ _ _
        _ ≤ U * (wt m o * tot l) * d := Int.mul_le_mul_of_nonneg_right a2 (by omega)
        _ = U * d * (wt m o * tot l) := Int.mul_right_comm _ _ _
    have e2 : U * d = n * D := Int.le_antisymm a1 a3
    rw [hf, mkT_cross hU hD hn hd e2]
    obtain ⟨x, rfl⟩ := Int.eq_ofNat_of_zero_le (show 0 ≤ n by omega)
    obtain ⟨y, rfl⟩ := Int.eq_ofNat_of_zero_le (show 0 ≤ d by omega)
    have hr' := (Rt.right_nat x y).1 hr
    rw [Rt.mkT_coprime x y hr'.2.1 hr'.2.2.2, if_pos ⟨hr'.1, hr'.2.2.1⟩]
end Go.Proofs.YtlndlpjadajelaaGreat

namespace Go.Proofs.YtlndlpjadajelaaGreat
open Go.RowKit Go.Proofs.YtlndlpjadajelaaGreat.Ds

/-- multiplied up to i -/
def mulI (g : Int) (ts : List Tr) (i : Nat) : List Tr := (ts.take i).map (fun t => (t.1, t.2.1, t.2.2 * g)) ++ ts.drop i
/-- all multiplied -/
def mulT (g : Int) (ts : List Tr) : List Tr := ts.map fun t => (t.1, t.2.1, t.2.2 * g)
def mulL (g : Int) (l : List Pt) : List Pt := l.map fun p => (p.1, p.2 * g)

theorem mulI_len (g : Int) (ts : List Tr) (i : Nat) : (mulI g ts i).length = ts.length := by simp [mulI]; omega
theorem mulI_get (g : Int) {ts : List Tr} {i : Nat} (h : i < ts.length) : (mulI g ts i)[i]? = ts[i]? := by
  have e : ((ts.take i).map (fun t : Tr => (t.1, t.2.1, t.2.2 * g))).length = i := by simp; omega
  rw [mulI, List.getElem?_append_right (by omega), e]; simp
theorem mulI_set (g : Int) {ts : List Tr} {i : Nat} {t : Tr} (h : ts[i]? = some t) : (mulI g ts i).set i (t.1, t.2.1, t.2.2 * g) = mulI g ts (i + 1) := by
  have hi := (List.getElem?_eq_some_iff.1 h).1
  have e : ((ts.take i).map (fun t : Tr => (t.1, t.2.1, t.2.2 * g))).length = i := by simp; omega
  have e2 : ts.drop i = t :: ts.drop (i + 1) := by rw [List.drop_eq_getElem_cons hi, (List.getElem?_eq_some_iff.1 h).2]
  rw [mulI, mulI, List.set_append_right _ _ (by omega), e, e2, List.take_add_one, h]
  simp
theorem mulI_all (g : Int) {ts : List Tr} {i : Nat} (h : ts.length ≤ i) : mulI g ts i = mulT g ts := by
  rw [mulI, List.take_of_length_le h, List.drop_eq_nil_of_le h, List.append_nil]; rfl
theorem mulI_zero (g : Int) (ts : List Tr) : mulI g ts 0 = ts := by simp [mulI]
theorem mulT_len (g : Int) (ts : List Tr) : (mulT g ts).length = ts.length := by simp [mulT]
theorem mulT_rd (g : Int) (ts : List Tr) : rd (mulT g ts) = mulL g (rd ts) := by simp [mulT, rd, mulL]
theorem mulT_mem {g : Int} {ts : List Tr} {t : Tr} (h : t ∈ mulT g ts) : ∃ u ∈ ts, t.1 = u.1 ∧ t.2.1 = u.2.1 := by
  obtain ⟨u, hu, rfl⟩ := List.mem_map.1 h; exact ⟨u, hu, rfl, rfl⟩

theorem grown_set {w w' : World} {b : Nat} (h : w.grownBy w' (some b)) (p : Addr) (hp : p.block = b) (v : Value) : w.grownBy (w'.setCell p v) (some b) :=
  ⟨h.os, h.tape, h.output, by simpa [World.setCell] using h.size, fun k hk hne => (Below.heap_setCell _ _ _ _ (by intro e; exact hne (by rw [e, hp]))).trans (h.block k hk hne)⟩

set_option maxHeartbeats 1000000 in
theorem dtimes_any (lo : Nat) (v : Value) (ts : List Tr) (g : Int) (w : World) (ho : OwnN w lo v ts) (hk : ∀ t ∈ ts, 0 ≤ t.2.2 * g ∧ t.2.2 * g ≤ 4611686018427387904) (us : List Tr) (hu : mulT g ts = us) :
    Calls Tryz.prog 162 #[v, .int .i64 g] w fun e w' => e = .returned v ∧ OwnN w' lo v us ∧ w.grownBy w' v.ownBlock := by
  subst hu
  rcases ho with ⟨rfl, rfl⟩ | ⟨b, o, c, rfl, hc, hl, hlo, hrow, hI⟩
  · go_enter Tryz.func162, Tryz.ntmps162
    go_wp2
    go_loopw [8] (fun u wr => u = .int .i64 0 ∧ wr = w) (fun _ _ => 0)
    case atStart => exact ⟨rfl, rfl⟩
    case round =>
      obtain ⟨rfl, rfl⟩ := hrel
      go_wp2
      go_ret
      exact ⟨rfl, .inl ⟨rfl, rfl⟩, World.grownBy.refl _ _⟩
  · have HH : Hid (Row w b o ts ∧ (∀ t ∈ ts, Ints w w.heap.size b t.1 t.2.1) ∧ ∀ t ∈ ts, 0 ≤ t.2.2 * g ∧ t.2.2 * g ≤ 4611686018427387904) := ⟨hrow, hI, hk⟩
    have hbs := hrow.lt
    clear hrow hI hk
    go_enter Tryz.func162, Tryz.ntmps162
    go_wp2
    go_loopw [8] (fun u wq => ∃ j : Nat, u = .int .i64 (j : Int) ∧ j ≤ ts.length ∧ Hid (Row wq b o (mulI g ts j)) ∧ Hid (∀ t ∈ ts, Ints wq wq.heap.size b t.1 t.2.1) ∧ Hid (w.grownBy wq (some b))) (fun u _ => ts.length - (intOf u).toNat)
    case atStart => exact ⟨0, rfl, Nat.zero_le _, by rw [mulI_zero]; exact HH.out.1, HH.out.2.1, World.grownBy.refl _ _⟩
    case round =>
      obtain ⟨j, rfl, hjt, HR2, HI2, HG⟩ := hrel
      by_cases h2 : j < ts.length
      · obtain ⟨⟨s, xs, k⟩, hs⟩ := get_lt h2
        have hs2 : (mulI g ts j)[j]? = some (s, xs, k) := by rw [mulI_get _ h2]; exact hs
        obtain ⟨c1, c2⟩ := HR2.out.cells j _ hs2
        have c3 := HR2.out.thaw (j * 2 + 1) (by rw [mulI_len]; omega)
        rw [← Nat.add_assoc] at c3
        simp only at c1 c2
        obtain ⟨hk0, hk1⟩ := HH.out.2.2 _ (List.mem_of_getElem? hs)
        simp only at hk0 hk1
        have HS : Hid (ts[j]? = some (s, xs, k)) := hs
        obtain ⟨P, hP⟩ : ∃ P, k * g = P := ⟨_, rfl⟩
        rw [hP] at hk0 hk1
        have HR3 : Hid (Row (wr.setCell ⟨b, o + j * 2 + 1, none⟩ (.int .i64 P)) b o (mulI g ts (j + 1))) := by
          have := HR2.out.setW hs2 P
          rwa [show (mulI g ts j).set j (s, xs, P) = mulI g ts (j + 1) by rw [← hP]; exact mulI_set g hs] at this
        clear hs hs2
        go_wp2
        go_roundw
        case rel => exact ⟨j + 1, by go_num, h2, HR3, fun t ht => by simpa using (HI2.out t ht).set rfl _, grown_set HG.out _ rfl _⟩
        case measure => simp [intOf]; omega
      · have hown : Own wr lo (.slice (some ⟨b, o, none⟩) ts.length c) (mulT g ts) := by
          refine ⟨b, o, c, by rw [mulT_len], by rw [mulT_len]; exact hc, by rw [mulT_len]; exact hl, hlo, ?_, fun t ht => ?_⟩
          · rw [← mulI_all g (i := j) (by omega)]; exact HR2.out
          · obtain ⟨u, hu, e1, e2⟩ := mulT_mem ht
            rw [e1, e2]
            exact HI2.out u hu
        have HO : Hid (Own wr lo (.slice (some ⟨b, o, none⟩) ts.length c) (mulT g ts)) := hown
        clear hown HR2 HI2 HH
        go_wp2
        go_ret
        exact ⟨rfl, .inr HO.out, HG.out⟩
end Go.Proofs.YtlndlpjadajelaaGreat

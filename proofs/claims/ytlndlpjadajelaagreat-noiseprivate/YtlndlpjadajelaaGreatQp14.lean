import Derived.Test.YtlndlpjadajelaaGreatQp13
import Derived.Test.YtlndlpjadajelaaGreatQp09
namespace Go.Proofs.YtlndlpjadajelaaGreat
open Go.RowKit Go.Proofs.YtlndlpjadajelaaGreat.Ds

/-! ### what Make makes is one -/
theorem cut_one (l : List Pt) : cut 1 l = l := by
  unfold cut
  conv => rhs; rw [← List.map_id l]
  exact List.map_congr_left fun p _ => by simp
theorem Dis.own {l : List Pt} (h : Dis l) : ownT l = (l, 0) := by
  have hg : gath l = l := gath_is (fun p hp => Int.le_of_lt (h.pos p hp)) h.rise h.pos fun _ => rfl
  have hm : makeT l = (l, 0) := by
    unfold makeT lowT
    rw [if_pos h.ok, hg, if_neg h.ne, h.one]
    simp only [Int.natCast_one, cut_one]
    rw [if_neg (by have := h.le; have := h.few; omega)]
  unfold ownT
  rw [hm]
  simp
theorem grow_tot (g : Int) (l : List Pt) : tot (grow g l) = g * tot l := by
  induction l with
  | nil => simp [grow]
  | cons p l ih =>
    simp only [grow, List.map_cons] at *
    rw [tot_cons, tot_cons, ih, Int.mul_add]
theorem make_told {k l' : List Pt} (h : makeT k = (l', 0)) : Dis l' ∧ ∃ g : Int, 0 < g ∧ (∀ o, wt k o = g * wt l' o) ∧ tot k = g * tot l' := by
  unfold makeT at h
  split at h
  · rename_i hok
    have hp := gath_pos (all_okP hok).1
    obtain ⟨a, b, c, d, e, f⟩ := lowT_ok hp (gath_rise k) h
    have hne : gath k ≠ [] := by intro h0; rw [h0] at h; simp [lowT] at h
    have hl : l' = cut (dv (gath k)) (gath k) := by
      unfold lowT at h
      rw [if_neg hne] at h
      split at h
      · simp at h
      · simp at h; exact h.symm
    have hg : grow (dv (gath k)) l' = gath k := by rw [hl]; exact cut_back fun p hp => dv_dvd_int hp
    have hd := dv_pos hp hne
    have hw : ∀ o, wt k o = (dv (gath k) : Int) * wt l' o := fun o => by rw [← grow_wt, hg, gath_wt]
    refine ⟨⟨a, b, c, d, ?_, e, f⟩, dv (gath k), by omega, hw, by rw [← grow_tot, hg, gath_tot]⟩
    rw [List.all_eq_true]
    intro p hpm
    have h1 : 0 < wt k p.1 := by rw [hw]; exact Int.mul_pos (by omega) (mem_wt_pos a b hpm)
    obtain ⟨q, hq, he⟩ := wt_pos_mem h1
    have h2 := List.all_eq_true.1 hok q hq
    have h3 := Pos.le_tot (Nn.of_pos b) hpm
    have h4 := b p hpm
    unfold okP at *
    rw [Bool.and_eq_true] at *
    exact ⟨by simp; omega, he ▸ h2.2⟩
  · simp at h

theorem cancel2 {g g' x y : Int} (hg : 0 < g) (hg' : 0 < g') (h : g * g' * x ≤ g * g' * y) : x ≤ y :=
  Int.le_of_mul_le_mul_left h (Int.mul_pos hg hg')

/-! ### what Far tells of two that were made -/
theorem pos_cancel {g x : Int} (hg : 0 < g) (h : 0 < g * x) : 0 < x := by
  rcases Int.lt_or_le 0 x with k | k
  · exact k
  · have := Int.mul_le_mul_of_nonneg_left k (Int.le_of_lt hg)
    omega
theorem sup_make {L M l m : List Pt} {g g' : Int} (hg : 0 < g) (hg' : 0 < g') (w1 : ∀ o, wt L o = g * wt l o) (w2 : ∀ o, wt M o = g' * wt m o) (h : Sup L M) : Sup l m := by
  intro o
  have h1 := h o
  rw [w1, w2] at h1
  have e1 : 0 < g * wt l o ↔ 0 < wt l o := ⟨fun k => pos_cancel hg k, fun k => Int.mul_pos hg k⟩
  have e2 : 0 < g' * wt m o ↔ 0 < wt m o := ⟨fun k => pos_cancel hg' k, fun k => Int.mul_pos hg' k⟩
  rw [e1, e2] at h1
  exact h1
theorem bd_make {L M l m : List Pt} {g g' U D : Int} (hg : 0 < g) (hg' : 0 < g') (w1 : ∀ o, wt L o = g * wt l o) (w2 : ∀ o, wt M o = g' * wt m o) (t1 : tot L = g * tot l) (t2 : tot M = g' * tot m) (h : Bd L M U D) : Bd l m U D := by
  refine ⟨h.1, fun o ho => ?_⟩
  have h1 := h.2 o (by rw [w1]; exact Int.mul_pos hg ho)
  rw [w1, w2, t1, t2] at h1
  constructor
  · refine cancel2 hg hg' ?_
    have := h1.1
    calc g * g' * (wt l o * tot m * D) = g * wt l o * (g' * tot m) * D := by simp only [Int.mul_assoc, Int.mul_left_comm]
      _ ≤ U * (g' * wt m o * (g * tot l)) := this
      _ = g * g' * (U * (wt m o * tot l)) := by simp only [Int.mul_assoc, Int.mul_left_comm]
  · refine cancel2 hg hg' ?_
    have := h1.2
    calc g * g' * (wt m o * tot l * D) = g' * wt m o * (g * tot l) * D := by simp only [Int.mul_assoc, Int.mul_left_comm]
      _ ≤ U * (g * wt l o * (g' * tot m)) := this
      _ = g * g' * (U * (wt l o * tot m)) := by simp only [Int.mul_assoc, Int.mul_left_comm]
/-- as far as something is, and no further -/
theorem far_make {L M l m : List Pt} {n d : Int} (h1 : makeT L = (l, 0)) (h2 : makeT M = (m, 0)) (hs : Sup L M) (hb : Bd L M n d) (hn : 0 < n) (hr : Rt.rightB n d = true) (o : List Int) (ho : 0 < wt L o) (hat : wt L o * tot M * d = n * (wt M o * tot L)) : farT l m = (n, d, 0) := by
  obtain ⟨d1, g, hg, w1, t1⟩ := make_told h1
  obtain ⟨d2, g', hg', w2, t2⟩ := make_told h2
  have hsl := sup_make hg hg' w1 w2 hs
  have hbl := bd_make hg hg' w1 w2 t1 t2 hb
  have hrb := Rt.right_bd hr
  have hd : 0 < d := by omega
  have he : twoE l m = 0 := by unfold twoE; rw [d1.own, d2.own]; simp
  rcases far_is d1 d2 he with ⟨h, _⟩ | ⟨_, U, D, hU, hD, hf, hbU, hmin⟩
  · exact absurd hsl h
  · have a1 := hmin n d hn hd hbl
    have hol : 0 < wt l o := by rw [w1] at ho; exact pos_cancel hg ho
    have a2 := (hbU.2 o hol).1
    have e1 : wt l o * tot m * d = n * (wt m o * tot l) := by
      rw [w1, w2, t1, t2] at hat
      have hgg : 0 < g * g' := Int.mul_pos hg hg'
      refine Int.eq_of_mul_eq_mul_left (show g * g' ≠ 0 by omega) ?_
      calc g * g' * (wt l o * tot m * d) = g * wt l o * (g' * tot m) * d := by simp only [Int.mul_assoc, Int.mul_left_comm]
        _ = n * (g' * wt m o * (g * tot l)) := hat
        _ = g * g' * (n * (wt m o * tot l)) := by simp only [Int.mul_assoc, Int.mul_left_comm]
    have hY : 0 < wt m o * tot l := Int.mul_pos ((hsl o).1 hol) (tot_pos2 d1.pos d1.ne)
    have a3 : n * D ≤ U * d := by
      refine Int.le_of_mul_le_mul_right (a := wt m o * tot l) ?_ hY
      calc n * D * (wt m o * tot l) = n * (wt m o * tot l) * D := Int.mul_right_comm _ _ _
        _ = wt l o * tot m * d * D := by rw [e1]
        _ = wt l o * tot m * D * d := Int.mul_right_comm _ _ _
        _ ≤ U * (wt m o * tot l) * d := Int.mul_le_mul_of_nonneg_right a2 (by omega)
        _ = U * d * (wt m o * tot l) := Int.mul_right_comm _ _ _
    have e2 : U * d = n * D := Int.le_antisymm a1 a3
    rw [hf, mkT_cross hU hD hn hd e2]
    obtain ⟨x, rfl⟩ := Int.eq_ofNat_of_zero_le (show 0 ≤ n by omega)
    obtain ⟨y, rfl⟩ := Int.eq_ofNat_of_zero_le (show 0 ≤ d by omega)
    have hr' := (Rt.right_nat x y).1 hr
    rw [Rt.mkT_coprime x y hr'.2.1 hr'.2.2.2, if_pos ⟨hr'.1, hr'.2.2.1⟩]
end Go.Proofs.YtlndlpjadajelaaGreat

namespace Go.Proofs.YtlndlpjadajelaaGreat
open Go.RowKit Go.Proofs.YtlndlpjadajelaaGreat.Ds

/-! ### what is made of parts that are no more than may be -/
theorem make_ok {L : List Pt} (ho : L.all okP = true) (h0 : 0 < tot L) (h1 : tot L ≤ 1073741824) (hl : L.length ≤ 4096) : ∃ l, makeT L = (l, 0) := by
  have hne : gath L ≠ [] := by
    intro h
    have := gath_tot L
    rw [h] at this
    simp [tot] at this
    omega
  have hp := gath_pos (all_okP ho).1
  have hd := dv_pos hp hne
  refine ⟨cut (dv (gath L)) (gath L), ?_⟩
  unfold makeT lowT
  rw [if_pos ho, if_neg hne, if_neg]
  have h2 := gath_length L
  have h3 : tot (cut (dv (gath L)) (gath L)) ≤ tot L := by
    rw [cut_tot (fun p hp => dv_dvd_int hp), gath_tot]
    exact Int.ediv_le_self _ (by omega)
  omega

/-! ### one number each -/
theorem rise_one (f : Nat → Int) (g : Nat → Int) (hf : ∀ i j, i < j → f i < f j) (n : Nat) : Rise ((List.range n).map fun (i : Nat) => (([f i], g i) : Pt)) := by
  unfold Rise
  rw [List.pairwise_map]
  refine List.Pairwise.imp ?_ List.pairwise_lt_range
  intro i j hij
  have := hf i j hij
  simp [ltL, cmpT, this]
theorem wt_one {f g : Nat → Int} (hf : ∀ i j, i < j → f i < f j) {n i : Nat} (hi : i < n) : wt ((List.range n).map fun (i : Nat) => (([f i], g i) : Pt)) [f i] = g i := by
  have hm : (([f i], g i) : Pt) ∈ (List.range n).map fun (i : Nat) => (([f i], g i) : Pt) := List.mem_map.2 ⟨i, List.mem_range.2 hi, rfl⟩
  exact wt_mem (rise_one f g hf n) hm
theorem wt_one_pos {f g : Nat → Int} {n : Nat} {o : List Int} (h : 0 < wt ((List.range n).map fun (i : Nat) => (([f i], g i) : Pt)) o) : ∃ i, i < n ∧ o = [f i] := by
  obtain ⟨p, hp, rfl⟩ := wt_pos_mem h
  obtain ⟨i, hi, rfl⟩ := List.mem_map.1 hp
  exact ⟨i, List.mem_range.1 hi, rfl⟩
theorem okP_one {z k : Int} (h1 : -1073741824 ≤ z) (h2 : z ≤ 1073741824) (h3 : 0 ≤ k) (h4 : k ≤ 1073741824) : okP ([z], k) = true := by
  simp [okP, okO, okN, h1, h2, h3, h4]

/-! ### Hide -/
theorem hid_okP {u d lo : Int} {R a : Nat} (hR1 : 1 ≤ R) (ha : a ≤ R) (hd : 1 ≤ d) (hdu : d ≤ u) (hm : (u + d) * u ^ R ≤ 1073741824) (hlo : -1073741824 ≤ lo) (hhi : lo + (R : Int) ≤ 1073741824) : (hidL u d lo R a).all okP = true := by
  rw [List.all_eq_true]
  intro p hp
  obtain ⟨i, hi, rfl⟩ := List.mem_map.1 hp
  have := List.mem_range.1 hi
  exact okP_one (by omega) (by omega) (hwt_nn hd hdu R a i) (Int.le_trans (hwt_le hd hdu ha hR1 (by omega)) hm)
theorem hid_make {u d lo : Int} {R a : Nat} (hR1 : 1 ≤ R) (hR : R ≤ 64) (ha : a ≤ R) (hd : 1 ≤ d) (hdu : d ≤ u) (hm : (u + d) * u ^ R ≤ 1073741824) (hlo : -1073741824 ≤ lo) (hhi : lo + (R : Int) ≤ 1073741824) : ∃ l, makeT (hidL u d lo R a) = (l, 0) := by
  refine make_ok (hid_okP hR1 ha hd hdu hm hlo hhi) ?_ ?_ (by simp [hidL]; omega)
  · rw [hid_tot ha hR1]
    exact Int.mul_pos (by omega) (by have := pow_pos' (show 1 ≤ u by omega) R; omega)
  · rw [hid_tot ha hR1]; exact hm
theorem hid_wt {u d lo : Int} {R a i : Nat} (hi : i ≤ R) : wt (hidL u d lo R a) [lo + (i : Int)] = hwt u d R a i :=
  wt_one (f := fun i => lo + (i : Int)) (g := hwt u d R a) (fun i j h => by omega) (by omega)
theorem hwt_pos {u d : Int} (hd : 1 ≤ d) (h : d < u) (R a i : Nat) : 0 < hwt u d R a i := by
  unfold hwt
  refine Int.mul_pos (gk_pos (by omega) (by omega) _ _) ?_
  split <;> omega
/-- JUST SO FAR -/
theorem hid_far {u d lo : Int} {R a b f : Nat} {l m : List Pt} (hR1 : 1 ≤ R) (ha : a ≤ R) (hb : b ≤ R) (hd : 1 ≤ d) (hdu : d < u) (hrt : Rt.rightB u d = true) (hm : (u + d) * u ^ R ≤ 1073741824)
    (h1 : makeT (hidL u d lo R a) = (l, 0)) (h2 : makeT (hidL u d lo R b) = (m, 0)) (hf : f = a - b + (b - a)) : farT l m = (u ^ f, d ^ f, 0) := by
  have hu1 : 1 ≤ u := by omega
  have hT : 0 < (u + d) * u ^ R := Int.mul_pos (by omega) (by have := pow_pos' hu1 R; omega)
  have t1 := hid_tot (u := u) (d := d) (lo := lo) ha hR1
  have t2 := hid_tot (u := u) (d := d) (lo := lo) hb hR1
  have hfR : u ^ f ≤ 1073741824 := by
    have e1 := pow_mono hu1 (show f ≤ R by omega)
    have e2 := Int.mul_le_mul_of_nonneg_right (show 1 ≤ u + d by omega) (show 0 ≤ u ^ R from pow_nn (by omega) _)
    omega
  have hp : 0 < u ^ f := by have := pow_pos' hu1 f; omega
  have hr : Rt.rightB (u ^ f) (d ^ f) = true := by
    obtain ⟨x, rfl⟩ := Int.eq_ofNat_of_zero_le (show 0 ≤ u by omega)
    obtain ⟨y, rfl⟩ := Int.eq_ofNat_of_zero_le (show 0 ≤ d by omega)
    have hg := (Rt.right_nat x y).1 hrt
    have hy := pow_le (show (0 : Int) ≤ (y : Int) by omega) (show (y : Int) ≤ (x : Int) by omega) f
    rw [← Int.natCast_pow, ← Int.natCast_pow] at *
    refine (Rt.right_nat _ _).2 ⟨by omega, Nat.pow_pos hg.2.1, by omega, Nat.Coprime.pow f f hg.2.2.2⟩
  have hs : Sup (hidL u d lo R a) (hidL u d lo R b) := by
    intro o
    constructor
    · intro h
      obtain ⟨i, hi, rfl⟩ := wt_one_pos (f := fun i => lo + (i : Int)) (g := hwt u d R a) h
      show 0 < wt _ [lo + (i : Int)]
      rw [hid_wt (by omega)]; exact hwt_pos hd hdu _ _ _
    · intro h
      obtain ⟨i, hi, rfl⟩ := wt_one_pos (f := fun i => lo + (i : Int)) (g := hwt u d R b) h
      show 0 < wt _ [lo + (i : Int)]
      rw [hid_wt (by omega)]; exact hwt_pos hd hdu _ _ _
  have key : ∀ (i x y : Nat), i ≤ R → x ≤ R → y ≤ R → (y - i + (i - y)) ≤ (x - i + (i - x)) + f → hwt u d R x i * ((u + d) * u ^ R) * d ^ f ≤ u ^ f * (hwt u d R y i * ((u + d) * u ^ R)) := by
    intro i x y hi hx hy hxy
    have e1 := gk_bd hd (Int.le_of_lt hdu) (R := R) (k := i - x + (x - i)) (k' := i - y + (y - i)) (f := f) (by omega) (by omega) (by omega)
    unfold hwt
    have hc : 0 ≤ (if i = 0 ∨ i = R then u else u - d) := by split <;> omega
    generalize (if i = 0 ∨ i = R then u else u - d) = c at *
    have e2 := Int.mul_le_mul_of_nonneg_right e1 (Int.mul_nonneg hc (Int.le_of_lt hT))
    calc gk u d R (i - x + (x - i)) * c * ((u + d) * u ^ R) * d ^ f = gk u d R (i - x + (x - i)) * d ^ f * (c * ((u + d) * u ^ R)) := by rw [Int.mul_right_comm, Int.mul_right_comm _ c, Int.mul_assoc]
      _ ≤ u ^ f * gk u d R (i - y + (y - i)) * (c * ((u + d) * u ^ R)) := e2
      _ = u ^ f * (gk u d R (i - y + (y - i)) * c * ((u + d) * u ^ R)) := by simp only [Int.mul_assoc]
  refine far_make h1 h2 hs ⟨pow_le (by omega) (Int.le_of_lt hdu) f, ?_⟩ hp hr [lo + (a : Int)] (by rw [hid_wt ha]; exact hwt_pos hd hdu _ _ _) ?_
  · intro o ho
    obtain ⟨i, hi, rfl⟩ := wt_one_pos (f := fun i => lo + (i : Int)) (g := hwt u d R a) ho
    show wt _ [lo + (i : Int)] * _ * _ ≤ _ * (wt _ [lo + (i : Int)] * _) ∧ wt _ [lo + (i : Int)] * _ * _ ≤ _ * (wt _ [lo + (i : Int)] * _)
    rw [hid_wt (by omega), hid_wt (by omega), t1, t2]
    exact ⟨key i a b (by omega) ha hb (by omega), key i b a (by omega) hb ha (by omega)⟩
  · rw [hid_wt ha, hid_wt ha, t1, t2]
    have e1 := gk_far u d (R := R) (k := 0) f (by omega)
    unfold hwt
    rw [show a - a + (a - a) = 0 by omega, show a - b + (b - a) = 0 + f by omega]
    generalize (if a = 0 ∨ a = R then u else u - d) = c at *
    calc gk u d R 0 * c * ((u + d) * u ^ R) * d ^ f = d ^ f * gk u d R 0 * (c * ((u + d) * u ^ R)) := by rw [Int.mul_right_comm, Int.mul_right_comm _ c, Int.mul_assoc, Int.mul_comm (d ^ f)]
      _ = u ^ f * gk u d R (0 + f) * (c * ((u + d) * u ^ R)) := by rw [e1]
      _ = u ^ f * (gk u d R (0 + f) * c * ((u + d) * u ^ R)) := by simp only [Int.mul_assoc]
/-- by 1 everything is the same -/
theorem hid_same {u lo : Int} (h : Rt.rightB u u = true) (hu : 1 ≤ u) {R a b : Nat} : hidL u u lo R a = hidL u u lo R b := by
  have e : u = 1 := by
    obtain ⟨x, rfl⟩ := Int.eq_ofNat_of_zero_le (show 0 ≤ u by omega)
    have := ((Rt.right_nat x x).1 h).2.2.2
    rw [Nat.gcd_self] at this
    omega
  subst e
  unfold hidL hwt gk
  simp [Int.one_pow]

/-- what Hide tells of two numbers -/
theorem hide_two {u d lo hi m n : Int} {l : List Pt} (h : hideT u d lo hi m = (l, 0)) :
    ∃ l', hideT u d lo hi n = (l', 0) ∧ lossE u d = 0 ∧ (u = d ∨ lo = hi → l = l') ∧
      (¬ u = d → ¬ lo = hi → ∃ f : Nat, (f : Int) = max (plcT lo hi m - plcT lo hi n) (plcT lo hi n - plcT lo hi m) ∧ Rt.powT u d f = (u ^ f, d ^ f, 0) ∧ farT l l' = (u ^ f, d ^ f, 0)) := by
  unfold hideT at *
  by_cases c0 : lossE u d = 0
  · obtain ⟨hrt, hdu, hd1, hu1⟩ := loss_ok c0
    rw [if_neg (by simpa using c0)] at *
    by_cases c1 : -1073741824 ≤ lo ∧ lo ≤ hi ∧ hi ≤ 1073741824 ∧ hi - lo ≤ 64
    · rw [if_neg (by simp; omega)] at *
      by_cases c2 : lo = hi
      · rw [if_pos c2] at *
        exact ⟨l, h, c0, fun _ => rfl, fun _ k => absurd c2 k⟩
      · rw [if_neg c2] at *
        by_cases c3 : 1073741824 < (u + d) * u ^ (hi - lo).toNat
        · rw [if_pos c3] at h; simp at h
        · rw [if_neg c3] at *
          have hA : (plcT lo hi m - lo).toNat ≤ (hi - lo).toNat := by unfold plcT; omega
          have hB : (plcT lo hi n - lo).toNat ≤ (hi - lo).toNat := by unfold plcT; omega
          obtain ⟨l', hl'⟩ := hid_make (u := u) (d := d) (lo := lo) (R := (hi - lo).toNat) (a := (plcT lo hi n - lo).toNat) (by omega) (by omega) hB hd1 hdu (by omega) c1.1 (by omega)
          refine ⟨l', hl', c0, ?_, ?_⟩
          · intro hc
            rcases hc with rfl | hc
            · rw [hid_same hrt hd1 (b := (plcT lo hi n - lo).toNat), hl'] at h
              simpa using h.symm
            · exact absurd hc c2
          · intro hne _
            have p1 : lo ≤ plcT lo hi m := by unfold plcT; omega
            have p2 : lo ≤ plcT lo hi n := by unfold plcT; omega
            refine ⟨(plcT lo hi m - lo).toNat - (plcT lo hi n - lo).toNat + ((plcT lo hi n - lo).toNat - (plcT lo hi m - lo).toNat), by omega, ?_, hid_far (by omega) hA hB hd1 (by omega) hrt (by omega) h hl' rfl⟩
            generalize hf : (plcT lo hi m - lo).toNat - (plcT lo hi n - lo).toNat + ((plcT lo hi n - lo).toNat - (plcT lo hi m - lo).toNat) = f
            have hfR : f ≤ (hi - lo).toNat := by omega
            have e1 := pow_mono (show 1 ≤ u by omega) hfR
            have e2 := Int.mul_le_mul_of_nonneg_right (show 1 ≤ u + d by omega) (show 0 ≤ u ^ (hi - lo).toNat from pow_nn (by omega) _)
            have e3 := pow_le (show 0 ≤ d by omega) hdu f
            unfold Rt.powT Rt.mx
            rw [if_pos hrt, if_neg (by omega), Int.toNat_natCast, if_neg (by omega)]
    · rw [if_pos c1] at h; simp at h
  · rw [if_pos c0] at h
    simp at h
    exact absurd h.2 c0
end Go.Proofs.YtlndlpjadajelaaGreat

namespace Go.Proofs.YtlndlpjadajelaaGreat
open Go.RowKit Go.Proofs.YtlndlpjadajelaaGreat.Ds

/-- has it a number there -/
def hasP (place : Int) (p : Pt) : Bool := decide (0 ≤ place ∧ place < (p.1.length : Int))
/-- all numbers there, each times its weight -/
def msum (place : Int) : List Pt → Int
  | [] => 0
  | p :: l => p.1.getD place.toNat 0 * p.2 + msum place l

theorem msum_append (place : Int) (l k : List Pt) : msum place (l ++ k) = msum place l + msum place k := by
  induction l with
  | nil => simp [msum]
  | cons p l ih => simp only [List.cons_append, msum, ih]; omega
theorem msum_take {place : Int} {l : List Pt} {i : Nat} {p : Pt} (h : l[i]? = some p) : msum place (l.take (i + 1)) = msum place (l.take i) + p.1.getD place.toNat 0 * p.2 := by
  rw [List.take_add_one, h, msum_append]; simp [msum]

theorem okN_bd {n : Int} (h : okN n = true) : -1073741824 ≤ n ∧ n ≤ 1073741824 := by
  unfold okN at h; exact of_decide_eq_true h

theorem okP_at {p : Pt} (h : okP p = true) (i : Nat) : -1073741824 ≤ p.1.getD i 0 ∧ p.1.getD i 0 ≤ 1073741824 := by
  have h2 : ∀ x ∈ p.1, okN x = true := by
    unfold okP okO at h
    simp only [Bool.and_eq_true, List.all_eq_true] at h
    exact h.2.2
  rw [List.getD_eq_getElem?_getD]
  cases hx : p.1[i]? with
  | none => simp
  | some x => exact okN_bd (h2 x (List.mem_of_getElem? hx))

theorem mul_le_abs {x k : Int} (h : -1073741824 ≤ x ∧ x ≤ 1073741824) (hk : 0 ≤ k) : -1073741824 * k ≤ x * k ∧ x * k ≤ 1073741824 * k :=
  ⟨Int.mul_le_mul_of_nonneg_right h.1 hk, Int.mul_le_mul_of_nonneg_right h.2 hk⟩

theorem msum_bd {place : Int} {l : List Pt} (ho : l.all okP = true) : -1073741824 * tot l ≤ msum place l ∧ msum place l ≤ 1073741824 * tot l := by
  induction l with
  | nil => simp [msum]
  | cons p l ih =>
    simp only [List.all_cons, Bool.and_eq_true] at ho
    have h1 := ih ho.2
    have hk : 0 ≤ p.2 := (all_okP (l := [p]) (by simp [ho.1])).1 p (by simp)
    have h2 := mul_le_abs (okP_at ho.1 place.toNat) hk
    simp only [msum, tot_cons]
    omega

theorem all_take_true {α : Type} {l : List α} {f : α → Bool} (h : l.all f = true) (i : Nat) : (l.take i).all f = true := by
  rw [List.all_eq_true] at *
  exact fun x hx => h x (List.mem_of_mem_take hx)

theorem tdiv_abs (a b : Int) : (a.tdiv b).natAbs ≤ a.natAbs := by
  rw [Int.natAbs_tdiv]; exact Nat.div_le_self _ _

end Go.Proofs.YtlndlpjadajelaaGreat

import Derived.Test.YtfcbkcoagoncoaaQk42
import Derived.Test.YtfcbkcoagoncoaaQk02
namespace Go.Proofs.Ytfcbkcoagoncoaa
open Go.RowKit Go.Proofs.Ytfcbkcoagoncoaa.Ds

/-! ### the same just where nothing is likelier -/
def grow (g : Int) (l : List Pt) : List Pt := l.map fun p => (p.1, g * p.2)
theorem grow_wt (g : Int) (l : List Pt) (o : List Int) : wt (grow g l) o = g * wt l o := by
  induction l with
  | nil => simp [grow]
  | cons p l ih =>
    simp only [grow, List.map_cons] at *
    rw [wt_cons, wt_cons, ih, Int.mul_add]
    simp only
    split <;> simp
/-! ### Apart, by the outcomes of the first -/
/-! ### what the law asks -/
end Go.Proofs.Ytfcbkcoagoncoaa

namespace Go.Proofs.Ytfcbkcoagoncoaa
open Go.RowKit Go.Proofs.Ytfcbkcoagoncoaa.Ds

/-! ### what Make makes is one -/
theorem cut_one (l : List Pt) : cut 1 l = l := by
  unfold cut
  conv => rhs; rw [← List.map_id l]
  exact List.map_congr_left fun p _ => by simp
theorem Dis.own {l : List Pt} (h : Dis l) : ownT l = (l, 0) := by
  have hg : gath l = l := gath_is (fun p hp => Int.le_of_lt (h.pos p hp)) h.rise h.pos fun _ => rfl
  have hm : makeT l = (l, 0) := by
    unfold makeT lowT
    rw [if_pos h.ok, hg, if_neg h.ne, h.one]
    simp only [Int.natCast_one, cut_one]
    rw [if_neg (by have := h.le; have := h.few; omega)]
  unfold ownT
  rw [hm]
  simp
theorem grow_tot (g : Int) (l : List Pt) : tot (grow g l) = g * tot l := by
  induction l with
  | nil => simp [grow]
  | cons p l ih =>
    simp only [grow, List.map_cons] at *
    rw [tot_cons, tot_cons, ih, Int.mul_add]
theorem make_told {k l' : List Pt} (h : makeT k = (l', 0)) : Dis l' ∧ ∃ g : Int, 0 < g ∧ (∀ o, wt k o = g * wt l' o) ∧ tot k = g * tot l' := by
  unfold makeT at h
  split at h
  · rename_i hok
    have hp := gath_pos (all_okP hok).1
    obtain ⟨a, b, c, d, e, f⟩ := lowT_ok hp (gath_rise k) h
    have hne : gath k ≠ [] := by intro h0; rw [h0] at h; simp [lowT] at h
    have hl : l' = cut (dv (gath k)) (gath k) := by
      unfold lowT at h
      rw [if_neg hne] at h
      split at h
      · simp at h
      · simp at h; exact h.symm
    have hg : grow (dv (gath k)) l' = gath k := by rw [hl]; exact cut_back fun p hp => dv_dvd_int hp
    have hd := dv_pos hp hne
    have hw : ∀ o, wt k o = (dv (gath k) : Int) * wt l' o := fun o => by rw [← grow_wt, hg, gath_wt]
    refine ⟨⟨a, b, c, d, ?_, e, f⟩, dv (gath k), by omega, hw, by rw [← grow_tot, hg, gath_tot]⟩
    rw [List.all_eq_true]
    intro p hpm
    have h1 : 0 < wt k p.1 := by rw [hw]; exact Int.mul_pos (by omega) (mem_wt_pos a b hpm)
    obtain ⟨q, hq, he⟩ := wt_pos_mem h1
    have h2 := List.all_eq_true.1 hok q hq
    have h3 := Pos.le_tot (Nn.of_pos b) hpm
    have h4 := b p hpm
    unfold okP at *
    rw [Bool.and_eq_true] at *
    exact ⟨by simp; omega, he ▸ h2.2⟩
  · simp at h

theorem cancel2 {g g' x y : Int} (hg : 0 < g) (hg' : 0 < g') (h : g * g' * x ≤ g * g' * y) : x ≤ y :=
  Int.le_of_mul_le_mul_left h (Int.mul_pos hg hg')

/-! ### what Far tells of two that were made -/
theorem pos_cancel {g x : Int} (hg : 0 < g) (h : 0 < g * x) : 0 < x := by
  rcases Int.lt_or_le 0 x with k | k
  · exact k
  · have := Int.mul_le_mul_of_nonneg_left k (Int.le_of_lt hg)
    omega
theorem sup_make {L M l m : List Pt} {g g' : Int} (hg : 0 < g) (hg' : 0 < g') (w1 : ∀ o, wt L o = g * wt l o) (w2 : ∀ o, wt M o = g' * wt m o) (h : Sup L M) : Sup l m := by
  intro o
  have h1 := h o
  rw [w1, w2] at h1
  have e1 : 0 < g * wt l o ↔ 0 < wt l o := ⟨fun k => pos_cancel hg k, fun k => Int.mul_pos hg k⟩
  have e2 : 0 < g' * wt m o ↔ 0 < wt m o := ⟨fun k => pos_cancel hg' k, fun k => Int.mul_pos hg' k⟩
  rw [e1, e2] at h1
  exact h1
theorem bd_make {L M l m : List Pt} {g g' U D : Int} (hg : 0 < g) (hg' : 0 < g') (w1 : ∀ o, wt L o = g * wt l o) (w2 : ∀ o, wt M o = g' * wt m o) (t1 : tot L = g * tot l) (t2 : tot M = g' * tot m) (h : Bd L M U D) : Bd l m U D := by
  refine ⟨h.1, fun o ho => ?_⟩
  have h1 := h.2 o (by rw [w1]; exact Int.mul_pos hg ho)
  rw [w1, w2, t1, t2] at h1
  constructor
  · refine cancel2 hg hg' ?_
    have := h1.1
    calc g * g' * (wt l o * tot m * D) = g * wt l o * (g' * tot m) * D := by simp only [Int.mul_assoc, Int.mul_left_comm]
      _ ≤ U * (g' * wt m o * (g * tot l)) := this
      _ = g * g' * (U * (wt m o * tot l)) := by simp only [Int.mul_assoc, Int.mul_left_comm]
  · refine cancel2 hg hg' ?_
    have := h1.2
    calc g * g' * (wt m o * tot l * D) = g' * wt m o * (g * tot l) * D := by simp only [Int.mul_assoc, Int.mul_left_comm]
      _ ≤ U * (g * wt l o * (g' * tot m)) := this
      _ = g * g' * (U * (wt l o * tot m)) := by simp only [Int.mul_assoc, Int.mul_left_comm]
/-- as far as something is, and no further -/
theorem far_make {L M l m : List Pt} {n d : Int} (h1 : makeT L = (l, 0)) (h2 : makeT M = (m, 0)) (hs : Sup L M) (hb : Bd L M n d) (hn : 0 < n) (hr : Rt.rightB n d = true) (o : List Int) (ho : 0 < wt L o) (hat : wt L o * tot M * d = n * (wt M o * tot L)) : farT l m = (n, d, 0) := by
  obtain ⟨d1, g, hg, w1, t1⟩ := make_told h1
  obtain ⟨d2, g', hg', w2, t2⟩ := make_told h2
  have hsl := sup_make hg hg' w1 w2 hs
  have hbl := bd_make hg hg' w1 w2 t1 t2 hb
  have hrb := Rt.right_bd hr
  have hd : 0 < d := by omega
  have he : twoE l m = 0 := by unfold twoE; rw [d1.own, d2.own]; simp
  rcases far_is d1 d2 he with ⟨h, _⟩ | ⟨_, U, D, hU, hD, hf, hbU, hmin⟩
  · exact absurd hsl h
  · have a1 := hmin n d hn hd hbl
    have hol : 0 < wt l o := by rw [w1] at ho; exact pos_cancel hg ho
    have a2 := (hbU.2 o hol).1
    have e1 : wt l o * tot m * d = n * (wt m o * tot l) := by
      rw [w1, w2, t1, t2] at hat
      have hgg : 0 < g * g' := Int.mul_pos hg hg'
      refine Int.eq_of_mul_eq_mul_left (show g * g' ≠ 0 by omega) ?_
      calc g * g' * (wt l o * tot m * d) = g * wt l o * (g' * tot m) * d := by simp only [Int.mul_assoc, Int.mul_left_comm]
        _ = n * (g' * wt m o * (g * tot l)) := hat
        _ = g * g' * (n * (wt m o * tot l)) := by simp only [Int.mul_assoc, Int.mul_left_comm]
    have hY : 0 < wt m o * tot l := Int.mul_pos ((hsl o).1 hol) (tot_pos2 d1.pos d1.ne)
    have a3 : n * D ≤ U * d := by
      refine Int.le_of_mul_le_mul_right (a := wt m o * tot l) ?_ hY
      calc n * D * (wt m o * tot l) = n * (wt m o * tot l) * D := Int.mul_right_comm _ _ _
        _ = wt l o * tot m * d * D := by rw [e1]
        _ = wt l o * tot m * D * d := Int.mul_right_comm _ _ _
        _ ≤ U * (wt m o * tot l) * d := Int.mul_le_mul_of_nonneg_right a2 (by omega)
        _ = U * d * (wt m o * tot l) := Int.mul_right_comm _ _ _
    have e2 : U * d = n * D := Int.le_antisymm a1 a3
    rw [hf, mkT_cross hU hD hn hd e2]
    obtain ⟨x, rfl⟩ := Int.eq_ofNat_of_zero_le (show 0 ≤ n by omega)
    obtain ⟨y, rfl⟩ := Int.eq_ofNat_of_zero_le (show 0 ≤ d by omega)
    have hr' := (Rt.right_nat x y).1 hr
    rw [Rt.mkT_coprime x y hr'.2.1 hr'.2.2.2, if_pos ⟨hr'.1, hr'.2.2.1⟩]
end Go.Proofs.Ytfcbkcoagoncoaa

import Derived.Test.YtcmhokfeadeffaaNsk
namespace Go.Proofs.Ytcmhokfeadeffaa
open Go.RowKit Go.Proofs.Ytcmhokfeadeffaa.Ds

/-! ### WARNER -/
theorem res_wt {u d t : Int} {many i : Nat} (hi : i < many) : wt (resL u d t many) [(i : Int)] = if (i : Int) = t then u else d :=
  wt_one (f := fun i => (i : Int)) (g := fun i => if (i : Int) = t then u else d) (fun i j h => by omega) hi
theorem res_make {u d t : Int} {many : Nat} (h1 : 1 ≤ many) (h2 : many ≤ 4096) (h3 : 0 ≤ t) (h4 : t < many) (hd : 1 ≤ d) (hdu : d ≤ u) (hm : u + ((many : Int) - 1) * d ≤ 1073741824) : ∃ l, makeT (resL u d t many) = (l, 0) := by
  have m1 : 0 ≤ ((many : Int) - 1) * d := Int.mul_nonneg (by omega) (by omega)
  have ht := res_tot u d t (many := many) h3
  rw [if_pos h4] at ht
  refine make_ok ?_ (by omega) (by omega) (by simp [resL]; omega)
  rw [List.all_eq_true]
  intro p hp
  obtain ⟨i, hi, rfl⟩ := List.mem_map.1 hp
  have := List.mem_range.1 hi
  refine okP_one (by omega) (by omega) ?_ ?_ <;> split <;> omega
theorem res_far {u d a b : Int} {many : Nat} {l m : List Pt} (a0 : 0 ≤ a) (a1 : a < many) (b0 : 0 ≤ b) (b1 : b < many) (hd : 1 ≤ d) (hdu : d ≤ u) (hrt : Rt.rightB u d = true)
    (h1 : makeT (resL u d a many) = (l, 0)) (h2 : makeT (resL u d b many) = (m, 0)) : farT l m = if a = b then (1, 1, 0) else (u, d, 0) := by
  have ta := res_tot u d a (many := many) a0
  have tb := res_tot u d b (many := many) b0
  rw [if_pos a1] at ta
  rw [if_pos b1] at tb
  have hT : 0 < u + ((many : Int) - 1) * d := by
    have : 0 ≤ ((many : Int) - 1) * d := Int.mul_nonneg (by omega) (by omega)
    omega
  generalize u + ((many : Int) - 1) * d = T at *
  have pos : ∀ (t : Int) (i : Nat), 0 < (if (i : Int) = t then u else d) := by intro t i; split <;> omega
  have hs : Sup (resL u d a many) (resL u d b many) := by
    intro o
    constructor
    · intro h
      obtain ⟨i, hi, rfl⟩ := wt_one_pos (f := fun i => (i : Int)) (g := fun i => if (i : Int) = a then u else d) h
      show 0 < wt _ [(i : Int)]
      rw [res_wt hi]; exact pos _ _
    · intro h
      obtain ⟨i, hi, rfl⟩ := wt_one_pos (f := fun i => (i : Int)) (g := fun i => if (i : Int) = b then u else d) h
      show 0 < wt _ [(i : Int)]
      rw [res_wt hi]; exact pos _ _
  obtain ⟨x, rfl⟩ := Int.eq_ofNat_of_zero_le a0
  have hx : x < many := by omega
  by_cases c : (x : Int) = b
  · subst c
    rw [if_pos rfl]
    refine far_make h1 h2 hs ⟨Int.le_refl _, fun o ho => ⟨by rw [Int.mul_one, Int.one_mul]; exact Int.le_refl _, by rw [Int.mul_one, Int.one_mul]; exact Int.le_refl _⟩⟩ (by decide) (by decide) [(x : Int)] (by rw [res_wt hx]; exact pos _ _) (by rw [Int.mul_one, Int.one_mul])
  · rw [if_neg c]
    have key : ∀ (p q : Int), (p = u ∨ p = d) → (q = u ∨ q = d) → p * T * d ≤ u * (q * T) := by
      intro p q hp hq
      have e1 : p * d ≤ u * q := by
        rcases hp with rfl | rfl <;> rcases hq with rfl | rfl
        · exact Int.mul_le_mul_of_nonneg_left hdu (by omega)
        · exact Int.le_refl _
        · exact Int.mul_le_mul hdu hdu (by omega) (by omega)
        · exact Int.mul_le_mul_of_nonneg_right hdu (by omega)
      have e2 := Int.mul_le_mul_of_nonneg_right e1 (Int.le_of_lt hT)
      calc p * T * d = p * d * T := Int.mul_right_comm _ _ _
        _ ≤ u * q * T := e2
        _ = u * (q * T) := Int.mul_assoc _ _ _
    have ude : ∀ (t : Int) (i : Nat), (if (i : Int) = t then u else d) = u ∨ (if (i : Int) = t then u else d) = d := by intro t i; split <;> simp
    refine far_make h1 h2 hs ⟨hdu, fun o ho => ?_⟩ (by omega) hrt [(x : Int)] (by rw [res_wt hx]; exact pos _ _) ?_
    · obtain ⟨i, hi, rfl⟩ := wt_one_pos (f := fun i => (i : Int)) (g := fun i => if (i : Int) = (x : Int) then u else d) ho
      show wt _ [(i : Int)] * _ * _ ≤ _ * (wt _ [(i : Int)] * _) ∧ wt _ [(i : Int)] * _ * _ ≤ _ * (wt _ [(i : Int)] * _)
      rw [res_wt hi, res_wt hi, ta, tb]
      exact ⟨key _ _ (ude _ _) (ude _ _), key _ _ (ude _ _) (ude _ _)⟩
    · rw [res_wt hx, res_wt hx, ta, tb, if_pos rfl, if_neg c, Int.mul_assoc, Int.mul_comm T d]
/-- what Respond tells of two truths -/
theorem res_two {u d many m n : Int} {l : List Pt} (h : resT u d many m = (l, 0)) :
    (¬ (0 ≤ n ∧ n < many) ∧ resT u d many n = ([], 3)) ∨ ((0 ≤ n ∧ n < many) ∧ ∃ l', resT u d many n = (l', 0) ∧ farT l l' = if m = n then (1, 1, 0) else (u, d, 0)) := by
  unfold resT at *
  by_cases c0 : lossE u d = 0
  · obtain ⟨hrt, hdu, hd1, hu1⟩ := loss_ok c0
    rw [if_neg (by simpa using c0)] at *
    by_cases c1 : 1 ≤ many ∧ many ≤ 4096 ∧ 0 ≤ m ∧ m < many
    · rw [if_neg (by simp; omega)] at h
      by_cases c2 : 1073741824 < u + (many - 1) * d
      · rw [if_pos c2] at h; simp at h
      · rw [if_neg c2] at h
        by_cases c3 : 0 ≤ n ∧ n < many
        · refine .inr ⟨c3, ?_⟩
          rw [if_neg (by simp; omega), if_neg c2]
          obtain ⟨M, rfl⟩ := Int.eq_ofNat_of_zero_le (show 0 ≤ many by omega)
          rw [Int.toNat_natCast] at *
          obtain ⟨l', hl'⟩ := res_make (u := u) (d := d) (t := n) (many := M) (by omega) (by omega) c3.1 c3.2 hd1 hdu (by omega)
          exact ⟨l', hl', res_far c1.2.2.1 c1.2.2.2 c3.1 c3.2 hd1 hdu hrt h hl'⟩
        · exact .inl ⟨c3, by rw [if_pos (by omega)]⟩
    · rw [if_pos c1] at h; simp at h
  · rw [if_pos c0] at h
    simp at h
    exact absurd h.2 c0
end Go.Proofs.Ytcmhokfeadeffaa

import Derived.Test.YtfcbkcoagoncoaaQf05
/-
  WHAT Shuffled AND Guess TELL, ON LISTS.
-/
namespace Go.Proofs.Ytfcbkcoagoncoaa.Crd
open Go.Proofs.Ytfcbkcoagoncoaa.Ds Go.Proofs.Ytfcbkcoagoncoaa

theorem cut_gro {l : List Pt} : gro (dv l) (cut (dv l) l) = l := by
  unfold gro cut
  rw [List.map_map]
  conv => rhs; rw [← List.map_id l]
  refine List.map_congr_left fun p hp => ?_
  show (p.1, (dv l : Int) * (p.2 / (dv l : Int))) = p
  rw [Int.mul_ediv_cancel' (dv_dvd_int hp)]
/-- what Respond says, one by one -/
theorem res_say (u d : Int) (k t : Nat) : resL u d (t : Int) (k + 1) = sayL (sayW u d t) k := by
  unfold resL sayL sayW
  refine List.map_congr_left fun i _ => ?_
  by_cases c : i = t
  · subst c; simp
  · rw [if_neg c, if_neg (by omega)]
theorem say_rise (σ : Nat → Int) (k : Nat) : Rise (sayL σ k) := by
  unfold Rise sayL
  rw [List.pairwise_map]
  have : (List.range (k + 1)).Pairwise (· < ·) := List.pairwise_lt_range
  exact this.imp fun h => ltL_cons_lt _ _ (by omega)
theorem say_pos {σ : Nat → Int} (h : ∀ j, 1 ≤ σ j) (k : Nat) : Pos (sayL σ k) := by
  intro p hp
  obtain ⟨j, _, rfl⟩ := List.mem_map.1 hp
  exact h j
theorem sayW_pos {u d : Int} (hu : 1 ≤ u) (hd : 1 ≤ d) (t j : Nat) : 1 ≤ sayW u d t j := by unfold sayW; split <;> omega
theorem say_tot (u d : Int) (k t : Nat) (ht : t ≤ k) : tot (sayL (sayW u d t) k) = u + k * d := by
  rw [← oneW_eq u d k t ht, oneW]
  unfold sayL
  generalize List.range (k + 1) = r
  induction r with
  | nil => rfl
  | cons x r ih => rw [List.map_cons, tot_cons, ih, smL]
theorem say_made {u d : Int} (hu : 1 ≤ u) (hd : 1 ≤ d) {k t : Nat} (hk : k ≤ 7) (ht : t ≤ k) (hS : u + k * d ≤ 1073741824) :
    ∃ (g : Int) (σ : Nat → Int), 0 < g ∧ (∀ j, j ≤ k → sayW u d t j = g * σ j) ∧ (∀ j, j ≤ k → 0 < σ j ∧ σ j ≤ u + k * d) ∧ makeT (resL u d (t : Int) (k + 1)) = (sayL σ k, 0) := by
  have hp := say_pos (sayW_pos hu hd t) k
  have hl : (sayL (sayW u d t) k).length = k + 1 := by simp [sayL]
  have hne : sayL (sayW u d t) k ≠ [] := by intro h; rw [h] at hl; simp at hl
  have hd0 := dv_pos hp hne
  have hmem : ∀ j, j ≤ k → ([(j : Int)], sayW u d t j) ∈ sayL (sayW u d t) k := fun j hj => List.mem_map.2 ⟨j, List.mem_range.2 (by omega), rfl⟩
  have hle : ∀ j, j ≤ k → sayW u d t j ≤ u + k * d := by
    intro j hj
    rw [← oneW_eq u d k t ht]
    exact smL_mem (fun x _ => by have := sayW_pos hu hd t x; omega) (List.mem_range.2 (by omega))
  refine ⟨dv (sayL (sayW u d t) k), fun j => sayW u d t j / (dv (sayL (sayW u d t) k) : Int), by omega, fun j hj => ?_, fun j hj => ⟨?_, ?_⟩, ?_⟩
  · exact (Int.mul_ediv_cancel' (dv_dvd_int (hmem j hj))).symm
  · have h1 : (dv (sayL (sayW u d t) k) : Int) * (sayW u d t j / (dv (sayL (sayW u d t) k) : Int)) = sayW u d t j := Int.mul_ediv_cancel' (dv_dvd_int (hmem j hj))
    have h2 := sayW_pos hu hd t j
    have h3 : (0 : Int) < dv (sayL (sayW u d t) k) := by omega
    rcases Int.lt_or_le 0 (sayW u d t j / (dv (sayL (sayW u d t) k) : Int)) with c | c
    · exact c
    · have := Int.mul_nonpos_of_nonneg_of_nonpos (Int.le_of_lt h3) c
      omega
  · have h2 := sayW_pos hu hd t j
    exact Int.le_trans (Int.ediv_le_self _ (by omega)) (hle j hj)
  · rw [res_say]
    have hok : (sayL (sayW u d t) k).all okP = true := by
      rw [List.all_eq_true]
      intro p hpm
      have h1 := hp p hpm
      obtain ⟨j, hj, rfl⟩ := List.mem_map.1 hpm
      have hj2 := List.mem_range.1 hj
      have h2 := hle j (by omega)
      unfold okP okO okN
      simp at h1 ⊢
      omega
    unfold makeT lowT
    rw [if_pos hok, gath_self (say_rise _ _) hp, if_neg hne, hl]
    have h1 := cut_tot_le hp
    rw [say_tot u d k t ht] at h1
    rw [if_neg (by omega)]
    unfold cut sayL
    rw [List.map_map]
    rfl

theorem pow_ge_one {S : Int} (hS : 1 ≤ S) (n : Nat) : 1 ≤ S ^ n := by
  have := Int.pow_pos (n := S) (m := n) (by omega)
  omega
theorem pow_up {S : Int} (hS : 1 ≤ S) (n : Nat) : S ^ n ≤ S ^ (n + 1) := by
  rw [Int.pow_succ]
  have h1 := pow_ge_one hS n
  have := Int.mul_le_mul_of_nonneg_left hS (show 0 ≤ S ^ n by omega)
  omega
theorem pow_up' {S : Int} (hS : 1 ≤ S) {n m : Nat} (h : n ≤ m) : S ^ n ≤ S ^ m := by
  induction m with
  | zero => obtain rfl : n = 0 := by omega
            exact Int.le_refl _
  | succ m ih =>
    rcases Nat.lt_or_ge n (m + 1) with c | c
    · exact Int.le_trans (ih (by omega)) (pow_up hS m)
    · obtain rfl : n = m + 1 := by omega
      exact Int.le_refl _
/-- ONE MORE IS HEARD: what is made -/
theorem step_make {u d : Int} (hu : 1 ≤ u) (hd : 1 ≤ d) {k t : Nat} (hk : k ≤ 7) (ht : t ≤ k) {ts : List Nat} (hts : ∀ x ∈ ts, x ≤ k) (hn : ts.length + 1 ≤ 4096) (hS : (u + k * d) ^ (ts.length + 1) ≤ 1073741824) {l s : List Pt}
    (hl : makeT (expL u d k ts) = (l, 0)) (hs : makeT (resL u d (t : Int) (k + 1)) = (s, 0)) : makeT (jn l s) = makeT (expL u d k (ts ++ [t])) := by
  have hS1 : 1 ≤ u + k * d := by have : 0 ≤ (k : Int) * d := Int.mul_nonneg (by omega) (by omega); omega
  have hSn := Int.le_trans (pow_up hS1 ts.length) hS
  have hS2 : u + k * d ≤ 1073741824 := by
    have := pow_up' hS1 (show 1 ≤ ts.length + 1 by omega)
    rw [Int.pow_one] at this
    omega
  obtain ⟨g, σ, hg, hσ, hσp, hs2⟩ := say_made hu hd hk ht hS2
  rw [hs] at hs2
  simp only [Prod.mk.injEq, and_true] at hs2
  subst hs2
  rw [exp_make hu hd hk (by omega) hts hSn] at hl
  split at hl
  · simp at hl
  simp only [Prod.mk.injEq, and_true] at hl
  obtain ⟨c, hc⟩ : ∃ c, dv (expL u d k ts) = c := ⟨_, rfl⟩
  have hne : expL u d k ts ≠ [] := by unfold expL; simp [cnts_ne]
  have hc0 := dv_pos (exp_pos hu hd k ts) hne
  have hw : ∀ o, wt (expL u d k ts) o = (dv (expL u d k ts) : Int) * wt l o := by
    intro o
    rw [← hl, ← gro_wt, cut_gro]
  have hlm : ∀ p ∈ l, ∃ h ∈ cnts ts.length k, p.1 = h ∧ 0 ≤ p.2 ∧ p.2 ≤ (u + k * d) ^ ts.length := by
    intro p hp
    rw [← hl] at hp
    obtain ⟨q, hq, rfl⟩ := List.mem_map.1 hp
    obtain ⟨h, hh, rfl⟩ := List.mem_map.1 hq
    have h1 := wgh_pos hu hd k ts h hh
    have h2 := wgh_le hu hd k ts hts hh
    refine ⟨h, hh, rfl, ?_, ?_⟩
    · exact Int.ediv_nonneg (by show 0 ≤ wgh u d k ts h; omega) (by omega)
    · exact Int.le_trans (Int.ediv_le_self _ (by show 0 ≤ wgh u d k ts h; omega)) h2
  have hlen : (ts ++ [t]).length = ts.length + 1 := by simp
  have hts2 : ∀ x ∈ ts ++ [t], x ≤ k := by
    intro x hx
    rcases List.mem_append.1 hx with h | h
    · exact hts x h
    · simp at h; omega
  refine (make_prop (Int.mul_pos (show (0 : Int) < dv (expL u d k ts) by omega) hg) ?_ (exp_ok hu hd hk (by omega) hts2 (by rw [hlen]; exact hS)) (jn_exp (fun p hp => ?_) hw hσ)).symm
  · rw [List.all_eq_true]
    intro p hp
    obtain ⟨q, hq, hp2⟩ := List.mem_flatMap.1 hp
    obtain ⟨r, hr, rfl⟩ := List.mem_map.1 hp2
    obtain ⟨j, hj, rfl⟩ := List.mem_map.1 hr
    have hj2 : j ≤ k := by have := List.mem_range.1 hj; omega
    obtain ⟨h, hh, e, h0, h1⟩ := hlm q hq
    obtain ⟨s1, s2⟩ := hσp j hj2
    have hle : q.2 * σ j ≤ (u + k * d) ^ (ts.length + 1) := by
      rw [Int.pow_succ]
      exact Int.mul_le_mul h1 s2 (by omega) (by omega)
    have hnn : 0 ≤ q.2 * σ j := Int.mul_nonneg h0 (by omega)
    unfold okP
    rw [Bool.and_eq_true]
    refine ⟨by simp; omega, ?_⟩
    simp only [List.headD_cons, Int.toNat_natCast]
    rw [e]
    exact okO_cnt (n := ts.length + 1) (by omega) (by omega) (inc_mem hh hj2)
  · obtain ⟨h, hh, e, _⟩ := hlm p hp
    rw [e]; exact cnts_len hh
/-- what is too much stays too much -/
theorem exp_much {u d : Int} (hu : 1 ≤ u) (hd : 1 ≤ d) {k : Nat} (hk : k ≤ 7) {ts us : List Nat} (hts : ∀ x ∈ ts ++ us, x ≤ k) (hn : (ts ++ us).length ≤ 4096) (hS : (u + k * d) ^ (ts ++ us).length ≤ 1073741824) {l : List Pt} {e : Int}
    (h : makeT (expL u d k ts) = (l, e)) (he : e ≠ 0) : makeT (expL u d k (ts ++ us)) = ([], e) := by
  have hS1 : 1 ≤ u + k * d := by have : 0 ≤ (k : Int) * d := Int.mul_nonneg (by omega) (by omega); omega
  have hle : ts.length ≤ (ts ++ us).length := by simp
  rw [exp_make hu hd hk (by omega) (fun x hx => hts x (by simp [hx])) (Int.le_trans (pow_up' hS1 hle) hS)] at h
  rw [exp_make hu hd hk hn hts hS]
  have mono : ∀ m, (cnts ts.length k).length ≤ (cnts (ts.length + m) k).length := by
    intro m
    induction m with
    | zero => exact Nat.le_refl _
    | succ m ih => exact Nat.le_trans ih (cnts_mono k _)
  have hm := mono us.length
  rw [List.length_append]
  split at h
  · rw [if_pos (by omega)]
    simp only [Prod.mk.injEq] at h
    rw [h.2]
  · simp only [Prod.mk.injEq] at h
    exact absurd h.2.symm he
theorem exp_nil (u d : Int) (k : Nat) : expL u d k [] = [(List.replicate (k + 1) 0, 1)] := by
  simp [expL, cnts_zero, wgh]
end Go.Proofs.Ytfcbkcoagoncoaa.Crd

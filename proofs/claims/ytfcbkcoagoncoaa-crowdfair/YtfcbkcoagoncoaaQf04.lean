import Derived.Test.YtfcbkcoagoncoaaQf02
import Derived.Test.YtfcbkcoagoncoaaQf03
/-
  CROWDS AS LISTS: what people may say, one behind the other, is what the counts say.
-/
namespace Go.Proofs.Ytfcbkcoagoncoaa.Crd
open Go.Proofs.Ytfcbkcoagoncoaa.Ds Go.Proofs.Ytfcbkcoagoncoaa

/-! ### counts -/
theorem tl_cons (x : Int) (h : List Int) : tl (x :: h) = x + tl h := rfl
theorem mem_cnts {k n : Nat} {h : List Int} : h ∈ cnts n k ↔ h.length = k + 1 ∧ (∀ x ∈ h, 0 ≤ x) ∧ tl h = n := by
  constructor
  · intro hh; exact ⟨cnts_len hh, cnts_nn hh, cnts_tl hh⟩
  · induction k generalizing n h with
    | zero =>
      rintro ⟨h1, h2, h3⟩
      match h, h1 with
      | [x], _ =>
        simp [tl, smL] at h3
        simp [cnts, h3]
    | succ k ih =>
      rintro ⟨h1, h2, h3⟩
      match h, h1 with
      | x :: l, h1 =>
        have hx := h2 x (by simp)
        have hl : ∀ y ∈ l, 0 ≤ y := fun y hy => h2 y (by simp [hy])
        have ht : 0 ≤ tl l := smL_nn hl
        rw [tl_cons] at h3
        simp only [cnts, List.mem_flatMap, List.mem_map, List.mem_range]
        refine ⟨x.toNat, by omega, l, ih ⟨by simpa using h1, hl, by omega⟩, by simp; omega⟩
theorem ltL_cons_lt {a b : Int} (x y : List Int) (h : a < b) : ltL (a :: x) (b :: y) := by simp [ltL, cmpT, h]
theorem ltL_cons_eq {a : Int} {x y : List Int} (h : ltL x y) : ltL (a :: x) (a :: y) := by simpa [ltL, cmpT] using h
theorem cnts_rise (k : Nat) : ∀ n, (cnts n k).Pairwise ltL := by
  induction k with
  | zero => intro n; simp [cnts]
  | succ k ih =>
    intro n
    simp only [cnts]
    rw [List.pairwise_flatMap]
    refine ⟨fun i _ => ?_, ?_⟩
    · rw [List.pairwise_map]
      exact (ih (n - i)).imp fun h => ltL_cons_eq h
    · have : (List.range (n + 1)).Pairwise (· < ·) := List.pairwise_lt_range
      refine this.imp ?_
      intro a b hab x hx y hy
      obtain ⟨x', _, rfl⟩ := List.mem_map.1 hx
      obtain ⟨y', _, rfl⟩ := List.mem_map.1 hy
      exact ltL_cons_lt _ _ (by omega)
/-- how many ways there are, never fewer of more people -/
theorem cnts_mono (k : Nat) : ∀ n, (cnts n k).length ≤ (cnts (n + 1) k).length := by
  cases k with
  | zero => intro n; simp [cnts]
  | succ k =>
    intro n
    simp only [cnts, List.length_flatMap, List.length_map]
    rw [range_succ_first (n + 1), List.map_cons, List.sum_cons, List.map_map]
    have : (List.range (n + 1)).map ((fun i => (cnts (n + 1 - i) k).length) ∘ (· + 1)) = (List.range (n + 1)).map fun i => (cnts (n - i) k).length := by
      refine List.map_congr_left fun i _ => ?_
      show (cnts (n + 1 - (i + 1)) k).length = _
      rw [show n + 1 - (i + 1) = n - i by omega]
    rw [this]
    omega
theorem cnts_ne (k n : Nat) : cnts n k ≠ [] := by
  have : ∀ m, 1 ≤ (cnts m k).length := by
    intro m
    induction m with
    | zero => simp [cnts_zero]
    | succ m ih => have := cnts_mono k m; omega
  intro h
  have := this n
  rw [h] at this
  simp at this

/-! ### one more, one less -/
def inc (j : Nat) (h : List Int) : List Int := h.set j (h.getD j 0 + 1)
theorem set_len (h : List Int) (j : Nat) (v : Int) : (h.set j v).length = h.length := by simp
theorem inc_len (j : Nat) (h : List Int) : (inc j h).length = h.length := by simp [inc]
theorem dec_len (j : Nat) (h : List Int) : (dec j h).length = h.length := by simp [dec]
theorem getD_set (h : List Int) (j : Nat) (v : Int) (hj : j < h.length) : (h.set j v).getD j 0 = v := by simp [List.getD, hj]
theorem set_getD (h : List Int) (j : Nat) (hj : j < h.length) : h.set j (h.getD j 0) = h := by
  apply List.ext_getElem?
  intro i
  rw [List.getElem?_set]
  by_cases e : j = i
  · subst e; simp [List.getD, hj]
  · simp [e]
theorem inc_dec (j : Nat) (h : List Int) (hj : j < h.length) : inc j (dec j h) = h := by
  unfold inc dec
  rw [getD_set _ _ _ hj, List.set_set, show h.getD j 0 - 1 + 1 = h.getD j 0 by omega, set_getD h j hj]
theorem dec_inc (j : Nat) (h : List Int) (hj : j < h.length) : dec j (inc j h) = h := by
  unfold inc dec
  rw [getD_set _ _ _ hj, List.set_set, show h.getD j 0 + 1 - 1 = h.getD j 0 by omega, set_getD h j hj]
theorem tl_set : ∀ (h : List Int) (j : Nat) (v : Int), j < h.length → tl (h.set j v) = tl h - h.getD j 0 + v
  | [], j, v, hj => by simp at hj
  | x :: h, 0, v, _ => by simp only [List.set_cons_zero, tl_cons, List.getD_cons_zero]; omega
  | x :: h, j + 1, v, hj => by
    simp only [List.set_cons_succ, tl_cons, List.getD_cons_succ]
    rw [tl_set h j v (by simpa using hj)]; omega
theorem getD_mem {h : List Int} {j : Nat} (hj : j < h.length) : h.getD j 0 ∈ h := by
  simp [List.getD, hj]
theorem dec_mem {n k j : Nat} {h : List Int} (hh : h ∈ cnts (n + 1) k) (hj : 0 < h.getD j 0) : dec j h ∈ cnts n k := by
  obtain ⟨h1, h2, h3⟩ := mem_cnts.1 hh
  have hlt : j < h.length := by
    by_cases c : j < h.length
    · exact c
    · simp [List.getD, List.getElem?_eq_none (by omega : h.length ≤ j)] at hj
  refine mem_cnts.2 ⟨by rw [dec_len]; exact h1, ?_, ?_⟩
  · intro x hx
    rcases List.mem_or_eq_of_mem_set hx with hx | rfl
    · exact h2 x hx
    · omega
  · unfold dec; rw [tl_set _ _ _ hlt]; omega
theorem inc_mem {n k j : Nat} {h : List Int} (hh : h ∈ cnts n k) (hj : j ≤ k) : inc j h ∈ cnts (n + 1) k := by
  obtain ⟨h1, h2, h3⟩ := mem_cnts.1 hh
  have hlt : j < h.length := by omega
  have := h2 _ (getD_mem hlt)
  refine mem_cnts.2 ⟨by rw [inc_len]; exact h1, ?_, ?_⟩
  · intro x hx
    rcases List.mem_or_eq_of_mem_set hx with hx | rfl
    · exact h2 x hx
    · omega
  · unfold inc; rw [tl_set _ _ _ hlt]; omega
/-- one less lies among the ways just where there is one -/
theorem dec_mem_iff {n k j : Nat} {h : List Int} (hj : j ≤ k) (hl : h.length = k + 1) : dec j h ∈ cnts n k ↔ h ∈ cnts (n + 1) k ∧ 0 < h.getD j 0 := by
  constructor
  · intro hh
    have h1 := inc_mem hh hj
    rw [inc_dec j h (by omega)] at h1
    refine ⟨h1, ?_⟩
    have h2 := (mem_cnts.1 hh).2.1 _ (getD_mem (j := j) (by rw [dec_len]; omega))
    unfold dec at h2
    rw [getD_set _ _ _ (by omega)] at h2
    omega
  · rintro ⟨h1, h2⟩; exact dec_mem h1 h2

/-! ### weights -/
theorem wgh_pos {u d : Int} (hu : 1 ≤ u) (hd : 1 ≤ d) (k : Nat) : ∀ (ts : List Nat) (h : List Int), h ∈ cnts ts.length k → 1 ≤ wgh u d k ts h
  | [], _, _ => by simp [wgh]
  | t :: ts, h, hh => by
    have hs : ∀ j, 1 ≤ sayW u d t j := fun j => by unfold sayW; split <;> omega
    have h0 : ∀ j, 0 ≤ (if 0 < h.getD j 0 then sayW u d t j * wgh u d k ts (dec j h) else 0) := by
      intro j
      by_cases c : 0 < h.getD j 0
      · rw [if_pos c]
        have h1 := wgh_pos hu hd k ts (dec j h) (dec_mem hh c)
        exact Int.mul_nonneg (by have := hs j; omega) (by omega)
      · rw [if_neg c]; omega
    obtain ⟨h1, h2, h3⟩ := mem_cnts.1 hh
    have hj : ∃ j, j ≤ k ∧ 0 < h.getD j 0 := by
      have key : ∀ l : List Int, (∀ x ∈ l, 0 ≤ x) → 0 < tl l → ∃ j, j < l.length ∧ 0 < l.getD j 0 := by
        intro l
        induction l with
        | nil => intro _ h; simp [tl, smL] at h
        | cons x l ih =>
          intro hn ht
          by_cases c : 0 < x
          · exact ⟨0, by simp, by simpa using c⟩
          · have : 0 ≤ x := hn x (by simp)
            rw [tl_cons] at ht
            obtain ⟨j, a, b⟩ := ih (fun y hy => hn y (by simp [hy])) (by omega)
            exact ⟨j + 1, by simpa using a, by simpa using b⟩
      obtain ⟨j, a, b⟩ := key h h2 (by rw [h3]; simp only [List.length_cons]; omega)
      exact ⟨j, by omega, b⟩
    obtain ⟨j, hjk, hjp⟩ := hj
    have h1 := wgh_pos hu hd k ts (dec j h) (dec_mem hh hjp)
    have h2 : 1 ≤ (if 0 < h.getD j 0 then sayW u d t j * wgh u d k ts (dec j h) else 0) := by
      rw [if_pos hjp]
      have := Int.mul_le_mul (hs j) h1 (by omega) (by have := hs j; omega)
      omega
    have key2 : ∀ (l : List Nat) (F : Nat → Int), (∀ i, 0 ≤ F i) → j ∈ l → 1 ≤ F j → 1 ≤ smL F l := by
      intro l F hF
      induction l with
      | nil => intro h; cases h
      | cons x l ih =>
        intro hm hj1
        have hn : 0 ≤ smL F l := smL_nn fun i _ => hF i
        rcases List.mem_cons.1 hm with rfl | hm
        · rw [smL]; omega
        · have := ih hm hj1; have := hF x; rw [smL]; omega
    rw [wgh]
    exact key2 _ _ h0 (List.mem_range.2 (by omega)) h2
/-- the last one says something -/
theorem wgh_snoc (u d : Int) (k : Nat) : ∀ (ts : List Nat) (t : Nat) (h : List Int), wgh u d k (ts ++ [t]) h = smL (fun j => if 0 < h.getD j 0 then sayW u d t j * wgh u d k ts (dec j h) else 0) (List.range (k + 1))
  | [], t, h => by simp only [List.nil_append, wgh]
  | a :: ts, t, h => by
    have l1 : wgh u d k (a :: ts ++ [t]) h = smL (fun i => smL (fun j => if 0 < h.getD i 0 then sayW u d a i * (if 0 < (dec i h).getD j 0 then sayW u d t j * wgh u d k ts (dec j (dec i h)) else 0) else 0) (List.range (k + 1))) (List.range (k + 1)) := by
      rw [List.cons_append, wgh]
      refine smL_congr fun i _ => ?_
      by_cases c : 0 < h.getD i 0
      · simp only [if_pos c]
        rw [smL_mul, wgh_snoc u d k ts t (dec i h)]
      · simp only [if_neg c]
        rw [smL_zero]
    have r1 : smL (fun j => if 0 < h.getD j 0 then sayW u d t j * wgh u d k (a :: ts) (dec j h) else 0) (List.range (k + 1)) = smL (fun j => smL (fun i => if 0 < h.getD j 0 then sayW u d t j * (if 0 < (dec j h).getD i 0 then sayW u d a i * wgh u d k ts (dec i (dec j h)) else 0) else 0) (List.range (k + 1))) (List.range (k + 1)) := by
      refine smL_congr fun j _ => ?_
      by_cases c : 0 < h.getD j 0
      · simp only [if_pos c]
        rw [smL_mul, wgh]
      · simp only [if_neg c]
        rw [smL_zero]
    rw [l1, r1, smL_comm]
    refine smL_congr fun j _ => smL_congr fun i _ => ?_
    by_cases e : i = j
    · subst e
      by_cases c1 : 0 < h.getD i 0
      · simp only [if_pos c1]
        by_cases c2 : 0 < (dec i h).getD i 0
        · simp only [if_pos c2]
          rw [← Int.mul_assoc, ← Int.mul_assoc, Int.mul_comm (sayW u d a i)]
        · simp only [if_neg c2, Int.mul_zero]
      · simp only [if_neg c1]
    · have e' : ¬ j = i := fun x => e x.symm
      have g1 : (dec i h).getD j 0 = h.getD j 0 := by
        unfold dec
        simp [List.getD, e]
      have g2 : (dec j h).getD i 0 = h.getD i 0 := by
        unfold dec
        simp [List.getD, e']
      have g3 : dec j (dec i h) = dec i (dec j h) := by
        show (dec i h).set j ((dec i h).getD j 0 - 1) = (dec j h).set i ((dec j h).getD i 0 - 1)
        rw [g1, g2]
        unfold dec
        rw [List.set_comm _ _ e]
      rw [g1, g2, g3]
      by_cases c1 : 0 < h.getD i 0
      · simp only [if_pos c1]
        by_cases c2 : 0 < h.getD j 0
        · simp only [if_pos c2]
          rw [← Int.mul_assoc, ← Int.mul_assoc, Int.mul_comm (sayW u d a i)]
        · simp only [if_neg c2, Int.mul_zero]
      · simp only [if_neg c1, Int.mul_zero, ite_self]
end Go.Proofs.Ytfcbkcoagoncoaa.Crd

/-
  THE PLAIN MATHEMATICS OF CHAPTER 13: crowds. (No seat: lay it with the seat's namespace.)
-/
namespace Go.Proofs.Ytfcbkcoagoncoaa.Crd

/-! ### sums over lists -/
def smL {α : Type} (F : α → Int) : List α → Int
  | [] => 0
  | x :: l => F x + smL F l
theorem smL_append {α : Type} (F : α → Int) (a b : List α) : smL F (a ++ b) = smL F a + smL F b := by
  induction a with
  | nil => simp [smL]
  | cons x a ih => simp only [List.cons_append, smL, ih]; omega
theorem smL_map {α β : Type} (F : β → Int) (g : α → β) (l : List α) : smL F (l.map g) = smL (fun x => F (g x)) l := by
  induction l with
  | nil => rfl
  | cons x l ih => simp only [List.map_cons, smL, ih]
theorem smL_flat {α β : Type} (F : β → Int) (g : α → List β) (l : List α) : smL F (l.flatMap g) = smL (fun x => smL F (g x)) l := by
  induction l with
  | nil => rfl
  | cons x l ih => rw [List.flatMap_cons, smL_append, ih, smL]
theorem smL_congr {α : Type} {F G : α → Int} {l : List α} (h : ∀ x ∈ l, F x = G x) : smL F l = smL G l := by
  induction l with
  | nil => rfl
  | cons x l ih => rw [smL, smL, h x (by simp), ih fun y hy => h y (by simp [hy])]
theorem smL_add {α : Type} (F G : α → Int) (l : List α) : smL (fun x => F x + G x) l = smL F l + smL G l := by
  induction l with
  | nil => rfl
  | cons x l ih => simp only [smL, ih]; omega
theorem smL_mul {α : Type} (c : Int) (F : α → Int) (l : List α) : smL (fun x => c * F x) l = c * smL F l := by
  induction l with
  | nil => simp [smL]
  | cons x l ih => simp only [smL, ih, Int.mul_add]
theorem smL_zero {α : Type} (l : List α) : smL (fun _ => 0) l = 0 := by
  induction l with
  | nil => rfl
  | cons x l ih => simp only [smL, ih]; rfl
theorem smL_comm {α β : Type} (F : α → β → Int) (a : List α) (b : List β) : smL (fun x => smL (F x) b) a = smL (fun y => smL (fun x => F x y) a) b := by
  induction a with
  | nil => simp only [smL]; rw [smL_zero]
  | cons x a ih => simp only [smL]; rw [ih, smL_add]
theorem smL_nn {α : Type} {F : α → Int} {l : List α} (h : ∀ x ∈ l, 0 ≤ F x) : 0 ≤ smL F l := by
  induction l with
  | nil => exact Int.le_refl _
  | cons x l ih =>
    have h1 := h x (by simp)
    have h2 := ih fun y hy => h y (by simp [hy])
    rw [smL]; omega
theorem smL_le {α : Type} {F G : α → Int} {l : List α} (h : ∀ x ∈ l, F x ≤ G x) : smL F l ≤ smL G l := by
  induction l with
  | nil => exact Int.le_refl _
  | cons x l ih =>
    have h1 := h x (by simp)
    have h2 := ih fun y hy => h y (by simp [hy])
    rw [smL, smL]; omega
theorem range_succ_first (n : Nat) : List.range (n + 1) = 0 :: (List.range n).map (· + 1) := by
  rw [List.range_succ_eq_map]

/-! ### all ways in which n people may be of so many kinds (one more than k) -/
def cnts : Nat → Nat → List (List Int)
  | n, 0 => [[(n : Int)]]
  | n, k + 1 => (List.range (n + 1)).flatMap fun i => (cnts (n - i) k).map fun l => (i : Int) :: l
theorem cnts_len {k n : Nat} {h : List Int} (hh : h ∈ cnts n k) : h.length = k + 1 := by
  induction k generalizing n h with
  | zero => simp [cnts] at hh; subst hh; rfl
  | succ k ih =>
    simp only [cnts, List.mem_flatMap, List.mem_map] at hh
    obtain ⟨i, _, l, hl, rfl⟩ := hh
    simp [ih hl]
theorem cnts_nn {k n : Nat} {h : List Int} (hh : h ∈ cnts n k) : ∀ x ∈ h, 0 ≤ x := by
  induction k generalizing n h with
  | zero => simp [cnts] at hh; subst hh; simp
  | succ k ih =>
    simp only [cnts, List.mem_flatMap, List.mem_map] at hh
    obtain ⟨i, _, l, hl, rfl⟩ := hh
    intro x hx
    rcases List.mem_cons.1 hx with rfl | hx
    · omega
    · exact ih hl x hx
/-- how many there are together -/
def tl (h : List Int) : Int := smL id h
theorem cnts_tl {k n : Nat} {h : List Int} (hh : h ∈ cnts n k) : tl h = n := by
  induction k generalizing n h with
  | zero => simp [cnts] at hh; subst hh; simp [tl, smL]
  | succ k ih =>
    simp only [cnts, List.mem_flatMap, List.mem_map, List.mem_range] at hh
    obtain ⟨i, hi, l, hl, rfl⟩ := hh
    have := ih hl
    simp only [tl, smL, id] at *
    omega
theorem cnts_zero (k : Nat) : cnts 0 k = [List.replicate (k + 1) 0] := by
  induction k with
  | zero => rfl
  | succ k ih => simp [cnts, ih, List.replicate_succ]
theorem rep0 (n j : Nat) : (List.replicate n (0 : Int)).getD j 0 = 0 := by
  rw [List.getD, List.getElem?_replicate]
  split <;> rfl
/-- one less of a kind -/
def dec (j : Nat) (h : List Int) : List Int := h.set j (h.getD j 0 - 1)
theorem dec_zero (i : Int) (l : List Int) : dec 0 (i :: l) = (i - 1) :: l := by simp [dec]
theorem dec_succ (i : Int) (l : List Int) (j : Nat) : dec (j + 1) (i :: l) = i :: dec j l := by simp [dec]
/-- WHO SAYS SOMETHING FIRST: each way is one way less one, and back -/
theorem cnts_dec (F : List Int → Int) : ∀ (k n j : Nat), j ≤ k → smL (fun h => if 0 < h.getD j 0 then F (dec j h) else 0) (cnts (n + 1) k) = smL F (cnts n k) := by
  intro k
  induction k generalizing F with
  | zero =>
    intro n j hj
    obtain rfl : j = 0 := by omega
    simp [cnts, smL, dec]
  | succ k ih =>
    intro n j hj
    simp only [cnts]
    rw [smL_flat, smL_flat]
    simp only [smL_map]
    cases j with
    | zero =>
      rw [range_succ_first (n + 1), smL, smL_map]
      have h0 : smL (fun l => if 0 < (((0 : Nat) : Int) :: l).getD 0 0 then F (dec 0 (((0 : Nat) : Int) :: l)) else 0) (cnts (n + 1 - 0) k) = 0 := by
        exact (smL_congr (G := fun _ => 0) fun l _ => by simp).trans (smL_zero _)
      rw [h0, Int.zero_add]
      refine smL_congr fun i _ => ?_
      rw [show n + 1 - (i + 1) = n - i by omega]
      refine smL_congr fun l _ => ?_
      rw [dec_zero]
      simp only [List.getD_cons_zero]
      rw [if_pos (by omega)]
      congr 2; omega
    | succ j =>
      rw [List.range_succ (n := n + 1), smL_append]
      have h0 : smL (fun i : Nat => smL (fun l => if 0 < ((i : Int) :: l).getD (j + 1) 0 then F (dec (j + 1) ((i : Int) :: l)) else 0) (cnts (n + 1 - i) k)) [n + 1] = 0 := by
        simp only [smL, Nat.sub_self, cnts_zero, Int.add_zero]
        rw [if_neg]
        rw [List.getD_cons_succ, rep0]
        omega
      rw [h0, Int.add_zero]
      refine smL_congr fun i hi => ?_
      have hi2 : i < n + 1 := List.mem_range.1 hi
      rw [show n + 1 - i = (n - i) + 1 by omega, ← ih (fun l => F ((i : Int) :: l)) (n - i) j (by omega)]
      refine smL_congr fun l _ => ?_
      rw [dec_succ]
      simp only [List.getD_cons_succ]

/-! ### what is heard, by who says what -/
/-- how heavy it is that one of kind t says kind j -/
def sayW (u d : Int) (t j : Nat) : Int := if j = t then u else d
/-- the weight of what is heard of people with these truths -/
def wgh (u d : Int) (k : Nat) : List Nat → List Int → Int
  | [], _ => 1
  | t :: ts, h => smL (fun j => if 0 < h.getD j 0 then sayW u d t j * wgh u d k ts (dec j h) else 0) (List.range (k + 1))
/-- all together, one person says: u and k times d -/
def oneW (u d : Int) (k t : Nat) : Int := smL (sayW u d t) (List.range (k + 1))
theorem oneW_eq (u d : Int) (k t : Nat) (ht : t ≤ k) : oneW u d k t = u + k * d := by
  have key : ∀ n, smL (sayW u d t) (List.range n) = if t < n then u + ((n : Int) - 1) * d else n * d := by
    intro n
    induction n with
    | zero => simp [smL]
    | succ n ih =>
      rw [List.range_succ, smL_append, ih]
      simp only [smL, sayW, Int.add_zero]
      by_cases h1 : t < n
      · rw [if_pos h1, if_neg (by omega), if_pos (by omega)]
        rw [show ((n + 1 : Nat) : Int) - 1 = ((n : Int) - 1) + 1 by omega, Int.add_mul, Int.one_mul]; omega
      · by_cases h2 : n = t
        · rw [if_neg h1, if_pos h2, if_pos (by omega), show ((n + 1 : Nat) : Int) - 1 = (n : Int) by omega]; omega
        · rw [if_neg h1, if_neg h2, if_neg (by omega), show ((n + 1 : Nat) : Int) = (n : Int) + 1 by omega, Int.add_mul, Int.one_mul]
  rw [oneW, key, if_pos (by omega)]
  congr 2; omega
/-- WHAT IS SUMMED OVER ALL THAT MAY BE HEARD, person by person -/
theorem wgh_sum (u d : Int) (k t : Nat) (ts : List Nat) (n : Nat) (G : Nat → List Int → Int) (G' : List Int → Int) (hG : ∀ j h, h ∈ cnts (n + 1) k → 0 < h.getD j 0 → j ≤ k → G' h = G j (dec j h)) :
    smL (fun h => wgh u d k (t :: ts) h * G' h) (cnts (n + 1) k) = smL (fun j => sayW u d t j * smL (fun h => wgh u d k ts h * G j h) (cnts n k)) (List.range (k + 1)) := by
  have h1 : smL (fun h => wgh u d k (t :: ts) h * G' h) (cnts (n + 1) k) = smL (fun h => smL (fun j => if 0 < h.getD j 0 then sayW u d t j * (wgh u d k ts (dec j h) * G j (dec j h)) else 0) (List.range (k + 1))) (cnts (n + 1) k) := by
    refine smL_congr fun h hh => ?_
    rw [wgh, Int.mul_comm, ← smL_mul]
    refine smL_congr fun j hj => ?_
    by_cases c : 0 < h.getD j 0
    · rw [if_pos c, if_pos c, hG j h hh c (by have := List.mem_range.1 hj; omega)]
      rw [Int.mul_comm (G j (dec j h)), Int.mul_assoc]
    · rw [if_neg c, if_neg c, Int.mul_zero]
  rw [h1, smL_comm]
  refine smL_congr fun j hj => ?_
  have hj2 : j ≤ k := by have := List.mem_range.1 hj; omega
  rw [← cnts_dec (fun h => wgh u d k ts h * G j h) k n j hj2, ← smL_mul]
  refine smL_congr fun h _ => ?_
  by_cases c : 0 < h.getD j 0
  · rw [if_pos c, if_pos c]
  · rw [if_neg c, if_neg c, Int.mul_zero]
theorem smL_cmul {α : Type} (F : α → Int) (c : Int) (l : List α) : smL (fun x => F x * c) l = smL F l * c := by
  rw [Int.mul_comm, ← smL_mul]
  exact smL_congr fun x _ => Int.mul_comm _ _
/-- ALL TOGETHER: S, as often as there are people -/
theorem wgh_tot (u d : Int) (k : Nat) : ∀ ts : List Nat, (∀ t ∈ ts, t ≤ k) → smL (wgh u d k ts) (cnts ts.length k) = (u + k * d) ^ ts.length
  | [], _ => by simp [cnts_zero, smL, wgh]
  | t :: ts, h => by
    have h1 := wgh_sum u d k t ts ts.length (fun _ _ => 1) (fun _ => 1) (fun _ _ _ _ _ => rfl)
    simp only [Int.mul_one] at h1
    rw [List.length_cons, h1, smL_cmul, wgh_tot u d k ts (fun x hx => h x (by simp [hx])), Int.pow_succ, Int.mul_comm]
    show _ * oneW u d k t = _
    rw [oneW_eq u d k t (h t (by simp))]
/-- how many are of a kind -/
def cntK (ts : List Nat) (j : Nat) : Int := smL (fun t => if t = j then 1 else 0) ts
theorem dec_get (h : List Int) (i j : Nat) (hi : 0 < h.getD i 0) : h.getD j 0 = (dec i h).getD j 0 + (if i = j then 1 else 0) := by
  have hlt : i < h.length := by
    by_cases c : i < h.length
    · exact c
    · simp [List.getD, List.getElem?_eq_none (by omega : h.length ≤ i)] at hi
  unfold dec
  by_cases e : i = j
  · subst e
    simp [List.getD, hlt]
  · simp [List.getD, e]
/-- what is heard of a kind, on the whole -/
theorem wgh_mean (u d : Int) (k j : Nat) (hj : j ≤ k) : ∀ ts : List Nat, (∀ t ∈ ts, t ≤ k) →
    (u + k * d) * smL (fun h => wgh u d k ts h * h.getD j 0) (cnts ts.length k) = (u + k * d) ^ ts.length * (cntK ts j * u + ((ts.length : Int) - cntK ts j) * d)
  | [], _ => by
    simp only [List.length_nil, cnts_zero, smL, wgh, cntK, rep0]
    simp
  | t :: ts, h => by
    have ih := wgh_mean u d k j hj ts (fun x hx => h x (by simp [hx]))
    have ht := wgh_tot u d k ts (fun x hx => h x (by simp [hx]))
    have h1 := wgh_sum u d k t ts ts.length (fun i h => h.getD j 0 + (if i = j then 1 else 0)) (fun h => h.getD j 0) (fun i h _ c _ => dec_get h i j c)
    rw [List.length_cons, h1]
    have h2 : smL (fun i => sayW u d t i * smL (fun h => wgh u d k ts h * (h.getD j 0 + (if i = j then 1 else 0))) (cnts ts.length k)) (List.range (k + 1)) = oneW u d k t * smL (fun h => wgh u d k ts h * h.getD j 0) (cnts ts.length k) + sayW u d t j * (u + k * d) ^ ts.length := by
      have h3 : ∀ i, smL (fun h => wgh u d k ts h * (h.getD j 0 + (if i = j then 1 else 0))) (cnts ts.length k) = smL (fun h => wgh u d k ts h * h.getD j 0) (cnts ts.length k) + (if i = j then (u + k * d) ^ ts.length else 0) := by
        intro i
        rw [← ht]
        by_cases e : i = j
        · simp only [e, if_true]
          rw [← smL_add]
          exact smL_congr fun h _ => by rw [Int.mul_add, Int.mul_one]
        · simp only [e, if_false, Int.add_zero]
      simp only [h3]
      simp only [Int.mul_add]
      rw [smL_add, smL_cmul]
      congr 1
      have h4 : ∀ n, smL (fun i => sayW u d t i * (if i = j then (u + k * d) ^ ts.length else 0)) (List.range n) = if j < n then sayW u d t j * (u + k * d) ^ ts.length else 0 := by
        intro n
        induction n with
        | zero => simp [smL]
        | succ n ihn =>
          rw [List.range_succ, smL_append, ihn]
          simp only [smL, Int.add_zero]
          by_cases c1 : n = j
          · subst c1; rw [if_neg (by omega), if_pos rfl, if_pos (by omega)]; omega
          · rw [if_neg c1, Int.mul_zero, Int.add_zero]
            by_cases c2 : j < n
            · rw [if_pos c2, if_pos (by omega)]
            · rw [if_neg c2, if_neg (by omega)]
      rw [h4, if_pos (by omega)]
    rw [h2, oneW_eq u d k t (h t (by simp))]
    generalize smL (fun h => wgh u d k ts h * h.getD j 0) (cnts ts.length k) = M at *
    have hc : cntK (t :: ts) j = (if t = j then 1 else 0) + cntK ts j := rfl
    rw [hc]
    generalize hS : u + k * d = S at *
    rw [Int.mul_add, Int.pow_succ]
    have e1 : S * (S * M) = S * (S ^ ts.length * (cntK ts j * u + ((ts.length : Int) - cntK ts j) * d)) := by rw [ih]
    rw [e1]
    generalize S ^ ts.length = P at *
    have e2 : sayW u d t j = (if t = j then 1 else 0) * u + (1 - (if t = j then 1 else 0)) * d := by
      unfold sayW
      by_cases c : t = j
      · subst c; simp
      · rw [if_neg (fun e => c e.symm), if_neg c]; simp
    rw [e2, show ((ts.length + 1 : Nat) : Int) = (ts.length : Int) + 1 by omega]
    generalize (if t = j then (1 : Int) else 0) = q
    generalize cntK ts j = c
    generalize (ts.length : Int) = n
    grind
/-- WHAT IS GUESSED IS RIGHT ON THE WHOLE -/
theorem guess_right (u d : Int) (k j : Nat) (hj : j ≤ k) (ts : List Nat) (hts : ∀ t ∈ ts, t ≤ k) :
    smL (fun h => wgh u d k ts h * ((u + k * d) * h.getD j 0 - ts.length * d)) (cnts ts.length k) = cntK ts j * (u - d) * (u + k * d) ^ ts.length := by
  have h1 := wgh_mean u d k j hj ts hts
  have h2 := wgh_tot u d k ts hts
  have h3 : smL (fun h => wgh u d k ts h * ((u + k * d) * h.getD j 0 - ts.length * d)) (cnts ts.length k) = (u + k * d) * smL (fun h => wgh u d k ts h * h.getD j 0) (cnts ts.length k) + (-(ts.length * d)) * smL (wgh u d k ts) (cnts ts.length k) := by
    rw [← smL_mul, ← smL_mul, ← smL_add]
    exact smL_congr fun h _ => by grind
  rw [h3, h1, h2]
  grind
/-- one person's truth is another one: nothing is more than u / d times likelier -/
theorem wgh_near (u d : Int) (hd : 0 ≤ d) (hu : d ≤ u) (k : Nat) : ∀ (a : List Nat) (t t' : Nat) (b : List Nat) (h : List Int), d * wgh u d k (a ++ t :: b) h ≤ u * wgh u d k (a ++ t' :: b) h := by
  have nn : ∀ (ts : List Nat) (h : List Int), 0 ≤ wgh u d k ts h := by
    intro ts
    induction ts with
    | nil => intro h; simp [wgh]
    | cons t ts ih =>
      intro h
      rw [wgh]
      refine smL_nn fun j _ => ?_
      split
      · refine Int.mul_nonneg ?_ (ih _)
        unfold sayW; split <;> omega
      · exact Int.le_refl _
  intro a
  induction a with
  | nil =>
    intro t t' b h
    simp only [List.nil_append, wgh]
    rw [← smL_mul, ← smL_mul]
    refine smL_le fun j _ => ?_
    by_cases c : 0 < h.getD j 0
    · rw [if_pos c, if_pos c, ← Int.mul_assoc, ← Int.mul_assoc]
      refine Int.mul_le_mul_of_nonneg_right ?_ (nn _ _)
      have m1 : d * d ≤ u * u := Int.mul_le_mul hu hu hd (by omega)
      have m2 : d * d ≤ u * d := Int.mul_le_mul_of_nonneg_right hu hd
      have m3 : d * u = u * d := Int.mul_comm _ _
      have m4 : u * d ≤ u * u := Int.mul_le_mul_of_nonneg_left hu (by omega)
      unfold sayW
      split <;> split <;> omega
    · rw [if_neg c, if_neg c, Int.mul_zero, Int.mul_zero]; exact Int.le_refl _
  | cons x a ih =>
    intro t t' b h
    simp only [List.cons_append, wgh]
    rw [← smL_mul, ← smL_mul]
    refine smL_le fun j _ => ?_
    by_cases c : 0 < h.getD j 0
    · rw [if_pos c, if_pos c]
      have h1 := ih t t' b (dec j h)
      have hs : 0 ≤ sayW u d x j := by unfold sayW; split <;> omega
      have h2 := Int.mul_le_mul_of_nonneg_left h1 hs
      rw [← Int.mul_assoc, ← Int.mul_assoc, Int.mul_comm d, Int.mul_comm u, Int.mul_assoc, Int.mul_assoc]
      exact h2
    · rw [if_neg c, if_neg c, Int.mul_zero, Int.mul_zero]; exact Int.le_refl _
end Go.Proofs.Ytfcbkcoagoncoaa.Crd

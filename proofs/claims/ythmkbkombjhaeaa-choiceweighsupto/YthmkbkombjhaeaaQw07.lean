import Derived.Test.YthmkbkombjhaeaaQw06
namespace Go.Proofs.Ps

/-! ### BY WHICH IS FIRST, IN WHOLE NUMBERS -/
theorem sumI_congr {α : Type} {f g : α → Int} {l : List α} (h : ∀ x ∈ l, f x = g x) : sumI f l = sumI g l := by
  induction l with
  | nil => rfl
  | cons x l ih => simp only [sumI]; rw [h x (List.mem_cons_self ..), ih fun y hy => h y (List.mem_cons_of_mem _ hy)]
theorem sumI_append {α : Type} (f : α → Int) (l m : List α) : sumI f (l ++ m) = sumI f l + sumI f m := by
  induction l with
  | nil => simp [sumI]
  | cons a l ih => simp only [List.cons_append, sumI, ih]; omega
theorem sumI_scale {α : Type} (a : Int) (f : α → Int) (l : List α) : sumI (fun x => a * f x) l = a * sumI f l := by
  induction l with
  | nil => simp [sumI]
  | cons x l ih => simp only [sumI, ih, Int.mul_add]
theorem sumI_map {α β : Type} (f : β → Int) (g : α → β) (l : List α) : sumI f (l.map g) = sumI (fun a => f (g a)) l := by
  induction l with
  | nil => rfl
  | cons a l ih => simp only [List.map_cons, sumI, ih]
theorem sumI_const {α : Type} (c : Int) (l : List α) : sumI (fun _ => c) l = (l.length : Int) * c := by
  induction l with
  | nil => simp [sumI]
  | cons a l ih => simp only [sumI, ih, List.length_cons]; rw [Int.natCast_add, Int.add_mul]; omega
theorem sumI_nn {α : Type} {f : α → Int} {l : List α} (h : ∀ x ∈ l, 0 ≤ f x) : 0 ≤ sumI f l := by
  induction l with
  | nil => simp [sumI]
  | cons x l ih =>
    have h1 := h x (List.mem_cons_self ..)
    have h2 := ih fun y hy => h y (List.mem_cons_of_mem _ hy)
    simp only [sumI]; omega
theorem sumI_le {α : Type} {f g : α → Int} {l : List α} (h : ∀ x ∈ l, f x ≤ g x) : sumI f l ≤ sumI g l := by
  induction l with
  | nil => simp [sumI]
  | cons x l ih =>
    have h1 := h x (List.mem_cons_self ..)
    have h2 := ih fun y hy => h y (List.mem_cons_of_mem _ hy)
    simp only [sumI]; omega
theorem ord_firstI {α : Type} (l : List α) (f : List α → Int) (h : l ≠ []) : sumI f (ordL l) = sumI (fun x : α × List α => sumI (fun o => f (x.1 :: o)) (ordL x.2)) (picks l) := by
  have h1 := ord_first l (fun o => ((f o : Int) : Rat)) h
  have h2 : ((sumI f (ordL l) : Int) : Rat) = ((sumI (fun x : α × List α => sumI (fun o => f (x.1 :: o)) (ordL x.2)) (picks l) : Int) : Rat) := by
    rw [sumI_cast, h1, sumI_cast]
    exact sum_congr fun x _ => (sumI_cast _ _).symm
  exact_mod_cast h2
/-- how much all orders of a list give to one -/
def incI (U D : Nat → Int) (i : Nat) (L : List Nat) : Int := sumI (valI U D i) (ordL L)
/-- how much, of those that one is first in -/
def oneI (U D : Nat → Int) (L : List Nat) (j i : Nat) : Int := if j = i then D i * pI U (L.erase i) * (fact (L.length - 1) : Nat) else (U j - D j) * incI U D i (L.erase j)
theorem pI_cons {α : Type} (U : α → Int) (a : α) (l : List α) : pI U (a :: l) = U a * pI U l := rfl
theorem pI_perm {α : Type} (U : α → Int) {l m : List α} (h : l.Perm m) : pI U l = pI U m := by
  induction h with
  | nil => rfl
  | cons x _ ih => rw [pI_cons, pI_cons, ih]
  | swap x y l => simp only [pI_cons]; rw [Int.mul_left_comm]
  | trans _ _ ih1 ih2 => rw [ih1, ih2]
theorem inc_step {U D : Nat → Int} {i : Nat} {L : List Nat} (hn : L.Nodup) (hne : L ≠ []) : incI U D i L = sumI (fun j => oneI U D L j i) L := by
  unfold incI
  rw [ord_firstI L _ hne, picks_erase hn, sumI_map]
  refine sumI_congr fun j hj => ?_
  simp only [oneI]
  have hlen : (L.erase j).length = L.length - 1 := List.length_erase_of_mem hj
  split
  · rename_i e
    subst e
    have h1 : sumI (fun o => valI U D j (j :: o)) (ordL (L.erase j)) = sumI (fun _ => D j * pI U (L.erase j)) (ordL (L.erase j)) := sumI_congr fun o ho => by
      simp only [valI, if_true]
      rw [pI_perm U (ord_perm ho)]
    rw [h1, sumI_const, ord_len, hlen, Int.mul_comm]
  · rename_i e
    have h1 : sumI (fun o => valI U D i (j :: o)) (ordL (L.erase j)) = sumI (fun o => (U j - D j) * valI U D i o) (ordL (L.erase j)) := sumI_congr fun o _ => by
      simp only [valI]
      rw [if_neg e]
    rw [h1, sumI_scale]
    rfl
theorem valI_none {U D : Nat → Int} {i : Nat} {o : List Nat} (h : i ∉ o) : valI U D i o = 0 := by
  induction o with
  | nil => rfl
  | cons a o ih =>
    have h1 : ¬ a = i := fun e => h (e ▸ List.mem_cons_self ..)
    simp only [valI]
    rw [if_neg h1, ih fun h2 => h (List.mem_cons_of_mem _ h2), Int.mul_zero]
theorem inc_none {U D : Nat → Int} {i : Nat} {L : List Nat} (h : i ∉ L) : incI U D i L = 0 := by
  have : incI U D i L = sumI (fun _ => 0) (ordL L) := sumI_congr fun o ho => valI_none fun h2 => h ((ord_perm ho).subset h2)
  rw [this, sumI_const, Int.mul_zero]
theorem pI_nn {U : Nat → Int} {l : List Nat} (h : ∀ a, 1 ≤ U a) : 1 ≤ pI U l := by
  induction l with
  | nil => exact Int.le_refl _
  | cons a l ih =>
    rw [pI_cons]
    have h1 := h a
    have := Int.mul_le_mul h1 ih (by omega) (by omega)
    omega
theorem valI_bd {U D : Nat → Int} (hD : ∀ a, 0 ≤ D a) (hU : ∀ a, D a ≤ U a) (h1 : ∀ a, 1 ≤ U a) (i : Nat) (o : List Nat) : 0 ≤ valI U D i o ∧ valI U D i o ≤ pI U o := by
  induction o with
  | nil => exact ⟨Int.le_refl _, by simp [valI, pI]⟩
  | cons a o ih =>
    simp only [valI]
    rw [pI_cons]
    have hp := pI_nn (l := o) h1
    split
    · rename_i e
      subst e
      exact ⟨Int.mul_nonneg (hD _) (by omega), Int.mul_le_mul_of_nonneg_right (hU _) (by omega)⟩
    · have h2 := hU a
      have h3 := hD a
      exact ⟨Int.mul_nonneg (by omega) ih.1, Int.mul_le_mul (by omega) ih.2 ih.1 (by omega)⟩
theorem inc_bd {U D : Nat → Int} (hD : ∀ a, 0 ≤ D a) (hU : ∀ a, D a ≤ U a) (h1 : ∀ a, 1 ≤ U a) (i : Nat) (L : List Nat) : 0 ≤ incI U D i L ∧ incI U D i L ≤ (fact L.length : Nat) * pI U L := by
  unfold incI
  refine ⟨sumI_nn fun o _ => (valI_bd hD hU h1 i o).1, ?_⟩
  have h2 : sumI (valI U D i) (ordL L) ≤ sumI (fun _ => pI U L) (ordL L) := sumI_le fun o ho => by
    rw [← pI_perm U (ord_perm ho)]
    exact (valI_bd hD hU h1 i o).2
  rw [sumI_const, ord_len] at h2
  exact h2
/-- one that is first gives no more than its share -/
theorem one_bd {U D : Nat → Int} (hD : ∀ a, 0 ≤ D a) (hU : ∀ a, D a ≤ U a) (h1 : ∀ a, 1 ≤ U a) {L : List Nat} {j : Nat} (hj : j ∈ L) (i : Nat) : 0 ≤ oneI U D L j i ∧ oneI U D L j i ≤ (fact (L.length - 1) : Nat) * pI U L := by
  have hp : pI U L = U j * pI U (L.erase j) := by rw [← pI_cons]; exact pI_perm U (List.perm_cons_erase hj)
  have hlen : (L.erase j).length = L.length - 1 := List.length_erase_of_mem hj
  have hq := pI_nn (l := L.erase j) h1
  have hU' := hU j
  have hD' := hD j
  have hf : (0 : Int) ≤ (fact (L.length - 1) : Nat) := by omega
  unfold oneI
  rw [hp]
  split
  · rename_i e
    subst e
    have a1 : 0 ≤ D j * pI U (L.erase j) := Int.mul_nonneg (by omega) (by omega)
    have a2 : D j * pI U (L.erase j) ≤ U j * pI U (L.erase j) := Int.mul_le_mul_of_nonneg_right hU' (by omega)
    refine ⟨Int.mul_nonneg a1 hf, ?_⟩
    rw [Int.mul_comm]
    exact Int.mul_le_mul_of_nonneg_left a2 hf
  · obtain ⟨b1, b2⟩ := inc_bd hD hU h1 i (L.erase j)
    rw [hlen] at b2
    refine ⟨Int.mul_nonneg (by omega) b1, ?_⟩
    have a3 : (U j - D j) * incI U D i (L.erase j) ≤ U j * ((fact (L.length - 1) : Nat) * pI U (L.erase j)) := Int.mul_le_mul (by omega) b2 b1 (by omega)
    rw [Int.mul_left_comm] at a3
    exact a3

/-! ### WHO IS LEFT -/
/-- those that are not gone -/
def lefL (g : List Bool) (k : Nat) : List Nat := (List.range k).filter fun i => !(g.getD i false)
theorem lef_succ_gone {g : List Bool} {k : Nat} (h : g.getD k false = true) : lefL g (k + 1) = lefL g k := by
  unfold lefL
  rw [List.range_succ, List.filter_append]
  simpa using h
theorem lef_succ {g : List Bool} {k : Nat} (h : g.getD k false = false) : lefL g (k + 1) = lefL g k ++ [k] := by
  unfold lefL
  rw [List.range_succ, List.filter_append]
  simpa using h
theorem lef_nodup (g : List Bool) (k : Nat) : (lefL g k).Nodup := List.Pairwise.filter _ List.nodup_range
theorem lef_mem {g : List Bool} {k i : Nat} : i ∈ lefL g k ↔ i < k ∧ g.getD i false = false := by
  unfold lefL
  rw [List.mem_filter, List.mem_range]
  simp
/-- one more is gone -/
theorem lef_set {g : List Bool} {n k : Nat} (hk : k < n) (hn : g.length = n) : lefL (g.set k true) n = (lefL g n).erase k := by
  rw [(lef_nodup g n).erase_eq_filter]
  unfold lefL
  rw [List.filter_filter]
  refine List.filter_congr fun i hi => ?_
  have hi' : i < n := List.mem_range.1 hi
  by_cases c : k = i
  · subst c
    simp [List.getD, hn, hk]
  · have c' : ¬ i = k := fun e => c e.symm
    simp [List.getD, c, c']
theorem lef_all (n : Nat) : lefL (List.replicate n false) n = List.range n := by
  unfold lefL
  rw [List.filter_eq_self]
  intro i hi
  simp [List.getD, List.mem_range.1 hi]
/-- what has come of those ahead of k -/
theorem sumI_lef_succ {g : List Bool} {k : Nat} (f : Nat → Int) (h : g.getD k false = false) : sumI f (lefL g (k + 1)) = sumI f (lefL g k) + f k := by
  rw [lef_succ h, sumI_append]
  simp [sumI]
theorem lef_len_le {g : List Bool} {k n : Nat} (h : k ≤ n) : (lefL g k).length ≤ (lefL g n).length := by
  obtain ⟨m, rfl⟩ := Nat.le.dest h
  clear h
  induction m with
  | zero => exact Nat.le_refl _
  | succ m ih =>
    rw [← Nat.add_assoc]
    cases h : g.getD (k + m) false with
    | true => rw [lef_succ_gone h]; exact ih
    | false => rw [lef_succ h, List.length_append]; simp; omega
theorem ordL_flW (u d : Int) (s : List Nat) (i : Nat) : incI (fun j => u ^ s.getD j 0) (fun j => d ^ s.getD j 0) i (List.range s.length) = flW u d s i := by
  unfold incI flW
  have h1 := ord_sum_perm (List.range s.length).length (List.range s.length) (List.range s.length).reverse rfl (List.reverse_perm _).symm (fun o => ((valI (fun j => u ^ s.getD j 0) (fun j => d ^ s.getD j 0) i o : Int) : Rat))
  rw [← sumI_cast, ← sumI_cast] at h1
  exact_mod_cast h1
end Go.Proofs.Ps

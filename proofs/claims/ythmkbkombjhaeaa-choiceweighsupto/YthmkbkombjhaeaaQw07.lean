import Derived.Test.YthmkbkombjhaeaaQw06
import Derived.Test.YthmkbkombjhaeaaQw05
namespace Go.Proofs.Ps

/-! ### BY WHICH IS FIRST, IN WHOLE NUMBERS -/
theorem sumI_congr {α : Type} {f g : α → Int} {l : List α} (h : ∀ x ∈ l, f x = g x) : sumI f l = sumI g l := by
  induction l with
  | nil => rfl
  | cons x l ih => simp only [sumI]; rw [h x (List.mem_cons_self ..), ih fun y hy => h y (List.mem_cons_of_mem _ hy)]
theorem sumI_append {α : Type} (f : α → Int) (l m : List α) : sumI f (l ++ m) = sumI f l + sumI f m := by
  induction l with
  | nil => simp [sumI]
  | cons a l ih => simp only [List.cons_append, sumI, ih]; omega
theorem sumI_scale {α : Type} (a : Int) (f : α → Int) (l : List α) : sumI (fun x => a * f x) l = a * sumI f l := by
  induction l with
  | nil => simp [sumI]
  | cons x l ih => simp only [sumI, ih, Int.mul_add]
theorem sumI_map {α β : Type} (f : β → Int) (g : α → β) (l : List α) : sumI f (l.map g) = sumI (fun a => f (g a)) l := by
  induction l with
  | nil => rfl
  | cons a l ih => simp only [List.map_cons, sumI, ih]
theorem sumI_const {α : Type} (c : Int) (l : List α) : sumI (fun _ => c) l = (l.length : Int) * c := by
  induction l with
  | nil => simp [sumI]
  | cons a l ih => simp only [sumI, ih, List.length_cons]; rw [Int.natCast_add, Int.add_mul]; omega
theorem sumI_nn {α : Type} {f : α → Int} {l : List α} (h : ∀ x ∈ l, 0 ≤ f x) : 0 ≤ sumI f l := by
  induction l with
  | nil => simp [sumI]
  | cons x l ih =>
    have h1 := h x (List.mem_cons_self ..)
    have h2 := ih fun y hy => h y (List.mem_cons_of_mem _ hy)
    simp only [sumI]; omega
theorem sumI_le {α : Type} {f g : α → Int} {l : List α} (h : ∀ x ∈ l, f x ≤ g x) : sumI f l ≤ sumI g l := by
  induction l with
  | nil => simp [sumI]
  | cons x l ih =>
    have h1 := h x (List.mem_cons_self ..)
    have h2 := ih fun y hy => h y (List.mem_cons_of_mem _ hy)
    simp only [sumI]; omega
theorem ord_firstI {α : Type} (l : List α) (f : List α → Int) (h : l ≠ []) : sumI f (ordL l) = sumI (fun x : α × List α => sumI (fun o => f (x.1 :: o)) (ordL x.2)) (picks l) := by
  have h1 := ord_first l (fun o => ((f o : Int) : Rat)) h
  have h2 : ((sumI f (ordL l) : Int) : Rat) = ((sumI (fun x : α × List α => sumI (fun o => f (x.1 :: o)) (ordL x.2)) (picks l) : Int) : Rat) := by
    rw [sumI_cast, h1, sumI_cast]
    exact sum_congr fun x _ => (sumI_cast _ _).symm
  exact_mod_cast h2
/-- how much all orders of a list give to one -/
def incI (U D : Nat → Int) (i : Nat) (L : List Nat) : Int := sumI (valI U D i) (ordL L)
/-- how much, of those that one is first in -/
def oneI (U D : Nat → Int) (L : List Nat) (j i : Nat) : Int := if j = i then D i * pI U (L.erase i) * (fact (L.length - 1) : Nat) else (U j - D j) * incI U D i (L.erase j)
theorem pI_cons {α : Type} (U : α → Int) (a : α) (l : List α) : pI U (a :: l) = U a * pI U l := rfl
theorem pI_perm {α : Type} (U : α → Int) {l m : List α} (h : l.Perm m) : pI U l = pI U m := by
  induction h with
  | nil => rfl
  | cons x _ ih => rw [pI_cons, pI_cons, ih]
  | swap x y l => simp only [pI_cons]; rw [Int.mul_left_comm]
  | trans _ _ ih1 ih2 => rw [ih1, ih2]
theorem inc_step {U D : Nat → Int} {i : Nat} {L : List Nat} (hn : L.Nodup) (hne : L ≠ []) : incI U D i L = sumI (fun j => oneI U D L j i) L := by
  unfold incI
  rw [ord_firstI L _ hne, picks_erase hn, sumI_map]
  refine sumI_congr fun j hj => ?_
  simp only [oneI]
  have hlen : (L.erase j).length = L.length - 1 := List.length_erase_of_mem hj
  split
  · rename_i e
    subst e
    have h1 : sumI (fun o => valI U D j (j :: o)) (ordL (L.erase j)) = sumI (fun _ => D j * pI U (L.erase j)) (ordL (L.erase j)) := sumI_congr fun o ho => by
      simp only [valI, if_true]
      rw [pI_perm U (ord_perm ho)]
    rw [h1, sumI_const, ord_len, hlen, Int.mul_comm]
  · rename_i e
    have h1 : sumI (fun o => valI U D i (j :: o)) (ordL (L.erase j)) = sumI (fun o => (U j - D j) * valI U D i o) (ordL (L.erase j)) := sumI_congr fun o _ => by
      simp only [valI]
      rw [if_neg e]
    rw [h1, sumI_scale]
    rfl
theorem valI_none {U D : Nat → Int} {i : Nat} {o : List Nat} (h : i ∉ o) : valI U D i o = 0 := by
  induction o with
  | nil => rfl
  | cons a o ih =>
    have h1 : ¬ a = i := fun e => h (e ▸ List.mem_cons_self ..)
    simp only [valI]
    rw [if_neg h1, ih fun h2 => h (List.mem_cons_of_mem _ h2), Int.mul_zero]
theorem inc_none {U D : Nat → Int} {i : Nat} {L : List Nat} (h : i ∉ L) : incI U D i L = 0 := by
  have : incI U D i L = sumI (fun _ => 0) (ordL L) := sumI_congr fun o ho => valI_none fun h2 => h ((ord_perm ho).subset h2)
  rw [this, sumI_const, Int.mul_zero]
theorem pI_nn {U : Nat → Int} {l : List Nat} (h : ∀ a, 1 ≤ U a) : 1 ≤ pI U l := by
  induction l with
  | nil => exact Int.le_refl _
  | cons a l ih =>
    rw [pI_cons]
    have h1 := h a
    have := Int.mul_le_mul h1 ih (by omega) (by omega)
    omega
theorem valI_bd {U D : Nat → Int} (hD : ∀ a, 0 ≤ D a) (hU : ∀ a, D a ≤ U a) (h1 : ∀ a, 1 ≤ U a) (i : Nat) (o : List Nat) : 0 ≤ valI U D i o ∧ valI U D i o ≤ pI U o := by
  induction o with
  | nil => exact ⟨Int.le_refl _, by simp [valI, pI]⟩
  | cons a o ih =>
    simp only [valI]
    rw [pI_cons]
    have hp := pI_nn (l := o) h1
    split
    · rename_i e
      subst e
      exact ⟨Int.mul_nonneg (hD _) (by omega), Int.mul_le_mul_of_nonneg_right (hU _) (by omega)⟩
    · have h2 := hU a
      have h3 := hD a
      exact ⟨Int.mul_nonneg (by omega) ih.1, Int.mul_le_mul (by omega) ih.2 ih.1 (by omega)⟩
theorem inc_bd {U D : Nat → Int} (hD : ∀ a, 0 ≤ D a) (hU : ∀ a, D a ≤ U a) (h1 : ∀ a, 1 ≤ U a) (i : Nat) (L : List Nat) : 0 ≤ incI U D i L ∧ incI U D i L ≤ (fact L.length : Nat) * pI U L := by
  unfold incI
  refine ⟨sumI_nn fun o _ => (valI_bd hD hU h1 i o).1, ?_⟩
  have h2 : sumI (valI U D i) (ordL L) ≤ sumI (fun _ => pI U L) (ordL L) := sumI_le fun o ho => by
    rw [← pI_perm U (ord_perm ho)]
    exact (valI_bd hD hU h1 i o).2
  rw [sumI_const, ord_len] at h2
  exact h2
/-- one that is first gives no more than its share -/
theorem one_bd {U D : Nat → Int} (hD : ∀ a, 0 ≤ D a) (hU : ∀ a, D a ≤ U a) (h1 : ∀ a, 1 ≤ U a) {L : List Nat} {j : Nat} (hj : j ∈ L) (i : Nat) : 0 ≤ oneI U D L j i ∧ oneI U D L j i ≤ (fact (L.length - 1) : Nat) * pI U L := by
  have hp : pI U L = U j * pI U (L.erase j) := by rw [← pI_cons]; exact pI_perm U (List.perm_cons_erase hj)
  have hlen : (L.erase j).length = L.length - 1 := List.length_erase_of_mem hj
  have hq := pI_nn (l := L.erase j) h1
  have hU' := hU j
  have hD' := hD j
  have hf : (0 : Int) ≤ (fact (L.length - 1) : Nat) := by omega
  unfold oneI
  rw [hp]
  split
  · rename_i e
    subst e
    have a1 : 0 ≤ D j * pI U (L.erase j) := Int.mul_nonneg (by omega) (by omega)
    have a2 : D j * pI U (L.erase j) ≤ U j * pI U (L.erase j) := Int.mul_le_mul_of_nonneg_right hU' (by omega)
    refine ⟨Int.mul_nonneg a1 hf, ?_⟩
    rw [Int.mul_comm]
    exact Int.mul_le_mul_of_nonneg_left a2 hf
  · obtain ⟨b1, b2⟩ := inc_bd hD hU h1 i (L.erase j)
    rw [hlen] at b2
    refine ⟨Int.mul_nonneg (by omega) b1, ?_⟩
    have a3 : (U j - D j) * incI U D i (L.erase j) ≤ U j * ((fact (L.length - 1) : Nat) * pI U (L.erase j)) := Int.mul_le_mul (by omega) b2 b1 (by omega)
    rw [Int.mul_left_comm] at a3
    exact a3

/-! ### WHO IS LEFT -/
/-- those that are not gone -/
def lefL (g : List Bool) (k : Nat) : List Nat := (List.range k).filter fun i => !(g.getD i false)
theorem lef_succ_gone {g : List Bool} {k : Nat} (h : g.getD k false = true) : lefL g (k + 1) = lefL g k := by
  unfold lefL
  rw [List.range_succ, List.filter_append]
  simpa using h
theorem lef_succ {g : List Bool} {k : Nat} (h : g.getD k false = false) : lefL g (k + 1) = lefL g k ++ [k] := by
  unfold lefL
  rw [List.range_succ, List.filter_append]
  simpa using h
theorem lef_nodup (g : List Bool) (k : Nat) : (lefL g k).Nodup := List.Pairwise.filter _ List.nodup_range
theorem lef_mem {g : List Bool} {k i : Nat} : i ∈ lefL g k ↔ i < k ∧ g.getD i false = false := by
  unfold lefL
  rw [List.mem_filter, List.mem_range]
  simp
/-- one more is gone -/
theorem lef_set {g : List Bool} {n k : Nat} (hk : k < n) (hn : g.length = n) : lefL (g.set k true) n = (lefL g n).erase k := by
  rw [(lef_nodup g n).erase_eq_filter]
  unfold lefL
  rw [List.filter_filter]
  refine List.filter_congr fun i hi => ?_
  have hi' : i < n := List.mem_range.1 hi
  by_cases c : k = i
  · subst c
    simp [List.getD, hn, hk]
  · have c' : ¬ i = k := fun e => c e.symm
    simp [List.getD, c, c']
theorem lef_all (n : Nat) : lefL (List.replicate n false) n = List.range n := by
  unfold lefL
  rw [List.filter_eq_self]
  intro i hi
  simp [List.getD, List.mem_range.1 hi]
/-- what has come of those ahead of k -/
theorem sumI_lef_succ {g : List Bool} {k : Nat} (f : Nat → Int) (h : g.getD k false = false) : sumI f (lefL g (k + 1)) = sumI f (lefL g k) + f k := by
  rw [lef_succ h, sumI_append]
  simp [sumI]
theorem lef_len_le {g : List Bool} {k n : Nat} (h : k ≤ n) : (lefL g k).length ≤ (lefL g n).length := by
  obtain ⟨m, rfl⟩ := Nat.le.dest h
  clear h
  induction m with
  | zero => exact Nat.le_refl _
  | succ m ih =>
    rw [← Nat.add_assoc]
    cases h : g.getD (k + m) false with
    | true => rw [lef_succ_gone h]; exact ih
    | false => rw [lef_succ h, List.length_append]; simp; omega
theorem ordL_flW (u d : Int) (s : List Nat) (i : Nat) : incI (fun j => u ^ s.getD j 0) (fun j => d ^ s.getD j 0) i (List.range s.length) = flW u d s i := by
  unfold incI flW
  have h1 := ord_sum_perm (List.range s.length).length (List.range s.length) (List.range s.length).reverse rfl (List.reverse_perm _).symm (fun o => ((valI (fun j => u ^ s.getD j 0) (fun j => d ^ s.getD j 0) i o : Int) : Rat))
  rw [← sumI_cast, ← sumI_cast] at h1
  exact_mod_cast h1
end Go.Proofs.Ps

namespace Go.Proofs.Ythmkbkombjhaeaa
open Go.RowKit Go.Proofs.Ythmkbkombjhaeaa.Ds

/-- the greatest -/
def mxI : List Int → Int
  | [] => 0
  | [a] => a
  | a :: l => max a (mxI l)
/-- how far below the best -/
def belT (l : List Int) : List Nat := l.map fun n => (mxI l - n).toNat
/-- the greatest of these -/
def mxN (s : List Nat) : Nat := s.foldr max 0
def wgW (u d : Int) (s : List Nat) (i : Nat) : Int := u ^ (mxN s - s.getD i 0) * d ^ s.getD i 0
theorem mxI_le : ∀ {l : List Int} {n : Int}, n ∈ l → n ≤ mxI l
  | [], _, h => by cases h
  | [a], n, h => by simp at h; subst h; simp [mxI]
  | a :: b :: l, n, h => by
    simp only [mxI]
    rcases List.mem_cons.1 h with rfl | h
    · omega
    · have := mxI_le h; omega
theorem mxI_mem : ∀ {l : List Int}, l ≠ [] → mxI l ∈ l
  | [], h => absurd rfl h
  | [a], _ => by simp [mxI]
  | a :: b :: l, _ => by
    have h := mxI_mem (l := b :: l) (by simp)
    simp only [mxI]
    by_cases c : mxI (b :: l) ≤ a
    · rw [show max a (mxI (b :: l)) = a by omega]; exact List.mem_cons_self ..
    · rw [show max a (mxI (b :: l)) = mxI (b :: l) by omega]; exact List.mem_cons_of_mem _ h
theorem bel_len (l : List Int) : (belT l).length = l.length := by simp [belT]
theorem bel_get {l : List Int} {i : Nat} (h : i < l.length) : (((belT l).getD i 0 : Nat) : Int) = mxI l - l.getD i 0 := by
  have h1 : (belT l)[i]? = some ((mxI l - l[i]).toNat) := by simp [belT, List.getElem?_eq_getElem h]
  have h2 : l[i]? = some l[i] := List.getElem?_eq_getElem h
  have := mxI_le (List.getElem_mem h)
  simp only [List.getD, h1, h2, Option.getD_some]
  omega
theorem bel_zero {l : List Int} (h : 1 ≤ l.length) : 0 ∈ belT l := by
  have hne : l ≠ [] := by intro e; rw [e] at h; simp at h
  exact List.mem_map.2 ⟨mxI l, mxI_mem hne, by omega⟩
theorem mxN_le {s : List Nat} {i : Nat} (h : i < s.length) : s.getD i 0 ≤ mxN s := by
  induction s generalizing i with
  | nil => simp at h
  | cons a s ih =>
    have e : mxN (a :: s) = max a (mxN s) := rfl
    rw [e]
    cases i with
    | zero => simp only [List.getD_cons_zero]; omega
    | succ i => simp only [List.getD_cons_succ]; have := ih (i := i) (by simpa using h); omega
/-! ### UP TO A LIMIT -/
theorem lim_min (x : Int) : lim x = min x 1073741825 := by unfold lim; split <;> omega
theorem lim_bd {x : Int} (h : 1 ≤ x) : 1 ≤ lim x ∧ lim x ≤ 1073741825 ∧ lim x ≤ x := by unfold lim; split <;> omega
theorem lim_of {x : Int} (h : x ≤ 1073741824) : lim x = x := if_pos h
theorem lim_over {x : Int} (h : ¬ x ≤ 1073741824) : lim x = 1073741825 := if_neg h
theorem lim_mul {a b : Int} (hb : 1 ≤ b) : lim (lim a * b) = lim (a * b) := by
  by_cases c : a ≤ 1073741824
  · rw [lim_of c]
  · rw [lim_over c, lim_over, lim_over]
    · have := Int.mul_le_mul (show (1073741825 : Int) ≤ a by omega) hb (by omega) (by omega)
      omega
    · have := Int.mul_le_mul_of_nonneg_left hb (show (0 : Int) ≤ 1073741825 by omega)
      omega
theorem lim_mul2 {a b : Int} (ha : 1 ≤ a) (hb : 1 ≤ b) : lim (lim a * lim b) = lim (a * b) := by
  rw [lim_mul (lim_bd hb).1, Int.mul_comm, lim_mul ha, Int.mul_comm]
theorem lim_lim (a : Int) : lim (lim a) = lim a := by rw [lim_min, lim_min]; omega
theorem lim_sum {g : Nat → Int} {r : List Nat} (h : ∀ i ∈ r, 1 ≤ g i) : (1073741824 < Ps.sumI (fun i => lim (g i)) r ↔ 1073741824 < Ps.sumI g r) ∧ (Ps.sumI g r ≤ 1073741824 → ∀ i ∈ r, lim (g i) = g i) := by
  have nn : ∀ {r : List Nat}, (∀ i ∈ r, 1 ≤ g i) → 0 ≤ Ps.sumI g r := fun h => Ps.sumI_nn fun i hi => by have := h i hi; omega
  have nl : ∀ {r : List Nat}, (∀ i ∈ r, 1 ≤ g i) → 0 ≤ Ps.sumI (fun i => lim (g i)) r := fun h => Ps.sumI_nn fun i hi => by have := lim_bd (h i hi); omega
  have le : ∀ {r : List Nat}, (∀ i ∈ r, 1 ≤ g i) → Ps.sumI (fun i => lim (g i)) r ≤ Ps.sumI g r := fun h => Ps.sumI_le fun i hi => (lim_bd (h i hi)).2.2
  have all : ∀ {r : List Nat}, (∀ i ∈ r, 1 ≤ g i) → Ps.sumI (fun i => lim (g i)) r ≤ 1073741824 → ∀ i ∈ r, lim (g i) = g i := by
    intro r
    induction r with
    | nil => intro _ _ i hi; cases hi
    | cons a r ih =>
      intro h hs i hi
      simp only [Ps.sumI] at hs
      have h1 := nl fun i hi => h i (List.mem_cons_of_mem _ hi)
      have h2 := lim_bd (h a (List.mem_cons_self ..))
      rcases List.mem_cons.1 hi with rfl | hi
      · by_cases c : g i ≤ 1073741824
        · exact lim_of c
        · rw [lim_over c] at hs; omega
      · exact ih (fun i hi => h i (List.mem_cons_of_mem _ hi)) (by omega) i hi
  have eqv : Ps.sumI (fun i => lim (g i)) r ≤ 1073741824 ↔ Ps.sumI g r ≤ 1073741824 := by
    constructor
    · intro h1
      rw [← Ps.sumI_congr (all h h1)]
      exact h1
    · intro h1
      have := le h
      omega
  exact ⟨by omega, fun h1 => all h (eqv.2 h1)⟩
theorem sumI_range_succ (g : Nat → Int) (n : Nat) : Ps.sumI g (List.range (n + 1)) = Ps.sumI g (List.range n) + g n := by
  rw [List.range_succ, Ps.sumI_append]
  simp [Ps.sumI]
theorem pI_range_succ (U : Nat → Int) (n : Nat) : Ps.pI U (List.range (n + 1)) = Ps.pI U (List.range n) * U n := by
  rw [List.range_succ, Ps.pI_perm U (List.perm_append_comm), List.singleton_append, Ps.pI_cons, Int.mul_comm]

/-! ### in how many ways -/
def wayN (u : Int) (s : List Nat) (k : Nat) : Int := (Ps.fact k : Nat) * Ps.pI (fun j => u ^ s.getD j 0) (List.range k)
theorem way_pos {u : Int} (hu : 1 ≤ u) (s : List Nat) (k : Nat) : 1 ≤ wayN u s k := by
  unfold wayN
  have h1 : (1 : Int) ≤ (Ps.fact k : Nat) := by have := Ps.fact_pos k; omega
  have h2 := Ps.pI_nn (U := fun j => u ^ s.getD j 0) (l := List.range k) fun a => pow_pos' hu _
  have := Int.mul_le_mul h1 h2 (by omega) (by omega)
  omega
theorem way_succ (u : Int) (s : List Nat) (k : Nat) : wayN u s (k + 1) = wayN u s k * ((k : Int) + 1) * u ^ s.getD k 0 := by
  unfold wayN
  rw [pI_range_succ]
  have : ((Ps.fact (k + 1) : Nat) : Int) = ((k : Int) + 1) * (Ps.fact k : Nat) := by simp [Ps.fact]
  rw [this]
  generalize ((Ps.fact k : Nat) : Int) = f
  generalize Ps.pI (fun j => u ^ s.getD j 0) (List.range k) = p
  generalize u ^ s.getD k 0 = q
  grind
theorem way_step {u : Int} (hu : 1 ≤ u) (s : List Nat) (k : Nat) : lim (lim (lim (wayN u s k) * ((k : Int) + 1)) * lim (u ^ s.getD k 0)) = lim (wayN u s (k + 1)) := by
  have h1 := way_pos hu s k
  have h2 : 1 ≤ u ^ s.getD k 0 := pow_pos' hu _
  have h3 := Int.mul_le_mul h1 (show (1 : Int) ≤ (k : Int) + 1 by omega) (by omega) (by omega)
  rw [lim_mul (a := wayN u s k) (show (1 : Int) ≤ (k : Int) + 1 by omega), lim_mul2 (by omega) h2, ← way_succ]
theorem way_zero (u : Int) (s : List Nat) : wayN u s 0 = 1 := by simp [wayN, Ps.fact, Ps.pI]

/-! ### the greatest of a list -/
theorem mxI_snoc : ∀ (l : List Int) (a : Int), l ≠ [] → mxI (l ++ [a]) = max (mxI l) a
  | [], _, h => absurd rfl h
  | [b], a, _ => by simp [mxI]
  | b :: c :: l, a, _ => by
    have h := mxI_snoc (c :: l) a (by simp)
    have e : (b :: c :: l) ++ [a] = b :: c :: (l ++ [a]) := rfl
    have e2 : mxI (b :: c :: (l ++ [a])) = max b (mxI (c :: (l ++ [a]))) := rfl
    have e3 : mxI (b :: c :: l) = max b (mxI (c :: l)) := rfl
    have e4 : (c :: l) ++ [a] = c :: (l ++ [a]) := rfl
    rw [e, e2, e3, ← e4, h]
    omega
theorem mxI_take {l : List Int} {k : Nat} {a : Int} (hk : 1 ≤ k) (h : l[k]? = some a) : mxI (l.take (k + 1)) = max (mxI (l.take k)) a := by
  rw [List.take_add_one, h]
  refine mxI_snoc _ _ ?_
  intro e
  have := congrArg List.length e
  have hl : k < l.length := by
    rw [List.getElem?_eq_some_iff] at h
    exact h.1
  rw [List.length_take, List.length_nil] at this
  omega
theorem mxI_one {l : List Int} {a : Int} (h : l[0]? = some a) : mxI (l.take 1) = a := by
  cases l with
  | nil => simp at h
  | cons b l => simp at h; subst h; simp [mxI]
/-- how far below, as numbers -/
def farI (l : List Int) : List Int := l.map fun n => mxI l - n
theorem farI_get {l : List Int} {i : Nat} (h : i < l.length) : (farI l)[i]? = some ((((belT l).getD i 0 : Nat) : Int)) := by
  rw [bel_get h]
  simp [farI, List.getD, List.getElem?_eq_getElem h]
theorem farI_len (l : List Int) : (farI l).length = l.length := by simp [farI]
theorem mxI_iff {l : List Int} (hne : l ≠ []) (b : Int) : mxI l ≤ b ↔ ∀ n ∈ l, n ≤ b := by
  constructor
  · intro h n hn
    have := mxI_le hn
    omega
  · intro h
    exact h _ (mxI_mem hne)
/-- the greatest of how far below: as of whole numbers -/
theorem farI_max {l : List Int} (h : 1 ≤ l.length) : mxI (farI l) = ((mxN (belT l) : Nat) : Int) := by
  have hb : farI l = (belT l).map fun (n : Nat) => ((n : Nat) : Int) := by
    unfold farI belT
    rw [List.map_map]
    refine List.map_congr_left fun n hn => ?_
    have := mxI_le hn
    simp
    omega
  rw [hb]
  have hne : belT l ≠ [] := by intro e; have := congrArg List.length e; rw [bel_len] at this; simp at this; simp [this] at h
  generalize belT l = s at *
  clear hb h
  induction s with
  | nil => exact absurd rfl hne
  | cons a s ih =>
    cases s with
    | nil => simp [mxI, mxN]
    | cons b s =>
      have h1 := ih (by simp)
      have e1 : mxI ((a :: b :: s).map fun (n : Nat) => ((n : Nat) : Int)) = max (a : Int) (mxI ((b :: s).map fun (n : Nat) => ((n : Nat) : Int))) := rfl
      have e2 : mxN (a :: b :: s) = max a (mxN (b :: s)) := rfl
      rw [e1, e2, h1]
      omega
end Go.Proofs.Ythmkbkombjhaeaa

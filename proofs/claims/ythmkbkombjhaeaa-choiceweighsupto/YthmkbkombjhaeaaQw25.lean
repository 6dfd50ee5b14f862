import Derived.Test.YthmkbkombjhaeaaQw10
namespace Go.Proofs.Ythmkbkombjhaeaa
open Go.RowKit Go.Proofs.Ythmkbkombjhaeaa.Ds

/-! ### ALL ORDERS, BY WHICH IS NEXT -/
/-- u and d, as often as one is below -/
def upW (u : Int) (s : List Nat) (j : Nat) : Int := u ^ s.getD j 0
theorem up_pos {u : Int} (h : 1 ≤ u) (s : List Nat) (j : Nat) : 1 ≤ upW u s j := pow_pos' h _
theorem up_le {u d : Int} (hd : 1 ≤ d) (hu : d ≤ u) (s : List Nat) (j : Nat) : upW d s j ≤ upW u s j := Ps.powi_le (by omega) hu _
/-- in how many ways those that are left may come -/
def wayL (u : Int) (s : List Nat) (L : List Nat) : Int := (Ps.fact L.length : Nat) * Ps.pI (upW u s) L
/-- .. that one of them is next in -/
def eachL (u : Int) (s : List Nat) (L : List Nat) : Int := (Ps.fact (L.length - 1) : Nat) * Ps.pI (upW u s) L
/-- .. and its coin is left out -/
def lessL (u : Int) (s : List Nat) (L : List Nat) (k : Nat) : Int := (Ps.fact (L.length - 1) : Nat) * Ps.pI (upW u s) (L.erase k)
theorem way_each {u : Int} {s : List Nat} {L : List Nat} (h : 1 ≤ L.length) : wayL u s L = (L.length : Int) * eachL u s L := by
  unfold wayL eachL
  obtain ⟨m, hm⟩ : ∃ m, L.length = m + 1 := ⟨L.length - 1, by omega⟩
  rw [hm]
  simp only [Nat.add_sub_cancel, Ps.fact]
  rw [Int.natCast_mul, Int.mul_assoc]
theorem each_less {u : Int} {s : List Nat} {L : List Nat} {k : Nat} (h : k ∈ L) : eachL u s L = upW u s k * lessL u s L k := by
  unfold eachL lessL
  rw [Ps.pI_perm (upW u s) (List.perm_cons_erase h), Ps.pI_cons, Int.mul_left_comm]
theorem less_way {u : Int} {s : List Nat} {L : List Nat} {k : Nat} (h : k ∈ L) : lessL u s L k = wayL u s (L.erase k) := by
  unfold lessL wayL
  rw [List.length_erase_of_mem h]
theorem fact1 (n : Nat) : (1 : Int) ≤ (Ps.fact n : Nat) := by have := Ps.fact_pos n; omega
theorem mul1 {a b : Int} (ha : 1 ≤ a) (hb : 1 ≤ b) : 1 ≤ a * b := by have := Int.mul_le_mul ha hb (by omega) (by omega); omega
theorem way1 {u : Int} (hu : 1 ≤ u) (s : List Nat) (L : List Nat) : 1 ≤ wayL u s L := mul1 (fact1 _) (Ps.pI_nn fun a => up_pos hu s a)
theorem each1 {u : Int} (hu : 1 ≤ u) (s : List Nat) (L : List Nat) : 1 ≤ eachL u s L := mul1 (fact1 _) (Ps.pI_nn fun a => up_pos hu s a)
theorem less1 {u : Int} (hu : 1 ≤ u) (s : List Nat) (L : List Nat) (k : Nat) : 1 ≤ lessL u s L k := mul1 (fact1 _) (Ps.pI_nn fun a => up_pos hu s a)
theorem one_own {u d : Int} {s : List Nat} {L : List Nat} {k : Nat} : Ps.oneI (upW u s) (upW d s) L k k = lessL u s L k * upW d s k := by
  unfold Ps.oneI lessL
  rw [if_pos rfl]
  rw [Int.mul_assoc, Int.mul_comm, Int.mul_comm (Ps.pI _ _)]
theorem one_other {u d : Int} {s : List Nat} {L : List Nat} {k i : Nat} (h : ¬ k = i) : Ps.oneI (upW u s) (upW d s) L k i = (upW u s k - upW d s k) * Ps.incI (upW u s) (upW d s) i (L.erase k) := by
  unfold Ps.oneI
  rw [if_neg h]

/-! ### what has come of it -/
/-- more than there was -/
def adT (ch : List Int) (f : Nat → Int) (n : Nat) : List Int := (List.range n).map fun i => ch.getD i 0 + f i
theorem ad_len (ch : List Int) (f : Nat → Int) (n : Nat) : (adT ch f n).length = n := by simp [adT]
theorem ad_get {ch : List Int} {f : Nat → Int} {n i : Nat} (h : i < n) : (adT ch f n)[i]? = some (ch.getD i 0 + f i) := by simp [adT, h]
theorem ad_getD {ch : List Int} {f : Nat → Int} {n i : Nat} (h : i < n) : (adT ch f n).getD i 0 = ch.getD i 0 + f i := by simp [List.getD, ad_get h]
theorem ad_congr {ch : List Int} {f g : Nat → Int} {n : Nat} (h : ∀ i, i < n → f i = g i) : adT ch f n = adT ch g n := by
  unfold adT
  refine List.map_congr_left fun i hi => ?_
  rw [h i (List.mem_range.1 hi)]
theorem ad_ad (ch : List Int) (f g : Nat → Int) (n : Nat) : adT (adT ch f n) g n = adT ch (fun i => f i + g i) n := by
  unfold adT
  refine List.map_congr_left fun i hi => ?_
  have hi' := List.mem_range.1 hi
  have := ad_getD (ch := ch) (f := f) hi'
  unfold adT at this
  rw [this, Int.add_assoc]
theorem ad_zero {ch : List Int} {f : Nat → Int} {n : Nat} (hn : ch.length = n) (h : ∀ i, i < n → f i = 0) : adT ch f n = ch := by
  refine List.ext_getElem? fun i => ?_
  by_cases hi : i < n
  · rw [ad_get hi, h i hi]
    simp [List.getD, List.getElem?_eq_getElem (show i < ch.length by omega)]
  · rw [List.getElem?_eq_none (by rw [ad_len]; omega), List.getElem?_eq_none (by omega)]
theorem ad_set {ch : List Int} {f : Nat → Int} {n k : Nat} (hk : k < n) (y : Int) : (adT ch f n).set k (ch.getD k 0 + f k + y) = adT ch (fun i => f i + if k = i then y else 0) n := by
  refine List.ext_getElem? fun i => ?_
  by_cases e : k = i
  · subst e
    rw [List.getElem?_set_self (by rw [ad_len]; exact hk), ad_get hk, if_pos rfl, Int.add_assoc]
  · rw [List.getElem?_set_ne e]
    by_cases hi : i < n
    · rw [ad_get hi, ad_get hi, if_neg e, Int.add_zero]
    · rw [List.getElem?_eq_none (by rw [ad_len]; omega), List.getElem?_eq_none (by rw [ad_len]; omega)]
/-- what those ahead of k have given to i -/
def accF (u d c : Int) (s : List Nat) (g : List Bool) (L : List Nat) (k i : Nat) : Int := c * Ps.sumI (fun j => Ps.oneI (upW u s) (upW d s) L j i) (Ps.lefL g k)
theorem acc_zero (u d c : Int) (s : List Nat) (g : List Bool) (L : List Nat) (i : Nat) : accF u d c s g L 0 i = 0 := by simp [accF, Ps.lefL, Ps.sumI]
theorem acc_gone {u d c : Int} {s : List Nat} {g : List Bool} {L : List Nat} {k : Nat} (h : g.getD k false = true) (i : Nat) : accF u d c s g L (k + 1) i = accF u d c s g L k i := by
  unfold accF
  rw [Ps.lef_succ_gone h]
theorem acc_step {u d c : Int} {s : List Nat} {g : List Bool} {L : List Nat} {k : Nat} (h : g.getD k false = false) (i : Nat) : accF u d c s g L (k + 1) i = accF u d c s g L k i + c * Ps.oneI (upW u s) (upW d s) L k i := by
  unfold accF
  rw [Ps.sumI_lef_succ _ h, Int.mul_add]
theorem acc_all {u d c : Int} {s : List Nat} {g : List Bool} {n : Nat} (hne : Ps.lefL g n ≠ []) (i : Nat) : accF u d c s g (Ps.lefL g n) n i = c * Ps.incI (upW u s) (upW d s) i (Ps.lefL g n) := by
  unfold accF
  rw [Ps.inc_step (Ps.lef_nodup g n) hne]
theorem acc_bd {u d c : Int} (hd : 1 ≤ d) (hu : d ≤ u) (hc : 1 ≤ c) {s : List Nat} {g : List Bool} {n k : Nat} (hk : k ≤ n) (i : Nat) :
    0 ≤ accF u d c s g (Ps.lefL g n) k i ∧ accF u d c s g (Ps.lefL g n) k i ≤ (Ps.lefL g k).length * (c * eachL u s (Ps.lefL g n)) := by
  have hD : ∀ a, 0 ≤ upW d s a := fun a => by have := up_pos hd s a; omega
  have h1 : ∀ a, 1 ≤ upW u s a := fun a => up_pos (by omega) s a
  have hm : ∀ j ∈ Ps.lefL g k, j ∈ Ps.lefL g n := fun j hj => by
    have := Ps.lef_mem.1 hj
    exact Ps.lef_mem.2 ⟨by omega, this.2⟩
  unfold accF
  refine ⟨Int.mul_nonneg (by omega) (Ps.sumI_nn fun j hj => (Ps.one_bd hD (up_le hd hu s) h1 (hm j hj) i).1), ?_⟩
  have h2 : Ps.sumI (fun j => Ps.oneI (upW u s) (upW d s) (Ps.lefL g n) j i) (Ps.lefL g k) ≤ Ps.sumI (fun _ => eachL u s (Ps.lefL g n)) (Ps.lefL g k) := Ps.sumI_le fun j hj => (Ps.one_bd hD (up_le hd hu s) h1 (hm j hj) i).2
  rw [Ps.sumI_const] at h2
  rw [Int.mul_left_comm]
  exact Int.mul_le_mul_of_nonneg_left h2 (by omega)

/-- WHAT ONE ROUND DOES, in letters -/
structure Rnd1 (u d c : Int) (s : List Nat) (g : List Bool) (n k : Nat) (E Y Uk Dk : Int) : Prop where
  memk : k ∈ Ps.lefL g n
  each : c * eachL u s (Ps.lefL g n) = E
  less : c * lessL u s (Ps.lefL g n) k = Y
  up : upW u s k = Uk
  dn : upW d s k = Dk
theorem Rnd1.quo {u d c : Int} {s : List Nat} {g : List Bool} {n k : Nat} {E Y Uk Dk : Int} (h : Rnd1 u d c s g n k E Y Uk Dk) : E = Uk * Y := by
  rw [← h.each, ← h.less, ← h.up, each_less h.memk, Int.mul_left_comm]
theorem Rnd1.bds {u d c : Int} {s : List Nat} {g : List Bool} {n k : Nat} {E Y Uk Dk : Int} (h : Rnd1 u d c s g n k E Y Uk Dk) (hd : 1 ≤ d) (hu : d ≤ u) (hc : 1 ≤ c) : 1 ≤ Y ∧ 1 ≤ Dk ∧ Dk ≤ Uk ∧ Uk ≤ E ∧ Y ≤ E ∧ 1 ≤ Y * Dk ∧ Y * Dk ≤ E := by
  have h1 : 1 ≤ Y := by rw [← h.less]; exact mul1 hc (less1 (by omega) _ _ _)
  have h2 : 1 ≤ Dk := by rw [← h.dn]; exact up_pos hd _ _
  have h3 : Dk ≤ Uk := by rw [← h.dn, ← h.up]; exact up_le hd hu _ _
  have h4 := h.quo
  have h5 := Int.mul_le_mul_of_nonneg_left h1 (show 0 ≤ Uk by omega)
  have h6 := Int.mul_le_mul_of_nonneg_right (show 1 ≤ Uk by omega) (show 0 ≤ Y by omega)
  have h7 := mul1 h1 h2
  have h8 := Int.mul_le_mul_of_nonneg_left h3 (show 0 ≤ Y by omega)
  rw [Int.mul_comm Y Uk] at h8
  exact ⟨h1, h2, h3, by omega, by omega, h7, by omega⟩
/-- none behind it is asked -/
theorem Rnd1.sure {u d c : Int} {s : List Nat} {g : List Bool} {n k : Nat} {E Y Uk Dk : Int} (h : Rnd1 u d c s g n k E Y Uk Dk) (hg : g.getD k false = false) (he : Y * Dk = E) (hY : 1 ≤ Y) {ch : List Int} (hk : k < n) :
    (adT ch (accF u d c s g (Ps.lefL g n) k) n).set k (ch.getD k 0 + accF u d c s g (Ps.lefL g n) k k + Y * Dk) = adT ch (accF u d c s g (Ps.lefL g n) (k + 1)) n := by
  rw [ad_set hk]
  refine ad_congr fun i _ => ?_
  rw [acc_step hg]
  congr 1
  split
  · rename_i e
    subst e
    rw [one_own, h.dn, ← h.less, Int.mul_assoc]
  · rename_i e
    have hq := h.quo
    have : Dk = Uk := by
      rw [hq, Int.mul_comm Uk Y] at he
      exact Int.eq_of_mul_eq_mul_left (by omega) he
    rw [one_other e, h.up, h.dn, this, Int.sub_self, Int.zero_mul, Int.mul_zero]
/-- those behind it are asked -/
theorem Rnd1.more {u d c : Int} {s : List Nat} {g : List Bool} {n k : Nat} {E Y Uk Dk : Int} (h : Rnd1 u d c s g n k E Y Uk Dk) (hg : g.getD k false = false) {ch : List Int} (hk : k < n) (hgl : g.length = n) :
    adT ((adT ch (accF u d c s g (Ps.lefL g n) k) n).set k (ch.getD k 0 + accF u d c s g (Ps.lefL g n) k k + Y * Dk)) (fun i => c * (Uk - Dk) * Ps.incI (upW u s) (upW d s) i (Ps.lefL (g.set k true) n)) n = adT ch (accF u d c s g (Ps.lefL g n) (k + 1)) n := by
  rw [ad_set hk, ad_ad]
  refine ad_congr fun i _ => ?_
  rw [acc_step hg, Ps.lef_set hk hgl, Int.add_assoc]
  congr 1
  split
  · rename_i e
    subst e
    rw [one_own, h.dn, ← h.less, Ps.inc_none (fun hm => (List.Nodup.mem_erase_iff (Ps.lef_nodup g n)).1 hm |>.1 rfl), Int.mul_zero, Int.add_zero, Int.mul_assoc]
  · rename_i e
    rw [one_other e, h.up, h.dn, Int.zero_add, Int.mul_assoc]
theorem Rnd1.left {u d c : Int} {s : List Nat} {g : List Bool} {n k : Nat} {E Y Uk Dk : Int} (h : Rnd1 u d c s g n k E Y Uk Dk) (hk : k < n) (hgl : g.length = n) : c * (Uk - Dk) * wayL u s (Ps.lefL (g.set k true) n) = E - Y * Dk := by
  rw [Ps.lef_set hk hgl, ← less_way h.memk, h.quo, ← h.less]
  generalize lessL u s (Ps.lefL g n) k = z
  grind
theorem Rnd1.len {u d c : Int} {s : List Nat} {g : List Bool} {n k : Nat} {E Y Uk Dk : Int} (h : Rnd1 u d c s g n k E Y Uk Dk) (hk : k < n) (hgl : g.length = n) : (Ps.lefL (g.set k true) n).length = (Ps.lefL g n).length - 1 := by
  rw [Ps.lef_set hk hgl, List.length_erase_of_mem h.memk]
/-- one before it -/
theorem lef_room {g : List Bool} {n k : Nat} (hk : k < n) (hg : g.getD k false = false) : (Ps.lefL g k).length + 1 ≤ (Ps.lefL g n).length := by
  have := Ps.lef_len_le (g := g) (show k + 1 ≤ n from hk)
  rw [Ps.lef_succ hg, List.length_append] at this
  simpa using this
end Go.Proofs.Ythmkbkombjhaeaa

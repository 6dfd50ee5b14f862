import Derived.Test.YthmkbkombjhaeaaQw09
import Derived.Test.YthmkbkombjhaeaaQw20
namespace Go.Proofs.Ythmkbkombjhaeaa
open Go.RowKit Go.Proofs.Ythmkbkombjhaeaa.Ds

/-! ### ALL ORDERS, BY WHICH IS NEXT -/
/-- u and d, as often as one is below -/
def upW (u : Int) (s : List Nat) (j : Nat) : Int := u ^ s.getD j 0
theorem up_pos {u : Int} (h : 1 ≤ u) (s : List Nat) (j : Nat) : 1 ≤ upW u s j := pow_pos' h _
theorem up_le {u d : Int} (hd : 1 ≤ d) (hu : d ≤ u) (s : List Nat) (j : Nat) : upW d s j ≤ upW u s j := Ps.powi_le (by omega) hu _
/-- in how many ways those that are left may come -/
def wayL (u : Int) (s : List Nat) (L : List Nat) : Int := (Ps.fact L.length : Nat) * Ps.pI (upW u s) L
/-- .. that one of them is next in -/
def eachL (u : Int) (s : List Nat) (L : List Nat) : Int := (Ps.fact (L.length - 1) : Nat) * Ps.pI (upW u s) L
/-- .. and its coin is left out -/
def lessL (u : Int) (s : List Nat) (L : List Nat) (k : Nat) : Int := (Ps.fact (L.length - 1) : Nat) * Ps.pI (upW u s) (L.erase k)
theorem way_each {u : Int} {s : List Nat} {L : List Nat} (h : 1 ≤ L.length) : wayL u s L = (L.length : Int) * eachL u s L := by
  unfold wayL eachL
  obtain ⟨m, hm⟩ : ∃ m, L.length = m + 1 := ⟨L.length - 1, by omega⟩
  rw [hm]
  simp only [Nat.add_sub_cancel, Ps.fact]
  rw [Int.natCast_mul, Int.mul_assoc]
theorem each_less {u : Int} {s : List Nat} {L : List Nat} {k : Nat} (h : k ∈ L) : eachL u s L = upW u s k * lessL u s L k := by
  unfold eachL lessL
  rw [Ps.pI_perm (upW u s) (List.perm_cons_erase h), Ps.pI_cons, Int.mul_left_comm]
theorem less_way {u : Int} {s : List Nat} {L : List Nat} {k : Nat} (h : k ∈ L) : lessL u s L k = wayL u s (L.erase k) := by
  unfold lessL wayL
  rw [List.length_erase_of_mem h]
theorem fact1 (n : Nat) : (1 : Int) ≤ (Ps.fact n : Nat) := by have := Ps.fact_pos n; omega
theorem mul1 {a b : Int} (ha : 1 ≤ a) (hb : 1 ≤ b) : 1 ≤ a * b := by have := Int.mul_le_mul ha hb (by omega) (by omega); omega
theorem way1 {u : Int} (hu : 1 ≤ u) (s : List Nat) (L : List Nat) : 1 ≤ wayL u s L := mul1 (fact1 _) (Ps.pI_nn fun a => up_pos hu s a)
theorem each1 {u : Int} (hu : 1 ≤ u) (s : List Nat) (L : List Nat) : 1 ≤ eachL u s L := mul1 (fact1 _) (Ps.pI_nn fun a => up_pos hu s a)
theorem less1 {u : Int} (hu : 1 ≤ u) (s : List Nat) (L : List Nat) (k : Nat) : 1 ≤ lessL u s L k := mul1 (fact1 _) (Ps.pI_nn fun a => up_pos hu s a)
theorem one_own {u d : Int} {s : List Nat} {L : List Nat} {k : Nat} : Ps.oneI (upW u s) (upW d s) L k k = lessL u s L k * upW d s k := by
  unfold Ps.oneI lessL
  rw [if_pos rfl]
  rw [Int.mul_assoc, Int.mul_comm, Int.mul_comm (Ps.pI _ _)]
theorem one_other {u d : Int} {s : List Nat} {L : List Nat} {k i : Nat} (h : ¬ k = i) : Ps.oneI (upW u s) (upW d s) L k i = (upW u s k - upW d s k) * Ps.incI (upW u s) (upW d s) i (L.erase k) := by
  unfold Ps.oneI
  rw [if_neg h]

/-! ### what has come of it -/
/-- more than there was -/
def adT (ch : List Int) (f : Nat → Int) (n : Nat) : List Int := (List.range n).map fun i => ch.getD i 0 + f i
theorem ad_len (ch : List Int) (f : Nat → Int) (n : Nat) : (adT ch f n).length = n := by simp [adT]
theorem ad_get {ch : List Int} {f : Nat → Int} {n i : Nat} (h : i < n) : (adT ch f n)[i]? = some (ch.getD i 0 + f i) := by simp [adT, h]
theorem ad_getD {ch : List Int} {f : Nat → Int} {n i : Nat} (h : i < n) : (adT ch f n).getD i 0 = ch.getD i 0 + f i := by simp [List.getD, ad_get h]
theorem ad_congr {ch : List Int} {f g : Nat → Int} {n : Nat} (h : ∀ i, i < n → f i = g i) : adT ch f n = adT ch g n := by
  unfold adT
  refine List.map_congr_left fun i hi => ?_
  rw [h i (List.mem_range.1 hi)]
theorem ad_ad (ch : List Int) (f g : Nat → Int) (n : Nat) : adT (adT ch f n) g n = adT ch (fun i => f i + g i) n := by
  unfold adT
  refine List.map_congr_left fun i hi => ?_
  have hi' := List.mem_range.1 hi
  have := ad_getD (ch := ch) (f := f) hi'
  unfold adT at this
  rw [this, Int.add_assoc]
theorem ad_zero {ch : List Int} {f : Nat → Int} {n : Nat} (hn : ch.length = n) (h : ∀ i, i < n → f i = 0) : adT ch f n = ch := by
  refine List.ext_getElem? fun i => ?_
  by_cases hi : i < n
  · rw [ad_get hi, h i hi]
    simp [List.getD, List.getElem?_eq_getElem (show i < ch.length by omega)]
  · rw [List.getElem?_eq_none (by rw [ad_len]; omega), List.getElem?_eq_none (by omega)]
theorem ad_set {ch : List Int} {f : Nat → Int} {n k : Nat} (hk : k < n) (y : Int) : (adT ch f n).set k (ch.getD k 0 + f k + y) = adT ch (fun i => f i + if k = i then y else 0) n := by
  refine List.ext_getElem? fun i => ?_
  by_cases e : k = i
  · subst e
    rw [List.getElem?_set_self (by rw [ad_len]; exact hk), ad_get hk, if_pos rfl, Int.add_assoc]
  · rw [List.getElem?_set_ne e]
    by_cases hi : i < n
    · rw [ad_get hi, ad_get hi, if_neg e, Int.add_zero]
    · rw [List.getElem?_eq_none (by rw [ad_len]; omega), List.getElem?_eq_none (by rw [ad_len]; omega)]
/-- what those ahead of k have given to i -/
def accF (u d c : Int) (s : List Nat) (g : List Bool) (L : List Nat) (k i : Nat) : Int := c * Ps.sumI (fun j => Ps.oneI (upW u s) (upW d s) L j i) (Ps.lefL g k)
theorem acc_zero (u d c : Int) (s : List Nat) (g : List Bool) (L : List Nat) (i : Nat) : accF u d c s g L 0 i = 0 := by simp [accF, Ps.lefL, Ps.sumI]
theorem acc_gone {u d c : Int} {s : List Nat} {g : List Bool} {L : List Nat} {k : Nat} (h : g.getD k false = true) (i : Nat) : accF u d c s g L (k + 1) i = accF u d c s g L k i := by
  unfold accF
  rw [Ps.lef_succ_gone h]
theorem acc_step {u d c : Int} {s : List Nat} {g : List Bool} {L : List Nat} {k : Nat} (h : g.getD k false = false) (i : Nat) : accF u d c s g L (k + 1) i = accF u d c s g L k i + c * Ps.oneI (upW u s) (upW d s) L k i := by
  unfold accF
  rw [Ps.sumI_lef_succ _ h, Int.mul_add]
theorem acc_all {u d c : Int} {s : List Nat} {g : List Bool} {n : Nat} (hne : Ps.lefL g n ≠ []) (i : Nat) : accF u d c s g (Ps.lefL g n) n i = c * Ps.incI (upW u s) (upW d s) i (Ps.lefL g n) := by
  unfold accF
  rw [Ps.inc_step (Ps.lef_nodup g n) hne]
theorem acc_bd {u d c : Int} (hd : 1 ≤ d) (hu : d ≤ u) (hc : 1 ≤ c) {s : List Nat} {g : List Bool} {n k : Nat} (hk : k ≤ n) (i : Nat) :
    0 ≤ accF u d c s g (Ps.lefL g n) k i ∧ accF u d c s g (Ps.lefL g n) k i ≤ (Ps.lefL g k).length * (c * eachL u s (Ps.lefL g n)) := by
  have hD : ∀ a, 0 ≤ upW d s a := fun a => by have := up_pos hd s a; omega
  have h1 : ∀ a, 1 ≤ upW u s a := fun a => up_pos (by omega) s a
  have hm : ∀ j ∈ Ps.lefL g k, j ∈ Ps.lefL g n := fun j hj => by
    have := Ps.lef_mem.1 hj
    exact Ps.lef_mem.2 ⟨by omega, this.2⟩
  unfold accF
  refine ⟨Int.mul_nonneg (by omega) (Ps.sumI_nn fun j hj => (Ps.one_bd hD (up_le hd hu s) h1 (hm j hj) i).1), ?_⟩
  have h2 : Ps.sumI (fun j => Ps.oneI (upW u s) (upW d s) (Ps.lefL g n) j i) (Ps.lefL g k) ≤ Ps.sumI (fun _ => eachL u s (Ps.lefL g n)) (Ps.lefL g k) := Ps.sumI_le fun j hj => (Ps.one_bd hD (up_le hd hu s) h1 (hm j hj) i).2
  rw [Ps.sumI_const] at h2
  rw [Int.mul_left_comm]
  exact Int.mul_le_mul_of_nonneg_left h2 (by omega)

/-- WHAT ONE ROUND DOES, in letters -/
structure Rnd1 (u d c : Int) (s : List Nat) (g : List Bool) (n k : Nat) (E Y Uk Dk : Int) : Prop where
  memk : k ∈ Ps.lefL g n
  each : c * eachL u s (Ps.lefL g n) = E
  less : c * lessL u s (Ps.lefL g n) k = Y
  up : upW u s k = Uk
  dn : upW d s k = Dk
theorem Rnd1.quo {u d c : Int} {s : List Nat} {g : List Bool} {n k : Nat} {E Y Uk Dk : Int} (h : Rnd1 u d c s g n k E Y Uk Dk) : E = Uk * Y := by
  rw [← h.each, ← h.less, ← h.up, each_less h.memk, Int.mul_left_comm]
theorem Rnd1.bds {u d c : Int} {s : List Nat} {g : List Bool} {n k : Nat} {E Y Uk Dk : Int} (h : Rnd1 u d c s g n k E Y Uk Dk) (hd : 1 ≤ d) (hu : d ≤ u) (hc : 1 ≤ c) : 1 ≤ Y ∧ 1 ≤ Dk ∧ Dk ≤ Uk ∧ Uk ≤ E ∧ Y ≤ E ∧ 1 ≤ Y * Dk ∧ Y * Dk ≤ E := by
  have h1 : 1 ≤ Y := by rw [← h.less]; exact mul1 hc (less1 (by omega) _ _ _)
  have h2 : 1 ≤ Dk := by rw [← h.dn]; exact up_pos hd _ _
  have h3 : Dk ≤ Uk := by rw [← h.dn, ← h.up]; exact up_le hd hu _ _
  have h4 := h.quo
  have h5 := Int.mul_le_mul_of_nonneg_left h1 (show 0 ≤ Uk by omega)
  have h6 := Int.mul_le_mul_of_nonneg_right (show 1 ≤ Uk by omega) (show 0 ≤ Y by omega)
  have h7 := mul1 h1 h2
  have h8 := Int.mul_le_mul_of_nonneg_left h3 (show 0 ≤ Y by omega)
  rw [Int.mul_comm Y Uk] at h8
  exact ⟨h1, h2, h3, by omega, by omega, h7, by omega⟩
/-- none behind it is asked -/
theorem Rnd1.sure {u d c : Int} {s : List Nat} {g : List Bool} {n k : Nat} {E Y Uk Dk : Int} (h : Rnd1 u d c s g n k E Y Uk Dk) (hg : g.getD k false = false) (he : Y * Dk = E) (hY : 1 ≤ Y) {ch : List Int} (hk : k < n) :
    (adT ch (accF u d c s g (Ps.lefL g n) k) n).set k (ch.getD k 0 + accF u d c s g (Ps.lefL g n) k k + Y * Dk) = adT ch (accF u d c s g (Ps.lefL g n) (k + 1)) n := by
  rw [ad_set hk]
  refine ad_congr fun i _ => ?_
  rw [acc_step hg]
  congr 1
  split
  · rename_i e
    subst e
    rw [one_own, h.dn, ← h.less, Int.mul_assoc]
  · rename_i e
    have hq := h.quo
    have : Dk = Uk := by
      rw [hq, Int.mul_comm Uk Y] at he
      exact Int.eq_of_mul_eq_mul_left (by omega) he
    rw [one_other e, h.up, h.dn, this, Int.sub_self, Int.zero_mul, Int.mul_zero]
/-- those behind it are asked -/
theorem Rnd1.more {u d c : Int} {s : List Nat} {g : List Bool} {n k : Nat} {E Y Uk Dk : Int} (h : Rnd1 u d c s g n k E Y Uk Dk) (hg : g.getD k false = false) {ch : List Int} (hk : k < n) (hgl : g.length = n) :
    adT ((adT ch (accF u d c s g (Ps.lefL g n) k) n).set k (ch.getD k 0 + accF u d c s g (Ps.lefL g n) k k + Y * Dk)) (fun i => c * (Uk - Dk) * Ps.incI (upW u s) (upW d s) i (Ps.lefL (g.set k true) n)) n = adT ch (accF u d c s g (Ps.lefL g n) (k + 1)) n := by
  rw [ad_set hk, ad_ad]
  refine ad_congr fun i _ => ?_
  rw [acc_step hg, Ps.lef_set hk hgl, Int.add_assoc]
  congr 1
  split
  · rename_i e
    subst e
    rw [one_own, h.dn, ← h.less, Ps.inc_none (fun hm => (List.Nodup.mem_erase_iff (Ps.lef_nodup g n)).1 hm |>.1 rfl), Int.mul_zero, Int.add_zero, Int.mul_assoc]
  · rename_i e
    rw [one_other e, h.up, h.dn, Int.zero_add, Int.mul_assoc]
theorem Rnd1.left {u d c : Int} {s : List Nat} {g : List Bool} {n k : Nat} {E Y Uk Dk : Int} (h : Rnd1 u d c s g n k E Y Uk Dk) (hk : k < n) (hgl : g.length = n) : c * (Uk - Dk) * wayL u s (Ps.lefL (g.set k true) n) = E - Y * Dk := by
  rw [Ps.lef_set hk hgl, ← less_way h.memk, h.quo, ← h.less]
  generalize lessL u s (Ps.lefL g n) k = z
  grind
theorem Rnd1.len {u d c : Int} {s : List Nat} {g : List Bool} {n k : Nat} {E Y Uk Dk : Int} (h : Rnd1 u d c s g n k E Y Uk Dk) (hk : k < n) (hgl : g.length = n) : (Ps.lefL (g.set k true) n).length = (Ps.lefL g n).length - 1 := by
  rw [Ps.lef_set hk hgl, List.length_erase_of_mem h.memk]
/-- one before it -/
theorem lef_room {g : List Bool} {n k : Nat} (hk : k < n) (hg : g.getD k false = false) : (Ps.lefL g k).length + 1 ≤ (Ps.lefL g n).length := by
  have := Ps.lef_len_le (g := g) (show k + 1 ≤ n from hk)
  rw [Ps.lef_succ hg, List.length_append] at this
  simpa using this
end Go.Proofs.Ythmkbkombjhaeaa

namespace Go.Proofs.Ythmkbkombjhaeaa
open Go.RowKit Go.Proofs.Ythmkbkombjhaeaa.Ds

/-! ### one order, place by place -/
/-- what those that are left give to i, if all ahead of them weigh c -/
def fl (U D : Nat → Int) (c : Int) : List Nat → Nat → Int
  | [], _ => 0
  | a :: p, i => (if a = i then c * D i * Ps.pI U p else 0) + fl U D (c * (U a - D a)) p i
theorem fl_none {U D : Nat → Int} {i : Nat} : ∀ {p : List Nat} (c : Int), i ∉ p → fl U D c p i = 0
  | [], _, _ => rfl
  | a :: p, c, h => by
    have h1 : ¬ a = i := fun e => h (e ▸ List.mem_cons_self ..)
    rw [fl, if_neg h1, fl_none _ fun h2 => h (List.mem_cons_of_mem _ h2)]
    rfl
theorem fl_is {U D : Nat → Int} {i : Nat} : ∀ {p : List Nat} (c : Int), p.Nodup → fl U D c p i = c * Ps.valI U D i p
  | [], c, _ => by simp [fl, Ps.valI]
  | a :: p, c, h => by
    have hn := List.nodup_cons.1 h
    rw [fl, Ps.valI]
    by_cases e : a = i
    · subst e
      rw [if_pos rfl, if_pos rfl, fl_none _ hn.1, Int.add_zero, Int.mul_assoc]
    · rw [if_neg e, if_neg e, fl_is _ hn.2, Int.zero_add, Int.mul_assoc]
theorem fl_nn {U D : Nat → Int} (hD : ∀ a, 0 ≤ D a) (hU : ∀ a, D a ≤ U a) (h1 : ∀ a, 1 ≤ U a) {i : Nat} : ∀ {p : List Nat} {c : Int}, 0 ≤ c → 0 ≤ fl U D c p i
  | [], _, _ => Int.le_refl _
  | a :: p, c, hc => by
    have h2 := Ps.pI_nn (l := p) h1
    have h3 := fl_nn hD hU h1 (i := i) (p := p) (c := c * (U a - D a)) (Int.mul_nonneg hc (by have := hU a; omega))
    rw [fl]
    split
    · have := Int.mul_nonneg (Int.mul_nonneg hc (hD i)) (show 0 ≤ Ps.pI U p by omega)
      omega
    · omega
/-- so far -/
structure Sof (U D : Nat → Int) (p : List Nat) (k : Nat) (c : Int) (ws : List Int) (T : Nat → Int) : Prop where
  eq : ∀ i, i < ws.length → ws.getD i 0 + fl U D c (p.drop k) i = T i
  c0 : 0 ≤ c
  c1 : c * Ps.pI U (p.drop k) ≤ Ps.pI U p
theorem Sof.step {U D : Nat → Int} (hD : ∀ a, 0 ≤ D a) (hU : ∀ a, D a ≤ U a) (h1 : ∀ a, 1 ≤ U a) {p : List Nat} {k a : Nat} {c : Int} {ws : List Int} {T : Nat → Int} (h : Sof U D p k c ws T) (ha : p[k]? = some a) (hal : a < ws.length) :
    Sof U D p (k + 1) (c * (U a - D a)) (ws.set a (ws.getD a 0 + c * D a * Ps.pI U (p.drop (k + 1)))) T := by
  have hd : p.drop k = a :: p.drop (k + 1) := by
    obtain ⟨h2, h3⟩ := List.getElem?_eq_some_iff.1 ha
    rw [List.drop_eq_getElem_cons h2, h3]
  have hUa := hU a
  have hDa := hD a
  refine ⟨fun i hi => ?_, Int.mul_nonneg h.c0 (by omega), ?_⟩
  · have h4 := h.eq i (by simpa using hi)
    rw [hd, fl] at h4
    by_cases e : a = i
    · subst e
      rw [if_pos rfl] at h4
      have h5 : (ws.set a (ws.getD a 0 + c * D a * Ps.pI U (p.drop (k + 1)))).getD a 0 = ws.getD a 0 + c * D a * Ps.pI U (p.drop (k + 1)) := by simp [List.getD, hal]
      rw [h5]
      omega
    · rw [if_neg e] at h4
      have h5 : (ws.set a (ws.getD a 0 + c * D a * Ps.pI U (p.drop (k + 1)))).getD i 0 = ws.getD i 0 := by simp [List.getD, e]
      rw [h5]
      omega
  · have h6 := h.c1
    rw [hd, Ps.pI_cons] at h6
    have hp := Ps.pI_nn (l := p.drop (k + 1)) h1
    have h7 : c * (U a - D a) * Ps.pI U (p.drop (k + 1)) ≤ c * U a * Ps.pI U (p.drop (k + 1)) := Int.mul_le_mul_of_nonneg_right (Int.mul_le_mul_of_nonneg_left (by omega) h.c0) (by omega)
    rw [Int.mul_assoc c (U a)] at h7
    omega
theorem Sof.start {U D : Nat → Int} {p : List Nat} {ws : List Int} (hn : p.Nodup) : Sof U D p 0 1 ws (fun i => ws.getD i 0 + Ps.valI U D i p) :=
  ⟨fun i _ => by rw [List.drop_zero, fl_is _ hn, Int.one_mul], by omega, by rw [List.drop_zero, Int.one_mul]; exact Int.le_refl _⟩
theorem Sof.all {U D : Nat → Int} {p : List Nat} {k : Nat} {c : Int} {ws : List Int} {T : Nat → Int} (h : Sof U D p k c ws T) (hk : p.length ≤ k) : ∀ i, i < ws.length → ws.getD i 0 = T i := by
  intro i hi
  have := h.eq i hi
  rw [List.drop_eq_nil_of_le hk, fl] at this
  omega
/-- what a step reckons is small -/
theorem Sof.bds {U D : Nat → Int} (hD : ∀ a, 0 ≤ D a) (hU : ∀ a, D a ≤ U a) (h1 : ∀ a, 1 ≤ U a) {p : List Nat} {k a : Nat} {c : Int} {ws : List Int} {T : Nat → Int} (h : Sof U D p k c ws T) (ha : p[k]? = some a) (hal : a < ws.length) {A : Int} (hpA : Ps.pI U p ≤ A) (hT : ∀ i, i < ws.length → T i ≤ A) :
    c ≤ A ∧ 0 ≤ c * D a ∧ c * D a ≤ A ∧ 0 ≤ c * D a * Ps.pI U (p.drop (k + 1)) ∧ c * D a * Ps.pI U (p.drop (k + 1)) ≤ A ∧ ws.getD a 0 + c * D a * Ps.pI U (p.drop (k + 1)) ≤ A ∧ 0 ≤ c * (U a - D a) ∧ c * (U a - D a) ≤ A := by
  have hs := h.step hD hU h1 ha hal
  have hd : p.drop k = a :: p.drop (k + 1) := by
    obtain ⟨h2, h3⟩ := List.getElem?_eq_some_iff.1 ha
    rw [List.drop_eq_getElem_cons h2, h3]
  have h6 := h.c1
  rw [hd, Ps.pI_cons] at h6
  have hUa := hU a
  have hDa := hD a
  have hU1 := h1 a
  have hc := h.c0
  have hp := Ps.pI_nn (l := p.drop (k + 1)) h1
  obtain ⟨R, hR⟩ : ∃ R, Ps.pI U (p.drop (k + 1)) = R := ⟨_, rfl⟩
  rw [hR] at h6 hp hs ⊢
  have m1 : 1 ≤ U a * R := mul1 hU1 hp
  have m2 := Int.mul_le_mul_of_nonneg_left m1 hc
  have m3 : U a ≤ U a * R := by have := Int.mul_le_mul_of_nonneg_left hp (show 0 ≤ U a by omega); omega
  have m4 := Int.mul_le_mul_of_nonneg_left m3 hc
  have m5 := Int.mul_le_mul_of_nonneg_left hUa hc
  have m6 := Int.mul_nonneg hc hDa
  have m7 := Int.mul_nonneg m6 (show 0 ≤ R by omega)
  have m8 : c * D a * R ≤ c * U a * R := Int.mul_le_mul_of_nonneg_right m5 (by omega)
  rw [Int.mul_assoc c (U a)] at m8
  have m9 := hs.eq a (by simpa using hal)
  have m10 := fl_nn hD hU h1 (i := a) (p := p.drop (k + 1)) hs.c0
  have m11 : (ws.set a (ws.getD a 0 + c * D a * R)).getD a 0 = ws.getD a 0 + c * D a * R := by simp [List.getD, hal]
  rw [m11] at m9
  have m12 := hT a hal
  have m13 : c * (U a - D a) ≤ c * U a := Int.mul_le_mul_of_nonneg_left (by omega) hc
  refine ⟨by omega, m6, by omega, m7, by omega, by omega, hs.c0, by omega⟩

/-- but for one block -/
structure Oth (gw : Nat) (w w' : World) : Prop where
  size : w.heap.size ≤ w'.heap.size
  cell : ∀ b o, b ≠ gw → b < w.heap.size → w'.cell? ⟨b, o, none⟩ = w.cell? ⟨b, o, none⟩
theorem Oth.refl (gw : Nat) (w : World) : Oth gw w w := ⟨Nat.le_refl _, fun _ _ _ _ => rfl⟩
theorem Oth.drew {gw : Nat} {w w' : World} (h : Oth gw w w') : Oth gw w w'.drew := ⟨h.size, h.cell⟩
theorem Oth.set {gw : Nat} {w w' : World} (h : Oth gw w w') (i : Nat) (u : Value) : Oth gw w (w'.setCell ⟨gw, i, none⟩ u) :=
  ⟨by simpa using h.size, fun b o hb hl => by rw [sc_other (fun e => hb (congrArg Addr.block e).symm)]; exact h.cell b o hb hl⟩
/-- the weights so far -/
def Wts (u d : Int) (s : List Nat) (ps : List (List Nat)) (j : Nat) (ws : List Int) : Prop := ws.length = s.length ∧ ∀ i, i < s.length → ws.getD i 0 = Ps.sumI (Ps.valI (upW u s) (upW d s) i) (ps.take j)
theorem Wts.step {u d : Int} {s : List Nat} {ps : List (List Nat)} {j : Nat} {ws ws' : List Int} {p : List Nat} (h : Wts u d s ps j ws) (hp : ps[j]? = some p) (hl : ws'.length = s.length) (h' : ∀ i, i < s.length → ws'.getD i 0 = ws.getD i 0 + Ps.valI (upW u s) (upW d s) i p) : Wts u d s ps (j + 1) ws' := by
  refine ⟨hl, fun i hi => ?_⟩
  rw [h' i hi, h.2 i hi, List.take_add_one, hp, Ps.sumI_append]
  simp [Ps.sumI]
theorem sumI_take_le {f : List Nat → Int} {ps : List (List Nat)} (hf : ∀ p, 0 ≤ f p) (j : Nat) : Ps.sumI f (ps.take j) ≤ Ps.sumI f ps := by
  have h1 := Ps.sumI_append f (ps.take j) (ps.drop j)
  rw [List.take_append_drop] at h1
  have h2 := Ps.sumI_nn (l := ps.drop j) fun p _ => hf p
  omega
/-- no weight is more than all -/
theorem wts_bd {u d : Int} (hd : 1 ≤ d) (hu : d ≤ u) (s : List Nat) (j i : Nat) : 0 ≤ Ps.sumI (Ps.valI (upW u s) (upW d s) i) ((Ps.ordL (List.range s.length).reverse).take j) ∧ Ps.sumI (Ps.valI (upW u s) (upW d s) i) ((Ps.ordL (List.range s.length).reverse).take j) ≤ wayN u s s.length := by
  have hD : ∀ a, 0 ≤ upW d s a := fun a => by have := up_pos hd s a; omega
  have h1 : ∀ a, 1 ≤ upW u s a := fun a => up_pos (by omega) s a
  refine ⟨Ps.sumI_nn fun p _ => (Ps.valI_bd hD (up_le hd hu s) h1 i p).1, ?_⟩
  refine Int.le_trans (sumI_take_le (fun p => (Ps.valI_bd hD (up_le hd hu s) h1 i p).1) j) ?_
  have h2 := (Ps.inc_bd hD (up_le hd hu s) h1 i (List.range s.length).reverse).2
  unfold Ps.incI at h2
  rw [List.length_reverse, List.length_range, Ps.pI_perm _ (List.reverse_perm _)] at h2
  exact h2
theorem pI_le_way {u : Int} (hu : 1 ≤ u) {s : List Nat} {p : List Nat} (h : p ∈ Ps.ordL (List.range s.length).reverse) : Ps.pI (upW u s) p ≤ wayN u s s.length := by
  rw [Ps.pI_perm _ ((Ps.ord_perm h).trans (List.reverse_perm _))]
  unfold wayN
  have h1 := fact1 s.length
  have h2 : 1 ≤ Ps.pI (upW u s) (List.range s.length) := Ps.pI_nn fun a => up_pos hu s a
  have := Int.mul_le_mul_of_nonneg_right h1 (show 0 ≤ Ps.pI (upW u s) (List.range s.length) by omega)
  rw [Int.one_mul] at this
  exact this
theorem wts_all {u d : Int} {s : List Nat} {j : Nat} {ws : List Int} (h : Wts u d s (Ps.ordL (List.range s.length).reverse) j ws) (hj : (Ps.ordL (List.range s.length).reverse).length ≤ j) : ws = (List.range s.length).map (Ps.flW u d s) := by
  obtain ⟨h1, h2⟩ := h
  refine List.ext_getElem? fun i => ?_
  by_cases hi : i < s.length
  · have h3 := h2 i hi
    rw [List.take_of_length_le hj] at h3
    have h4 : ws[i]? = some (ws.getD i 0) := by simp [List.getD, List.getElem?_eq_getElem (show i < ws.length by omega)]
    rw [h4, h3]
    simp [hi]
    rfl
  · rw [List.getElem?_eq_none (by omega), List.getElem?_eq_none (by simp; omega)]
theorem pI_take {U : Nat → Int} (h1 : ∀ a, 1 ≤ U a) {q : List Nat} {t b : Nat} (hb : q[t]? = some b) : Ps.pI U (q.take (t + 1)) = Ps.pI U (q.take t) * U b ∧ 1 ≤ Ps.pI U (q.take t) ∧ Ps.pI U (q.take t) * U b ≤ Ps.pI U q ∧ U b ≤ Ps.pI U q := by
  have app : ∀ (x y : List Nat), Ps.pI U (x ++ y) = Ps.pI U x * Ps.pI U y := by
    intro x y
    induction x with
    | nil => show _ = 1 * _; rw [Int.one_mul]; rfl
    | cons a x ih => rw [List.cons_append, Ps.pI_cons, Ps.pI_cons, ih, Int.mul_assoc]
  have h2 : Ps.pI U (q.take (t + 1)) = Ps.pI U (q.take t) * U b := by
    rw [List.take_add_one, hb, app]
    show _ * (U b * 1) = _
    rw [Int.mul_one]
  have h3 := Ps.pI_nn (l := q.take t) h1
  have h4 := Ps.pI_nn (l := q.drop (t + 1)) h1
  have h5 : Ps.pI U q = Ps.pI U (q.take (t + 1)) * Ps.pI U (q.drop (t + 1)) := by rw [← app, List.take_append_drop]
  have h6 := h1 b
  have h7 : 1 ≤ Ps.pI U (q.take t) * U b := mul1 h3 h6
  have h8 := Int.mul_le_mul_of_nonneg_left h4 (show 0 ≤ Ps.pI U (q.take t) * U b by omega)
  have h9 := Int.mul_le_mul_of_nonneg_right h3 (show 0 ≤ U b by omega)
  rw [h2] at h5
  exact ⟨h2, h3, by omega, by omega⟩
end Go.Proofs.Ythmkbkombjhaeaa

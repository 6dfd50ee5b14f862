import Derived.Test.YtjembpcpefgdpaaDoorQc48
import Derived.Test.YtjembpcpefgdpaaDoorQc39
import Derived.Test.YtjembpcpefgdpaaDoorQc15
import Derived.Test.YtjembpcpefgdpaaDoorQc50
import Derived.Test.YtjembpcpefgdpaaDoorQc31
import Derived.Deep.DeepCutAuto
import Derived.Deep.CutRange
namespace Go.Proofs.YtjembpcpefgdpaaDoor
open Go.RowKit Go.Proofs.YtjembpcpefgdpaaDoor.Ds

theorem far_self {L l : List Pt} (h : makeT L = (l, 0)) : farT l l = (1, 1, 0) := by
  obtain ⟨hd, g, hg, hw, ht⟩ := make_told h
  have hne := hd.ne
  cases hl : l with
  | nil => exact absurd hl hne
  | cons p r =>
    have hp : 0 < wt L p.1 := by
      rw [hw]
      exact Int.mul_pos hg (mem_wt_pos hd.rise hd.pos (by rw [hl]; exact List.mem_cons_self ..))
    rw [← hl]
    refine far_make h h (fun o => Iff.rfl) ⟨by omega, fun o _ => ⟨?_, ?_⟩⟩ (by omega) (by decide) p.1 hp ?_
    · rw [Int.mul_one, Int.one_mul]; omega
    · rw [Int.mul_one, Int.one_mul]; omega
    · rw [Int.mul_one, Int.one_mul]
theorem hide_made {u d lo hi m : Int} {l : List Pt} (h : hideT u d lo hi m = (l, 0)) : ∃ L, makeT L = (l, 0) := by
  unfold hideT at h
  split at h
  · rename_i h1
    simp only [Prod.mk.injEq] at h
    exact absurd h.2 h1
  · split at h
    · simp at h
    · split at h
      · exact ⟨_, h⟩
      · split at h
        · simp at h
        · exact ⟨_, h⟩
theorem hide_far {u d lo hi m n : Int} {l : List Pt} (h : hideT u d lo hi m = (l, 0)) :
    ∃ (l' : List Pt) (f : Nat), hideT u d lo hi n = (l', 0) ∧ (f : Int) ≤ max (m - n) (n - m) ∧ farT l l' = (u ^ f, d ^ f, 0) := by
  obtain ⟨l', h1, _, h3, h4⟩ := hide_two (n := n) h
  by_cases c : u = d ∨ lo = hi
  · obtain ⟨L, hL⟩ := hide_made h
    have e := h3 c
    refine ⟨l', 0, h1, by simp; omega, ?_⟩
    rw [← e, Int.pow_zero, Int.pow_zero]
    exact far_self hL
  · obtain ⟨f, hf, _, hff⟩ := h4 (fun k => c (.inl k)) (fun k => c (.inr k))
    refine ⟨l', f, h1, ?_, hff⟩
    rw [hf]
    unfold plcT
    omega

/-- a step of the product -/
theorem pow_step {u d : Int} {F f N : Nat} (hr : Rt.rightB u d = true) (hdu : d ≤ u) (hd : 1 ≤ d) (hN : u ^ N ≤ 1073741824) (hf : F + f ≤ N) :
    Rt.timesT (u ^ F) (d ^ F) (u ^ f) (d ^ f) = (u ^ (F + f), d ^ (F + f), 0) ∧ u ^ (F + f) * d ^ N ≤ u ^ N * d ^ (F + f) := by
  constructor
  · have b1 := pow_mono (show 1 ≤ u by omega) (show F ≤ N by omega)
    have b2 := pow_mono (show 1 ≤ u by omega) (show f ≤ N by omega)
    have b3 := pow_mono (show 1 ≤ u by omega) hf
    have b4 := pow_le (show 0 ≤ d by omega) hdu F
    have b5 := pow_le (show 0 ≤ d by omega) hdu f
    have b6 := pow_le (show 0 ≤ d by omega) hdu (F + f)
    obtain ⟨x, rfl⟩ := Int.eq_ofNat_of_zero_le (show 0 ≤ u by omega)
    obtain ⟨y, rfl⟩ := Int.eq_ofNat_of_zero_le (show 0 ≤ d by omega)
    have hg := (Rt.right_nat x y).1 hr
    rw [← Int.natCast_pow, ← Int.natCast_pow, ← Int.natCast_pow, ← Int.natCast_pow, ← Int.natCast_pow, ← Int.natCast_pow] at *
    have r1 : Rt.rightB ((x ^ F : Nat) : Int) ((y ^ F : Nat) : Int) = true := (Rt.right_nat _ _).2 ⟨by omega, Nat.pow_pos hg.2.1, by omega, Nat.Coprime.pow F F hg.2.2.2⟩
    have r2 : Rt.rightB ((x ^ f : Nat) : Int) ((y ^ f : Nat) : Int) = true := (Rt.right_nat _ _).2 ⟨by omega, Nat.pow_pos hg.2.1, by omega, Nat.Coprime.pow f f hg.2.2.2⟩
    unfold Rt.timesT
    rw [if_pos ⟨r1, r2⟩, ← Int.natCast_mul, ← Int.natCast_mul, ← Nat.pow_add, ← Nat.pow_add, Rt.mkT_coprime _ _ (Nat.pow_pos hg.2.1) (Nat.Coprime.pow _ _ hg.2.2.2), if_pos ⟨by omega, by omega⟩]
  · obtain ⟨k, rfl⟩ := Nat.le.dest hf
    have h1 := pow_le (show 0 ≤ d by omega) hdu k
    have h2 : 0 ≤ u ^ (F + f) * d ^ (F + f) := Int.mul_nonneg (pow_nn (by omega) _) (pow_nn (by omega) _)
    have h3 := Int.mul_le_mul_of_nonneg_left h1 h2
    rw [Int.pow_add d (F + f) k, Int.pow_add u (F + f) k]
    calc u ^ (F + f) * (d ^ (F + f) * d ^ k) = u ^ (F + f) * d ^ (F + f) * d ^ k := by rw [Int.mul_assoc]
      _ ≤ u ^ (F + f) * d ^ (F + f) * u ^ k := h3
      _ = u ^ (F + f) * u ^ k * d ^ (F + f) := by rw [Int.mul_right_comm]


/-! ### how often the node of one step has ended -/
def sumN (f : Nat → Nat) : Nat → Nat
  | 0 => 0
  | n + 1 => sumN f n + f n
theorem sumN_le {f g : Nat → Nat} : ∀ {n : Nat}, (∀ l, l < n → f l ≤ g l) → sumN f n ≤ sumN g n
  | 0, _ => Nat.le_refl _
  | n + 1, h => by
    have h1 := sumN_le (n := n) fun l hl => h l (by omega)
    have h2 := h n (by omega)
    simp only [sumN]; omega
theorem sumN_lt {f g : Nat → Nat} {j : Nat} : ∀ {n : Nat}, j < n → (∀ l, l < n → f l ≤ g l) → f j + 1 ≤ g j → sumN f n + 1 ≤ sumN g n
  | 0, hj, _, _ => by omega
  | n + 1, hj, h, hj1 => by
    by_cases c : j = n
    · subst c
      have h1 := sumN_le (n := j) fun l hl => h l (by omega)
      simp only [sumN]; omega
    · have h1 := sumN_lt (n := n) (by omega) (fun l hl => h l (by omega)) hj1
      have h2 := h n (by omega)
      simp only [sumN]; omega
theorem sumN_one {f : Nat → Nat} (h : ∀ l, f l ≤ 1) : ∀ n, sumN f n ≤ n
  | 0 => Nat.le_refl _
  | n + 1 => by have := sumN_one h n; have := h n; simp only [sumN]; omega
theorem sumN_zero {f : Nat → Nat} : ∀ {n : Nat}, (∀ l, l < n → f l = 0) → sumN f n = 0
  | 0, _ => rfl
  | n + 1, h => by
    have h1 := sumN_zero (n := n) fun l hl => h l (by omega)
    have h2 := h n (by omega)
    simp only [sumN]; omega
/-- the node of step c, of a level, has ended -/
def ind (c T l : Nat) : Nat := if (c / 2 ^ l + 1) * 2 ^ l ≤ T then 1 else 0
theorem ind_one (c T l : Nat) : ind c T l ≤ 1 := by unfold ind; split <;> omega
theorem ind_mono {c T T' l : Nat} (h : T ≤ T') : ind c T l ≤ ind c T' l := by
  unfold ind
  by_cases c1 : (c / 2 ^ l + 1) * 2 ^ l ≤ T
  · rw [if_pos c1, if_pos (by omega)]; omega
  · rw [if_neg c1]; omega
theorem ind_zero {c T l : Nat} (h : T ≤ c) : ind c T l = 0 := by
  unfold ind
  have hp : 0 < 2 ^ l := Nat.two_pow_pos _
  have h1 := Nat.lt_div_mul_add hp (a := c)
  rw [if_neg (by rw [Nat.add_mul, Nat.one_mul]; omega)]
/-- levels below j as behind the step, the others as ahead of it -/
def mix (k c t j : Nat) : Nat := sumN (fun l => if l < j then ind c (t + 1) l else ind c t l) (k + 1)
theorem mix_le (k c t j : Nat) : mix k c t j ≤ k + 1 := sumN_one (fun l => by split <;> exact ind_one _ _ _) _
theorem mix_mono {k c t j j' : Nat} (h : j ≤ j') : mix k c t j ≤ mix k c t j' := sumN_le fun l _ => by
  by_cases c1 : l < j
  · rw [if_pos c1, if_pos (by omega)]; exact Nat.le_refl _
  · rw [if_neg c1]
    split
    · exact ind_mono (by omega)
    · exact Nat.le_refl _
theorem mix_end {k c t j : Nat} : mix k c t j ≤ mix k c (t + 1) 0 := sumN_le fun l _ => by
  rw [if_neg (Nat.not_lt_zero l)]
  split
  · exact Nat.le_refl _
  · exact ind_mono (by omega)
theorem mix_start {k c t : Nat} (h : t ≤ c) : mix k c t 0 = 0 := sumN_zero fun l _ => by rw [if_neg (Nat.not_lt_zero l)]; exact ind_zero h
/-- a node that ends and holds c is counted now -/
theorem mix_hit {k c t j : Nat} (hj : j ≤ k) (hd : (t + 1) % 2 ^ j = 0) (h1 : t + 1 ≤ c + 2 ^ j) (h2 : c ≤ t) : mix k c t j + 1 ≤ mix k c t (j + 1) := by
  refine sumN_lt (j := j) (by omega) (fun l _ => ?_) ?_
  · by_cases c1 : l < j
    · rw [if_pos c1, if_pos (by omega)]; exact Nat.le_refl _
    · rw [if_neg c1]
      split
      · exact ind_mono (by omega)
      · exact Nat.le_refl _
  · rw [if_neg (by omega), if_pos (by omega)]
    have hp : 0 < 2 ^ j := Nat.two_pow_pos _
    obtain ⟨s, hs⟩ := Nat.dvd_of_mod_eq_zero hd
    have hc : c / 2 ^ j + 1 = s := by
      have e1 : s = (s - 1) + 1 := by
        rcases Nat.eq_zero_or_pos s with h | h
        · rw [h] at hs; omega
        · omega
      rw [e1]
      congr 1
      rw [Nat.div_eq_iff hp]
      have e2 : 2 ^ j * s = 2 ^ j * (s - 1) + 2 ^ j := by rw [e1, Nat.mul_add]; simp
      have e3 : (s - 1) * 2 ^ j = 2 ^ j * (s - 1) := Nat.mul_comm _ _
      omega
    have he : (c / 2 ^ j + 1) * 2 ^ j = t + 1 := by rw [hc, Nat.mul_comm]; exact hs.symm
    unfold ind
    rw [he, if_neg (by omega), if_pos (Nat.le_refl _)]
    exact Nat.le_refl _

/-! ### two lists that differ at one place by 1 -/
def Df (c : Nat) (p q : List Int) : Prop := ∃ A x B, A.length = c ∧ p = A ++ x :: B ∧ q = A ++ (x + 1) :: B
theorem Df.len {c : Nat} {p q : List Int} (h : Df c p q) : q.length = p.length ∧ c < p.length := by
  obtain ⟨A, x, B, h1, rfl, rfl⟩ := h
  simp; omega
theorem Df.snoc {c : Nat} {p q : List Int} (h : Df c p q) (z : Int) : Df c (p ++ [z]) (q ++ [z]) := by
  obtain ⟨A, x, B, h1, rfl, rfl⟩ := h
  exact ⟨A, x, B ++ [z], h1, by simp, by simp⟩
theorem Df.last {c : Nat} {p q : List Int} (h : Df c p q) (m : Nat) : (p.length - m ≤ c ∧ lastS q m = lastS p m + 1) ∨ (c < p.length - m ∧ lastS q m = lastS p m) := by
  have hl := h.len
  obtain ⟨A, x, B, h1, rfl, rfl⟩ := h
  unfold lastS
  rw [hl.1]
  by_cases c1 : (A ++ x :: B).length - m ≤ c
  · left
    refine ⟨c1, ?_⟩
    rw [List.drop_append_of_le_length (by omega), List.drop_append_of_le_length (by omega), List.sum_append, List.sum_append, List.sum_cons, List.sum_cons]
    omega
  · right
    refine ⟨by omega, ?_⟩
    have e : ∀ z : Int, (A ++ z :: B).drop ((A ++ x :: B).length - m) = B.drop ((A ++ x :: B).length - m - A.length - 1) := fun z => by
      rw [List.drop_append]
      rw [List.drop_eq_nil_of_le (by omega), List.nil_append]
      obtain ⟨n, hn⟩ : ∃ n, (A ++ x :: B).length - m - A.length = n + 1 := ⟨(A ++ x :: B).length - m - A.length - 1, by omega⟩
      rw [hn, List.drop_succ_cons, Nat.add_sub_cancel]
    rw [e x, e (x + 1)]
end Go.Proofs.YtjembpcpefgdpaaDoor

namespace Go.Proofs.YtjembpcpefgdpaaDoor
open Go.RowKit Go.Proofs.YtjembpcpefgdpaaDoor.Ds

theorem hide_fars {u d lo hi : Int} (hh : (hideT u d lo hi 0).2 = 0) (m n : Int) : ∃ f : Nat, (f : Int) ≤ max (m - n) (n - m) ∧ farT (hideT u d lo hi m).1 (hideT u d lo hi n).1 = (u ^ f, d ^ f, 0) := by
  obtain ⟨l', f, h1, h2, h3⟩ := hide_far (n := n) (l := (hideT u d lo hi m).1) (show hideT u d lo hi m = _ from Prod.ext rfl (hide_zero hh m))
  refine ⟨f, h2, ?_⟩
  rw [h1]
  exact h3
/-- one node of a step: what it loses is counted -/
theorem diff_node {k c t j : Nat} {u d lo hi : Int} {p q : List Int} (hh : (hideT u d lo hi 0).2 = 0) (hd : Df c p q) (hl : p.length = t + 1) (hj : j ≤ k) (hm : (t + 1) % 2 ^ j = 0) :
    ∃ f, farT (hideT u d lo hi (lastS p (2 ^ j))).1 (hideT u d lo hi (lastS q (2 ^ j))).1 = (u ^ f, d ^ f, 0) ∧ mix k c t j + f ≤ mix k c t (j + 1) := by
  obtain ⟨f, h1, h2⟩ := hide_fars hh (lastS p (2 ^ j)) (lastS q (2 ^ j))
  refine ⟨f, h2, ?_⟩
  have hc := hd.len.2
  rcases hd.last (2 ^ j) with ⟨h3, h4⟩ | ⟨h3, h4⟩
  · rw [h4] at h1
    have hf : f ≤ 1 := by omega
    have := mix_hit (k := k) (c := c) hj hm (by omega) (by omega)
    omega
  · rw [h4] at h1
    have hf : f = 0 := by omega
    have := mix_mono (k := k) (c := c) (t := t) (show j ≤ j + 1 by omega)
    omega
/-- what is told step by step loses so much, and no more -/
def Prv (k : Nat) (u d : Int) (n : Nat) (L L' : Nat → List (List Pt)) : Prop :=
  ∃ M : Nat → Nat → Nat, M 0 0 = 0 ∧ (∀ i j, M i j ≤ k + 1) ∧ ∀ i, i < n → (L i).length = (L' i).length ∧ (∀ (j : Nat) l l', (L i)[j]? = some l → (L' i)[j]? = some l' → ∃ f, farT l l' = (u ^ f, d ^ f, 0) ∧ M i j + f ≤ M i (j + 1)) ∧ M i (L i).length ≤ M (i + 1) 0
def ltT (k : Nat) (u d lo hi : Int) (xs : List Int) (i : Nat) : List (List Pt) := (stT k u d lo hi (camT k (xs.take i)) (xs.getD i 0)).1
def leT (k : Nat) (u d lo hi : Int) (xs : List Int) (i : Nat) : Int := (stT k u d lo hi (camT k (xs.take i)) (xs.getD i 0)).2
theorem st_mem {k : Nat} {u d lo hi : Int} {came : List Int} {x : Int} {j : Nat} {l : List Pt} (h : (stT k u d lo hi came x).1[j]? = some l) : ¬ 2 ^ k ≤ came.length ∧ ¬ (x < 0 ∨ 1048576 < x) ∧ j < enT came.length ∧ l = (hideT u d lo hi (lastS (came ++ [x]) (2 ^ j))).1 := by
  unfold stT at h
  by_cases c : 2 ^ k ≤ came.length
  · rw [if_pos c] at h; simp at h
  · rw [if_neg c] at h
    by_cases c1 : x < 0 ∨ 1048576 < x
    · rw [if_pos c1] at h; simp at h
    · rw [if_neg c1] at h
      have hj : j < enT came.length := by have := (List.getElem?_eq_some_iff.1 h).1; simpa using this
      simp [hj] at h
      exact ⟨c, c1, hj, h.symm⟩
theorem far_same {k : Nat} {u d lo hi : Int} (hh : (hideT u d lo hi 0).2 = 0) {came : List Int} {x : Int} {j : Nat} {l l' : List Pt} (h : (stT k u d lo hi came x).1[j]? = some l) (h' : (stT k u d lo hi came x).1[j]? = some l') : farT l l' = (u ^ 0, d ^ 0, 0) := by
  rw [h] at h'
  simp only [Option.some.injEq] at h'
  subst h'
  obtain ⟨_, _, _, rfl⟩ := st_mem h
  obtain ⟨f, h1, h2⟩ := hide_fars hh (lastS (came ++ [x]) (2 ^ j)) (lastS (came ++ [x]) (2 ^ j))
  have : f = 0 := by omega
  rw [this] at h2
  exact h2
theorem prv_same {k : Nat} {u d lo hi : Int} (hh : (hideT u d lo hi 0).2 = 0) {xs ys : List Int} {n : Nat} (h : ∀ i, i < n → camT k (ys.take i) = camT k (xs.take i) ∧ (ys.getD i 0 = xs.getD i 0 ∨ (ltT k u d lo hi xs i = [] ∧ ltT k u d lo hi ys i = []))) : Prv k u d n (ltT k u d lo hi xs) (ltT k u d lo hi ys) := by
  refine ⟨fun _ _ => 0, rfl, fun _ _ => Nat.zero_le _, fun i hin => ?_⟩
  obtain ⟨h1, h2⟩ := h i hin
  rcases h2 with h2 | ⟨h2, h3⟩
  · have e : ltT k u d lo hi ys i = ltT k u d lo hi xs i := by unfold ltT; rw [h1, h2]
    rw [e]
    exact ⟨rfl, fun j l l' hl hl' => ⟨0, far_same hh hl hl', Nat.le_refl _⟩, Nat.le_refl _⟩
  · rw [h2, h3]
    exact ⟨rfl, fun j l l' hl => by simp at hl, Nat.le_refl _⟩
theorem nxT_len {k : Nat} {p q : List Int} (h : q.length = p.length) (z : Int) : (nxT k p z = p ∧ nxT k q z = q) ∨ (¬ 2 ^ k ≤ p.length ∧ ¬ (z < 0 ∨ 1048576 < z) ∧ nxT k p z = p ++ [z] ∧ nxT k q z = q ++ [z]) := by
  unfold nxT
  rw [h]
  by_cases c : 2 ^ k ≤ p.length
  · left; rw [if_pos c, if_pos c]; exact ⟨rfl, rfl⟩
  · by_cases c1 : z < 0 ∨ 1048576 < z
    · left; rw [if_neg c, if_pos c1, if_neg c, if_pos c1]; exact ⟨rfl, rfl⟩
    · right; rw [if_neg c, if_neg c1, if_neg c, if_neg c1]; exact ⟨c, c1, rfl, rfl⟩
theorem st_er {k : Nat} {u d lo hi : Int} {p q : List Int} (h : q.length = p.length) (z : Int) : (stT k u d lo hi q z).2 = (stT k u d lo hi p z).2 ∧ (stT k u d lo hi q z).1.length = (stT k u d lo hi p z).1.length := by
  unfold stT
  rw [h]
  by_cases c : 2 ^ k ≤ p.length
  · rw [if_pos c, if_pos c]; exact ⟨rfl, rfl⟩
  · by_cases c1 : z < 0 ∨ 1048576 < z
    · rw [if_neg c, if_pos c1, if_neg c, if_pos c1]; exact ⟨rfl, rfl⟩
    · rw [if_neg c, if_neg c1, if_neg c, if_neg c1]; simp

theorem prv_diff {k : Nat} {u d lo hi : Int} (hk : k ≤ 10) (hh : (hideT u d lo hi 0).2 = 0) {xs ys : List Int} {n a c : Nat} {x0 : Int} (hlen : xs.length = n)
    (hle : ∀ i, i ≤ a → camT k (ys.take i) = camT k (xs.take i)) (hget : ∀ i, i ≠ a → ys.getD i 0 = xs.getD i 0) (hc : (camT k (xs.take a)).length = c) (hca : ¬ 2 ^ k ≤ c) (hx : ¬ (x0 < 0 ∨ 1048576 < x0)) (hy : ¬ (x0 + 1 < 0 ∨ 1048576 < x0 + 1))
    (ha : xs[a]? = some x0) (hb : ys[a]? = some (x0 + 1)) (hDf : ∀ i, a < i → i ≤ n → Df c (camT k (xs.take i)) (camT k (ys.take i))) : Prv k u d n (ltT k u d lo hi xs) (ltT k u d lo hi ys) := by
  have ga : xs.getD a 0 = x0 := by rw [List.getD, ha]; rfl
  have gb : ys.getD a 0 = x0 + 1 := by rw [List.getD, hb]; rfl
  have hcam : ∀ i, (camT k (xs.take i)).length + 1 < 2 ^ 64 := fun i => by have := cam_len hk (camT_cam k (xs.take i)); omega
  have hxs : ∀ i, i < n → ∃ z, xs[i]? = some z ∧ xs.getD i 0 = z := fun i hin => by
    obtain ⟨z, hz⟩ := get_lt (l := xs) (i := i) (by omega)
    exact ⟨z, hz, by rw [List.getD, hz]; rfl⟩
  have tail : ∀ i, i < n → ∀ j, j ≤ k + 1 → mix k c (camT k (xs.take i)).length (if (ltT k u d lo hi xs i).length = 0 then 0 else j) ≤ mix k c (camT k (xs.take (i + 1))).length 0 := by
    intro i hin j hj
    obtain ⟨z, hz, gz⟩ := hxs i hin
    rw [camT_succ hz]
    unfold ltT stT
    rw [gz]
    unfold nxT
    by_cases c1 : 2 ^ k ≤ (camT k (xs.take i)).length
    · rw [if_pos c1, if_pos c1]
      simp only [List.length_nil, if_true]
      exact Nat.le_refl _
    · rw [if_neg c1, if_neg c1]
      by_cases c2 : z < 0 ∨ 1048576 < z
      · rw [if_pos c2, if_pos c2]
        simp only [List.length_nil, if_true]
        exact Nat.le_refl _
      · rw [if_neg c2, if_neg c2, List.length_append, List.length_singleton]
        exact mix_end
  refine ⟨fun i j => if i < a then 0 else mix k c (camT k (xs.take i)).length j, ?_, fun i j => ?_, fun i hin => ?_⟩
  · by_cases h0 : 0 < a
    · simp only [if_pos h0]
    · simp only [if_neg h0]
      exact mix_start (by simp [camT])
  · by_cases h0 : i < a
    · simp only [if_pos h0]; exact Nat.zero_le _
    · simp only [if_neg h0]; exact mix_le _ _ _ _
  · obtain ⟨z, hz, gz⟩ := hxs i hin
    have hlt : (ltT k u d lo hi xs i).length ≤ k + 1 := by
      unfold ltT stT
      by_cases c1 : 2 ^ k ≤ (camT k (xs.take i)).length
      · rw [if_pos c1]; simp
      · rw [if_neg c1]
        split
        · simp
        · simp only [List.length_map, List.length_range]
          exact enT_le _ k (by omega) (by omega)
    have hend : (if i < a then 0 else mix k c (camT k (xs.take i)).length (ltT k u d lo hi xs i).length) ≤ (if i + 1 < a then 0 else mix k c (camT k (xs.take (i + 1))).length 0) := by
      by_cases h0 : i < a
      · rw [if_pos h0]; exact Nat.zero_le _
      · rw [if_neg h0, if_neg (by omega)]
        have := tail i hin _ hlt
        by_cases e : (ltT k u d lo hi xs i).length = 0
        · rw [if_pos e] at this; rw [e]; exact this
        · rw [if_neg e] at this; exact this
    by_cases h0 : i < a
    · have e : ltT k u d lo hi ys i = ltT k u d lo hi xs i := by unfold ltT; rw [hle i (by omega), hget i (by omega)]
      refine ⟨by rw [e], fun j l l' hl hl' => ?_, hend⟩
      rw [e] at hl'
      simp only [if_pos h0]
      exact ⟨0, far_same hh hl hl', Nat.le_refl _⟩
    · by_cases h1 : i = a
      · subst h1
        refine ⟨?_, fun j l l' hl hl' => ?_, hend⟩
        · unfold ltT stT
          rw [ga, gb, hle i (Nat.le_refl _), hc, if_neg hca, if_neg hx, if_neg hca, if_neg hy]
          simp
        · obtain ⟨_, _, m3, rfl⟩ := st_mem (show (stT k u d lo hi (camT k (xs.take i)) (xs.getD i 0)).1[j]? = some l from hl)
          obtain ⟨_, _, _, rfl⟩ := st_mem (show (stT k u d lo hi (camT k (ys.take i)) (ys.getD i 0)).1[j]? = some l' from hl')
          rw [ga, gb, hle i (Nat.le_refl _)]
          simp only [if_neg (Nat.lt_irrefl i)]
          have hen := enT_le (camT k (xs.take i)).length k (by omega) (by omega)
          exact diff_node hh ⟨camT k (xs.take i), x0, [], hc, rfl, rfl⟩ (by simp) (by omega) ((enT_dvd _ j (hcam i)).2 m3)
      · have hdf := hDf i (by omega) (by omega)
        have hl2 := hdf.len.1
        refine ⟨?_, fun j l l' hl hl' => ?_, hend⟩
        · unfold ltT
          rw [hget i h1]
          exact ((st_er hl2 _).2).symm
        · obtain ⟨m1, _, m3, rfl⟩ := st_mem (show (stT k u d lo hi (camT k (xs.take i)) (xs.getD i 0)).1[j]? = some l from hl)
          obtain ⟨_, _, _, rfl⟩ := st_mem (show (stT k u d lo hi (camT k (ys.take i)) (ys.getD i 0)).1[j]? = some l' from hl')
          rw [hget i h1]
          simp only [if_neg h0]
          have hen := enT_le (camT k (xs.take i)).length k (by omega) (by omega)
          exact diff_node hh (hdf.snoc _) (by simp) (by omega) ((enT_dvd _ j (hcam i)).2 m3)
/-- TWO STREAMS THAT DIFFER AT ONE TIME BY 1: as long as they are answered alike, no more is lost than one node a level; and where they are not, the item left its bounds or came into them -/
theorem priv_all {k : Nat} {u d lo hi : Int} (hk : k ≤ 10) (hh : (hideT u d lo hi 0).2 = 0) {xs : List Int} {a : Nat} {x0 y : Int} (ha : xs[a]? = some x0) (hy : y = x0 + 1 ∨ ((x0 < 0 ∨ 1048576 < x0) ∧ (y < 0 ∨ 1048576 < y))) :
    ∃ n, n ≤ xs.length ∧ (∀ i, i < n → leT k u d lo hi (xs.set a y) i = leT k u d lo hi xs i) ∧ Prv k u d n (ltT k u d lo hi xs) (ltT k u d lo hi (xs.set a y)) ∧ (n = xs.length ∨ (leT k u d lo hi (xs.set a y) n ≠ leT k u d lo hi xs n ∧ (1048576 < y ∨ y = 0))) := by
  have hal : a < xs.length := (List.getElem?_eq_some_iff.1 ha).1
  have hb : (xs.set a y)[a]? = some y := by simp [hal]
  have hget : ∀ i, i ≠ a → (xs.set a y).getD i 0 = xs.getD i 0 := fun i hi => by rw [List.getD, List.getD, List.getElem?_set_ne (fun e => hi e.symm)]
  have hget2 : ∀ i, i ≠ a → (xs.set a y)[i]? = xs[i]? := fun i hi => List.getElem?_set_ne (fun e => hi e.symm)
  have ga : xs.getD a 0 = x0 := by rw [List.getD, ha]; rfl
  have gb : (xs.set a y).getD a 0 = y := by rw [List.getD, hb]; rfl
  have htake : ∀ i, i ≤ a → (xs.set a y).take i = xs.take i := fun i hi => List.take_set_of_le hi
  have hle : ∀ i, i ≤ a → camT k ((xs.set a y).take i) = camT k (xs.take i) := fun i hi => by rw [htake i hi]
  have hbefore : ∀ i, i < a → leT k u d lo hi (xs.set a y) i = leT k u d lo hi xs i := fun i hi => by unfold leT; rw [hle i (by omega), hget i (by omega)]
  obtain ⟨c, hc⟩ : ∃ c, (camT k (xs.take a)).length = c := ⟨_, rfl⟩
  have sx := camT_succ (k := k) ha
  have sy := camT_succ (k := k) hb
  rw [hle a (Nat.le_refl _)] at sy
  -- where what has come is the same behind time a, all is the same
  have same : camT k ((xs.set a y).take (a + 1)) = camT k (xs.take (a + 1)) → leT k u d lo hi (xs.set a y) a = leT k u d lo hi xs a → (ltT k u d lo hi xs a = [] ∧ ltT k u d lo hi (xs.set a y) a = []) → ∃ n, n ≤ xs.length ∧ (∀ i, i < n → leT k u d lo hi (xs.set a y) i = leT k u d lo hi xs i) ∧ Prv k u d n (ltT k u d lo hi xs) (ltT k u d lo hi (xs.set a y)) ∧ (n = xs.length ∨ (leT k u d lo hi (xs.set a y) n ≠ leT k u d lo hi xs n ∧ (1048576 < y ∨ y = 0))) := by
    intro h1 h2 h3
    have hall : ∀ m, a + 1 + m ≤ xs.length → camT k ((xs.set a y).take (a + 1 + m)) = camT k (xs.take (a + 1 + m)) := by
      intro m
      induction m with
      | zero => exact fun _ => h1
      | succ m ih =>
        intro hm
        obtain ⟨z, hz⟩ := get_lt (l := xs) (i := a + 1 + m) (by omega)
        rw [show a + 1 + (m + 1) = (a + 1 + m) + 1 by omega, camT_succ hz, camT_succ (show (xs.set a y)[a + 1 + m]? = some z by rw [hget2 _ (by omega)]; exact hz), ih (by omega)]
    have hcam : ∀ i, i ≤ xs.length → camT k ((xs.set a y).take i) = camT k (xs.take i) := fun i hi => by
      by_cases c1 : i ≤ a
      · exact hle i c1
      · have := hall (i - (a + 1)) (by omega)
        rwa [show a + 1 + (i - (a + 1)) = i by omega] at this
    refine ⟨xs.length, Nat.le_refl _, fun i hi => ?_, prv_same hh fun i hi => ⟨hcam i (by omega), ?_⟩, .inl rfl⟩
    · by_cases c1 : i = a
      · subst c1; exact h2
      · unfold leT; rw [hcam i (by omega), hget i c1]
    · by_cases c1 : i = a
      · subst c1; exact .inr h3
      · exact .inl (hget i c1)
  have ex : ltT k u d lo hi xs a = (stT k u d lo hi (camT k (xs.take a)) x0).1 := by unfold ltT; rw [ga]
  have ey : ltT k u d lo hi (xs.set a y) a = (stT k u d lo hi (camT k (xs.take a)) y).1 := by unfold ltT; rw [gb, hle a (Nat.le_refl _)]
  have fx : leT k u d lo hi xs a = (stT k u d lo hi (camT k (xs.take a)) x0).2 := by unfold leT; rw [ga]
  have fy : leT k u d lo hi (xs.set a y) a = (stT k u d lo hi (camT k (xs.take a)) y).2 := by unfold leT; rw [gb, hle a (Nat.le_refl _)]
  by_cases hfull : 2 ^ k ≤ (camT k (xs.take a)).length
  · refine same ?_ ?_ ⟨?_, ?_⟩
    · rw [sx, sy]; unfold nxT; rw [if_pos hfull, if_pos hfull]
    · rw [fx, fy]; unfold stT; rw [if_pos hfull, if_pos hfull]
    · rw [ex]; unfold stT; rw [if_pos hfull]
    · rw [ey]; unfold stT; rw [if_pos hfull]
  · by_cases bx : x0 < 0 ∨ 1048576 < x0
    · by_cases by' : y < 0 ∨ 1048576 < y
      · refine same ?_ ?_ ⟨?_, ?_⟩
        · rw [sx, sy]; unfold nxT; rw [if_neg hfull, if_pos bx, if_neg hfull, if_pos by']
        · rw [fx, fy]; unfold stT; rw [if_neg hfull, if_pos bx, if_neg hfull, if_pos by']
        · rw [ex]; unfold stT; rw [if_neg hfull, if_pos bx]
        · rw [ey]; unfold stT; rw [if_neg hfull, if_pos by']
      · refine ⟨a, by omega, hbefore, prv_same hh fun i hi => ⟨hle i (by omega), .inl (hget i (by omega))⟩, .inr ⟨?_, ?_⟩⟩
        · rw [fx, fy]; unfold stT; rw [if_neg hfull, if_pos bx, if_neg hfull, if_neg by']; simp
        · omega
    · by_cases by' : y < 0 ∨ 1048576 < y
      · refine ⟨a, by omega, hbefore, prv_same hh fun i hi => ⟨hle i (by omega), .inl (hget i (by omega))⟩, .inr ⟨?_, ?_⟩⟩
        · rw [fx, fy]; unfold stT; rw [if_neg hfull, if_neg bx, if_neg hfull, if_pos by']; simp
        · omega
      · have hyx : y = x0 + 1 := by omega
        subst hyx
        have hDf : ∀ m, a + 1 + m ≤ xs.length → Df c (camT k (xs.take (a + 1 + m))) (camT k ((xs.set a (x0 + 1)).take (a + 1 + m))) := by
          intro m
          induction m with
          | zero =>
            intro _
            rw [Nat.add_zero, sx, sy]
            unfold nxT
            rw [if_neg hfull, if_neg bx, if_neg hfull, if_neg by']
            exact ⟨camT k (xs.take a), x0, [], hc, rfl, rfl⟩
          | succ m ih =>
            intro hm
            have h1 := ih (by omega)
            obtain ⟨z, hz⟩ := get_lt (l := xs) (i := a + 1 + m) (by omega)
            rw [show a + 1 + (m + 1) = (a + 1 + m) + 1 by omega, camT_succ hz, camT_succ (show (xs.set a (x0 + 1))[a + 1 + m]? = some z by rw [hget2 _ (by omega)]; exact hz)]
            rcases nxT_len (k := k) h1.len.1 z with ⟨e1, e2⟩ | ⟨_, _, e1, e2⟩
            · rw [e1, e2]; exact h1
            · rw [e1, e2]; exact h1.snoc z
        have hDf2 : ∀ i, a < i → i ≤ xs.length → Df c (camT k (xs.take i)) (camT k ((xs.set a (x0 + 1)).take i)) := fun i h1 h2 => by
          have := hDf (i - (a + 1)) (by omega)
          rwa [show a + 1 + (i - (a + 1)) = i by omega] at this
        refine ⟨xs.length, Nat.le_refl _, fun i hi => ?_, prv_diff hk hh rfl hle hget hc (by rw [← hc]; exact hfull) bx by' ha hb hDf2, .inl rfl⟩
        by_cases c1 : i < a
        · exact hbefore i c1
        · by_cases c2 : i = a
          · subst c2
            rw [fx, fy]; unfold stT; rw [if_neg hfull, if_neg bx, if_neg hfull, if_neg by']
          · unfold leT
            rw [hget i c2]
            exact (st_er (hDf2 i (by omega) (by omega)).len.1 _).1
end Go.Proofs.YtjembpcpefgdpaaDoor

namespace Go.Proofs.YtjembpcpefgdpaaDoor
open Go.RowKit Go.Proofs.YtjembpcpefgdpaaDoor.Ds

theorem info81 : (Tryd.prog.info? 81).map (fun i => (i.zero, i.size, i.bytes)) = some (some (.agg #[.int .i64 0, .int .i64 0]), 2, 16) := by kernel_rfl
theorem two_cells81 (w : World) (a b : Value) (t : TypeId) (N : Nat) (hN : N = w.heap.size) : ∀ j u, [a, b][j]? = some u → (w.alloc (.cells #[a, b] t)).cell? ((⟨N, 0, none⟩ : Addr).add j) = some u := by
  subst hN
  exact fun j u hu => World.news_of_block (w := w.alloc (.cells #[a, b] t)) (B := w.heap.size) (cs := #[a, b]) (t := t) (fr := (0, 0)) (heap_alloc_new w _) j u (by simpa using hu)

set_option maxRecDepth 100000 in
set_option maxHeartbeats 2000000 in
theorem cover11 (w : World) : Calls Tryd.prog 22 #[.int .i64 1, .int .i64 1] w fun e w' => ∃ a c, e = .returned (.tuple #[.slice a 1 c, .int .i64 0]) ∧ Below w.heap.size w w' := by
  have kt := fun W => tall_any 1 true (by decide) W
  have kl1 := fun W => len_any 1 (by decide) W
  have kl0 := fun W => len_any 0 (by decide) W
  obtain ⟨i29, hi29, hz0, hz1, hz2⟩ := info_parts info81
  simp only [Nat.pow_one, Nat.pow_zero] at kl1 kl0
  have kl1' : ∀ W : World, Calls Tryd.prog 32 #[.int .i64 1] W fun e w' => e = .returned (.int .i64 2) ∧ w' = W := kl1
  have kl0' : ∀ W : World, Calls Tryd.prog 32 #[.int .i64 0] W fun e w' => e = .returned (.int .i64 1) ∧ w' = W := kl0
  clear kl1 kl0
  go_enter Tryd.func22, Tryd.ntmps22
  go_wp2_with fail
  refine (kt _).mono ?_
  rintro e1 w1 ⟨rfl, rfl⟩
  go_wp2_with fail
  refine (kl1' _).mono ?_
  rintro e2 w2 ⟨rfl, rfl⟩
  clear kt
  go_wp2_with fail
  go_loopw [6, 7, 25] (fun ov bv s wr => ((s = .int .i64 0 ∨ s = .int .i64 1) ∧ ov = .slice none 0 0 ∧ bv = .int .i64 0 ∧ wr = w2) ∨ (∃ a c b, s = .int .i64 2 ∧ ov = .slice a 1 c ∧ bv = .int .i64 b ∧ Below w2.heap.size w2 wr)) (fun _ _ s _ => 2 - (intOf s).toNat)
  case atStart => exact .inl ⟨.inl rfl, rfl, rfl, rfl⟩
  case round =>
    rcases hrel with ⟨hs, rfl, rfl, hwr⟩ | ⟨a, c, b, rfl, rfl, rfl, hb⟩
    · have hwy := hwr.symm
      subst hwy
      clear hwr
      rcases hs with rfl | rfl
      · go_wp2_with fail
        refine (kl1' _).mono ?_
        rintro e3 w3 ⟨rfl, hw3⟩
        have hwy := hw3.symm
        subst hwy
        clear hw3
        go_wp2
        go_roundw
        case rel => exact .inl ⟨.inr rfl, rfl, rfl, by first | rfl | trivial⟩
        case measure => simp [intOf]
      · go_wp2_with fail
        refine (kl0' _).mono ?_
        rintro e3 w3 ⟨rfl, hw3⟩
        have hwy := hw3.symm
        subst hwy
        clear hw3
        go_wp2_with (at_builtin; refine wpList_append_own_at _ rfl _ _ 58 rfl w2.heap.size 81 i29 (.agg #[.int .i64 0, .int .i64 0]) 2 16 Tryd.underlying58 hi29 hz0 hz1 hz2 rfl (by decide) (.slice none 0 0) 0 [] rfl ⟨rfl, .inl ⟨rfl, rfl⟩⟩ ⟨w2.heap.size, 0, none⟩ 1 1 [.int .i64 0, .int .i64 0] rfl rfl (two_cells81 w2 _ _ _ _ rfl) (by intro z hz; simp at hz; subst hz; rfl) (by unfold maxLen; omega) (by omega) (by simp) ?_)
        intro nv w5 hown hgrow hnil hat
        have hlow : Below w2.heap.size w2 w5 := (ba _ _).grown hgrow (by simp) (fun y e => by simp [Value.ownBlock] at e)
        obtain ⟨na, ncc, rfl⟩ := row_slice hown
        clear hown hgrow hnil hat
        go_wp2_with fail
        refine (kl0' _).mono ?_
        rintro e3 w3 ⟨rfl, hw3⟩
        have hwy := hw3.symm
        subst hwy
        clear hw3
        go_wp2
        go_roundw
        case rel => exact .inr ⟨na, ncc, 1, rfl, rfl, rfl, hlow⟩
        case measure => simp [intOf]
    · go_wp2
      refine bodyPost_ret (v := .tuple #[.slice a 1 c, .int .i64 0]) (by simp [results, Tryd.results22, go_sem]) rfl ⟨a, c, rfl, hb⟩
theorem alive9_any (w : World) : Calls Tryd.prog 10 #[] w fun e w' => e = .returned (.bool true) ∧ Below w.heap.size w w' := by
  have kc := cover11 w
  go_enter Tryd.func10, Tryd.ntmps10
  go_wp2_with fail
  refine kc.mono ?_
  rintro e1 w1 ⟨a, c, rfl, hb1⟩
  clear kc
  go_wp2
  go_ret
  exact ⟨rfl, hb1⟩
end Go.Proofs.YtjembpcpefgdpaaDoor

namespace Go.Proofs.YtjembpcpefgdpaaDoor
open Go.RowKit Go.Proofs.YtjembpcpefgdpaaDoor.Ds

/-! ### what the law reckons with -/
set_option maxHeartbeats 400000 in
theorem rrefMake_any (u d n m e : Int) (hu : u ≤ 9223372036854775807) (hd : d ≤ 9223372036854775807) (h : Rt.mkT u d = (n, m, e)) (w : World) :
    Calls Tryd.prog 28 #[.int .i64 u, .int .i64 d] w fun x w' => x = .returned (.tuple #[rv n m, .int .i64 e]) ∧ Below w.heap.size w w' := by
  have H : Hid (Rt.mkT u d = (n, m, e)) := h
  clear h
  by_cases c1 : u < 0
  · have hr : (0, 0, 3) = (n, m, e) := by rw [← H.out]; unfold Rt.mkT; rw [if_pos (.inl c1)]
    simp only [Prod.mk.injEq] at hr
    obtain ⟨rfl, rfl, rfl⟩ := hr
    go_enter Tryd.func28, Tryd.ntmps28
    go_wp2
    exact bodyPost_ret (v := .tuple #[rv 0 0, .int .i64 3]) (by simp [results, Tryd.results28, go_sem]) rfl ⟨rfl, ba _ _⟩
  by_cases c2 : d < 1
  · have hr : (0, 0, 3) = (n, m, e) := by rw [← H.out]; unfold Rt.mkT; rw [if_pos (.inr c2)]
    simp only [Prod.mk.injEq] at hr
    obtain ⟨rfl, rfl, rfl⟩ := hr
    go_enter Tryd.func28, Tryd.ntmps28
    go_wp2
    exact bodyPost_ret (v := .tuple #[rv 0 0, .int .i64 3]) (by simp [results, Tryd.results28, go_sem]) rfl ⟨rfl, ba _ _⟩
  have hm := Rt.mkT_of u d n m e (by omega) (by omega) H.out
  clear H
  obtain ⟨x, rfl⟩ := Int.eq_ofNat_of_zero_le (show 0 ≤ u by omega)
  obtain ⟨y, rfl⟩ := Int.eq_ofNat_of_zero_le (show 0 ≤ d by omega)
  rw [show Int.gcd (x : Int) (y : Int) = Nat.gcd x y from rfl] at hm
  have hg1 : 1 ≤ Nat.gcd x y := Nat.gcd_pos_of_pos_right _ (by omega)
  have hg2 : Nat.gcd x y ≤ y := Nat.gcd_le_right _ (by omega)
  have q1 : 0 ≤ (x : Int) / (Nat.gcd x y : Nat) := Int.ediv_nonneg (by omega) (by omega)
  have q2 : 0 ≤ (y : Int) / (Nat.gcd x y : Nat) := Int.ediv_nonneg (by omega) (by omega)
  have q3 : (x : Int) / (Nat.gcd x y : Nat) ≤ 9223372036854775807 := Int.le_trans (Int.ediv_le_self _ (by omega)) hu
  have q4 : (y : Int) / (Nat.gcd x y : Nat) ≤ 9223372036854775807 := Int.le_trans (Int.ediv_le_self _ (by omega)) hd
  rcases hm with ⟨hc, rfl, rfl, rfl⟩ | ⟨hc1, hc2, rfl, rfl, rfl⟩
  · have hc' : 1073741824 < (x : Int) / (Nat.gcd x y : Nat) ∨ ((x : Int) / (Nat.gcd x y : Nat) ≤ 1073741824 ∧ 1073741824 < (y : Int) / (Nat.gcd x y : Nat)) := by omega
    clear hc
    rcases hc' with hc1 | ⟨hc1, hc2⟩
    all_goals
      go_enter Tryd.func28, Tryd.ntmps28
      go_wp2_with (go_at_call 40; refine (refDivisor_any _ _ (by omega) (by omega) (by omega) _).mono ?_; rintro e w' ⟨rfl, rfl⟩)
      generalize Nat.gcd x y = g at *
      go_wp2
      exact bodyPost_ret (v := .tuple #[rv 0 0, .int .i64 4]) (by simp [results, Tryd.results28, go_sem]) rfl ⟨rfl, ba _ _⟩
  · go_enter Tryd.func28, Tryd.ntmps28
    go_wp2_with (go_at_call 40; refine (refDivisor_any _ _ (by omega) (by omega) (by omega) _).mono ?_; rintro e w' ⟨rfl, rfl⟩)
    go_wp2
    go_region
    all_goals go_wp2
    exact bodyPost_ret (v := .tuple #[rv (x / (Nat.gcd x y : Nat)) (y / (Nat.gcd x y : Nat)), .int .i64 0]) (by simp [results, Tryd.results28, go_sem]) rfl ⟨rfl, (ba _ _).drew⟩
set_option maxHeartbeats 400000 in
theorem refTimes_any (a b c d n m e : Int) (h : Rt.timesT a b c d = (n, m, e)) (w : World) :
    Calls Tryd.prog 12 #[rv a b, rv c d] w fun x w' => x = .returned (.tuple #[rv n m, .int .i64 e]) ∧ Below w.heap.size w w' := by
  have H : Hid (Rt.timesT a b c d = (n, m, e)) := h
  clear h
  by_cases r : Rt.rightB a b = true ∧ Rt.rightB c d = true
  · obtain ⟨r1, r2⟩ := r
    have hm : Rt.mkT (a * c) (b * d) = (n, m, e) := by rw [← H.out]; unfold Rt.timesT; rw [if_pos ⟨r1, r2⟩]
    have HM : Hid (Rt.mkT (a * c) (b * d) = (n, m, e)) := hm
    have R1 : Hid (Rt.rightB a b = true) := r1
    have R2 : Hid (Rt.rightB c d = true) := r2
    clear hm r1 r2 H
    obtain ⟨a1, a2, b1, b2⟩ := Rt.right_bd R1.out
    obtain ⟨c1, c2, d1, d2⟩ := Rt.right_bd R2.out
    obtain ⟨p1, p2⟩ := Rt.mul_bd a1 a2 c1 c2
    obtain ⟨p3, p4⟩ := Rt.mul_bd (a := b) (b := d) (by omega) b2 (by omega) d2
    obtain ⟨p5, p6⟩ := Rt.mul_bd (a := a) (b := d) (by omega) a2 (by omega) d2
    obtain ⟨p7, p8⟩ := Rt.mul_bd (a := c) (b := b) (by omega) c2 (by omega) b2
    obtain ⟨p9, p10⟩ := Rt.mul_bd (a := b) (b := c) (by omega) b2 (by omega) c2
    go_enter Tryd.func12, Tryd.ntmps12
    go_wp2_with fail
    refine (refRight_any a b true R1.out _).mono ?_
    rintro e1 w1 ⟨rfl, hb1⟩
    obtain ⟨hc1, hf1⟩ := bcell hb1
    go_wp2_with fail
    refine (refRight_any c d true R2.out _).mono ?_
    rintro e2 w2 ⟨rfl, hb2⟩
    have F2 := bt hb1 hb2
    clear hc1 hf1 hb1 hb2
    obtain ⟨hc2, hf2⟩ := bcell F2
    go_wp2_with fail
    refine (rrefMake_any (a * c) (b * d) n m e (by omega) (by omega) HM.out _).mono ?_
    rintro e4 w4 ⟨rfl, hb4⟩
    have F4 := bt F2 hb4
    have G4 := bt (bal (bal (ba _ _) _) _) F4
    clear F2 hb4 hc2 hf2
    obtain ⟨hc4, hf4⟩ := bcell F4
    go_wp2_with fail
    exact bodyPost_ret (v := .tuple #[rv n m, .int .i64 e]) (by simp [results, Tryd.results12, go_sem, hc4]) rfl ⟨rfl, bs (bs G4 (by simp; omega) _) (by simp; omega) _⟩
  · have hr : (0, 0, 2) = (n, m, e) := by rw [← H.out]; unfold Rt.timesT; rw [if_neg r]
    simp only [Prod.mk.injEq] at hr
    obtain ⟨rfl, rfl, rfl⟩ := hr
    have r' : Rt.rightB a b = false ∨ (Rt.rightB a b = true ∧ Rt.rightB c d = false) := by
      cases h1 : Rt.rightB a b <;> cases h2 : Rt.rightB c d <;> simp_all
    clear r H
    rcases r' with r1 | ⟨r1, r2⟩
    · have R1 : Hid (Rt.rightB a b = false) := r1
      clear r1
      go_enter Tryd.func12, Tryd.ntmps12
      go_wp2_with fail
      refine (refRight_any a b false R1.out _).mono ?_
      rintro e1 w1 ⟨rfl, hb1⟩
      have G1 := bt (bal (bal (ba _ _) _) _) hb1
      obtain ⟨hc1, hf1⟩ := bcell hb1
      go_wp2_with fail
      exact bodyPost_ret (v := .tuple #[rv 0 0, .int .i64 2]) (by simp [results, Tryd.results12, go_sem, hc1]) rfl ⟨rfl, bs (bs G1 (by simp; omega) _) (by simp; omega) _⟩
    · have R1 : Hid (Rt.rightB a b = true) := r1
      have R2 : Hid (Rt.rightB c d = false) := r2
      clear r1 r2
      go_enter Tryd.func12, Tryd.ntmps12
      go_wp2_with fail
      refine (refRight_any a b true R1.out _).mono ?_
      rintro e1 w1 ⟨rfl, hb1⟩
      obtain ⟨hc1, hf1⟩ := bcell hb1
      go_wp2_with fail
      refine (refRight_any c d false R2.out _).mono ?_
      rintro e2 w2 ⟨rfl, hb2⟩
      have F2 := bt hb1 hb2
      clear hc1 hf1 hb1 hb2
      have G1 := bt (bal (bal (ba _ _) _) _) F2
      obtain ⟨hc1, hf1⟩ := bcell F2
      go_wp2_with fail
      exact bodyPost_ret (v := .tuple #[rv 0 0, .int .i64 2]) (by simp [results, Tryd.results12, go_sem, hc1]) rfl ⟨rfl, bs (bs G1 (by simp; omega) _) (by simp; omega) _⟩

theorem refMost_any (a b c d : Int) (ha0 : 0 ≤ a) (ha : a ≤ 1073741824) (hb0 : 0 ≤ b) (hb : b ≤ 1073741824) (hc0 : 0 ≤ c) (hc : c ≤ 1073741824) (hd0 : 0 ≤ d) (hd : d ≤ 1073741824) (r : Bool) (hr : decide (a * d ≤ c * b) = r) (w : World) :
    Calls Tryd.prog 13 #[rv a b, rv c d] w fun e w' => e = .returned (.bool r) ∧ Below w.heap.size w w' := by
  have b1 := Rt.mul_bd ha0 ha hd0 hd
  have b2 := Rt.mul_bd hc0 hc hb0 hb
  obtain ⟨P, hP⟩ : ∃ P, a * d = P := ⟨_, rfl⟩
  obtain ⟨Q, hQ⟩ : ∃ Q, c * b = Q := ⟨_, rfl⟩
  rw [hP] at b1
  rw [hQ] at b2
  rw [hP, hQ] at hr
  by_cases h : P ≤ Q
  · have hh : decide (P ≤ Q) = true := decide_eq_true h
    obtain rfl : true = r := by rw [← hr, hh]
    clear hr
    go_enter Tryd.func13, Tryd.ntmps13
    go_wp2
    go_ret
    exact ⟨rfl, bal (ba _ _) _⟩
  · have hh : decide (P ≤ Q) = false := decide_eq_false h
    obtain rfl : false = r := by rw [← hr, hh]
    clear hr
    go_enter Tryd.func13, Tryd.ntmps13
    go_wp2
    go_ret
    exact ⟨rfl, bal (ba _ _) _⟩

end Go.Proofs.YtjembpcpefgdpaaDoor

namespace Go.Proofs.YtjembpcpefgdpaaDoor
open Go.RowKit Go.Proofs.YtjembpcpefgdpaaDoor.Ds

theorem fc_lt {b : Nat} {n m : Int} {W : World} (h : Fc b n m W) : b < W.heap.size := by
  have h1 : W.cell? ⟨b, 0, none⟩ = some (.int .i64 n) := h.1
  rcases Nat.lt_or_ge b W.heap.size with h' | h'
  · exact h'
  · simp [World.cell?, Array.getElem?_eq_none h'] at h1
theorem rowI_ints {w : World} {g nb cap : Nat} {xs : List Int} (h : RowI w g xs) (hc : xs.length ≤ cap) (hl : xs.length ≤ 1073741824) (hn : g ≠ nb) : Ints w w.heap.size nb (.slice (some ⟨g, 0, none⟩) xs.length cap) xs :=
  ⟨_, _, rfl, hc, hl, fun _ => ⟨g, 0, rfl, h.lt, hn, fun i x hi => by rw [Nat.zero_add]; exact h.cells i x hi⟩⟩
/-- what was told at time i, in memory -/
theorem Tll.get {w wr : World} {a : Option Addr} {n c : Nat} {tls : List Tl} (h : Tll w (.slice a n c) tls) (hb : Below w.heap.size w wr) {i : Nat} {t : Tl} (ht : tls[i]? = some t) :
    ∃ b za zc, a = some ⟨b, 0, none⟩ ∧ b < w.heap.size ∧ t.1 = .slice za t.2.length zc ∧ wr.cell? ⟨b, i, none⟩ = some (.slice za t.2.length zc) ∧ Dss w w.heap.size (.slice za t.2.length zc) t.2 := by
  obtain ⟨a', c', hv, he, hx⟩ := h
  simp only [Value.slice.injEq] at hv
  obtain ⟨rfl, _, _⟩ := hv
  obtain ⟨b, ha, hl, hc⟩ := hx (by intro e; rw [e] at ht; simp at ht)
  have hd := he t (List.mem_of_getElem? ht)
  obtain ⟨za, zc, hz, _⟩ := id hd
  rw [hz] at hd
  refine ⟨b, za, zc, ha, hl, hz, ?_, hd⟩
  rw [← hz]
  exact (hb.cell (p := ⟨b, i, none⟩) hl).trans (hc i t ht)
theorem Erl.get {w wr : World} {a : Option Addr} {n c : Nat} {es : List Int} (h : Erl w (.slice a n c) es) (hb : Below w.heap.size w wr) {i : Nat} {e : Int} (ht : es[i]? = some e) :
    ∃ b, a = some ⟨b, 0, none⟩ ∧ b < w.heap.size ∧ wr.cell? ⟨b, i, none⟩ = some (.int .i64 e) := by
  obtain ⟨a', c', hv, hx⟩ := h
  simp only [Value.slice.injEq] at hv
  obtain ⟨rfl, _, _⟩ := hv
  obtain ⟨b, ha, hl, hc⟩ := hx (by intro e; rw [e] at ht; simp at ht)
  exact ⟨b, ha, hl, (hb.cell (p := ⟨b, i, none⟩) hl).trans (hc i e ht)⟩

theorem pow_parts {k : Nat} {u d p q : Int} (hr : Rt.rightB u d = true) (h : Rt.powT u d ((k : Int) + 1) = (p, q, 0)) : p = u ^ (k + 1) ∧ q = d ^ (k + 1) ∧ u ^ (k + 1) ≤ 1073741824 := by
  have e : ((k : Int) + 1).toNat = k + 1 := by omega
  unfold Rt.powT Rt.mx at h
  rw [if_pos hr] at h
  by_cases k1 : (k : Int) + 1 < 0 ∨ 4096 < (k : Int) + 1
  · rw [if_pos k1] at h; simp at h
  · rw [if_neg k1, e] at h
    by_cases k2 : 1073741824 < u ^ (k + 1) ∨ 1073741824 < d ^ (k + 1)
    · rw [if_pos k2] at h; simp at h
    · rw [if_neg k2] at h
      simp only [Prod.mk.injEq] at h
      exact ⟨h.1.symm, h.2.1.symm, by omega⟩
theorem toL_at {k : Nat} {u d lo hi : Int} {xs : List Int} {n i : Nat} (h : i < n) : (toL k u d lo hi xs n)[i]? = some (ltT k u d lo hi xs i) ∧ (erL k u d lo hi xs n)[i]? = some (leT k u d lo hi xs i) := by
  unfold toL erL ltT leT
  simp [h]

set_option maxRecDepth 100000 in
set_option maxHeartbeats 8000000 in
/-- the two streams' counts: from here on -/
theorem treePrivate_in (high u d lo hi : Int) (v : Value) (B nb a : Nat) (xs : List Int) (w : World) (hB : B ≤ w.heap.size) (hv : Ints w B nb v xs) (hl : xs.length ≤ 1048576) (hxb : ∀ x ∈ xs, I64 x) (hT : TabAt 1 Lib.deBruijn64tab w) (hlo : I64 lo) (hhi : I64 hi) (ha : a < xs.length) :
    Calls Tryd.prog 4 #[.int .i64 high, rv u d, .int .i64 lo, .int .i64 hi, v, .int .i64 (a : Int)] w fun e w' => e = .returned (.bool true) ∧ Below w.heap.size w w' := by
  have kal := fun W => alive9_any W
  have HV : Hid (Ints w B nb v xs) := hv
  obtain ⟨x0, hx0⟩ := get_lt ha
  have bx0 := hxb x0 (List.mem_of_getElem? hx0)
  obtain ⟨y, hy⟩ : ∃ y, IntKind.i64.wrap (x0 + 1) = y := ⟨_, rfl⟩
  have HY : Hid (y = x0 + 1 ∨ ((x0 < 0 ∨ 1048576 < x0) ∧ (y < 0 ∨ 1048576 < y))) := by
    unfold I64 at bx0
    rw [IntKind.wrap_i64] at hy
    show _ ∨ _
    omega
  have HX0 : Hid (xs[a]? = some x0) := hx0
  obtain ⟨va, vc, rfl, _⟩ := hv
  obtain ⟨X, hX⟩ : ∃ X, w.alloc (.cells #[.int .i64 u, .int .i64 d] 23) = X := ⟨_, rfl⟩
  have bX : Below w.heap.size w X := by rw [← hX]; exact ba _ _
  have hsX : Hid (X.heap.size = w.heap.size + 1) := by rw [Hid, ← hX]; simp
  have xc0 : X.cell? ⟨w.heap.size, 0, none⟩ = some (.int .i64 u) := by rw [← hX]; simp [go_sem]
  have xc1 : X.cell? ⟨w.heap.size, 1, none⟩ = some (.int .i64 d) := by rw [← hX]; simp [go_sem]
  have HTB : Hid (TabAt 1 Lib.deBruijn64tab w) := hT
  have ga : ¬ (a : Int) < 0 := by omega
  have gb : ¬ (a : Int) ≥ (xs.length : Int) := by omega
  have gc : (a : Int) < (xs.length : Int) := by omega
  have HLH : Hid (I64 lo ∧ I64 hi) := ⟨hlo, hhi⟩
  clear hT hx0 hxb bx0
  go_enter Tryd.func4, Tryd.ntmps4
  go_wp2_with fail
  refine (kal _).mono ?_
  rintro e1 w1 ⟨rfl, hb1⟩
  have hs1 := hb1.size
  have B1 : Below w.heap.size w w1 := bt bX hb1
  have HZ : Hid ((w1.alloc (.cells #[] 3)).ownsRow w1.heap.size 3 1 (.slice (some ⟨w1.heap.size, 0, none⟩) 0 0) 0 (([] : List Int).map (Value.int .i64))) := owns_zero w1 w1.heap.size (Nat.le_refl _)
  have HV2 : Hid (Ints (w1.alloc (.cells #[] 3)) B nb (.slice va xs.length vc) xs) := HV.out.keep ((bt B1 (ba _ _)).mono hB)
  clear kal
  go_wp2_with (at_builtin; refine wpList_app_nums _ rfl _ _ rfl w1.heap.size B nb 0 (some ⟨w1.heap.size, 0, none⟩) 0 [] xs rfl HZ.out (.slice va xs.length vc) rfl HV2.out (by omega) (by simp) xs.length (by omega) ?_)
  intro a' c' w2 ho2 hg2 ha2
  have b2 : Below w1.heap.size w1 w2 := (ba w1 _).grown hg2 (by simp) (by intro y hy; simp [Value.ownBlock] at hy; omega)
  obtain ⟨g, cap, hgv, hgc, hgb, hgr⟩ := rowI_of_owns (xs := xs) (by simpa using ho2) (by intro e; rw [e] at ha; simp at ha)
  simp only [Value.slice.injEq] at hgv
  obtain ⟨rfl, -, rfl⟩ := hgv
  have r0 := hgr.cells a x0 HX0.out
  have r1 := hgr.thaw a ha
  obtain ⟨W3, hW3⟩ : ∃ W3, w2.setCell ⟨g, a, none⟩ (.int .i64 y) = W3 := ⟨_, rfl⟩
  have HR3 : Hid (RowI W3 g (xs.set a y)) := by rw [Hid, ← hW3]; exact hgr.set a y
  have b3 : Below w1.heap.size w1 W3 := by rw [← hW3]; exact bs b2 hgb _
  have B3 : Below w.heap.size w W3 := bt B1 b3
  have hs3 := b3.size
  have x3 : W3.cell? ⟨w.heap.size, 0, none⟩ = some (.int .i64 u) ∧ W3.cell? ⟨w.heap.size, 1, none⟩ = some (.int .i64 d) := by
    have h1 : w.heap.size < X.heap.size := by have := hsX.out; omega
    exact ⟨(b3.cell (p := ⟨w.heap.size, 0, none⟩) (by show w.heap.size < w1.heap.size; omega)).trans ((hb1.cell (p := ⟨w.heap.size, 0, none⟩) h1).trans xc0), (b3.cell (p := ⟨w.heap.size, 1, none⟩) (by show w.heap.size < w1.heap.size; omega)).trans ((hb1.cell (p := ⟨w.heap.size, 1, none⟩) h1).trans xc1)⟩
  obtain ⟨x30, x31⟩ := x3
  have hgw : w.heap.size < g := by have := hsX.out; omega
  have hyl : (xs.set a y).length = xs.length := by simp
  have hwl : w.heap.size < W3.heap.size := by have := hsX.out; omega
  have HW3 : Hid (w2.setCell ⟨g, a, none⟩ (.int .i64 y) = W3) := hW3
  clear ho2 hg2 ha2 HZ HV2 hgr xc0 xc1 hW3
  go_upto_region 7 with fail
  rw [HW3.out]
  clear r0 r1 HW3
  have HI3 : Hid (∀ W, Below W3.heap.size W3 W → Ints W W.heap.size w.heap.size (.slice (some ⟨g, 0, none⟩) xs.length _) (xs.set a y)) := fun W hW => by
    have h := rowI_ints (HR3.out.keep hW HR3.out.lt) (nb := w.heap.size) (by rw [hyl]; exact hgc) (by rw [hyl]; omega) (by omega)
    rw [hyl] at h
    exact h
  have XC : Hid (∀ W, Below W3.heap.size W3 W → W.cell? ⟨w.heap.size, 0, none⟩ = some (.int .i64 u) ∧ W.cell? ⟨w.heap.size, 1, none⟩ = some (.int .i64 d)) := fun W hW => ⟨(hW.cell (p := ⟨w.heap.size, 0, none⟩) hwl).trans x30, (hW.cell (p := ⟨w.heap.size, 1, none⟩) hwl).trans x31⟩
  obtain ⟨er, her⟩ : ∃ er, newE high u d lo hi = er := ⟨_, rfl⟩
  by_cases ce : er = 0
  · subst ce
    have h0 : 0 ≤ high := by
      unfold newE at her
      by_cases c : 0 ≤ high ∧ high ≤ 10
      · exact c.1
      · rw [if_neg c] at her; simp at her
    obtain ⟨k, rfl⟩ := Int.eq_ofNat_of_zero_le h0
    obtain ⟨hk, hh, hpe⟩ := newE_ok her
    obtain ⟨⟨p, q, pe⟩, hp⟩ : ∃ y, Rt.powT u d ((k : Int) + 1) = y := ⟨_, rfl⟩
    rw [hp] at hpe
    have hpe' : pe = 0 := hpe
    subst hpe'
    have HPW : Hid (Rt.powT u d ((k : Int) + 1) = (p, q, 0)) := hp
    have HHH : Hid ((hideT u d lo hi 0).2 = 0) := hh
    have kc := count_ok k u d lo hi (.slice va xs.length vc) B nb xs W3 (by omega) (HV.out.keep (B3.mono hB)) hl her (tab_gb HTB.out (gb_none B3) (by simp)) hlo hhi p q hp
    have kc2 := fun W (hW : Below W3.heap.size W3 W) => count_ok k u d lo hi _ W.heap.size w.heap.size (xs.set a y) W (Nat.le_refl _) (HI3.out W hW) (by rw [hyl]; exact hl) her (tab_gb (tab_gb HTB.out (gb_none B3) (by simp)) (gb_none hW) (by simp)) hlo hhi p q hp
    obtain ⟨n, hn, hLE, hPV, hLast⟩ := priv_all (k := k) (u := u) (d := d) (lo := lo) (hi := hi) hk hh HX0.out HY.out
    have HLE : Hid (∀ i, i < n → leT k u d lo hi (xs.set a y) i = leT k u d lo hi xs i) := hLE
    have HPV : Hid (Prv k u d n (ltT k u d lo hi xs) (ltT k u d lo hi (xs.set a y))) := hPV
    have HLA : Hid (n = xs.length ∨ (leT k u d lo hi (xs.set a y) n ≠ leT k u d lo hi xs n ∧ (1048576 < y ∨ y = 0))) := hLast
    clear her hpe hp hh hLE hPV hLast hlo hhi
    go_wp2_with fail
    refine kc.mono ?_
    rintro e4 w4 ⟨tv, ev, tls, rfl, htl, herl, htd, hb4⟩
    have htlen : tls.length = xs.length := by have := congrArg List.length htd; simpa [toL_len] using this
    have HTN : Hid (tls.length = xs.length) := htlen
    obtain ⟨ta, tc, rfl⟩ := htl.slice
    obtain ⟨ea, ec, rfl⟩ := herl.slice
    have HTL : Hid (Tll w4 (.slice ta xs.length tc) tls) := by rw [htlen] at htl; exact htl
    have HEL : Hid (Erl w4 (.slice ea xs.length ec) (erL k u d lo hi xs xs.length)) := by rw [erL_len] at herl; exact herl
    have HTD : Hid (tls.map (fun t => rds t.2) = toL k u d lo hi xs xs.length) := htd
    rw [htlen, erL_len]
    obtain ⟨v0, v1⟩ := (⟨fun o => (XC.out _ (bal hb4 o)).1, fun o => (XC.out _ (bal hb4 o)).2⟩ : (∀ o, (w4.alloc o).cell? ⟨w.heap.size, 0, none⟩ = some (.int .i64 u)) ∧ (∀ o, (w4.alloc o).cell? ⟨w.heap.size, 1, none⟩ = some (.int .i64 d)))
    clear kc htl herl htd htlen
    go_wp2_with fail
    refine (kc2 _ (bal hb4 _)).mono ?_
    rintro e5 w5 ⟨tv2, ev2, tls2, rfl, htl, herl, htd, hb5⟩
    have htlen : tls2.length = xs.length := by have := congrArg List.length htd; rw [← hyl]; simpa [toL_len] using this
    have HTN2 : Hid (tls2.length = xs.length) := htlen
    obtain ⟨ta2, tc2, rfl⟩ := htl.slice
    obtain ⟨ea2, ec2, rfl⟩ := herl.slice
    have HTL2 : Hid (Tll w5 (.slice ta2 xs.length tc2) tls2) := by rw [htlen] at htl; exact htl
    have HEL2 : Hid (Erl w5 (.slice ea2 xs.length ec2) (erL k u d lo hi (xs.set a y) xs.length)) := by rw [erL_len, hyl] at herl; exact herl
    have HTD2 : Hid (tls2.map (fun t => rds t.2) = toL k u d lo hi (xs.set a y) xs.length) := by rw [hyl] at htd; exact htd
    rw [htlen, erL_len, hyl]
    have b45 : Below w4.heap.size w4 w5 := bt (ba _ _) hb5
    have HF1 : Hid (FivB w5 w4.heap.size (.slice ta xs.length tc) (.slice ea xs.length ec) (.int .i64 ((camT k xs).length : Int)) (.int .i64 p) (.int .i64 q)) := (FivB.new w4 _ _ _ _ _ w4.heap.size rfl).same (hb5.block _ (by simp))
    have hs45 := b45.size
    have hlt1 := HF1.out.lt
    obtain ⟨W6, hW6⟩ : ∃ W6, w5.alloc (.cells #[.slice ta2 xs.length tc2, .slice ea2 xs.length ec2, .int .i64 ((camT k (xs.set a y)).length : Int), .int .i64 p, .int .i64 q] 28) = W6 := ⟨_, rfl⟩
    have HF2 : Hid (FivB W6 w5.heap.size (.slice ta2 xs.length tc2) (.slice ea2 xs.length ec2) (.int .i64 ((camT k (xs.set a y)).length : Int)) (.int .i64 p) (.int .i64 q)) := by rw [Hid, ← hW6]; exact FivB.new _ _ _ _ _ _ _ rfl
    have b56 : Below w5.heap.size w5 W6 := by rw [← hW6]; exact ba _ _
    have hs56 := b56.size
    have hlt2 := HF2.out.lt
    have HF16 : Hid (FivB W6 w4.heap.size (.slice ta xs.length tc) (.slice ea xs.length ec) (.int .i64 ((camT k xs).length : Int)) (.int .i64 p) (.int .i64 q)) := HF1.out.same (b56.block _ HF1.out.lt)
    have B6 : Below w.heap.size w W6 := bt (bt (bt B3 hb4) b45) b56
    have HW6 : Hid (w5.alloc (.cells #[.slice ta2 xs.length tc2, .slice ea2 xs.length ec2, .int .i64 ((camT k (xs.set a y)).length : Int), .int .i64 p, .int .i64 q] 28) = W6) := hW6
    clear kc2 htl herl htd htlen v0 v1 hW6
    go_upto_region 9 with fail
    rw [HW6.out]
    obtain ⟨d0, _, d1, _, _, _, _, _, _, _⟩ := HF16.out.all
    obtain ⟨f0, _, f1, _, _, _, _, _, _, _⟩ := HF2.out.all
    obtain ⟨M, hM0, hMk, hMs⟩ := HPV.out
    have HM : Hid (M 0 0 = 0 ∧ (∀ i j, M i j ≤ k + 1)) := ⟨hM0, hMk⟩
    have HMS : Hid (∀ i, i < n → (ltT k u d lo hi xs i).length = (ltT k u d lo hi (xs.set a y) i).length ∧ (∀ (j : Nat) l l', (ltT k u d lo hi xs i)[j]? = some l → (ltT k u d lo hi (xs.set a y) i)[j]? = some l' → ∃ f, farT l l' = (u ^ f, d ^ f, 0) ∧ M i j + f ≤ M i (j + 1)) ∧ M i (ltT k u d lo hi xs i).length ≤ M (i + 1) 0) := hMs
    have d0' := fun o => ((ba W6 o).cell (p := ⟨w4.heap.size, 0, none⟩) HF16.out.lt).trans d0
    have HRT : Hid (Rt.rightB u d = true ∧ d ≤ u ∧ 1 ≤ d) := by
      obtain ⟨_, _, h3, _⟩ := hide_two (n := 0) (show hideT u d lo hi 0 = ((hideT u d lo hi 0).1, 0) from Prod.ext rfl HHH.out)
      obtain ⟨r1, r2, r3, _⟩ := loss_ok h3
      exact ⟨r1, r2, r3⟩
    have HPQ : Hid (p = u ^ (k + 1) ∧ q = d ^ (k + 1) ∧ u ^ (k + 1) ≤ 1073741824) := pow_parts HRT.out.1 HPW.out
    have b46 : Below w4.heap.size w4 W6 := bt b45 b56
    clear hM0 hMk hMs HPV HW6
    go_wp2_with fail
    go_loopw [84] (fun sv wr => ∃ (i F : Nat), sv = .int .i64 (i : Int) ∧ i ≤ n ∧ Hid (Fc W6.heap.size (u ^ F) (d ^ F) wr) ∧ Hid (F ≤ M i 0) ∧ Below W6.heap.size W6 wr) (fun sv _ => xs.length - (intOf sv).toNat)
    case atStart => exact ⟨0, 0, rfl, Nat.zero_le _, by rw [Hid, Int.pow_zero, Int.pow_zero]; exact fc_new W6 1 1, Nat.zero_le _, ba _ _⟩
    case round =>
      obtain ⟨i, F, rfl, hin, HG, HFM, hbl⟩ := hrel
      have hrs := hbl.size
      have b4r : Below w4.heap.size w4 wr := bt b46 hbl
      have b5r : Below w5.heap.size w5 wr := bt b56 hbl
      have Bw : Below w.heap.size w wr := bt B6 hbl
      have FA := HF16.out.same (hbl.block _ HF16.out.lt)
      have FB := HF2.out.same (hbl.block _ HF2.out.lt)
      have HFA : Hid (FivB wr w4.heap.size (.slice ta xs.length tc) (.slice ea xs.length ec) (.int .i64 ((camT k xs).length : Int)) (.int .i64 p) (.int .i64 q)) := FA
      have HFB : Hid (FivB wr w5.heap.size (.slice ta2 xs.length tc2) (.slice ea2 xs.length ec2) (.int .i64 ((camT k (xs.set a y)).length : Int)) (.int .i64 p) (.int .i64 q)) := FB
      have a0 := FA.c0
      have a1 := FA.c1
      have a3 := FA.c3
      have a4 := FA.c4
      have c0 := FB.c0
      have c1 := FB.c1
      clear FA FB
      by_cases hix : i < xs.length
      · have zi : (i : Int) < (xs.length : Int) := by omega
        have zi0 : (0 : Int) ≤ (i : Int) := by omega
        obtain ⟨eb, hea, heb, ce1⟩ := HEL.out.get b4r (toL_at hix).2
        obtain ⟨eb2, hea2, heb2, ce2⟩ := HEL2.out.get b5r (toL_at hix).2
        subst hea hea2
        by_cases hi2 : i = n
        · -- the answers part here
          have hlast : leT k u d lo hi (xs.set a y) i ≠ leT k u d lo hi xs i ∧ (1048576 < y ∨ y = 0) := by
            rcases HLA.out with h | h
            · omega
            · rw [hi2]; exact h
          obtain ⟨E1, hE1⟩ : ∃ E, leT k u d lo hi xs i = E := ⟨_, rfl⟩
          obtain ⟨E2, hE2⟩ : ∃ E, leT k u d lo hi (xs.set a y) i = E := ⟨_, rfl⟩
          rw [hE1] at ce1
          rw [hE2] at ce2
          rw [hE1, hE2] at hlast
          have hne : (E1 != E2) = true := by simpa using fun e => hlast.1 e.symm
          have hne2 : ¬ E1 = E2 := fun e => hlast.1 e.symm
          have cy : wr.cell? ⟨g, a, none⟩ = some (.int .i64 y) := (HR3.out.keep (bt (bt hb4 b46) hbl) HR3.out.lt).cells a y (by simp [ha])
          have hy2 := hlast.2
          clear hlast hE1 hE2 hy hi2
          rcases hy2 with hy2 | hy2
          all_goals
            go_wp2
            go_quiet (fail)
            go_wp2
            go_ret
            exact ⟨rfl, below_drewN Bw _⟩
        · have hin2 : i < n := by omega
          have hE := HLE.out i hin2
          rw [hE] at ce2
          obtain ⟨E1, hE1⟩ : ∃ E, leT k u d lo hi xs i = E := ⟨_, rfl⟩
          rw [hE1] at ce1 ce2
          obtain ⟨⟨tv1, zs1⟩, ht1⟩ := get_lt (l := tls) (i := i) (by rw [HTN.out]; exact hix)
          obtain ⟨⟨tv2, zs2⟩, ht2⟩ := get_lt (l := tls2) (i := i) (by rw [HTN2.out]; exact hix)
          have hr1 : rds zs1 = ltT k u d lo hi xs i := by
            have h2 : (tls.map (fun t => rds t.2))[i]? = some (rds zs1) := by simp [ht1]
            rw [HTD.out, (toL_at hix).1] at h2
            simpa using h2.symm
          have hr2 : rds zs2 = ltT k u d lo hi (xs.set a y) i := by
            have h2 : (tls2.map (fun t => rds t.2))[i]? = some (rds zs2) := by simp [ht2]
            rw [HTD2.out, (toL_at hix).1] at h2
            simpa using h2.symm
          obtain ⟨hm1, hm2, hm3⟩ := HMS.out i hin2
          have hlen : zs2.length = zs1.length := by rw [← rds_len' zs2, ← rds_len' zs1, hr1, hr2]; exact hm1.symm
          rw [← hr1, ← hr2] at hm2
          rw [← hr1, rds_len'] at hm3
          have HM2 : Hid (∀ (j : Nat) l l', (rds zs1)[j]? = some l → (rds zs2)[j]? = some l' → ∃ f, farT l l' = (u ^ f, d ^ f, 0) ∧ M i j + f ≤ M i (j + 1)) := hm2
          have HM3 : Hid (M i zs1.length ≤ M (i + 1) 0) := hm3
          obtain ⟨tb1, za1, zc1, hta, htb1, _, ct16, hd1⟩ := HTL.out.get b46 ht1
          obtain ⟨tb2, za2, zc2, hta2, htb2, _, ct26, hd2⟩ := HTL2.out.get b56 ht2
          subst hta hta2
          simp only [hlen] at ct26 hd2
          simp only at ct16 ct26 hd1 hd2
          have h46' := b46.size
          have ct1 := (hbl.cell (p := ⟨tb1, i, none⟩) (by show tb1 < W6.heap.size; omega)).trans ct16
          have ct2 := (hbl.cell (p := ⟨tb2, i, none⟩) (by show tb2 < W6.heap.size; omega)).trans ct26
          have hzl : zs1.length ≤ 1073741824 := by obtain ⟨_, _, _, _, h, _⟩ := hd1; exact h
          have HCT : Hid (W6.cell? ⟨tb1, i, none⟩ = some (.slice za1 zs1.length zc1) ∧ W6.cell? ⟨tb2, i, none⟩ = some (.slice za2 zs1.length zc2)) := ⟨ct16, ct26⟩
          clear ct16 ct26
          have HD1 : Hid (Dss w4 w4.heap.size (.slice za1 zs1.length zc1) zs1) := hd1
          have HD2 : Hid (Dss w5 w5.heap.size (.slice za2 zs1.length zc2) zs2) := hd2
          have HLN : Hid (zs2.length = zs1.length) := hlen
          have hGl := fc_lt HG.out
          clear hE hE1 ht1 ht2 hr1 hr2 hm1 hm2 hm3 hlen hd1 hd2 hy hi2
          obtain ⟨w0', hw0'⟩ : ∃ w0', w0' = wr := ⟨_, rfl⟩
          subst hw0'
          go_wp2
          go_quiet (fail)
          go_wp2
          go_quiet (fail)
          go_wp2_with fail
          go_loopw [129] (fun sv wr => ∃ (j F : Nat), sv = .int .i64 (j : Int) ∧ j ≤ zs1.length ∧ Hid (Fc W6.heap.size (u ^ F) (d ^ F) wr) ∧ Hid (F ≤ M i j) ∧ Below W6.heap.size W6 wr) (fun sv _ => zs1.length - (intOf sv).toNat)
          case atStart => exact ⟨0, F, rfl, Nat.zero_le _, HG.out.at (below_drewN (Below.refl _ _) _) hGl, HFM, below_drewN hbl _⟩
          case round =>
            obtain ⟨j, F, rfl, hj, HG, HFM, hbl2⟩ := hrel
            have hs0 := hbl2.size
            have hGl2 := fc_lt HG.out
            by_cases hj1 : j < zs1.length
            · have b4s : Below w4.heap.size w4 wr := bt b46 hbl2
              have b5s : Below w5.heap.size w5 wr := bt b56 hbl2
              obtain ⟨b1, o1, na, nc, us1, hza, hbb1, hg1, s3, hI1⟩ := HD1.out.get (Nat.le_refl _) b4s hj1
              obtain ⟨b2, o2, na2, nc2, us2, hza2, hbb2, hg2, s6, hI2⟩ := HD2.out.get (Nat.le_refl _) b5s (i := j) (by rw [HLN.out]; exact hj1)
              subst hza hza2
              have h46 := b46.size
              have s1 := (hbl2.cell (p := ⟨w4.heap.size, 0, none⟩) HF16.out.lt).trans HF16.out.c0
              have s4 := (hbl2.cell (p := ⟨w5.heap.size, 0, none⟩) HF2.out.lt).trans HF2.out.c0
              have l1 : w4.heap.size < wr.heap.size := by have := HF16.out.lt; omega
              have l4 : w5.heap.size < wr.heap.size := by have := HF2.out.lt; omega
              have l2 : tb1 < wr.heap.size := by omega
              have l5 : tb2 < wr.heap.size := by omega
              have l3 : b1 < wr.heap.size := by omega
              have l6 : b2 < wr.heap.size := by omega
              have s2 := (hbl2.cell (p := ⟨tb1, i, none⟩) (by show tb1 < W6.heap.size; omega)).trans HCT.out.1
              have s5 := (hbl2.cell (p := ⟨tb2, i, none⟩) (by show tb2 < W6.heap.size; omega)).trans HCT.out.2
              obtain ⟨f, hfar, hfm⟩ := HM2.out j _ _ (rds_get hg1) (rds_get hg2)
              simp only at hfar
              have hFf : F + f ≤ k + 1 := by have := HM.out.2 i (j + 1); have := HFM.out; omega
              have HFM2 : Hid (F + f ≤ M i (j + 1)) := by have := HFM.out; show _ ≤ _; omega
              obtain ⟨r1, r2, r3⟩ := HRT.out
              have hst := (pow_step (F := F) (f := f) r1 r2 r3 HPQ.out.2.2 hFf).1
              have HI1 : Hid (Parts wr wr.heap.size (.slice na us1.length nc) us1) := hI1.mono' (by omega)
              have HI2 : Hid (Parts wr wr.heap.size (.slice na2 us2.length nc2) us2) := hI2.mono' (by omega)
              obtain ⟨n3, hn3⟩ : ∃ n3, u ^ f = n3 := ⟨_, rfl⟩
              obtain ⟨d3, hd3⟩ : ∃ d3, d ^ f = d3 := ⟨_, rfl⟩
              obtain ⟨V, hV⟩ : ∃ V, u ^ F = V := ⟨_, rfl⟩
              obtain ⟨E, hE⟩ : ∃ E, d ^ F = E := ⟨_, rfl⟩
              obtain ⟨V', hV'⟩ : ∃ V, u ^ (F + f) = V := ⟨_, rfl⟩
              obtain ⟨E', hE'⟩ : ∃ E, d ^ (F + f) = E := ⟨_, rfl⟩
              rw [hn3, hd3] at hst hfar
              have hgg := HG.out
              rw [hV, hE] at hst hgg
              rw [hV', hE'] at hst
              have HG1 : Hid (Fc W6.heap.size V E wr) := hgg
              have HX3 : Hid (farT (rd us1) (rd us2) = (n3, d3, 0)) := hfar
              have HT : Hid (Rt.timesT V E n3 d3 = (V', E', 0)) := hst
              have HVE : Hid (u ^ (F + f) = V' ∧ d ^ (F + f) = E') := ⟨hV', hE'⟩
              have g2 : (j : Int) < (zs1.length : Int) := by omega
              have g1' : (0 : Int) ≤ (j : Int) := by omega
              clear hg1 hg2 hI1 hI2 hfar hfm hst hn3 hd3 hV hE hV' hE' hgg r1 r2 r3 ct1 ct2 a0 a1 a3 a4 c0 c1 ce1 ce2 d0 d1 f0 f1 d0'
              go_upto_region 24 with fail
              go_cut [21, 22] (fun pv ev wx => ∃ A, pv = .pointer (some ⟨A, 0, none⟩) ∧ ev = .int .i64 0 ∧ Fc A n3 d3 wx ∧ wr.heap.size ≤ A ∧ A < wx.heap.size ∧ Below wr.heap.size wr wx)
              case first => as_aux_lemma =>
                have dr1 : wr.drew.cell? ⟨w4.heap.size, 0, none⟩ = some (.slice (some ⟨tb1, 0, none⟩) xs.length tc) := s1
                have al1 : ∀ o, (wr.drew.alloc o).cell? ⟨w4.heap.size, 0, none⟩ = some (.slice (some ⟨tb1, 0, none⟩) xs.length tc) := fun o => ((ba wr.drew o).cell (p := ⟨w4.heap.size, 0, none⟩) l1).trans s1
                have dr2 : wr.drew.cell? ⟨tb1, i, none⟩ = some (.slice (some ⟨b1, o1, none⟩) zs1.length zc1) := s2
                have al2 : ∀ o, (wr.drew.alloc o).cell? ⟨tb1, i, none⟩ = some (.slice (some ⟨b1, o1, none⟩) zs1.length zc1) := fun o => ((ba wr.drew o).cell (p := ⟨tb1, i, none⟩) l2).trans s2
                have dr3 : wr.drew.cell? ⟨b1, o1 + j, none⟩ = some (.slice na us1.length nc) := s3
                have al3 : ∀ o, (wr.drew.alloc o).cell? ⟨b1, o1 + j, none⟩ = some (.slice na us1.length nc) := fun o => ((ba wr.drew o).cell (p := ⟨b1, o1 + j, none⟩) l3).trans s3
                have dr4 : wr.drew.cell? ⟨w5.heap.size, 0, none⟩ = some (.slice (some ⟨tb2, 0, none⟩) xs.length tc2) := s4
                have al4 : ∀ o, (wr.drew.alloc o).cell? ⟨w5.heap.size, 0, none⟩ = some (.slice (some ⟨tb2, 0, none⟩) xs.length tc2) := fun o => ((ba wr.drew o).cell (p := ⟨w5.heap.size, 0, none⟩) l4).trans s4
                have dr5 : wr.drew.cell? ⟨tb2, i, none⟩ = some (.slice (some ⟨b2, o2, none⟩) zs1.length zc2) := s5
                have al5 : ∀ o, (wr.drew.alloc o).cell? ⟨tb2, i, none⟩ = some (.slice (some ⟨b2, o2, none⟩) zs1.length zc2) := fun o => ((ba wr.drew o).cell (p := ⟨tb2, i, none⟩) l5).trans s5
                have dr6 : wr.drew.cell? ⟨b2, o2 + j, none⟩ = some (.slice na2 us2.length nc2) := s6
                have al6 : ∀ o, (wr.drew.alloc o).cell? ⟨b2, o2 + j, none⟩ = some (.slice na2 us2.length nc2) := fun o => ((ba wr.drew o).cell (p := ⟨b2, o2 + j, none⟩) l6).trans s6
                go_region_held3 (fun w' => w'.cell? ⟨w4.heap.size, 0, none⟩ = some (.slice (some ⟨tb1, 0, none⟩) xs.length tc) ∧ w'.cell? ⟨tb1, i, none⟩ = some (.slice (some ⟨b1, o1, none⟩) zs1.length zc1) ∧ w'.cell? ⟨b1, o1 + j, none⟩ = some (.slice na us1.length nc) ∧ w'.cell? ⟨w5.heap.size, 0, none⟩ = some (.slice (some ⟨tb2, 0, none⟩) xs.length tc2) ∧ w'.cell? ⟨tb2, i, none⟩ = some (.slice (some ⟨b2, o2, none⟩) zs1.length zc2) ∧ w'.cell? ⟨b2, o2 + j, none⟩ = some (.slice na2 us2.length nc2))
                  ((go_split_ands; refine ⟨?_, ?_, ?_, ?_, ?_, ?_⟩ <;> first | with_reducible assumption | exact al1 _ | exact zz1 _ | exact al2 _ | exact zz2 _ | exact al3 _ | exact zz3 _ | exact al4 _ | exact zz4 _ | exact al5 _ | exact zz5 _ | exact al6 _ | exact zz6 _ | (simp [go_sem, *]; done)))
                  ((go_at_call 11; refine (far_any wr.heap.size _ _ us1 us2 _ ?_ ?_ ?_ n3 d3 0 HX3.out).mono ?_; (exact ((by first | with_reducible exact (Below.refl wr.heap.size wr) | with_reducible exact (Below.refl wr.heap.size wr).drew | with_reducible exact bal (Below.refl wr.heap.size wr) _ | with_reducible exact bal (Below.refl wr.heap.size wr).drew _ | with_reducible exact (bal (Below.refl wr.heap.size wr) _).drew) : Below wr.heap.size wr _).size); (exact HI1.out.at (Nat.le_refl _) (by first | with_reducible exact (Below.refl wr.heap.size wr) | with_reducible exact (Below.refl wr.heap.size wr).drew | with_reducible exact bal (Below.refl wr.heap.size wr) _ | with_reducible exact bal (Below.refl wr.heap.size wr).drew _ | with_reducible exact (bal (Below.refl wr.heap.size wr) _).drew)); (exact HI2.out.at (Nat.le_refl _) (by first | with_reducible exact (Below.refl wr.heap.size wr) | with_reducible exact (Below.refl wr.heap.size wr).drew | with_reducible exact bal (Below.refl wr.heap.size wr) _ | with_reducible exact bal (Below.refl wr.heap.size wr).drew _ | with_reducible exact (bal (Below.refl wr.heap.size wr) _).drew)); rintro e w7 ⟨rfl, hb7'⟩; have hb7 : Below wr.heap.size wr w7 := bt (by first | with_reducible exact (Below.refl wr.heap.size wr) | with_reducible exact (Below.refl wr.heap.size wr).drew | with_reducible exact bal (Below.refl wr.heap.size wr) _ | with_reducible exact bal (Below.refl wr.heap.size wr).drew _ | with_reducible exact (bal (Below.refl wr.heap.size wr) _).drew) hb7'; have z1 : w7.cell? ⟨w4.heap.size, 0, none⟩ = some (.slice (some ⟨tb1, 0, none⟩) xs.length tc) := (hb7.cell (p := ⟨w4.heap.size, 0, none⟩) l1).trans s1; have zz1 : ∀ o, (w7.alloc o).cell? ⟨w4.heap.size, 0, none⟩ = some (.slice (some ⟨tb1, 0, none⟩) xs.length tc) := fun o => ((ba w7 o).cell (p := ⟨w4.heap.size, 0, none⟩) (Nat.lt_of_lt_of_le l1 hb7.size)).trans z1; have z2 : w7.cell? ⟨tb1, i, none⟩ = some (.slice (some ⟨b1, o1, none⟩) zs1.length zc1) := (hb7.cell (p := ⟨tb1, i, none⟩) l2).trans s2; have zz2 : ∀ o, (w7.alloc o).cell? ⟨tb1, i, none⟩ = some (.slice (some ⟨b1, o1, none⟩) zs1.length zc1) := fun o => ((ba w7 o).cell (p := ⟨tb1, i, none⟩) (Nat.lt_of_lt_of_le l2 hb7.size)).trans z2; have z3 : w7.cell? ⟨b1, o1 + j, none⟩ = some (.slice na us1.length nc) := (hb7.cell (p := ⟨b1, o1 + j, none⟩) l3).trans s3; have zz3 : ∀ o, (w7.alloc o).cell? ⟨b1, o1 + j, none⟩ = some (.slice na us1.length nc) := fun o => ((ba w7 o).cell (p := ⟨b1, o1 + j, none⟩) (Nat.lt_of_lt_of_le l3 hb7.size)).trans z3; have z4 : w7.cell? ⟨w5.heap.size, 0, none⟩ = some (.slice (some ⟨tb2, 0, none⟩) xs.length tc2) := (hb7.cell (p := ⟨w5.heap.size, 0, none⟩) l4).trans s4; have zz4 : ∀ o, (w7.alloc o).cell? ⟨w5.heap.size, 0, none⟩ = some (.slice (some ⟨tb2, 0, none⟩) xs.length tc2) := fun o => ((ba w7 o).cell (p := ⟨w5.heap.size, 0, none⟩) (Nat.lt_of_lt_of_le l4 hb7.size)).trans z4; have z5 : w7.cell? ⟨tb2, i, none⟩ = some (.slice (some ⟨b2, o2, none⟩) zs1.length zc2) := (hb7.cell (p := ⟨tb2, i, none⟩) l5).trans s5; have zz5 : ∀ o, (w7.alloc o).cell? ⟨tb2, i, none⟩ = some (.slice (some ⟨b2, o2, none⟩) zs1.length zc2) := fun o => ((ba w7 o).cell (p := ⟨tb2, i, none⟩) (Nat.lt_of_lt_of_le l5 hb7.size)).trans z5; have z6 : w7.cell? ⟨b2, o2 + j, none⟩ = some (.slice na2 us2.length nc2) := (hb7.cell (p := ⟨b2, o2 + j, none⟩) l6).trans s6; have zz6 : ∀ o, (w7.alloc o).cell? ⟨b2, o2 + j, none⟩ = some (.slice na2 us2.length nc2) := fun o => ((ba w7 o).cell (p := ⟨b2, o2 + j, none⟩) (Nat.lt_of_lt_of_le l6 hb7.size)).trans z6; have s7 := hb7.size; (first | (have kf := (fc_new wr 0 0).at hb7' (by simp); obtain ⟨y1, y2, y3, y4⟩ : Fc wr.heap.size 0 0 w7 := kf) | (have kf := (fc_new wr.drew 0 0).at hb7' (by simp); obtain ⟨y1, y2, y3, y4⟩ : Fc wr.heap.size 0 0 w7 := kf) | skip)))
                all_goals (go_wp2; go_meet; first | exact ⟨_, rfl, rfl, fc_new _ _ _, by omega, by simp, bal hb7 _⟩ | exact ⟨_, rfl, rfl, Fc.set ⟨y1, y2, y3, y4⟩ _ _, by omega, fc_lt (Fc.set ⟨y1, y2, y3, y4⟩ _ _), bs (bs hb7 (by dsimp only; omega) _) (by dsimp only; omega) _⟩)
              case rest => as_aux_lemma =>
                obtain ⟨A, rfl, rfl, hA, hA1, hA2, hbc⟩ := hcut
                have HGc : Hid (Fc W6.heap.size V E wc) := HG1.out.at hbc hGl2
                have hsc := hbc.size
                have hblc : Below W6.heap.size W6 wc := bt hbl2 hbc
                have hGc : W6.heap.size < wc.heap.size := by omega
                obtain ⟨x1, x2, x3, x4⟩ := HGc.out
                obtain ⟨y1, y2, _, _⟩ := hA
                clear hbc s1 s2 s3 s4 s5 s6
                go_wp2_with fail
                refine (refTimes_any V E n3 d3 V' E' 0 HT.out wc).mono ?_
                rintro e w6 ⟨rfl, hb6⟩
                clear x1 x2 x3 x4 y1 y2
                have HG6 : Hid (Fc W6.heap.size V E w6) := HGc.out.at hb6 hGc
                have hbl6 : Below W6.heap.size W6 w6 := bt hblc hb6
                obtain ⟨x1, x2, x3, x4⟩ := HG6.out
                have HG7 : Hid (Fc W6.heap.size (u ^ (F + f)) (d ^ (F + f)) ((w6.setCell ⟨W6.heap.size, 0, none⟩ (.int .i64 V')).setCell ⟨W6.heap.size, 1, none⟩ (.int .i64 E'))) := by rw [Hid, HVE.out.1, HVE.out.2]; exact HG6.out.set _ _
                have hbl7 : Below W6.heap.size W6 ((w6.setCell ⟨W6.heap.size, 0, none⟩ (.int .i64 V')).setCell ⟨W6.heap.size, 1, none⟩ (.int .i64 E')) := bs (bs hbl6 (Nat.le_refl _) _) (Nat.le_refl _) _
                clear hb6 HGc
                go_wp2
                go_roundw
                case rel => exact ⟨j + 1, F + f, by go_num, hj1, HG7, HFM2, hbl7⟩
                case measure => simp [intOf]; omega
            · have hj2 : j = zs1.length := by omega
              have HFM3 : Hid (F ≤ M (i + 1) 0) := by have h1 := HFM.out; have h2 := HM3.out; rw [hj2] at h1; show _ ≤ _; omega
              have zj : ¬ (j : Int) < (zs1.length : Int) := by omega
              clear hj2
              go_wp2
              go_roundw
              case rel => exact ⟨i + 1, F, by go_num, hin2, HG, HFM3, hbl2⟩
              case measure => simp [intOf]; omega
      · have hix2 : i = xs.length := by omega
        have zi : ¬ (i : Int) < (xs.length : Int) := by omega
        have hFk : F ≤ k + 1 := Nat.le_trans HFM.out (HM.out.2 i 0)
        obtain ⟨V, hV⟩ : ∃ V, u ^ F = V := ⟨_, rfl⟩
        obtain ⟨E, hE⟩ : ∃ E, d ^ F = E := ⟨_, rfl⟩
        obtain ⟨r1, r2, r3⟩ := HRT.out
        have hst := (pow_step (F := F) (f := 0) r1 r2 r3 HPQ.out.2.2 (by omega)).2
        rw [Nat.add_zero, hV, hE, ← HPQ.out.1, ← HPQ.out.2.1] at hst
        have i1 := pow_nn (show 0 ≤ u by omega) F
        have i2 := pow_nn (show 0 ≤ d by omega) F
        have i3 := pow_le (show 0 ≤ d by omega) r2 F
        have i4 := pow_mono (show 1 ≤ u by omega) hFk
        have i5 := pow_nn (show 0 ≤ u by omega) (k + 1)
        have i6 := pow_nn (show 0 ≤ d by omega) (k + 1)
        have i7 := pow_le (show 0 ≤ d by omega) r2 (k + 1)
        have i8 := HPQ.out.2.2
        rw [hV] at i1 i3 i4
        rw [hE] at i2 i3
        have km := refMost_any V E p q i1 (by omega) i2 (by omega) (by rw [HPQ.out.1]; exact i5) (by rw [HPQ.out.1]; exact i8) (by rw [HPQ.out.2.1]; exact i6) (by rw [HPQ.out.2.1]; omega) true (decide_eq_true hst) wr
        have hg := HG.out
        rw [hV, hE] at hg
        obtain ⟨x1, x2, _, _⟩ := hg
        clear i1 i2 i3 i4 i5 i6 i7 i8 hst hV hE hix2 hy
        go_wp2_with fail
        refine km.mono ?_
        rintro e8 w8 ⟨rfl, hb8⟩
        clear km
        go_wp2
        go_ret
        exact ⟨rfl, bt Bw hb8⟩
  · have kc := fun v W => count_bad high u d lo hi v er her ce W
    have c2 : (er != 0) = true := by simpa using ce
    clear her
    go_wp2_with fail
    refine (kc _ _).mono ?_
    rintro e4 w4 ⟨rfl, hb4⟩
    unfold nilC
    obtain ⟨v0, v1⟩ := (⟨fun o => (XC.out _ (bal hb4 o)).1, fun o => (XC.out _ (bal hb4 o)).2⟩ : (∀ o, (w4.alloc o).cell? ⟨w.heap.size, 0, none⟩ = some (.int .i64 u)) ∧ (∀ o, (w4.alloc o).cell? ⟨w.heap.size, 1, none⟩ = some (.int .i64 d)))
    go_wp2_with fail
    refine (kc _ _).mono ?_
    rintro e5 w5 ⟨rfl, hb5⟩
    unfold nilC
    have HF1 : FivB w5 w4.heap.size (.slice none 0 0) (.slice none 0 0) (.int .i64 0) (.int .i64 0) (.int .i64 0) := (FivB.new w4 _ _ _ _ _ w4.heap.size rfl).same (hb5.block _ (by simp))
    have q0 : ∀ o, (w5.alloc o).cell? ⟨w4.heap.size, 0, none⟩ = some (.slice none 0 0) := fun o => ((ba w5 o).cell (p := ⟨w4.heap.size, 0, none⟩) HF1.lt).trans HF1.c0
    have B5 : Below w.heap.size w w5 := bt (bt B3 (bal hb4 _)) hb5
    have hne : ¬ w4.heap.size = w5.heap.size := by have := HF1.lt; omega
    clear kc v0 v1 HF1 hb5
    go_wp2
    go_ret
    exact ⟨by simp, bal B5 _⟩
end Go.Proofs.YtjembpcpefgdpaaDoor

namespace Go.Proofs.YtjembpcpefgdpaaDoor
open Go.RowKit Go.Proofs.YtjembpcpefgdpaaDoor.Ds

set_option maxRecDepth 100000 in
set_option maxHeartbeats 2000000 in
theorem treePrivate_out (high u d lo hi : Int) (v : Value) (B nb : Nat) (xs : List Int) (a : Int) (w : World) (hv : Ints w B nb v xs) (ha : a < 0 ∨ (¬ a < 0 ∧ a ≥ (xs.length : Int))) :
    Calls Tryd.prog 4 #[.int .i64 high, rv u d, .int .i64 lo, .int .i64 hi, v, .int .i64 a] w fun e w' => e = .returned (.bool true) ∧ Below w.heap.size w w' := by
  have kal := fun W => alive9_any W
  obtain ⟨va, vc, rfl, _⟩ := hv
  rcases ha with ha | ⟨ha, ha2⟩
  all_goals
    go_enter Tryd.func4, Tryd.ntmps4
    go_wp2_with fail
    refine (kal _).mono ?_
    rintro e1 w1 ⟨rfl, hb1⟩
    have B1 := bt (ba _ _) hb1
    clear kal
    go_wp2
    go_ret
    exact ⟨rfl, B1⟩
theorem treePrivate_walk (B nb : Nat) (high u d lo hi : Int) (v : Value) (a : Int) (xs : List Int) (w : World) (hB : B ≤ w.heap.size) (hv : Ints w B nb v xs) (hl : xs.length ≤ 1048576) (hxb : ∀ x ∈ xs, I64 x) (hT : TabAt 1 Lib.deBruijn64tab w) (hlo : I64 lo) (hhi : I64 hi) :
    Calls Tryd.prog 4 #[.int .i64 high, rv u d, .int .i64 lo, .int .i64 hi, v, .int .i64 a] w fun e w' => e = .returned (.bool true) ∧ Below w.heap.size w w' := by
  by_cases c : 0 ≤ a ∧ a < (xs.length : Int)
  · obtain ⟨n, rfl⟩ := Int.eq_ofNat_of_zero_le c.1
    exact treePrivate_in high u d lo hi v B nb n xs w hB hv hl hxb hT hlo hhi (by omega)
  · exact treePrivate_out high u d lo hi v B nb xs a w hv (by omega)
end Go.Proofs.YtjembpcpefgdpaaDoor

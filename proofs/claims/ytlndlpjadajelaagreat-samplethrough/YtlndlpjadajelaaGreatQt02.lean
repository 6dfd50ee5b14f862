import Derived.Test.YtlndlpjadajelaaGreatQt01
import Derived.Test.YtlndlpjadajelaaGreatRows
import Derived.WalkKit
import Derived.WalkSpells
import Derived.Deep.QuietTactic
import Derived.BigQuiet
import Derived.WalkSmall
namespace Go.Proofs.YtlndlpjadajelaaGreat
open Go.Proofs.YtlndlpjadajelaaGreat.Ds
namespace Sb

/-! ### what comes through a sample, on the whole -/
section
variable {α : Type}
/-- each row of R, the last one first, is in with the chance p -/
def Ex (p : Rat) : List α → (List α → Rat) → Rat
  | [], g => g []
  | r :: R, g => (1 - p) * Ex p R g + p * Ex p R (fun l => g (l ++ [r]))

theorem all_snoc {V : α → Prop} {l : List α} {r : α} (h : ∀ x ∈ l, V x) (hr : V r) : ∀ x ∈ l ++ [r], V x := by
  intro x hx
  rcases List.mem_append.1 hx with hx | hx
  · exact h x hx
  · obtain rfl : x = r := by simpa using hx
    exact hr
theorem Ex_congr {V : α → Prop} {p : Rat} : ∀ {R : List α} {g g' : List α → Rat}, (∀ r ∈ R, V r) → (∀ l, (∀ x ∈ l, V x) → g l = g' l) → Ex p R g = Ex p R g'
  | [], g, g', _, h => h [] (fun x hx => by cases hx)
  | r :: R, g, g', hV, h => by
    rw [Ex, Ex, Ex_congr (fun x hx => hV x (by simp [hx])) h, Ex_congr (g := fun l => g (l ++ [r])) (g' := fun l => g' (l ++ [r])) (fun x hx => hV x (by simp [hx])) fun l hl => h _ (all_snoc hl (hV r (by simp)))]
theorem Ex_perm {V : α → Prop} {p : Rat} {R R' : List α} (hp : R.Perm R') : ∀ {g : List α → Rat}, (∀ r ∈ R, V r) → (∀ l l', (∀ x ∈ l, V x) → l.Perm l' → g l = g l') → Ex p R g = Ex p R' g := by
  induction hp with
  | nil => intros; rfl
  | cons x h ih =>
    intro g hV hg
    rw [Ex, Ex, ih (fun r hr => hV r (by simp [hr])) hg]
    rw [ih (g := fun l => g (l ++ [x])) (fun r hr => hV r (by simp [hr])) fun l l' hl hp => hg _ _ (all_snoc hl (hV x (by simp))) (List.Perm.append_right [x] hp)]
  | swap x y l =>
    intro g hV hg
    have e : Ex p l (fun l => g (l ++ [x] ++ [y])) = Ex p l (fun l => g (l ++ [y] ++ [x])) := by
      refine Ex_congr (V := V) (fun r hr => hV r (by simp [hr])) fun m hm => hg _ _ (all_snoc (all_snoc hm (hV x (by simp))) (hV y (by simp))) ?_
      rw [List.append_assoc, List.append_assoc]
      exact List.Perm.append_left m (List.Perm.swap y x [])
    simp only [Ex]
    rw [e]
    grind
  | trans h1 _ ih1 ih2 =>
    intro g hV hg
    rw [ih1 hV hg, ih2 (fun r hr => hV r (h1.mem_iff.2 hr)) hg]
theorem Ex_le {V : α → Prop} {p : Rat} (h0 : 0 ≤ p) (h1 : p ≤ 1) : ∀ {R : List α} {g g' : List α → Rat}, (∀ r ∈ R, V r) → (∀ l, (∀ x ∈ l, V x) → g l ≤ g' l) → Ex p R g ≤ Ex p R g'
  | [], g, g', _, h => h [] (fun x hx => by cases hx)
  | r :: R, g, g', hV, h => by
    have a := Ex_le h0 h1 (R := R) (fun x hx => hV x (by simp [hx])) h
    have b := Ex_le h0 h1 (R := R) (g := fun l => g (l ++ [r])) (g' := fun l => g' (l ++ [r])) (fun x hx => hV x (by simp [hx])) fun l hl => h _ (all_snoc hl (hV r (by simp)))
    rw [Ex, Ex]
    have c := Rat.mul_le_mul_of_nonneg_left a (show 0 ≤ 1 - p by grind)
    have d := Rat.mul_le_mul_of_nonneg_left b h0
    grind
theorem Ex_mul {p c : Rat} : ∀ {R : List α} {g : List α → Rat}, Ex p R (fun l => c * g l) = c * Ex p R g
  | [], g => rfl
  | r :: R, g => by
    rw [Ex, Ex, Ex_mul, Ex_mul (g := fun l => g (l ++ [r]))]
    grind
theorem Ex_zero {p : Rat} : ∀ {R : List α}, Ex p R (fun _ => 0) = 0
  | [] => rfl
  | r :: R => by
    rw [Ex, Ex_zero]
    grind
theorem Ex_nn {V : α → Prop} {p : Rat} (h0 : 0 ≤ p) (h1 : p ≤ 1) {R : List α} {g : List α → Rat} (hV : ∀ r ∈ R, V r) (h : ∀ l, (∀ x ∈ l, V x) → 0 ≤ g l) : 0 ≤ Ex p R g := by
  have := Ex_le h0 h1 (g := fun _ => 0) hV h
  rw [Ex_zero] at this
  exact this
theorem Ex_pos {V : α → Prop} {p : Rat} (h0 : 0 ≤ p) (h1 : p ≤ 1) : ∀ {R : List α} {g : List α → Rat}, (∀ r ∈ R, V r) → (∀ l, (∀ x ∈ l, V x) → 0 < g l) → 0 < Ex p R g
  | [], g, _, h => h [] (fun x hx => by cases hx)
  | r :: R, g, hV, h => by
    have a := Ex_pos h0 h1 (R := R) (fun x hx => hV x (by simp [hx])) h
    have b := Ex_pos h0 h1 (R := R) (g := fun l => g (l ++ [r])) (fun x hx => hV x (by simp [hx])) fun l hl => h _ (all_snoc hl (hV r (by simp)))
    rw [Ex]
    by_cases hp : p = 1
    · subst hp
      grind
    · have hq : 0 < 1 - p := by
        rcases Rat.le_iff_lt_or_eq.1 h1 with h | h
        · grind
        · exact absurd h hp
      have c := Rat.mul_pos hq a
      have d := Rat.mul_nonneg h0 (Rat.le_of_lt b)
      grind

/-- AMPLIFICATION BY SAMPLING, of numbers -/
theorem amp {p r A B : Rat} (h0 : 0 ≤ p) (h1 : p ≤ 1) (hr : 1 ≤ r) (hA : 0 ≤ A) (h2 : B ≤ r * A) (h3 : A ≤ r * B) :
    (1 - p) * A + p * B ≤ (1 + p * (r - 1)) * A ∧ A ≤ (1 + p * (r - 1)) * ((1 - p) * A + p * B) := by
  have hq : 0 ≤ 1 - p := by grind
  have hr1 : 0 ≤ r - 1 := by grind
  have hpr : 0 ≤ p * (r - 1) := Rat.mul_nonneg h0 hr1
  constructor
  · have := Rat.mul_le_mul_of_nonneg_left h2 h0
    grind
  · have hm : 0 ≤ (1 + p * (r - 1)) * p := Rat.mul_nonneg (by grind) h0
    have k1 := Rat.mul_le_mul_of_nonneg_left h3 hm
    have k2 : 0 ≤ p * (1 - p) * ((r - 1) * (r - 1)) * A := Rat.mul_nonneg (Rat.mul_nonneg (Rat.mul_nonneg h0 hq) (Rat.mul_nonneg hr1 hr1)) hA
    have k3 : r * A ≤ r * ((1 + p * (r - 1)) * ((1 - p) * A + p * B)) := by grind
    exact Rat.le_of_mul_le_mul_left k3 (by grind)
/-- AMPLIFICATION BY SAMPLING -/
theorem Ex_amp {V : α → Prop} {p c : Rat} (h0 : 0 ≤ p) (h1 : p ≤ 1) (hc : 1 ≤ c) {R : List α} {r : α} {g : List α → Rat} (hV : ∀ r ∈ R, V r) (hn : ∀ l, (∀ x ∈ l, V x) → 0 ≤ g l)
    (h2 : ∀ l, (∀ x ∈ l, V x) → g (l ++ [r]) ≤ c * g l) (h3 : ∀ l, (∀ x ∈ l, V x) → g l ≤ c * g (l ++ [r])) :
    Ex p (r :: R) g ≤ (1 + p * (c - 1)) * Ex p R g ∧ Ex p R g ≤ (1 + p * (c - 1)) * Ex p (r :: R) g := by
  rw [Ex]
  have a := Ex_le h0 h1 (g := fun l => g (l ++ [r])) (g' := fun l => c * g l) hV h2
  have b := Ex_le h0 h1 (g := g) (g' := fun l => c * g (l ++ [r])) hV h3
  rw [Ex_mul] at a
  rw [Ex_mul (g := fun l => g (l ++ [r]))] at b
  exact amp h0 h1 hc (Ex_nn h0 h1 hV hn) a b

/-- the rows of a subset, in their order -/
def selP [Inhabited α] (R : List α) (s : Nat) : Nat → List α
  | 0 => []
  | i + 1 => selP R s i ++ (if bit s i then [R.getD i default] else [])
def sel [Inhabited α] (R : List α) (s : Nat) : List α := selP R s R.length
theorem selP_snoc [Inhabited α] (R : List α) (r : α) (s : Nat) : ∀ {i : Nat}, i ≤ R.length → selP (R ++ [r]) s i = selP R s i
  | 0, _ => rfl
  | i + 1, h => by
    rw [selP, selP, selP_snoc R r s (by omega)]
    have e : (R ++ [r]).getD i default = R.getD i default := by
      simp only [List.getD_eq_getElem?_getD]
      rw [List.getElem?_append_left (by omega)]
    rw [e]
theorem sel_snoc [Inhabited α] (R : List α) (r : α) (s : Nat) : sel (R ++ [r]) s = sel R s ++ (if bit s R.length then [r] else []) := by
  unfold sel
  rw [List.length_append, List.length_singleton, selP, selP_snoc R r s (Nat.le_refl _)]
  congr 2
  simp [List.getD_eq_getElem?_getD]
theorem selP_add [Inhabited α] (R : List α) {s k : Nat} : ∀ {i : Nat}, i ≤ k → selP R (s + 2 ^ k) i = selP R s i
  | 0, _ => rfl
  | i + 1, h => by rw [selP, selP, selP_add R (by omega), bit_add (by omega)]
theorem selP_mem [Inhabited α] {R : List α} {s : Nat} : ∀ {i : Nat}, i ≤ R.length → ∀ x ∈ selP R s i, x ∈ R
  | 0, _, x, h => by cases h
  | i + 1, hi, x, h => by
    rw [selP] at h
    rcases List.mem_append.1 h with h | h
    · exact selP_mem (by omega) x h
    · split at h
      · obtain rfl : x = R.getD i default := by simpa using h
        rw [List.getD_eq_getElem?_getD, List.getElem?_eq_getElem (show i < R.length by omega)]
        exact List.getElem_mem _
      · cases h
theorem sel_mem [Inhabited α] {R : List α} {s : Nat} : ∀ x ∈ sel R s, x ∈ R := selP_mem (Nat.le_refl _)
theorem selP_len [Inhabited α] (R : List α) (s : Nat) : ∀ i, (selP R s i).length ≤ i
  | 0 => Nat.le_refl _
  | i + 1 => by
    have := selP_len R s i
    rw [selP, List.length_append]
    split <;> simp <;> omega

def sumQ (f : Nat → Rat) : Nat → Rat
  | 0 => 0
  | n + 1 => sumQ f n + f n
theorem sumQ_add (f : Nat → Rat) (n : Nat) : ∀ m, sumQ f (n + m) = sumQ f n + sumQ (fun i => f (n + i)) m
  | 0 => by simp [sumQ, Rat.add_zero]
  | m + 1 => by
    rw [← Nat.add_assoc, sumQ, sumQ, sumQ_add f n m]
    grind
theorem sumQ_congr {f g : Nat → Rat} : ∀ {n : Nat}, (∀ i, i < n → f i = g i) → sumQ f n = sumQ g n
  | 0, _ => rfl
  | n + 1, h => by rw [sumQ, sumQ, sumQ_congr fun i hi => h i (by omega), h n (by omega)]
theorem sumQ_mul {f : Nat → Rat} {c : Rat} : ∀ {n : Nat}, sumQ (fun i => f i * c) n = sumQ f n * c
  | 0 => by simp [sumQ]
  | n + 1 => by rw [sumQ, sumQ, sumQ_mul]; grind
theorem pow_q (d : Int) (k : Nat) : ((d ^ (k + 1) : Int) : Rat) = ((d ^ k : Int) : Rat) * (d : Rat) := by
  rw [Int.pow_succ, Rat.intCast_mul]
/-- all subsets together are what Ex says -/
theorem sum_ex [Inhabited α] {u d : Int} (hd : 1 ≤ d) : ∀ (k : Nat) (R : List α) (g : List α → Rat), R.length = k → sumQ (fun s => (wgt u d k s : Rat) * g (sel R s)) (2 ^ k) = ((d ^ k : Int) : Rat) * Ex ((u : Rat) / (d : Rat)) R.reverse g
  | 0, R, g, h => by
    obtain rfl := List.length_eq_zero_iff.1 h
    simp [sumQ, wgt, sel, selP, Ex, Rat.zero_add]
  | k + 1, R, g, h => by
    have hd0 : (d : Rat) ≠ 0 := by
      intro h0
      have : d = 0 := by exact_mod_cast h0
      omega
    obtain ⟨R', r, rfl⟩ : ∃ R' r, R = R' ++ [r] := ⟨R.dropLast, R.getLast (by intro h0; rw [h0] at h; simp at h), (List.dropLast_concat_getLast _).symm⟩
    have hk : R'.length = k := by simpa using h
    rw [List.reverse_append, List.reverse_singleton, List.singleton_append, Ex, Nat.pow_succ, show 2 ^ k * 2 = 2 ^ k + 2 ^ k by omega, sumQ_add]
    have e1 : sumQ (fun s => (wgt u d (k + 1) s : Rat) * g (sel (R' ++ [r]) s)) (2 ^ k) = sumQ (fun s => (wgt u d k s : Rat) * g (sel R' s)) (2 ^ k) * ((d : Rat) - u) := by
      rw [← sumQ_mul]
      refine sumQ_congr fun s hs => ?_
      rw [wgt_not u d hs, sel_snoc, hk, bit_not hs, Rat.intCast_mul, Rat.intCast_sub]
      simp only [Bool.false_eq_true, if_false, List.append_nil]
      grind
    have e2 : sumQ (fun s => (wgt u d (k + 1) (2 ^ k + s) : Rat) * g (sel (R' ++ [r]) (2 ^ k + s))) (2 ^ k) = sumQ (fun s => (wgt u d k s : Rat) * g (sel R' s ++ [r])) (2 ^ k) * (u : Rat) := by
      rw [← sumQ_mul]
      refine sumQ_congr fun s hs => ?_
      have e3 : sel R' (s + 2 ^ k) = sel R' s := selP_add R' (by omega)
      rw [Nat.add_comm (2 ^ k) s, wgt_top u d hs, sel_snoc, hk, bit_top hs, e3, Rat.intCast_mul]
      simp only [if_true]
      grind
    rw [e1, e2, sum_ex hd k R' g hk, sum_ex hd k R' (fun l => g (l ++ [r])) hk, pow_q]
    have e4 : (d : Rat) * ((u : Rat) / (d : Rat)) = u := by rw [Rat.mul_comm, Rat.div_mul_cancel hd0]
    grind
end
end Sb
end Go.Proofs.YtlndlpjadajelaaGreat

namespace Go.Proofs.YtlndlpjadajelaaGreat
open Go.RowKit

theorem ret_i {k : IntKind} {a b : Int} (h : a = b) : Ending.returned (.int k a) = .returned (.int k b) := by rw [h]

theorem gcd_tmod (x y : Int) : Int.gcd y (x.tmod y) = Int.gcd x y := by
  have h : (x.tmod y).natAbs = x.natAbs % y.natAbs := Int.natAbs_tmod x y
  rw [Int.gcd, h, Int.gcd, Nat.gcd_comm x.natAbs, Nat.gcd_rec y.natAbs x.natAbs, Nat.gcd_comm]

set_option maxHeartbeats 400000 in
theorem divisor_int (a b : Int) (ha0 : -9223372036854775807 ≤ a) (ha : a ≤ 9223372036854775807) (hb0 : -9223372036854775807 ≤ b) (hb : b ≤ 9223372036854775807) (w : World) :
    Calls Tryz.prog 90 #[.int .i64 a, .int .i64 b] w fun e w' => e = .returned (.int .i64 (Int.gcd a b : Nat)) ∧ Below w.heap.size w w' := by
  go_enter Tryz.func90, Tryz.ntmps90
  go_wp2
  go_loopw [0, 1] (fun s t wr => ∃ x y : Int, s = .int .i64 x ∧ t = .int .i64 y ∧ -9223372036854775807 ≤ x ∧ x ≤ 9223372036854775807 ∧ -9223372036854775807 ≤ y ∧ y ≤ 9223372036854775807 ∧ Int.gcd x y = Int.gcd a b ∧ Below w.heap.size w wr) (fun _ t _ => (intOf t).natAbs)
  case atStart => exact ⟨a, b, rfl, rfl, ha0, ha, hb0, hb, rfl, Below.refl _ _⟩
  case round =>
    obtain ⟨x, y, rfl, rfl, hx0, hx, hy0, hy, hg, hbl⟩ := hrel
    have HG : Hid (Int.gcd x y = Int.gcd a b) := hg
    clear hg
    by_cases hz : y = 0
    · subst hz
      go_wp2
      all_goals
        go_ret
        refine ⟨ret_i ?_, hbl⟩
        rw [← HG.out, Int.gcd_zero_right]
        omega
    · have hz' : (y == 0) = false := by simp; omega
      have hm : (x.tmod y).natAbs < y.natAbs := by rw [Int.natAbs_tmod]; exact Nat.mod_lt _ (by omega)
      have hm1 : -9223372036854775807 ≤ x.tmod y := by omega
      have hm2 : x.tmod y ≤ 9223372036854775807 := by omega
      have HM : Hid ((x.tmod y).natAbs < y.natAbs) := hm
      clear hm
      go_wp2
      go_quiet (fail)
      go_wp2
      go_roundw
      case rel => exact ⟨y, x.tmod y, rfl, by go_num, hy0, hy, hm1, hm2, by rw [gcd_tmod]; exact HG.out, below_drewN hbl nq⟩
      case measure => exact HM.out

theorem divisor_any (a b : Nat) (ha : (a : Int) ≤ 9223372036854775807) (hb : (b : Int) ≤ 9223372036854775807) (w : World) :
    Calls Tryz.prog 90 #[.int .i64 a, .int .i64 b] w fun e w' => e = .returned (.int .i64 (Nat.gcd a b : Nat)) ∧ Below w.heap.size w w' :=
  divisor_int a b (by omega) ha (by omega) hb w

set_option maxHeartbeats 400000 in
theorem refDivisor_any (a b : Nat) (ha : (a : Int) ≤ 9223372036854775807) (hb1 : 1 ≤ b) (hb : (b : Int) ≤ 9223372036854775807) (w : World) :
    Calls Tryz.prog 56 #[.int .i64 a, .int .i64 b] w fun e w' => e = .returned (.int .i64 (Nat.gcd a b : Nat)) ∧ w' = w := by
  by_cases h0 : a = 0
  · subst h0
    go_enter Tryz.func56, Tryz.ntmps56
    go_wp2
    go_ret
    exact ⟨ret_i (by simp), rfl⟩
  have h0' : ((a : Int) == 0) = false := by simp; omega
  have hgpos : 0 < Nat.gcd a b := Nat.gcd_pos_of_pos_right _ (by omega)
  have hgle : Nat.gcd a b ≤ b := Nat.gcd_le_right _ (by omega)
  generalize hG : Nat.gcd a b = g at *
  have HG0 : Hid (Nat.gcd a b = g) := hG
  clear hG
  go_enter Tryz.func56, Tryz.ntmps56
  go_wp2
  go_loop [0, 1, 5] (fun s t u => ∃ x y k : Nat, s = .int .i64 (x : Int) ∧ t = .int .i64 (y : Int) ∧ u = .int .i64 (k : Int) ∧ 1 ≤ x ∧ 1 ≤ y ∧ x ≤ a ∧ y ≤ b ∧ k + y ≤ b ∧ 2 ^ k * Nat.gcd x y = g) (fun s _ _ => (intOf s).toNat)
  case atStart => exact ⟨a, b, 0, rfl, rfl, rfl, by omega, by omega, by omega, by omega, by omega, by rw [HG0.out]; simp⟩
  case round =>
    obtain ⟨x, y, k, rfl, rfl, rfl, hx1, hy1, hx, hy, hk, hg⟩ := hrel
    have HG : Hid (2 ^ k * Nat.gcd x y = g) := hg
    clear hg
    by_cases hc : x % 2 = 0 ∧ y % 2 = 0
    · obtain ⟨hc1, hc2⟩ := hc
      have e1 : ((x : Int) % 2 == 0) = true := by simp; omega
      have e2 : ((y : Int) % 2 == 0) = true := by simp; omega
      go_wp2
      go_round
      case rel => exact ⟨x / 2, y / 2, k + 1, by go_num, by go_num, by go_num, by omega, by omega, by omega, by omega, by omega, by rw [← HG.out, Nat.pow_succ, Nat.mul_assoc, Rt.gcd_half_both x y hc1 hc2]⟩
      case measure => simp [intOf]; omega
    · have hh1 : 1 ≤ Nat.gcd x y := Nat.gcd_pos_of_pos_right _ (by omega)
      have hkg : k < 2 ^ 63 := by omega
      have HC : Hid (¬ (x % 2 = 0 ∧ y % 2 = 0)) := hc
      have e0 : ((x : Int) % 2 == 0) = true ∧ ((y : Int) % 2 == 0) = false ∨ ((x : Int) % 2 == 0) = false := by
        by_cases hxx : x % 2 = 0
        · exact .inl ⟨by simp; omega, by simp; omega⟩
        · exact .inr (by simp; omega)
      clear hc h0'
      rcases e0 with ⟨e1, e2⟩ | e1
      all_goals
        go_wp2
        clear e1
        try clear e2
        go_loop [0, 1] (fun s t => ∃ x' y' : Nat, s = .int .i64 (x' : Int) ∧ t = .int .i64 (y' : Int) ∧ 1 ≤ x' ∧ 1 ≤ y' ∧ x' ≤ a ∧ y' ≤ b ∧ ¬ (x' % 2 = 0 ∧ y' % 2 = 0) ∧ Nat.gcd x' y' = Nat.gcd x y) (fun s t => (intOf s).toNat + (intOf t).toNat)
        case atStart => exact ⟨x, y, rfl, rfl, hx1, hy1, hx, hy, HC.out, rfl⟩
        case round =>
          obtain ⟨p, q, rfl, rfl, hp1, hq1, hp, hq, hpq, hgg⟩ := hrel
          have HGG : Hid (Nat.gcd p q = Nat.gcd x y) := hgg
          clear hgg
          by_cases c0 : p = q
          · subst c0
            have hpz : 2 ^ k * p = g := by rw [← HG.out, ← HGG.out, Nat.gcd_self]
            have HPZ : Hid (2 ^ k * p = g) := hpz
            clear hpz
            go_wp2
            go_loop [0, 5] (fun s u => ∃ z j : Nat, s = .int .i64 (z : Int) ∧ u = .int .i64 (j : Int) ∧ j ≤ k ∧ 2 ^ j * z = g) (fun _ u => (intOf u).toNat)
            case atStart => exact ⟨p, k, rfl, rfl, Nat.le_refl _, HPZ.out⟩
            case round =>
              obtain ⟨z, j, rfl, rfl, hj, hzj⟩ := hrel
              have HZJ : Hid (2 ^ j * z = g) := hzj
              clear hzj
              by_cases c9 : j = 0
              · subst c9
                go_wp2
                go_ret
                exact ⟨ret_i (by have := HZJ.out; simp at this; rw [this]), rfl⟩
              · have hj0 : 0 < j := by omega
                have hz2 : 2 * z ≤ g := by
                  rw [← HZJ.out]
                  obtain ⟨i, rfl⟩ : ∃ i, j = i + 1 := ⟨j - 1, by omega⟩
                  rw [Nat.pow_succ, Nat.mul_assoc]
                  exact Nat.le_mul_of_pos_left _ (Nat.two_pow_pos i)
                go_wp2
                go_round
                case rel => exact ⟨2 * z, j - 1, by go_num, by go_num, by omega, by rw [← Nat.mul_assoc, ← Nat.pow_succ, show (j - 1).succ = j by omega]; exact HZJ.out⟩
                case measure => simp [intOf]; omega
          · have c0' : ((p : Int) == (q : Int)) = false := by simp; omega
            have c0'' : ((p : Int) != (q : Int)) = true := by simp; omega
            by_cases c1 : p % 2 = 0
            · have d1 : ((p : Int) % 2 == 0) = true := by simp; omega
              have HP : Hid (Nat.gcd (p / 2) q = Nat.gcd x y) := by rw [Hid, Rt.gcd_half_left p q c1 (by omega)]; exact HGG.out
              go_wp2
              go_round
              case rel => exact ⟨p / 2, q, by go_num, rfl, by omega, by omega, by omega, by omega, by omega, HP.out⟩
              case measure => simp [intOf]; omega
            · have d1 : ((p : Int) % 2 == 0) = false := by simp; omega
              by_cases c2 : q % 2 = 0
              · have d2 : ((q : Int) % 2 == 0) = true := by simp; omega
                have HP : Hid (Nat.gcd p (q / 2) = Nat.gcd x y) := by rw [Hid, Rt.gcd_half_right p q (by omega) c2]; exact HGG.out
                go_wp2
                go_round
                case rel => exact ⟨p, q / 2, rfl, by go_num, by omega, by omega, by omega, by omega, by omega, HP.out⟩
                case measure => simp [intOf]; omega
              · have d2 : ((q : Int) % 2 == 0) = false := by simp; omega
                by_cases c3 : q < p
                · have HP : Hid (Nat.gcd (p - q) q = Nat.gcd x y) := by rw [Hid, Rt.gcd_less_left p q (by omega)]; exact HGG.out
                  go_wp2
                  go_round
                  case rel => exact ⟨p - q, q, by go_num, rfl, by omega, by omega, by omega, by omega, by omega, HP.out⟩
                  case measure => simp [intOf]; omega
                · have HP : Hid (Nat.gcd p (q - p) = Nat.gcd x y) := by rw [Hid, Rt.gcd_less_right p q (by omega)]; exact HGG.out
                  go_wp2
                  go_round
                  case rel => exact ⟨p, q - p, rfl, by go_num, by omega, by omega, by omega, by omega, by omega, HP.out⟩
                  case measure => simp [intOf]; omega
end Go.Proofs.YtlndlpjadajelaaGreat

namespace Go.Proofs.YtlndlpjadajelaaGreat
open Go.RowKit Go.Proofs.YtlndlpjadajelaaGreat.Ds

/-- a part in memory: its list's value, the numbers behind it, its weight -/
abbrev Tr := Value × List Int × Int

/-- THE NUMBERS BEHIND A SLICE, in a block below B that is not nb. -/
def Ints (w : World) (B nb : Nat) (v : Value) (xs : List Int) : Prop :=
  ∃ a c, v = .slice a xs.length c ∧ xs.length ≤ c ∧ xs.length ≤ 1073741824 ∧
    (xs ≠ [] → ∃ b o, a = some ⟨b, o, none⟩ ∧ b < B ∧ b ≠ nb ∧ ∀ i x, xs[i]? = some x → w.cell? ⟨b, o + i, none⟩ = some (.int .i64 x))

theorem Ints.keep {w w' : World} {B nb : Nat} {v : Value} {xs : List Int} (h : Ints w B nb v xs) (hb : Below B w w') : Ints w' B nb v xs := by
  obtain ⟨a, c, hv, hc, hl, hx⟩ := h
  refine ⟨a, c, hv, hc, hl, fun hne => ?_⟩
  obtain ⟨b, o, ha, hB, hn, hcell⟩ := hx hne
  exact ⟨b, o, ha, hB, hn, fun i x hi => (hb.cell (p := ⟨b, o + i, none⟩) hB).trans (hcell i x hi)⟩

theorem Ints.mono {w : World} {B B' nb nb' : Nat} {v : Value} {xs : List Int} (h : Ints w B nb v xs) (hB : B ≤ B') (hn : nb' = nb ∨ B ≤ nb') : Ints w B' nb' v xs := by
  obtain ⟨a, c, hv, hc, hl, hx⟩ := h
  refine ⟨a, c, hv, hc, hl, fun hne => ?_⟩
  obtain ⟨b, o, ha, hb, hnb, hcell⟩ := hx hne
  exact ⟨b, o, ha, by omega, by rcases hn with h | h <;> omega, hcell⟩

/-- the cells of a row of parts -/
def Cells (w : World) (b o : Nat) (ts : List Tr) : Prop :=
  ∀ i t, ts[i]? = some t → w.cell? ⟨b, o + i * 2, none⟩ = some t.1 ∧ w.cell? ⟨b, o + i * 2 + 1, none⟩ = some (.int .i64 t.2.2)

/-- PARTS BEHIND A SLICE: what they are is 'rd ts'. -/
def Parts (w : World) (B : Nat) (v : Value) (ts : List Tr) : Prop :=
  ∃ a c, v = .slice a ts.length c ∧ ts.length ≤ c ∧ ts.length ≤ 1073741824 ∧ (∀ t ∈ ts, Ints w B B t.1 t.2.1) ∧
    (ts ≠ [] → ∃ b o, a = some ⟨b, o, none⟩ ∧ b < B ∧ Cells w b o ts)

def rd (ts : List Tr) : List Pt := ts.map (·.2)

theorem Cells.keep {w w' : World} {B b o : Nat} {ts : List Tr} (h : Cells w b o ts) (hb : Below B w w') (hB : b < B) : Cells w' b o ts :=
  fun i t hi => ⟨(hb.cell (p := ⟨b, o + i * 2, none⟩) hB).trans (h i t hi).1, (hb.cell (p := ⟨b, o + i * 2 + 1, none⟩) hB).trans (h i t hi).2⟩

theorem Parts.keep {w w' : World} {B : Nat} {v : Value} {ts : List Tr} (h : Parts w B v ts) (hb : Below B w w') : Parts w' B v ts := by
  obtain ⟨a, c, hv, hc, hl, hi, hx⟩ := h
  refine ⟨a, c, hv, hc, hl, fun t ht => (hi t ht).keep hb, fun hne => ?_⟩
  obtain ⟨b, o, ha, hB, hcell⟩ := hx hne
  exact ⟨b, o, ha, hB, hcell.keep hb hB⟩

theorem Parts.mono {w : World} {B B' : Nat} {v : Value} {ts : List Tr} (h : Parts w B v ts) (hB : B ≤ B') : Parts w B' v ts := by
  obtain ⟨a, c, hv, hc, hl, hi, hx⟩ := h
  refine ⟨a, c, hv, hc, hl, fun t ht => (hi t ht).mono hB (.inr hB), fun hne => ?_⟩
  obtain ⟨b, o, ha, hb, hcell⟩ := hx hne
  exact ⟨b, o, ha, by omega, hcell⟩

theorem get_lt {α : Type} {l : List α} {i : Nat} (h : i < l.length) : ∃ x, l[i]? = some x := ⟨l[i], List.getElem?_eq_getElem h⟩
theorem ne_of_lt {α : Type} {l : List α} {i : Nat} (h : i < l.length) : l ≠ [] := by rintro rfl; simp at h
theorem ret_b {a b : Bool} (h : a = b) : Ending.returned (.bool a) = .returned (.bool b) := by rw [h]

theorem dr2 (w : World) (a b c : Nat) : ∃ q, ((w.drewN a).drewN b).drewN c = w.drewN q := by simp only [World.drewN_drewN]; exact ⟨_, rfl⟩
theorem dr1 (w : World) (a b : Nat) : ∃ q, (w.drewN a).drewN b = w.drewN q := by simp only [World.drewN_drewN]; exact ⟨_, rfl⟩

/-! ### comparing -/

theorem cmpT_step {x y : List Int} {i : Nat} {a b : Int} (hx : x[i]? = some a) (hy : y[i]? = some b) :
    cmpT (x.drop i) (y.drop i) = if a < b then -1 else if b < a then 1 else cmpT (x.drop (i + 1)) (y.drop (i + 1)) := by
  rw [List.drop_eq_getElem_cons (List.getElem?_eq_some_iff.1 hx).1, List.drop_eq_getElem_cons (List.getElem?_eq_some_iff.1 hy).1, (List.getElem?_eq_some_iff.1 hx).2, (List.getElem?_eq_some_iff.1 hy).2]
  rfl

set_option maxHeartbeats 400000 in
theorem refCompare_any (B n1 n2 : Nat) (u v : Value) (x y : List Int) (w : World) (hx : Ints w B n1 u x) (hy : Ints w B n2 v y) (r : Int) (hr : cmpT x y = r) :
    Calls Tryz.prog 58 #[u, v] w fun e w' => e = .returned (.int .i64 r) ∧ ∃ q, w' = w.drewN q := by
  obtain ⟨ax, cx, rfl, hcx, hlx, hxx⟩ := hx
  obtain ⟨ay, cy, rfl, hcy, hly, hyy⟩ := hy
  have HX : Hid (x ≠ [] → ∃ b o, ax = some ⟨b, o, none⟩ ∧ b < B ∧ b ≠ n1 ∧ ∀ i z, x[i]? = some z → w.cell? ⟨b, o + i, none⟩ = some (.int .i64 z)) := hxx
  have HY : Hid (y ≠ [] → ∃ b o, ay = some ⟨b, o, none⟩ ∧ b < B ∧ b ≠ n2 ∧ ∀ i z, y[i]? = some z → w.cell? ⟨b, o + i, none⟩ = some (.int .i64 z)) := hyy
  have HR : Hid (cmpT x y = r) := hr
  clear hxx hyy hr
  go_enter Tryz.func58, Tryz.ntmps58
  go_wp2
  go_loopw [8] (fun s wr => ∃ i : Nat, s = .int .i64 (i : Int) ∧ i ≤ x.length ∧ i ≤ y.length ∧ cmpT (x.drop i) (y.drop i) = r ∧ ∃ q, wr = w.drewN q) (fun s _ => x.length - (intOf s).toNat)
  case atStart => exact ⟨0, rfl, Nat.zero_le _, Nat.zero_le _, HR.out, 0, rfl⟩
  case round =>
    obtain ⟨i, rfl, hix, hiy, hc, q, rfl⟩ := hrel
    have HC : Hid (cmpT (x.drop i) (y.drop i) = r) := hc
    clear hc
    by_cases h1 : i < x.length
    · obtain ⟨bx, ox, rfl, hbx, hnx, hcx⟩ := HX.out (ne_of_lt h1)
      obtain ⟨zx, hzx⟩ := get_lt h1
      have cx1 := hcx i zx hzx
      by_cases h2 : i < y.length
      · obtain ⟨by', oy, rfl, hby, hny, hcy⟩ := HY.out (ne_of_lt h2)
        obtain ⟨zy, hzy⟩ := get_lt h2
        have cy1 := hcy i zy hzy
        have st := cmpT_step hzx hzy
        have ST : Hid (cmpT (x.drop i) (y.drop i) = if zx < zy then -1 else if zy < zx then 1 else cmpT (x.drop (i + 1)) (y.drop (i + 1))) := st
        clear st hcx hcy HX HY hzx hzy
        by_cases c1 : zx = zy
        · subst c1
          go_wp2
          go_quiet (fail)
          go_wp2
          go_roundw
          case rel => exact ⟨i + 1, by go_num, h1, h2, by rw [← HC.out, ST.out]; simp, _, rfl⟩
          case measure => simp [intOf]; omega
        · by_cases c2 : zx < zy
          · have hr1 : r = -1 := by rw [← HC.out, ST.out]; simp [c2]
            subst hr1
            go_wp2
            go_quiet (fail)
            go_wp2
            go_quiet (fail)
            go_wp2
            go_ret
            exact ⟨rfl, dr2 _ _ _ _⟩
          · have hr1 : r = 1 := by rw [← HC.out, ST.out]; simp [c2, show zy < zx by omega]
            subst hr1
            go_wp2
            go_quiet (fail)
            go_wp2
            go_quiet (fail)
            go_wp2
            go_ret
            exact ⟨rfl, dr2 _ _ _ _⟩
      · have hr1 : r = 1 := by
          rw [← HC.out, List.drop_eq_getElem_cons h1, List.drop_eq_nil_of_le (show y.length ≤ i by omega)]; rfl
        subst hr1
        clear hcx HX HY
        go_wp2
        go_ret
        exact ⟨rfl, _, rfl⟩
    · by_cases h2 : i < y.length
      · have hr1 : r = -1 := by
          rw [← HC.out, List.drop_eq_nil_of_le (show x.length ≤ i by omega), List.drop_eq_getElem_cons h2]; rfl
        subst hr1
        have h3 : x.length < y.length := by omega
        clear HX HY
        go_wp2
        go_ret
        exact ⟨rfl, _, rfl⟩
      · have hr1 : r = 0 := by
          rw [← HC.out, List.drop_eq_nil_of_le (show x.length ≤ i by omega), List.drop_eq_nil_of_le (show y.length ≤ i by omega)]; rfl
        subst hr1
        have h3 : ¬ x.length < y.length := by omega
        clear HX HY
        go_wp2
        go_ret
        exact ⟨rfl, _, rfl⟩
end Go.Proofs.YtlndlpjadajelaaGreat

import Derived.Test.YtfofdbcmaokkcaaLst
import Derived.Test.YtfofdbcmaokkcaaMath
namespace Go.Proofs.Ytfofdbcmaokkcaa
open Go.Proofs.Ytfofdbcmaokkcaa.Ds

/-! ### WHICH ROWS ARE LOOKED AT: subsets, coded by the sum of 2, row times -/
namespace Sb
/-- is row i in a subset? -/
def bit (s i : Nat) : Bool := s / 2 ^ i % 2 == 1
/-- how much of p's Down, k times, a subset of k rows has -/
def wgt (u d : Int) : Nat → Nat → Int
  | 0, _ => 1
  | k + 1, s => wgt u d k s * (if bit s k then u else d - u)
def lst (u d : Int) (k : Nat) : List Pt := (List.range (2 ^ k)).map fun (s : Nat) => (([(s : Int)], wgt u d k s) : Pt)

theorem bit_add {s k i : Nat} (h : i < k) : bit (s + 2 ^ k) i = bit s i := by
  unfold bit
  obtain ⟨j, rfl⟩ : ∃ j, k = i + (j + 1) := ⟨k - i - 1, by omega⟩
  rw [Nat.pow_add, Nat.add_mul_div_left _ _ (Nat.two_pow_pos i), Nat.pow_succ, Nat.add_mul_mod_self_right]
theorem bit_top {s k : Nat} (h : s < 2 ^ k) : bit (s + 2 ^ k) k = true := by
  unfold bit
  have e : (s + 2 ^ k) / 2 ^ k = 1 := by
    rw [Nat.add_div_right _ (Nat.two_pow_pos k), Nat.div_eq_of_lt h]
  rw [e]
  rfl
theorem bit_not {s k : Nat} (h : s < 2 ^ k) : bit s k = false := by
  unfold bit
  rw [Nat.div_eq_of_lt h]
  rfl
theorem wgt_add (u d : Int) {s k : Nat} : ∀ {i : Nat}, i ≤ k → wgt u d i (s + 2 ^ k) = wgt u d i s
  | 0, _ => rfl
  | i + 1, h => by
    rw [wgt, wgt, wgt_add u d (show i ≤ k by omega), bit_add (by omega)]
theorem wgt_top (u d : Int) {s k : Nat} (h : s < 2 ^ k) : wgt u d (k + 1) (s + 2 ^ k) = wgt u d k s * u := by
  rw [wgt, wgt_add u d (Nat.le_refl k), bit_top h, if_pos rfl]
theorem wgt_not (u d : Int) {s k : Nat} (h : s < 2 ^ k) : wgt u d (k + 1) s = wgt u d k s * (d - u) := by
  rw [wgt, bit_not h]
  rfl
/-- one row more: those without it, then those with it -/
theorem lst_succ (u d : Int) (k : Nat) : lst u d (k + 1) = (lst u d k).map (fun p => (p.1, p.2 * (d - u))) ++ (List.range (2 ^ k)).map (fun (s : Nat) => (([(s : Int) + 2 ^ k], wgt u d k s * u) : Pt)) := by
  unfold lst
  rw [Nat.pow_succ, show 2 ^ k * 2 = 2 ^ k + 2 ^ k by omega, List.range_add, List.map_append, List.map_map, List.map_map]
  congr 1
  · refine List.map_congr_left fun s hs => ?_
    simp only [Function.comp]
    rw [wgt_not u d (List.mem_range.1 hs)]
  · refine List.map_congr_left fun s hs => ?_
    simp only [Function.comp]
    rw [Nat.add_comm (2 ^ k) s, wgt_top u d (List.mem_range.1 hs), Int.natCast_add, Int.natCast_pow]
    rfl
theorem lst_len (u d : Int) (k : Nat) : (lst u d k).length = 2 ^ k := by simp [lst]
theorem lst_get {u d : Int} {k s : Nat} (h : s < 2 ^ k) : (lst u d k)[s]? = some ([(s : Int)], wgt u d k s) := by
  unfold lst
  rw [List.getElem?_map, List.getElem?_range h]
  rfl

theorem wgt_le {u d : Int} (hu : 0 ≤ u) (h : u ≤ d) (s : Nat) : ∀ k, 0 ≤ wgt u d k s ∧ wgt u d k s ≤ d ^ k
  | 0 => by simp [wgt]
  | k + 1 => by
    obtain ⟨h1, h2⟩ := wgt_le hu h s k
    rw [wgt, Int.pow_succ]
    have hx : 0 ≤ (if bit s k = true then u else d - u) ∧ (if bit s k = true then u else d - u) ≤ d := by split <;> omega
    exact ⟨Int.mul_nonneg h1 hx.1, Int.mul_le_mul h2 hx.2 hx.1 (Int.le_trans h1 h2)⟩
theorem pow_up {d : Int} (h : 1 ≤ d) {i k : Nat} (hi : i ≤ k) : d ^ i ≤ d ^ k := by
  obtain ⟨j, rfl⟩ := Nat.le.dest hi
  rw [Int.pow_add]
  have h1 : 0 ≤ d ^ i := Int.le_of_lt (Int.pow_pos (by omega))
  have h2 : 1 ≤ d ^ j := by
    have := Int.pow_pos (n := d) (m := j) (by omega)
    omega
  calc d ^ i = d ^ i * 1 := (Int.mul_one _).symm
    _ ≤ d ^ i * d ^ j := Int.mul_le_mul_of_nonneg_left h2 h1
theorem two_le {k : Nat} (h : k ≤ 10) : 2 ^ k ≤ 1024 := by
  have := Nat.pow_le_pow_right (show 0 < 2 by decide) h
  omega
/-- no weight is too large -/
theorem wgt_small {u d : Int} {k : Nat} (hu : 0 ≤ u) (h : u ≤ d) (hd : 1 ≤ d) (hm : d ^ k ≤ 1073741824) {i : Nat} (hi : i ≤ k) (s : Nat) : 0 ≤ wgt u d i s ∧ wgt u d i s ≤ 1073741824 := by
  have h1 := wgt_le hu h s i
  have h2 := pow_up hd hi
  omega

/-- what is wrong with a chance -/
def chE (u d : Int) : Int := if Rt.rightB u d then (if d < u then 3 else 0) else 2
/-- Subsets -/
def subT (u d m : Int) : List Pt × Int :=
  if chE u d ≠ 0 then ([], chE u d) else if m < 0 ∨ 10 < m then ([], 5) else if 1073741824 < d ^ m.toNat then ([], 4) else makeT (lst u d m.toNat)
/-- Lost -/
def losT (u d x y : Int) : Int × Int × Int :=
  if chE u d ≠ 0 then (0, 0, chE u d) else
  match Rt.minusT x y 1 1 with
  | (a, b, e) => if e ≠ 0 then (0, 0, e) else
    match Rt.timesT u d a b with
    | (a', b', e') => if e' ≠ 0 then (0, 0, e') else Rt.plusT 1 1 a' b'
theorem ch_ok {u d : Int} (h : chE u d = 0) : Rt.rightB u d = true ∧ 0 ≤ u ∧ u ≤ d ∧ 1 ≤ d ∧ d ≤ 1073741824 := by
  unfold chE at h
  split at h
  · rename_i hr
    split at h
    · simp at h
    · obtain ⟨h1, h2, h3, h4⟩ := Rt.right_bd hr
      exact ⟨hr, by omega, by omega, by omega, by omega⟩
  · simp at h
end Sb
end Go.Proofs.Ytfofdbcmaokkcaa

/-
  THE PLAIN MATHEMATICS OF CHAPTER 12: sums that are masked.
-/
namespace Go.Proofs.Ytgmhhfipniiboaa

def sumZ (f : Nat → Int) : Nat → Int
  | 0 => 0
  | n + 1 => sumZ f n + f n
theorem sumZ_congr {f g : Nat → Int} {n : Nat} (h : ∀ i, i < n → f i = g i) : sumZ f n = sumZ g n := by
  induction n with
  | zero => rfl
  | succ n ih => rw [sumZ, sumZ, ih (fun i hi => h i (by omega)), h n (by omega)]
theorem sumZ_add (f g : Nat → Int) (n : Nat) : sumZ (fun i => f i + g i) n = sumZ f n + sumZ g n := by
  induction n with
  | zero => rfl
  | succ n ih => rw [sumZ, sumZ, sumZ, ih]; omega
theorem sumZ_neg (f : Nat → Int) (n : Nat) : sumZ (fun i => - f i) n = - sumZ f n := by
  induction n with
  | zero => rfl
  | succ n ih => rw [sumZ, sumZ, ih]; omega
theorem sumZ_zero (n : Nat) : sumZ (fun _ => 0) n = 0 := by
  induction n with
  | zero => rfl
  | succ n ih => rw [sumZ, ih]; rfl
theorem sumZ_comm (f : Nat → Nat → Int) (n k : Nat) : sumZ (fun i => sumZ (fun j => f i j) k) n = sumZ (fun j => sumZ (fun i => f i j) n) k := by
  induction n with
  | zero => simp only [sumZ]; rw [sumZ_zero]
  | succ n ih => simp only [sumZ]; rw [ih, sumZ_add]
/-- what is shared with one behind is added, with one ahead taken away -/
def sg (me k : Nat) (x : Int) : Int := if me < k then x else if k < me then -x else 0
def gx (xs : List Int) (i : Nat) : Int := xs.getD i 0
theorem gx_get {xs : List Int} {i : Nat} {x : Int} (h : xs[i]? = some x) : gx xs i = x := by simp [gx, List.getD, h]
/-- what a member's shared numbers with some put into its masked number -/
def cov (me : Nat) (p : Nat → Bool) (xs : List Int) (k : Nat) : Int := sumZ (fun i => if p i then sg me i (gx xs i) else 0) k
theorem cov_succ (me : Nat) (p : Nat → Bool) (xs : List Int) (k : Nat) : cov me p xs (k + 1) = cov me p xs k + (if p k then sg me k (gx xs k) else 0) := rfl
/-- is a number from 0 on below a modulus -/
def inM (m x : Int) : Bool := decide (0 ≤ x ∧ x < m)
/-- is one of those that are looked at not -/
def bad (m : Int) (p : Nat → Bool) (xs : List Int) : Nat → Bool
  | 0 => false
  | k + 1 => bad m p xs k || (p k && !inM m (gx xs k))
theorem bad_mono {m : Int} {p : Nat → Bool} {xs : List Int} {k n : Nat} (h : bad m p xs k = true) (hk : k ≤ n) : bad m p xs n = true := by
  induction n with
  | zero => obtain rfl : k = 0 := by omega
            exact h
  | succ n ih =>
    by_cases e : k = n + 1
    · subst e; exact h
    · rw [bad, ih (by omega)]; rfl
theorem bad_hit {m : Int} {p : Nat → Bool} {xs : List Int} {k n : Nat} (hk : k < n) (hp : p k = true) (hx : inM m (gx xs k) = false) : bad m p xs n = true :=
  bad_mono (k := k + 1) (by simp [bad, hp, hx]) hk
theorem bad_none {m : Int} {p : Nat → Bool} {xs : List Int} {n : Nat} (h : ∀ k, k < n → p k = true → inM m (gx xs k) = true) : bad m p xs n = false := by
  induction n with
  | zero => rfl
  | succ n ih =>
    rw [bad, ih (fun k hk => h k (by omega))]
    cases hp : p n with
    | false => rfl
    | true => rw [h n (by omega) hp]; rfl
theorem bad_at {m : Int} {p : Nat → Bool} {xs : List Int} {k n : Nat} (h : bad m p xs n = false) (hk : k < n) (hp : p k = true) : inM m (gx xs k) = true := by
  cases e : inM m (gx xs k) with
  | true => rfl
  | false => rw [bad_hit hk hp e] at h; cases h
theorem inM_iff {m x : Int} : inM m x = true ↔ 0 ≤ x ∧ x < m := by simp [inM]
theorem inM_mod (m x : Int) (hm : 2 ≤ m) : inM m (x % m) = true := inM_iff.2 ⟨Int.emod_nonneg _ (by omega), Int.emod_lt_of_pos _ (by omega)⟩
/-- what is wrong with a modulus, or with how many there are -/
def tmE (m n : Int) : Int := if m < 2 ∨ 1073741824 < m then 3 else if n < 1 ∨ 16 < n then 5 else 0
theorem tmE_ok {m n : Int} (h : tmE m n = 0) : 2 ≤ m ∧ m ≤ 1073741824 ∧ 1 ≤ n ∧ n ≤ 16 := by
  unfold tmE at h
  split at h
  · cases h
  · split at h
    · cases h
    · omega
abbrev all : Nat → Bool := fun _ => true
/-- Mask -/
def mkE (m me x : Int) (xs : List Int) : Int :=
  if tmE m xs.length = 0 then (if 0 ≤ me ∧ me < xs.length ∧ 0 ≤ x ∧ x < m then (if bad m all xs xs.length then 3 else 0) else 3) else tmE m xs.length
def mkN (m me x : Int) (xs : List Int) : Int := if mkE m me x xs = 0 then (x + cov me.toNat all xs xs.length) % m else 0
def gb (ts : List Bool) (i : Nat) : Bool := ts.getD i false
theorem gb_get {ts : List Bool} {i : Nat} {x : Bool} (h : ts[i]? = some x) : gb ts i = x := by simp [gb, List.getD, h]
def gl (rs : List (List Int)) (i : Nat) : List Int := rs.getD i []
theorem gl_get {rs : List (List Int)} {i : Nat} {x : List Int} (h : rs[i]? = some x) : gl rs i = x := by simp [gl, List.getD, h]
/-- who is not there -/
def away (ts : List Bool) (i : Nat) : Bool := !gb ts i
/-- what is wrong with a member who is there -/
def erI (m : Int) (xs : List Int) (ts : List Bool) (rs : List (List Int)) (i : Nat) : Int :=
  if gb ts i then (if (gl rs i).length = xs.length then (if inM m (gx xs i) then (if bad m (away ts) (gl rs i) xs.length then 3 else 0) else 3) else 8) else 0
/-- of the first member with whom something is wrong -/
def erS (m : Int) (xs : List Int) (ts : List Bool) (rs : List (List Int)) : Nat → Int
  | 0 => 0
  | k + 1 => if erS m xs ts rs k = 0 then erI m xs ts rs k else erS m xs ts rs k
def suI (xs : List Int) (ts : List Bool) (rs : List (List Int)) (i : Nat) : Int := if gb ts i then gx xs i - cov i (away ts) (gl rs i) xs.length else 0
def suS (xs : List Int) (ts : List Bool) (rs : List (List Int)) (k : Nat) : Int := sumZ (suI xs ts rs) k
theorem suS_succ (xs : List Int) (ts : List Bool) (rs : List (List Int)) (k : Nat) : suS xs ts rs (k + 1) = suS xs ts rs k + suI xs ts rs k := rfl
theorem erS_hit {m : Int} {xs : List Int} {ts : List Bool} {rs : List (List Int)} {k n : Nat} {r : Int} (h : erS m xs ts rs k = 0) (hi : erI m xs ts rs k = r) (hr : r ≠ 0) (hk : k < n) : erS m xs ts rs n = r := by
  induction n with
  | zero => omega
  | succ n ih =>
    by_cases e : k = n
    · subst e; rw [erS, if_pos h, hi]
    · rw [erS, ih (by omega), if_neg hr]
theorem erS_next {m : Int} {xs : List Int} {ts : List Bool} {rs : List (List Int)} {k : Nat} (h : erS m xs ts rs k = 0) (hi : erI m xs ts rs k = 0) : erS m xs ts rs (k + 1) = 0 := by rw [erS, if_pos h, hi]
theorem erS_zero {m : Int} {xs : List Int} {ts : List Bool} {rs : List (List Int)} {n : Nat} (h : ∀ i, i < n → erI m xs ts rs i = 0) : erS m xs ts rs n = 0 := by
  induction n with
  | zero => rfl
  | succ n ih => exact erS_next (ih fun i hi => h i (by omega)) (h n (by omega))
/-- Sum -/
def smE (m : Int) (xs : List Int) (ts : List Bool) (rs : List (List Int)) : Int :=
  if tmE m xs.length = 0 then (if ts.length = xs.length ∧ rs.length = xs.length then erS m xs ts rs xs.length else 8) else tmE m xs.length
def smN (m : Int) (xs : List Int) (ts : List Bool) (rs : List (List Int)) : Int := if smE m xs ts rs = 0 then suS xs ts rs xs.length % m else 0
/-! ### reckoning modulo a number -/
theorem md_add (a b m : Int) : (a % m + b) % m = (a + b) % m := Int.emod_add_emod a m b
theorem md_add' (a b m : Int) : (a + b % m) % m = (a + b) % m := Int.add_emod_emod a b m
theorem md_sub (a b m : Int) : (a % m - b) % m = (a - b) % m := by
  have := md_add a (-b) m
  rwa [← Int.sub_eq_add_neg, ← Int.sub_eq_add_neg] at this
theorem md_sub' (a b m : Int) : (a - b % m) % m = (a - b) % m := by
  have h1 : a - b % m = (a - b) + m * (b / m) := by have := Int.emod_add_mul_ediv b m; omega
  rw [h1, Int.add_mul_emod_self_left]
theorem md_self (a m : Int) (h0 : 0 ≤ a) (h1 : a < m) : a % m = a := Int.emod_eq_of_lt h0 h1
theorem md_m (a m : Int) : (a + m) % m = a % m := Int.add_emod_right a m
theorem md_tm (a m : Int) (h0 : 0 ≤ a) : a.tmod m = a % m := Int.tmod_eq_emod_of_nonneg h0
theorem md_mod (n m : Int) (hm : 2 ≤ m) : (n.tmod m + m).tmod m = n % m := by
  have h1 : n.tmod m + m ≥ 0 := by have := Int.lt_tmod_of_pos n (show 0 < m by omega); omega
  rw [md_tm _ _ h1, md_m]
  rw [Int.tmod_def]
  exact Int.sub_mul_emod_self_left n m _
end Go.Proofs.Ytgmhhfipniiboaa

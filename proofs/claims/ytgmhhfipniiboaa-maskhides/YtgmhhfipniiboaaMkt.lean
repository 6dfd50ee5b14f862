/-
  WHOEVER STAYS AWAY, THE SUM OF ALL OTHERS IS RIGHT; NOTHING BUT THE SUM IS SEEN: the mathematics.
-/
import Derived.Test.YtgmhhfipniiboaaMkm
namespace Go.Proofs.Ytgmhhfipniiboaa

theorem sumZ_mod {f g : Nat → Int} {m : Int} {n : Nat} (h : ∀ i, i < n → f i % m = g i % m) : sumZ f n % m = sumZ g n % m := by
  induction n with
  | zero => rfl
  | succ n ih => rw [sumZ, sumZ, Int.add_emod, ih (fun i hi => h i (by omega)), h n (by omega), ← Int.add_emod]
theorem sg_anti (i k : Nat) (x : Int) : sg i k x = - sg k i x := by
  unfold sg
  by_cases h1 : i < k
  · rw [if_pos h1, if_neg (by omega), if_pos h1]; omega
  · rw [if_neg h1]
    by_cases h2 : k < i
    · rw [if_pos h2, if_pos h2]
    · rw [if_neg h2, if_neg h2, if_neg h1]; rfl
theorem anti_zero (a : Nat → Nat → Int) (n : Nat) (h : ∀ i k, a i k = - a k i) : sumZ (fun i => sumZ (a i) n) n = 0 := by
  have h1 : sumZ (fun i => sumZ (a i) n) n = sumZ (fun k => sumZ (fun i => a i k) n) n := sumZ_comm a n n
  have h2 : sumZ (fun k => sumZ (fun i => a i k) n) n = - sumZ (fun i => sumZ (a i) n) n := by
    rw [← sumZ_neg]
    refine sumZ_congr fun k _ => ?_
    rw [← sumZ_neg]
    exact sumZ_congr fun i _ => h i k
  omega
def rowF (n : Nat) (f : Nat → Int) : List Int := (List.range n).map f
theorem rowF_len (n : Nat) (f : Nat → Int) : (rowF n f).length = n := by simp [rowF]
theorem rowF_get {n : Nat} {f : Nat → Int} {i : Nat} (h : i < n) : gx (rowF n f) i = f i := by simp [gx, rowF, List.getD, h]
def mat (n : Nat) (sh : Nat → Nat → Int) : List (List Int) := (List.range n).map fun i => rowF n (sh i)
theorem mat_len (n : Nat) (sh : Nat → Nat → Int) : (mat n sh).length = n := by simp [mat]
theorem mat_get {n : Nat} {sh : Nat → Nat → Int} {i : Nat} (h : i < n) : gl (mat n sh) i = rowF n (sh i) := by simp [gl, mat, List.getD, h]
/-- all masked numbers -/
def msk (m : Int) (n : Nat) (xs : List Int) (sh : Nat → Nat → Int) (i : Nat) : Int := (gx xs i % m + cov i all (rowF n (sh i)) n) % m
/-- what the sum should be -/
def wa (m : Int) (xs : List Int) (ts : List Bool) (k : Nat) : Int := sumZ (fun i => if gb ts i then gx xs i % m else 0) k
theorem cov_two (i n : Nat) (ts : List Bool) (f : Nat → Int) : cov i all (rowF n f) n - cov i (away ts) (rowF n f) n = sumZ (fun k => if gb ts k then sg i k (f k) else 0) n := by
  have h : cov i all (rowF n f) n = sumZ (fun k => if gb ts k then sg i k (f k) else 0) n + cov i (away ts) (rowF n f) n := by
    rw [cov, cov, ← sumZ_add]
    refine sumZ_congr fun k hk => ?_
    rw [rowF_get hk, away]
    cases gb ts k with
    | true => simp [all]
    | false => simp [all]
  omega
theorem mask_in {m : Int} {n : Nat} {xs : List Int} {sh : Nat → Nat → Int} (hm : 2 ≤ m) (hm2 : m ≤ 1073741824) (hn : 1 ≤ n) (hn2 : n ≤ 16) (hin : ∀ i k, i < n → k < n → 0 ≤ sh i k ∧ sh i k < m) {i : Nat} (hi : i < n) {x : Int} (hx : gx xs i = x) :
    mkE m i (x % m) (rowF n (sh i)) = 0 ∧ mkN m i (x % m) (rowF n (sh i)) = msk m n xs sh i := by
  have ht : tmE m (n : Int) = 0 := by rw [tmE, if_neg (by omega), if_neg (by omega)]
  have hb : bad m all (rowF n (sh i)) n = false := bad_none fun k hk _ => by rw [rowF_get hk]; exact inM_iff.2 (hin i k hi hk)
  have hE : mkE m i (x % m) (rowF n (sh i)) = 0 := by
    rw [mkE, rowF_len, if_pos ht, if_pos ⟨by omega, by omega, Int.emod_nonneg _ (by omega), Int.emod_lt_of_pos _ (by omega)⟩, hb]
    rfl
  refine ⟨hE, ?_⟩
  rw [mkN, if_pos hE, rowF_len, msk, hx]
  simp
/-- WHOEVER STAYS AWAY, THE SUM OF ALL OTHERS IS RIGHT -/
theorem sums_main {m : Int} {n : Nat} {xs : List Int} {ts : List Bool} {sh : Nat → Nat → Int} (hm : 2 ≤ m) (hm2 : m ≤ 1073741824) (hn : 1 ≤ n) (hn2 : n ≤ 16) (ht : ts.length = n)
    (hin : ∀ i k, i < n → k < n → 0 ≤ sh i k ∧ sh i k < m) (hsy : ∀ i k, sh i k = sh k i) :
    smE m (rowF n (msk m n xs sh)) ts (mat n sh) = 0 ∧ smN m (rowF n (msk m n xs sh)) ts (mat n sh) = wa m xs ts n % m := by
  have htm : tmE m (n : Int) = 0 := by rw [tmE, if_neg (by omega), if_neg (by omega)]
  have hE : smE m (rowF n (msk m n xs sh)) ts (mat n sh) = 0 := by
    rw [smE, rowF_len, if_pos htm, if_pos ⟨ht, mat_len n sh⟩]
    refine erS_zero fun i hi => ?_
    rw [erI, mat_get hi, rowF_len, rowF_len, rowF_get hi]
    cases gb ts i with
    | false => rfl
    | true =>
      have h1 : inM m (msk m n xs sh i) = true := inM_mod m _ hm
      have hb : bad m (away ts) (rowF n (sh i)) n = false := bad_none fun k hk _ => by rw [rowF_get hk]; exact inM_iff.2 (hin i k hi hk)
      simp [h1, hb]
  refine ⟨hE, ?_⟩
  rw [smN, if_pos hE, rowF_len, suS]
  have h1 : sumZ (suI (rowF n (msk m n xs sh)) ts (mat n sh)) n % m = sumZ (fun i => (if gb ts i then gx xs i % m else 0) + (if gb ts i then sumZ (fun k => if gb ts k then sg i k (sh i k) else 0) n else 0)) n % m := by
    refine sumZ_mod fun i hi => ?_
    rw [suI, mat_get hi, rowF_len, rowF_get hi]
    cases gb ts i with
    | false => rfl
    | true =>
      simp only [if_true]
      rw [msk, md_sub, ← cov_two]
      congr 1; omega
  rw [h1, sumZ_add]
  have h2 : sumZ (fun i => if gb ts i then sumZ (fun k => if gb ts k then sg i k (sh i k) else 0) n else 0) n = 0 := by
    have h3 := anti_zero (fun i k => if gb ts i then (if gb ts k then sg i k (sh i k) else 0) else 0) n (fun i k => by
      show (if gb ts i then (if gb ts k then sg i k (sh i k) else 0) else 0) = -(if gb ts k then (if gb ts i then sg k i (sh k i) else 0) else 0)
      rw [hsy k i, sg_anti i k]
      cases gb ts i <;> cases gb ts k <;> simp)
    refine Eq.trans ?_ h3
    refine sumZ_congr fun i _ => ?_
    cases gb ts i with
    | false => simp [sumZ_zero]
    | true => rfl
  rw [h2, Int.add_zero, wa]
/-! ### which pair is which -/
/-- how many pairs stand ahead of a member's -/
def rst (n : Nat) : Nat → Nat
  | 0 => 0
  | i + 1 => rst n i + (n - 1 - i)
def pos (n i k : Nat) : Nat := rst n i + (k - i - 1)
/-- the number that a pair shares -/
def prs (m : Int) (ps : List Int) (j : Nat) : Int := if j < ps.length then gx ps j % m else 0
def shr (m : Int) (n : Nat) (ps : List Int) (i k : Nat) : Int := if i < k then prs m ps (pos n i k) else if k < i then prs m ps (pos n k i) else 0
theorem shr_sym (m : Int) (n : Nat) (ps : List Int) (i k : Nat) : shr m n ps i k = shr m n ps k i := by
  unfold shr
  by_cases h1 : i < k
  · rw [if_pos h1, if_neg (by omega), if_pos h1]
  · rw [if_neg h1]
    by_cases h2 : k < i
    · rw [if_pos h2, if_pos h2]
    · rw [if_neg h2, if_neg h2, if_neg h1]
theorem prs_in (m : Int) (hm : 2 ≤ m) (ps : List Int) (j : Nat) : 0 ≤ prs m ps j ∧ prs m ps j < m := by
  unfold prs
  split
  · exact ⟨Int.emod_nonneg _ (by omega), Int.emod_lt_of_pos _ (by omega)⟩
  · omega
theorem shr_in (m : Int) (hm : 2 ≤ m) (n : Nat) (ps : List Int) (i k : Nat) : 0 ≤ shr m n ps i k ∧ shr m n ps i k < m := by
  unfold shr
  split
  · exact prs_in m hm ps _
  · split
    · exact prs_in m hm ps _
    · omega
/-- what stands there when the pairs ahead of (i, k) are written -/
def stF (sh : Nat → Nat → Int) (i k a b : Nat) : Int := if (a < b ∧ (a < i ∨ (a = i ∧ b < k))) ∨ (b < a ∧ (b < i ∨ (b = i ∧ a < k))) then sh a b else 0
/-! ### three members -/
theorem sumZ_shift (f : Nat → Int) (k : Nat) : sumZ (fun x => f (x + 1)) k + f 0 = sumZ f (k + 1) := by
  induction k with
  | zero => simp [sumZ]
  | succ k ih =>
    rw [sumZ, sumZ, ← ih]
    omega
theorem rot1 (f : Nat → Int) (m : Nat) : sumZ (fun x => f ((x + 1) % m)) m = sumZ f m := by
  cases m with
  | zero => rfl
  | succ k =>
    rw [← sumZ_shift f k, sumZ, Nat.mod_self]
    congr 1
    exact sumZ_congr fun i hi => by rw [Nat.mod_eq_of_lt (by omega)]
theorem rot (f : Nat → Int) (m d : Nat) : sumZ (fun x => f ((x + d) % m)) m = sumZ f m := by
  induction d with
  | zero => exact sumZ_congr fun i hi => by rw [Nat.add_zero, Nat.mod_eq_of_lt hi]
  | succ d ih =>
    rw [← ih, ← rot1 (fun x => f ((x + d) % m)) m]
    refine sumZ_congr fun i _ => ?_
    show f ((i + (d + 1)) % m) = f (((i + 1) % m + d) % m)
    rw [Nat.mod_add_mod]
    congr 2; omega
theorem sumZ_app (f : Nat → Int) (a b : Nat) : sumZ f (a + b) = sumZ f a + sumZ (fun i => f (a + i)) b := by
  induction b with
  | zero => simp [sumZ]
  | succ b ih => rw [← Nat.add_assoc, sumZ, sumZ, ih]; omega
theorem sumZ_split (f : Nat → Int) (a b : Nat) : sumZ f (a * b) = sumZ (fun j => sumZ (fun i => f (a * j + i)) a) b := by
  induction b with
  | zero => rfl
  | succ b ih => rw [Nat.mul_succ, sumZ_app, sumZ, ih]
/-- is it seen just so, of three numbers behind what three pairs share -/
def see (m : Int) (u v w c0 c1 c2 : Int) (x y z : Nat) : Bool := decide ((u + (x + y)) % m = c0 ∧ (v + (-x + z)) % m = c1 ∧ (w + (-y - z)) % m = c2)
theorem see_shift (m : Nat) (hm : 0 < m) (u v w u' v' w' c0 c1 c2 : Int) (h : (u + v + w) % (m : Int) = (u' + v' + w') % (m : Int)) :
    ∃ d e : Nat, ∀ x y z, see m u v w c0 c1 c2 x y z = see m u' v' w' c0 c1 c2 ((x + d) % m) ((y + e) % m) z := by
  refine ⟨((v' - v) % (m : Int)).toNat, ((w' - w) % (m : Int)).toNat, fun x y z => ?_⟩
  have hd : (((v' - v) % (m : Int)).toNat : Int) = (v' - v) % (m : Int) := Int.toNat_of_nonneg (Int.emod_nonneg _ (by omega))
  have he : (((w' - w) % (m : Int)).toNat : Int) = (w' - w) % (m : Int) := Int.toNat_of_nonneg (Int.emod_nonneg _ (by omega))
  generalize ((v' - v) % (m : Int)).toNat = d at hd ⊢
  generalize ((w' - w) % (m : Int)).toNat = e at he ⊢
  have q1 := Int.emod_add_mul_ediv (v' - v) (m : Int)
  have q2 := Int.emod_add_mul_ediv (w' - w) (m : Int)
  have q3 := Int.emod_add_mul_ediv (((x + d : Nat) : Int)) (m : Int)
  have q4 := Int.emod_add_mul_ediv (((y + e : Nat) : Int)) (m : Int)
  have q5 := Int.emod_add_mul_ediv (u + v + w) (m : Int)
  have q6 := Int.emod_add_mul_ediv (u' + v' + w') (m : Int)
  have e3 : (((x + d) % m : Nat) : Int) = ((x + d : Nat) : Int) % (m : Int) := Int.natCast_emod _ _
  have e4 : (((y + e) % m : Nat) : Int) = ((y + e : Nat) : Int) % (m : Int) := Int.natCast_emod _ _
  rw [← hd] at q1
  rw [← he] at q2
  rw [← e3] at q3
  rw [← e4] at q4
  rw [h] at q5
  generalize ((x + d) % m : Nat) = X at q3 ⊢
  generalize ((y + e) % m : Nat) = Y at q4 ⊢
  generalize (v' - v) / (m : Int) = k1 at q1
  generalize (w' - w) / (m : Int) = k2 at q2
  generalize ((x + d : Nat) : Int) / (m : Int) = k3 at q3
  generalize ((y + e : Nat) : Int) / (m : Int) = k4 at q4
  generalize (u + v + w) / (m : Int) = k5 at q5
  generalize (u' + v' + w') / (m : Int) = k6 at q6
  generalize (u' + v' + w') % (m : Int) = k7 at q5 q6
  have a1 : (v' + (-(X : Int) + z)) = (v + (-(x : Int) + z)) + (m : Int) * (k1 + k3) := by rw [Int.mul_add]; push_cast at q3; omega
  have a2 : (w' + (-(Y : Int) - z)) = (w + (-(y : Int) - z)) + (m : Int) * (k2 + k4) := by rw [Int.mul_add]; push_cast at q4; omega
  have a0 : (u' + ((X : Int) + Y)) = (u + ((x : Int) + y)) + (m : Int) * (k6 - k5 - k1 - k2 - k3 - k4) := by
    rw [Int.mul_sub, Int.mul_sub, Int.mul_sub, Int.mul_sub, Int.mul_sub]; push_cast at q3 q4; omega
  unfold see
  rw [a0, a1, a2, Int.add_mul_emod_self_left, Int.add_mul_emod_self_left, Int.add_mul_emod_self_left]
/-- in how many ways is it seen just so -/
def ways (m : Nat) (u v w c0 c1 c2 : Int) (n : Nat) : Int := sumZ (fun j => if see m u v w c0 c1 c2 (j % m) (j / m % m) (j / m / m) then 1 else 0) n
/-- NOTHING BUT THE SUM IS SEEN -/
theorem hides_main (m : Nat) (hm : 0 < m) (u v w u' v' w' c0 c1 c2 : Int) (h : (u + v + w) % (m : Int) = (u' + v' + w') % (m : Int)) : ways m u v w c0 c1 c2 (m * m * m) = ways m u' v' w' c0 c1 c2 (m * m * m) := by
  have key : ∀ (f : Nat → Nat → Nat → Int), sumZ (fun j => f (j % m) (j / m % m) (j / m / m)) (m * m * m) = sumZ (fun z => sumZ (fun y => sumZ (fun x => f x y z) m) m) m := by
    intro f
    rw [Nat.mul_assoc, sumZ_split _ m (m * m), sumZ_split _ m m]
    refine sumZ_congr fun z hz => sumZ_congr fun y hy => sumZ_congr fun x hx => ?_
    have e1 : (m * (m * z + y) + x) % m = x := by rw [Nat.mul_add_mod, Nat.mod_eq_of_lt hx]
    have e2 : (m * (m * z + y) + x) / m = m * z + y := by rw [Nat.mul_add_div hm, Nat.div_eq_of_lt hx, Nat.add_zero]
    have e3 : (m * z + y) % m = y := by rw [Nat.mul_add_mod, Nat.mod_eq_of_lt hy]
    have e4 : (m * z + y) / m = z := by rw [Nat.mul_add_div hm, Nat.div_eq_of_lt hy, Nat.add_zero]
    rw [e1, e2, e3, e4]
  obtain ⟨d, e, hde⟩ := see_shift m hm u v w u' v' w' c0 c1 c2 h
  rw [ways, ways, key (fun x y z => if see m u v w c0 c1 c2 x y z then 1 else 0), key (fun x y z => if see m u' v' w' c0 c1 c2 x y z then 1 else 0)]
  refine sumZ_congr fun z _ => ?_
  rw [← rot (fun y => sumZ (fun x => if see m u' v' w' c0 c1 c2 x y z then 1 else 0) m) m e]
  refine sumZ_congr fun y _ => ?_
  rw [← rot (fun x => if see m u' v' w' c0 c1 c2 x ((y + e) % m) z then 1 else 0) m d]
  exact sumZ_congr fun x _ => by rw [hde]
end Go.Proofs.Ytgmhhfipniiboaa

import Derived.Test.YtjnclbhpdaonhaaLst
namespace Go.Proofs.Ytjnclbhpdaonhaa.Ds

/-! ### draws, one behind the other -/

/-- a drawer: the next draw of some bits: what, how many bits, what is left -/
abbrev Nx := List Int → Option (List Int × Int × List Int)

/-- draws till there are enough of them, or the bits end -/
def drT (nx : Nx) : Nat → List Int → List Pt
  | 0, _ => []
  | t + 1, l => match nx l with
    | none => []
    | some (o, u, r) => (o, u) :: drT nx t r

theorem drT_none {nx : Nx} {t : Nat} {l : List Int} (h : nx l = none) : drT nx t l = [] := by
  cases t with
  | zero => rfl
  | succ t => simp [drT, h]
theorem drT_some {nx : Nx} {t : Nat} {l r : List Int} {o : List Int} {u : Int} (h : nx l = some (o, u, r)) : drT nx (t + 1) l = (o, u) :: drT nx t r := by
  simp [drT, h]

/-! ### even draws -/

def evT (n : Int) : Int → Int → Int → List Int → Option (Int × Int × List Int)
  | _, _, _, [] => none
  | v, c, u, b :: l => if 2 * v < n then evT n (2 * v) (2 * c + b) (u + 1) l else if n ≤ 2 * c + b then evT n (2 * v - n) (2 * c + b - n) (u + 1) l else some (2 * c + b, u + 1, l)

/-- an even draw -/
def evN (n : Int) : Nx := fun l => if n = 1 then some ([0], 0, l) else match evT n 1 0 0 l with
  | none => none
  | some (x, u, r) => some ([x], u, r)

/-- neither 0 nor 1 -/
def badB (l : List Int) : Bool := l.any fun b => decide (b ≠ 0 ∧ b ≠ 1)

/-- what is wrong with bits and times -/
def wrB (bits : List Int) (times : Int) : Int := if 65536 < bits.length then 5 else if times < 0 ∨ 4096 < times ∨ badB bits = true then 3 else 0

def evensT (n : Int) (bits : List Int) (times : Int) : List Pt × Int :=
  if n < 1 ∨ 1073741824 < n then ([], 3) else if wrB bits times = 0 then (drT (evN n) times.toNat bits, 0) else ([], wrB bits times)

/-! ### sums -/

def su (f : Nat → Nat) : Nat → Nat
  | 0 => 0
  | k + 1 => su f k + f k

theorem su_congr {f g : Nat → Nat} {k : Nat} (h : ∀ i, i < k → f i = g i) : su f k = su g k := by
  induction k with
  | zero => rfl
  | succ k ih => simp only [su]; rw [ih fun i hi => h i (by omega), h k (by omega)]
theorem su_add (f g : Nat → Nat) (k : Nat) : su (fun i => f i + g i) k = su f k + su g k := by
  induction k with
  | zero => rfl
  | succ k ih => simp only [su]; rw [ih]; omega
theorem su_zero (k : Nat) : su (fun _ => 0) k = 0 := by
  induction k with
  | zero => rfl
  | succ k ih => simp only [su]; rw [ih]
theorem su_two (f : Nat → Nat) (k : Nat) : su f (2 * k) = su (fun i => f (2 * i) + f (2 * i + 1)) k := by
  induction k with
  | zero => rfl
  | succ k ih => rw [show 2 * (k + 1) = 2 * k + 1 + 1 by omega]; simp only [su]; rw [ih]; omega
theorem su_split (f : Nat → Nat) (a b : Nat) : su f (a + b) = su f a + su (fun i => f (a + i)) b := by
  induction b with
  | zero => rfl
  | succ b ih => rw [← Nat.add_assoc]; simp only [su]; rw [ih]; omega
/-- just one of them -/
theorem su_one (a : Nat) (x k : Nat) (h : x < k) : su (fun i => if i = x then a else 0) k = a := by
  induction k with
  | zero => omega
  | succ k ih =>
    simp only [su]
    by_cases e : k = x
    · subst e
      rw [su_congr (g := fun _ => 0) fun i hi => if_neg (by omega), su_zero]; simp
    · rw [ih (by omega), if_neg e]; rfl
theorem su_le (f g : Nat → Nat) (k : Nat) (h : ∀ i, i < k → f i ≤ g i) : su f k ≤ su g k := by
  induction k with
  | zero => exact Nat.le_refl _
  | succ k ih => simp only [su]; have := ih fun i hi => h i (by omega); have := h k (by omega); omega
theorem su_const (a k : Nat) : su (fun _ => a) k = k * a := by
  induction k with
  | zero => simp [su]
  | succ k ih => simp only [su]; rw [ih, Nat.succ_mul]

/-- all bits that there may be -/
def sm (f : List Int → Nat) : Nat → Nat
  | 0 => f []
  | L + 1 => sm (fun l => f (0 :: l)) L + sm (fun l => f (1 :: l)) L

theorem sm_congr {f g : List Int → Nat} {L : Nat} (h : ∀ l, f l = g l) : sm f L = sm g L := by rw [show f = g from funext h]
theorem sm_add (f g : List Int → Nat) (L : Nat) : sm (fun l => f l + g l) L = sm f L + sm g L := by
  induction L generalizing f g with
  | zero => rfl
  | succ L ih => simp only [sm]; rw [ih, ih]; omega
theorem sm_const (a L : Nat) : sm (fun _ => a) L = a * 2 ^ L := by
  induction L with
  | zero => simp [sm]
  | succ L ih => simp only [sm]; rw [ih, Nat.pow_succ, ← Nat.mul_assoc]; omega
theorem sm_snoc (f : List Int → Nat) (L : Nat) : sm (fun l => f (l ++ [0]) + f (l ++ [1])) L = sm f (L + 1) := by
  induction L generalizing f with
  | zero => rfl
  | succ L ih =>
    have h1 := ih (fun l => f (0 :: l))
    have h2 := ih (fun l => f (1 :: l))
    rw [sm, show sm f (L + 1 + 1) = sm (fun l => f (0 :: l)) (L + 1) + sm (fun l => f (1 :: l)) (L + 1) from rfl, ← h1, ← h2]
    rfl

/-- the bits of a number, the highest first -/
def dg (j : Nat) : Nat → List Int
  | 0 => []
  | L + 1 => dg (j / 2) L ++ [((j % 2 : Nat) : Int)]
theorem dg_len (j L : Nat) : (dg j L).length = L := by
  induction L generalizing j with
  | zero => rfl
  | succ L ih => simp [dg, ih]
theorem dg_bits (j L : Nat) : badB (dg j L) = false := by
  induction L generalizing j with
  | zero => rfl
  | succ L ih =>
    have h := ih (j / 2)
    simp only [badB, dg, List.any_append] at *
    rw [h]
    simp
    omega
theorem su_dg (f : List Int → Nat) (L : Nat) : su (fun j => f (dg j L)) (2 ^ L) = sm f L := by
  induction L generalizing f with
  | zero => simp [su, sm, dg]
  | succ L ih =>
    rw [Nat.pow_succ, Nat.mul_comm, su_two, ← sm_snoc, ← ih]
    refine su_congr fun i _ => ?_
    simp only [dg]
    rw [show 2 * i / 2 = i by omega, show (2 * i + 1) / 2 = i by omega, show 2 * i % 2 = 0 by omega, show (2 * i + 1) % 2 = 1 by omega]
    rfl

theorem su_sm (f : Nat → List Int → Nat) (k L : Nat) : su (fun i => sm (f i) L) k = sm (fun l => su (fun i => f i l) k) L := by
  induction k with
  | zero => simp only [su]; rw [sm_const, Nat.zero_mul]
  | succ k ih => simp only [su]; rw [ih, ← sm_add]

/-! ### Lumbroso -/

/-- the number with which it ends -/
def evG (n : Int) : Int → Int → List Int → Option Int
  | _, _, [] => none
  | v, c, b :: l => if 2 * v < n then evG n (2 * v) (2 * c + b) l else if n ≤ 2 * c + b then evG n (2 * v - n) (2 * c + b - n) l else some (2 * c + b)
theorem evG_is (n v c u : Int) (l : List Int) : (evT n v c u l).map (·.1) = evG n v c l := by
  induction l generalizing v c u with
  | nil => rfl
  | cons b l ih =>
    simp only [evT, evG]
    split
    · exact ih _ _ _
    · split
      · exact ih _ _ _
      · rfl

/-- how many ways end in each number .. -/
def evQ (n : Nat) : Nat → Nat → Nat
  | _, 0 => 0
  | v, L + 1 => if 2 * v < n then evQ n (2 * v) L else 2 ^ L + evQ n (2 * v - n) L
/-- .. and in none -/
def evR (n : Nat) : Nat → Nat → Nat
  | v, 0 => v
  | v, L + 1 => if 2 * v < n then evR n (2 * v) L else evR n (2 * v - n) L

theorem evQR (n : Nat) (v L : Nat) (h : v < n) : n * evQ n v L + evR n v L = v * 2 ^ L ∧ evR n v L < n := by
  induction L generalizing v with
  | zero => simp [evQ, evR, h]
  | succ L ih =>
    simp only [evQ, evR]
    by_cases c : 2 * v < n
    · rw [if_pos c, if_pos c]
      obtain ⟨h1, h2⟩ := ih (2 * v) c
      refine ⟨?_, h2⟩
      rw [h1, Nat.pow_succ, Nat.mul_comm 2 v, Nat.mul_assoc, Nat.mul_comm 2]
    · rw [if_neg c, if_neg c]
      obtain ⟨h1, h2⟩ := ih (2 * v - n) (by omega)
      refine ⟨?_, h2⟩
      have e : (2 * v - n) * 2 ^ L + n * 2 ^ L = 2 * v * 2 ^ L := by rw [← Nat.add_mul, Nat.sub_add_cancel (by omega)]
      rw [Nat.mul_add, Nat.add_assoc, h1, Nat.pow_succ, Nat.add_comm, e, Nat.mul_comm 2 v, Nat.mul_assoc, Nat.mul_comm 2]

/-- of all v that it may have come to -/
theorem ev_step (n v : Nat) (f : Option Int → Nat) (L : Nat) :
    su (fun c => sm (fun l => f (evG n v c l)) (L + 1)) v =
      if 2 * v < n then su (fun c => sm (fun l => f (evG n (2 * v : Nat) c l)) L) (2 * v) else su (fun c => f (some c) * 2 ^ L) n + su (fun c => sm (fun l => f (evG n (2 * v - n : Nat) c l)) L) (2 * v - n) := by
  have e0 : ∀ c : Nat, sm (fun l => f (evG n v c l)) (L + 1) = sm (fun l => f (evG n v c (0 :: l))) L + sm (fun l => f (evG n v c (1 :: l))) L := fun c => rfl
  have e1 : su (fun c => sm (fun l => f (evG n v c l)) (L + 1)) v = su (fun d => sm (fun l => f (if 2 * (v : Int) < n then evG n (2 * v) d l else if (n : Int) ≤ d then evG n (2 * v - n) (d - n) l else some d)) L) (2 * v) := by
    rw [su_two]
    refine su_congr fun c _ => ?_
    rw [e0]
    simp only [evG]
    rw [show ((2 * c : Nat) : Int) = 2 * (c : Int) + 0 by omega, show ((2 * c + 1 : Nat) : Int) = 2 * (c : Int) + 1 by omega]
  rw [e1]
  by_cases c : 2 * v < n
  · rw [if_pos c]
    refine su_congr fun d _ => ?_
    simp only [if_pos (by omega : 2 * (v : Int) < n)]
    rfl
  · rw [if_neg c]
    have hs : 2 * v = n + (2 * v - n) := by omega
    rw [show su (fun d : Nat => sm (fun l => f (if 2 * (v : Int) < n then evG n (2 * v) d l else if (n : Int) ≤ d then evG n (2 * v - n) (d - n) l else some (d : Int))) L) (2 * v) = su (fun d : Nat => sm (fun l => f (if 2 * (v : Int) < n then evG n (2 * v) d l else if (n : Int) ≤ d then evG n (2 * v - n) (d - n) l else some (d : Int))) L) (n + (2 * v - n)) by rw [← hs], su_split]
    congr 1
    · refine su_congr fun d hd => ?_
      simp only [if_neg (show ¬ 2 * (v : Int) < n by omega), if_neg (show ¬ (n : Int) ≤ d by omega)]
      rw [sm_const]
    · refine su_congr fun d hd => ?_
      simp only [if_neg (show ¬ 2 * (v : Int) < n by omega), if_pos (show (n : Int) ≤ (n + d : Nat) by omega)]
      rw [show ((n + d : Nat) : Int) - n = d by omega, show (2 * (v : Int) - n) = ((2 * v - n : Nat) : Int) by omega]

theorem ev_count (n : Nat) (x : Nat) (hx : x < n) (L v : Nat) (hv : v < n) : su (fun c => sm (fun l => if evG n v c l = some (x : Int) then 1 else 0) L) v = evQ n v L := by
  induction L generalizing v with
  | zero => simp only [sm, evG, evQ]; simp [su_zero]
  | succ L ih =>
    have := ev_step n v (fun o => if o = some (x : Int) then 1 else 0) L
    rw [this, evQ]
    split
    · exact ih _ (by omega)
    · rw [ih _ (by omega)]
      congr 1
      rw [su_congr (g := fun i => if i = x then 2 ^ L else 0), su_one _ _ _ hx]
      intro i _
      by_cases e : i = x
      · simp [e]
      · rw [if_neg (by simp; omega), if_neg e, Nat.zero_mul]

theorem ev_left (n : Nat) (L v : Nat) (hv : v < n) : su (fun c => sm (fun l => if evG n v c l = none then 1 else 0) L) v = evR n v L := by
  induction L generalizing v with
  | zero => simp only [sm, evG, evR]; simp [su_const]
  | succ L ih =>
    have := ev_step n v (fun o => if o = none then 1 else 0) L
    rw [this, evR]
    split
    · exact ih _ (by omega)
    · rw [ih _ (by omega)]
      simp [su_zero]

/-- the number with which an even draw ends -/
def evE (n : Int) (l : List Int) : Option Int := if n = 1 then some 0 else evG n 1 0 l

/-- LUMBROSO: of all ways just as many end in each number .. -/
theorem even_fair (n L x : Nat) (h1 : 1 ≤ n) (hx : x < n) : su (fun j => if evE n (dg j L) = some (x : Int) then 1 else 0) (2 ^ L) = 2 ^ L / n := by
  rw [su_dg (fun l => if evE n l = some (x : Int) then 1 else 0) L]
  by_cases e : n = 1
  · subst e
    obtain rfl : x = 0 := by omega
    simp [evE, sm_const]
  · have h := ev_count n x hx L 1 (by omega)
    have hq := evQR n 1 L (by omega)
    simp only [su, Nat.zero_add] at h
    have e2 : sm (fun l => if evE n l = some (x : Int) then 1 else 0) L = evQ n 1 L := by
      rw [← h]
      refine sm_congr fun l => ?_
      unfold evE
      rw [if_neg (show ¬ (n : Int) = 1 by omega)]
      rfl
    rw [e2]
    rw [Nat.one_mul] at hq
    rw [← hq.1, Nat.mul_add_div (by omega), Nat.div_eq_of_lt hq.2, Nat.add_zero]

/-- .. and fewer than n do not end -/
theorem even_ends (n L : Nat) (h1 : 1 ≤ n) : 2 ^ L - su (fun j => if (evE n (dg j L)).isSome then 1 else 0) (2 ^ L) < n ∧ su (fun j => if (evE n (dg j L)).isSome then 1 else 0) (2 ^ L) ≤ 2 ^ L := by
  have hle : su (fun j => if (evE n (dg j L)).isSome then 1 else 0) (2 ^ L) ≤ 2 ^ L := by
    have := su_le (fun j => if (evE n (dg j L)).isSome then 1 else 0) (fun _ => 1) (2 ^ L) fun i _ => by split <;> omega
    rwa [su_const, Nat.mul_one] at this
  refine ⟨?_, hle⟩
  have hs : su (fun j => if (evE n (dg j L)).isSome then 1 else 0) (2 ^ L) + su (fun j => if evE n (dg j L) = none then 1 else 0) (2 ^ L) = 2 ^ L := by
    rw [← su_add, su_congr (g := fun _ => 1), su_const, Nat.mul_one]
    intro i _
    cases evE n (dg i L) <;> simp
  have h2 : su (fun j => if evE n (dg j L) = none then 1 else 0) (2 ^ L) < n := by
    rw [su_dg (fun l => if evE n l = none then 1 else 0) L]
    by_cases e : n = 1
    · subst e
      simp [evE, sm_const]
    · have h := ev_left n L 1 (by omega)
      have hq := evQR n 1 L (by omega)
      simp only [su, Nat.zero_add] at h
      have e2 : sm (fun l => if evE n l = none then 1 else 0) L = evR n 1 L := by
        rw [← h]
        refine sm_congr fun l => ?_
        unfold evE
        rw [if_neg (show ¬ (n : Int) = 1 by omega)]
        rfl
      rw [e2]
      exact hq.2
  omega
end Go.Proofs.Ytjnclbhpdaonhaa.Ds

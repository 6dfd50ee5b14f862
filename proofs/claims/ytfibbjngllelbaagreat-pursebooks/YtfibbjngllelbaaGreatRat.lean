import Derived.Test.YtfibbjngllelbaaGreatMath
/-
  CHAPTER 1's PLAIN MATHEMATICS, MORE: a fraction that is right is a rational number; what is done with two is done with the numbers.
-/
namespace Go.Proofs.Rt

/-- A number that can be told. -/
def Ok (q : Rat) : Prop := 0 ≤ q.num ∧ q.num ≤ mx ∧ (q.den : Int) ≤ mx
theorem right_rat {u d : Int} (h : rightB u d = true) : ∃ q : Rat, q.num = u ∧ (q.den : Int) = d ∧ Ok q := by
  unfold rightB at h
  obtain ⟨h1, h2, h3, h4, h5⟩ := of_decide_eq_true h
  refine ⟨Rat.divInt u d, ?_, ?_, ?_⟩
  · rw [num_of u d h1 h3, h5]; simp
  · rw [den_of u d h1 h3, h5]; simp
  · unfold Ok
    rw [num_of u d h1 h3, den_of u d h1 h3, h5]
    simp
    exact ⟨h1, h2, h4⟩
theorem den1 (q : Rat) : (1 : Int) ≤ q.den := by have := q.den_pos; omega
theorem rat_right (q : Rat) (h : Ok q) : rightB q.num q.den = true := by
  unfold rightB
  obtain ⟨h1, h2, h3⟩ := h
  refine decide_eq_true ⟨h1, h2, den1 q, h3, ?_⟩
  exact q.reduced
theorem tell_of (q : Rat) (h : Ok q) : tell q = (q.num, (q.den : Int), 0) := by
  unfold tell
  obtain ⟨h1, h2, h3⟩ := h
  rw [if_neg (by omega), if_neg (by omega)]
theorem tell_ok {q : Rat} {n m : Int} (h : tell q = (n, m, 0)) : Ok q ∧ q.num = n ∧ (q.den : Int) = m := by
  unfold tell at h
  by_cases c : q.num < 0
  · rw [if_pos c] at h; simp at h
  · rw [if_neg c] at h
    by_cases c2 : mx < q.num ∨ mx < (q.den : Int)
    · rw [if_pos c2] at h; simp at h
    · rw [if_neg c2] at h
      simp only [Prod.mk.injEq] at h
      exact ⟨⟨by omega, by omega, by omega⟩, h.1, h.2.1⟩
theorem mkT_tell (u d : Int) (hd : 1 ≤ d) : mkT u d = tell (Rat.divInt u d) := by
  unfold mkT
  by_cases c : u < 0
  · rw [if_pos (.inl c)]
    unfold tell
    have : ¬ 0 ≤ Rat.divInt u d := by
      rw [Rat.divInt_nonneg_iff_of_pos_right (by omega)]; omega
    have : ¬ 0 ≤ (Rat.divInt u d).num := fun h => this (Rat.num_nonneg.1 h)
    rw [if_pos (by omega)]
  · rw [if_neg (by omega)]
theorem num_div_den (q : Rat) : Rat.divInt q.num q.den = q := Rat.num_divInt_den q
theorem times_rat (x y : Rat) (hx : Ok x) (hy : Ok y) : timesT x.num x.den y.num y.den = tell (x * y) := by
  unfold timesT
  rw [if_pos ⟨rat_right x hx, rat_right y hy⟩, mkT_tell _ _ (by have := Int.mul_le_mul (den1 x) (den1 y) (by omega) (by have := den1 x; omega); omega), ← Rat.divInt_mul_divInt, num_div_den, num_div_den]
theorem den0 (q : Rat) : (q.den : Int) ≠ 0 := by have := den1 q; omega
theorem dens (x y : Rat) : (1 : Int) ≤ (x.den : Int) * (y.den : Int) := by
  have := Int.mul_le_mul (den1 x) (den1 y) (by omega) (by have := den1 x; omega)
  omega
theorem plus_rat (x y : Rat) (hx : Ok x) (hy : Ok y) : plusT x.num x.den y.num y.den = tell (x + y) := by
  unfold plusT
  rw [if_pos ⟨rat_right x hx, rat_right y hy⟩, mkT_tell _ _ (dens x y), ← Rat.divInt_add_divInt _ _ (den0 x) (den0 y), num_div_den, num_div_den]
theorem minus_rat (x y : Rat) (hx : Ok x) (hy : Ok y) : minusT x.num x.den y.num y.den = tell (x - y) := by
  unfold minusT
  rw [if_pos ⟨rat_right x hx, rat_right y hy⟩, mkT_tell _ _ (dens x y), ← Rat.divInt_sub_divInt _ _ (den0 x) (den0 y), num_div_den, num_div_den]
theorem over_rat (x y : Rat) (hx : Ok x) (hy : Ok y) : overT x.num x.den y.num y.den = if y = 0 then (0, 0, 3) else tell (x / y) := by
  unfold overT
  rw [if_pos ⟨rat_right x hx, rat_right y hy⟩]
  by_cases c : y = 0
  · rw [if_pos c, c]
    unfold mkT
    rw [if_pos (.inr (by simp))]
  · rw [if_neg c]
    have hn : y.num ≠ 0 := fun h => c (Rat.num_eq_zero.1 h)
    have hn1 : 1 ≤ y.num := by have := hy.1; omega
    have hb : (1 : Int) ≤ (x.den : Int) * y.num := by
      have := Int.mul_le_mul (den1 x) hn1 (by omega) (by have := den1 x; omega)
      omega
    rw [mkT_tell _ _ hb, ← Rat.divInt_mul_divInt, num_div_den, Rat.div_def]
    congr 2
    rw [← Rat.inv_divInt, num_div_den]

/-! ### a sum or a product, and whether it is told -/
def twoT (p : Bool) (a b c d : Int) : Int × Int × Bool :=
  ((if p then plusT a b c d else timesT a b c d).1, (if p then plusT a b c d else timesT a b c d).2.1, (if p then plusT a b c d else timesT a b c d).2.2 == 0)
def tel (q : Rat) : Int × Int × Bool := ((tell q).1, (tell q).2.1, (tell q).2.2 == 0)
def op (p : Bool) (x y : Rat) : Rat := if p then x + y else x * y
theorem two_rat (p : Bool) (x y : Rat) (hx : Ok x) (hy : Ok y) : twoT p x.num x.den y.num y.den = tel (op p x y) := by
  unfold twoT tel op
  cases p
  · simp only [Bool.false_eq_true, if_false]; rw [times_rat x y hx hy]
  · simp only [if_true]; rw [plus_rat x y hx hy]
theorem two_bad (p : Bool) (a b c d : Int) (h : ¬ (rightB a b = true ∧ rightB c d = true)) : twoT p a b c d = (0, 0, false) := by
  unfold twoT plusT timesT
  rw [if_neg h, if_neg h]
  cases p <;> rfl
theorem tel_ok {q : Rat} {n m : Int} (h : tel q = (n, m, true)) : Ok q ∧ q.num = n ∧ (q.den : Int) = m := by
  unfold tel at h
  simp only [Prod.mk.injEq, beq_iff_eq] at h
  obtain ⟨h1, h2, h3⟩ := h
  exact tell_ok (q := q) (by rw [← h1, ← h2, ← h3])
theorem tel_of (q : Rat) (h : Ok q) : tel q = (q.num, (q.den : Int), true) := by
  unfold tel
  rw [tell_of q h]
  rfl
/-- What is told was made of two that are right. -/
theorem two_yes {p : Bool} {a b c d n m : Int} (h : twoT p a b c d = (n, m, true)) :
    ∃ x y : Rat, Ok x ∧ Ok y ∧ Ok (op p x y) ∧ x.num = a ∧ (x.den : Int) = b ∧ y.num = c ∧ (y.den : Int) = d ∧ (op p x y).num = n ∧ ((op p x y).den : Int) = m := by
  by_cases r : rightB a b = true ∧ rightB c d = true
  · obtain ⟨x, rfl, rfl, hx⟩ := right_rat r.1
    obtain ⟨y, rfl, rfl, hy⟩ := right_rat r.2
    rw [two_rat p x y hx hy] at h
    obtain ⟨h1, h2, h3⟩ := tel_ok h
    exact ⟨x, y, hx, hy, h1, rfl, rfl, rfl, rfl, h2, h3⟩
  · rw [two_bad p a b c d r] at h
    simp at h
theorem op_comm (p : Bool) (x y : Rat) : op p x y = op p y x := by
  unfold op; cases p
  · simp only [Bool.false_eq_true, if_false]; exact Rat.mul_comm x y
  · simp only [if_true]; exact Rat.add_comm x y
theorem op_assoc (p : Bool) (x y z : Rat) : op p (op p x y) z = op p x (op p y z) := by
  unfold op; cases p
  · simp only [Bool.false_eq_true, if_false]; exact Rat.mul_assoc x y z
  · simp only [if_true]; exact Rat.add_assoc x y z
theorem two_comm (p : Bool) (a b c d : Int) : twoT p a b c d = twoT p c d a b := by
  by_cases r : rightB a b = true ∧ rightB c d = true
  · obtain ⟨x, rfl, rfl, hx⟩ := right_rat r.1
    obtain ⟨y, rfl, rfl, hy⟩ := right_rat r.2
    rw [two_rat p x y hx hy, two_rat p y x hy hx, op_comm]
  · rw [two_bad p a b c d r, two_bad p c d a b (fun h => r ⟨h.2, h.1⟩)]
theorem rat_same {x y : Rat} (h1 : x.num = y.num) (h2 : (x.den : Int) = y.den) : x = y := Rat.ext h1 (by omega)
theorem two_assoc {p : Bool} {a b c d e f n1 m1 n2 m2 : Int} (h1 : twoT p a b c d = (n1, m1, true)) (h2 : twoT p c d e f = (n2, m2, true)) :
    twoT p n1 m1 e f = twoT p a b n2 m2 := by
  obtain ⟨x, y, hx, hy, hxy, rfl, rfl, rfl, rfl, rfl, rfl⟩ := two_yes h1
  obtain ⟨y', z, hy', hz, hyz, e1, e2, rfl, rfl, rfl, rfl⟩ := two_yes h2
  have := rat_same e1 e2
  subst this
  rw [two_rat p _ z hxy hz, two_rat p x _ hx hyz, op_assoc]
theorem two_share {a b c d e f n0 m0 n1 m1 n2 m2 : Int} (h0 : twoT true c d e f = (n0, m0, true)) (h1 : twoT false a b c d = (n1, m1, true)) (h2 : twoT false a b e f = (n2, m2, true)) :
    twoT false a b n0 m0 = twoT true n1 m1 n2 m2 := by
  obtain ⟨y, z, hy, hz, hyz, rfl, rfl, rfl, rfl, rfl, rfl⟩ := two_yes h0
  obtain ⟨x, y', hx, hy', hxy, rfl, rfl, e1, e2, rfl, rfl⟩ := two_yes h1
  have := rat_same e1 e2
  subst this
  obtain ⟨x', z', hx', hz', hxz, e3, e4, e5, e6, rfl, rfl⟩ := two_yes h2
  have := rat_same e3 e4
  subst this
  have := rat_same e5 e6
  subst this
  rw [two_rat false _ _ hx' hyz, two_rat true _ _ hxy hxz]
  congr 1
  exact Rat.mul_add _ _ _
theorem over_yes {a b c d n m : Int} (h : overT a b c d = (n, m, 0)) : twoT false n m c d = (a, b, true) := by
  by_cases r : rightB a b = true ∧ rightB c d = true
  · obtain ⟨x, rfl, rfl, hx⟩ := right_rat r.1
    obtain ⟨y, rfl, rfl, hy⟩ := right_rat r.2
    rw [over_rat x y hx hy] at h
    by_cases c : y = 0
    · rw [if_pos c] at h; simp at h
    · rw [if_neg c] at h
      obtain ⟨h1, rfl, rfl⟩ := tell_ok h
      rw [two_rat false _ y h1 hy]
      have : op false (x / y) y = x := by
        unfold op; simp only [Bool.false_eq_true, if_false]; exact Rat.div_mul_cancel c
      rw [this, tel_of x hx]
  · unfold overT at h
    rw [if_neg r] at h; simp at h
theorem minus_yes {a b c d n m : Int} (h : minusT a b c d = (n, m, 0)) : twoT true n m c d = (a, b, true) := by
  by_cases r : rightB a b = true ∧ rightB c d = true
  · obtain ⟨x, rfl, rfl, hx⟩ := right_rat r.1
    obtain ⟨y, rfl, rfl, hy⟩ := right_rat r.2
    rw [minus_rat x y hx hy] at h
    obtain ⟨h1, rfl, rfl⟩ := tell_ok h
    rw [two_rat true _ y h1 hy]
    have : op true (x - y) y = x := by
      unfold op; simp only [if_true]; exact Rat.sub_add_cancel
    rw [this, tel_of x hx]
  · unfold minusT at h
    rw [if_neg r] at h; simp at h

/-! ### the order -/
def ord (x y : Rat) : Int := if x < y then -1 else if y < x then 1 else 0
theorem order_rat (x y : Rat) (hx : Ok x) (hy : Ok y) : orderT x.num x.den y.num y.den = (ord x y, 0) := by
  unfold orderT ord
  rw [if_pos ⟨rat_right x hx, rat_right y hy⟩]
  simp only [Rat.lt_iff]
theorem order_yes {a b c d k : Int} (h : orderT a b c d = (k, 0)) :
    ∃ x y : Rat, Ok x ∧ Ok y ∧ x.num = a ∧ (x.den : Int) = b ∧ y.num = c ∧ (y.den : Int) = d ∧ ord x y = k := by
  by_cases r : rightB a b = true ∧ rightB c d = true
  · obtain ⟨x, rfl, rfl, hx⟩ := right_rat r.1
    obtain ⟨y, rfl, rfl, hy⟩ := right_rat r.2
    rw [order_rat x y hx hy] at h
    simp only [Prod.mk.injEq, and_true] at h
    exact ⟨x, y, hx, hy, rfl, rfl, rfl, rfl, h⟩
  · unfold orderT at h
    rw [if_neg r] at h; simp at h
theorem lt_asymm' {x y : Rat} (h : x < y) : ¬ y < x := fun k => (Rat.not_le.2 h) (Rat.le_of_lt k)
theorem ord_swap (x y : Rat) : ord y x = - ord x y := by
  unfold ord
  by_cases h1 : x < y
  · rw [if_pos h1, if_neg (lt_asymm' h1), if_pos h1]; rfl
  · by_cases h2 : y < x
    · rw [if_pos h2, if_neg h1, if_pos h2]
    · rw [if_neg h2, if_neg h1, if_neg h1, if_neg h2]; rfl
theorem eq_of {x y : Rat} (h1 : ¬ x < y) (h2 : ¬ y < x) : x = y := Rat.le_antisymm (Rat.not_lt.1 h2) (Rat.not_lt.1 h1)
theorem ord_zero (x y : Rat) : ord x y = 0 ↔ x = y := by
  unfold ord
  by_cases h1 : x < y
  · rw [if_pos h1]
    constructor
    · intro h; simp at h
    · intro h; subst h; exact absurd h1 Rat.lt_irrefl
  · rw [if_neg h1]
    by_cases h2 : y < x
    · rw [if_pos h2]
      constructor
      · intro h; simp at h
      · intro h; subst h; exact absurd h2 Rat.lt_irrefl
    · rw [if_neg h2]
      exact ⟨fun _ => eq_of h1 h2, fun _ => rfl⟩
theorem ord_le (x y : Rat) : ord x y ≤ 0 ↔ x ≤ y := by
  unfold ord
  by_cases h1 : x < y
  · rw [if_pos h1]; exact ⟨fun _ => Rat.le_of_lt h1, fun _ => by decide⟩
  · rw [if_neg h1]
    by_cases h2 : y < x
    · rw [if_pos h2]
      constructor
      · intro h; simp at h
      · intro h; exact absurd h (Rat.not_le.2 h2)
    · rw [if_neg h2]
      exact ⟨fun _ => Rat.not_lt.1 h2, fun _ => by decide⟩
theorem order_swap {a b c d k : Int} (h : orderT a b c d = (k, 0)) : orderT c d a b = (-k, 0) := by
  obtain ⟨x, y, hx, hy, rfl, rfl, rfl, rfl, rfl⟩ := order_yes h
  rw [order_rat y x hy hx, ord_swap]
theorem order_zero {a b c d k : Int} (h : orderT a b c d = (k, 0)) : k = 0 ↔ (a = c ∧ b = d) := by
  obtain ⟨x, y, hx, hy, rfl, rfl, rfl, rfl, rfl⟩ := order_yes h
  rw [ord_zero]
  exact ⟨fun h => by rw [h]; exact ⟨rfl, rfl⟩, fun h => rat_same h.1 h.2⟩
theorem ord_op (p : Bool) (x y z : Rat) (hz : 0 ≤ z.num) : ord (op p x z) (op p y z) = ord x y ∨ (p = false ∧ z.num = 0 ∧ ord (op p x z) (op p y z) = 0) := by
  cases p
  · by_cases c : z.num = 0
    · right
      refine ⟨rfl, c, ?_⟩
      rw [ord_zero]
      have : z = 0 := Rat.num_eq_zero.1 c
      subst this
      unfold op
      simp
    · left
      have hz0 : 0 < z := by
        have h1 : 0 ≤ z := Rat.num_nonneg.1 hz
        refine Rat.not_le.1 (fun h => ?_)
        have : z = 0 := Rat.le_antisymm h h1
        exact c (by rw [this]; rfl)
      unfold op ord
      simp only [Bool.false_eq_true, if_false, Rat.mul_lt_mul_right hz0]
  · left
    unfold op ord
    simp only [if_true, Rat.add_lt_add_right]
theorem order_op {p : Bool} {a b c d e f k n1 m1 n2 m2 : Int} (h : orderT a b c d = (k, 0)) (h1 : twoT p a b e f = (n1, m1, true)) (h2 : twoT p c d e f = (n2, m2, true)) :
    ∃ g, orderT n1 m1 n2 m2 = (g, 0) ∧ (g = k ∨ (p = false ∧ e = 0 ∧ g = 0)) := by
  obtain ⟨x, y, hx, hy, rfl, rfl, rfl, rfl, rfl⟩ := order_yes h
  obtain ⟨x', z, hx', hz, hxz, e1, e2, rfl, rfl, rfl, rfl⟩ := two_yes h1
  have := rat_same e1 e2
  subst this
  obtain ⟨y', z', hy', hz', hyz, e3, e4, e5, e6, rfl, rfl⟩ := two_yes h2
  have := rat_same e3 e4
  subst this
  have := rat_same e5 e6
  subst this
  exact ⟨_, order_rat _ _ hxz hyz, ord_op p _ _ _ hz'.1⟩
theorem order_trans {a b c d e f k l : Int} (h1 : orderT a b c d = (k, 0)) (h2 : orderT c d e f = (l, 0)) (hk : k ≤ 0) (hl : l ≤ 0) : ∃ g, orderT a b e f = (g, 0) ∧ g ≤ 0 := by
  obtain ⟨x, y, hx, hy, rfl, rfl, rfl, rfl, rfl⟩ := order_yes h1
  obtain ⟨y', z, hy', hz, e1, e2, rfl, rfl, rfl⟩ := order_yes h2
  have := rat_same e1 e2
  subst this
  exact ⟨_, order_rat _ _ hx hz, (ord_le _ _).2 (Rat.le_trans ((ord_le _ _).1 hk) ((ord_le _ _).1 hl))⟩
end Go.Proofs.Rt

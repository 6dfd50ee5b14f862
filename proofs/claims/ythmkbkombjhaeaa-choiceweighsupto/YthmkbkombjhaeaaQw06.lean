namespace Go.Proofs.Ps

/-! ### THE CHANCE THAT ONE IS CHOSEN, WHOSE COIN SAYS YES: psi 1 of the others' chances -/
/-- of all sets of yeses among the coins: one by as many as k and they are -/
def psi (k : Nat) : List Rat → Rat
  | [] => 1 / (k : Rat)
  | q :: qs => (1 - q) * psi k qs + q * psi (k + 1) qs
/-- chances -/
def In01 (l : List Rat) : Prop := ∀ q ∈ l, 0 ≤ q ∧ q ≤ 1
theorem In01.cons {q : Rat} {l : List Rat} (h : In01 (q :: l)) : (0 ≤ q ∧ q ≤ 1) ∧ In01 l :=
  ⟨h q (List.mem_cons_self ..), fun x hx => h x (List.mem_cons_of_mem _ hx)⟩
theorem inv_pos (k : Nat) (h : 1 ≤ k) : 0 < 1 / (k : Rat) := by
  have h1 : (0 : Rat) < (k : Rat) := by exact_mod_cast h
  rw [Rat.div_def, Rat.one_mul]
  exact Rat.inv_pos.2 h1
theorem inv_anti (k : Nat) (h : 1 ≤ k) : 1 / ((k + 1 : Nat) : Rat) ≤ 1 / (k : Rat) := by
  have h1 := inv_pos k h
  have h2 := inv_pos (k + 1) (by omega)
  have h3 : (0 : Rat) < (k : Rat) := by exact_mod_cast h
  have e1 : (k : Rat) * (1 / (k : Rat)) = 1 := by grind
  have e2 : ((k + 1 : Nat) : Rat) = (k : Rat) + 1 := by simp
  have e3 : ((k : Rat) + 1) * (1 / ((k + 1 : Nat) : Rat)) = 1 := by rw [e2]; grind
  generalize 1 / ((k + 1 : Nat) : Rat) = x at *
  generalize 1 / (k : Rat) = y at *
  -- k * y = 1 = k * x + x
  have e4 : (k : Rat) * (y - x) = x := by grind
  rcases @Rat.le_total x y with c | c
  · exact c
  · have : (k : Rat) * (x - y) ≥ 0 := Rat.mul_nonneg (Rat.le_of_lt h3) (by grind)
    grind
theorem psi_nn {l : List Rat} (h : In01 l) : ∀ k, 1 ≤ k → 0 ≤ psi k l := by
  induction l with
  | nil => intro k hk; exact Rat.le_of_lt (inv_pos k hk)
  | cons q l ih =>
    intro k hk
    obtain ⟨⟨h0, h1⟩, hl⟩ := h.cons
    have a := Rat.mul_nonneg (show (0 : Rat) ≤ 1 - q by grind) (ih hl k hk)
    have b := Rat.mul_nonneg h0 (ih hl (k + 1) (by omega))
    simp only [psi]
    grind
theorem psi_anti {l : List Rat} (h : In01 l) : ∀ k, 1 ≤ k → psi (k + 1) l ≤ psi k l := by
  induction l with
  | nil => intro k hk; exact inv_anti k hk
  | cons q l ih =>
    intro k hk
    obtain ⟨⟨h0, h1⟩, hl⟩ := h.cons
    have a := Rat.mul_le_mul_of_nonneg_left (ih hl k hk) (show (0 : Rat) ≤ 1 - q by grind)
    have b := Rat.mul_le_mul_of_nonneg_left (ih hl (k + 1) (by omega)) h0
    simp only [psi]
    grind
/-- one by one no greater -/
def Les : List Rat → List Rat → Prop
  | [], [] => True
  | a :: l, b :: m => a ≤ b ∧ Les l m
  | _, _ => False
theorem psi_mono : ∀ {l m : List Rat}, In01 l → In01 m → Les l m → ∀ k, 1 ≤ k → psi k m ≤ psi k l
  | [], [], _, _, _, k, _ => Rat.le_refl
  | a :: l, b :: m, hl, hm, h, k, hk => by
    obtain ⟨⟨a0, a1⟩, hl⟩ := hl.cons
    obtain ⟨⟨b0, b1⟩, hm⟩ := hm.cons
    have i1 := psi_mono hl hm h.2 k hk
    have i2 := psi_mono hl hm h.2 (k + 1) (by omega)
    have i3 := psi_anti hl k hk
    have j1 := Rat.mul_le_mul_of_nonneg_left i1 (show (0 : Rat) ≤ 1 - b by grind)
    have j2 := Rat.mul_le_mul_of_nonneg_left i2 b0
    have j3 := Rat.mul_le_mul_of_nonneg_left i3 (show (0 : Rat) ≤ b - a by have := h.1; grind)
    simp only [psi]
    grind
  | [], _ :: _, _, _, h, _, _ => by simp [Les] at h
  | _ :: _, [], _, _, h, _, _ => by simp [Les] at h
theorem psi_perm {l m : List Rat} (h : l.Perm m) : ∀ k, psi k l = psi k m := by
  induction h with
  | nil => intro k; rfl
  | cons x _ ih => intro k; simp only [psi, ih]
  | swap x y l => intro k; simp only [psi]; grind
  | trans _ _ ih1 ih2 => intro k; rw [ih1, ih2]

/-! ### fewer yeses -/
/-- k more that are kept with the chance t each -/
def thn (t : Rat) (l : List Rat) : Nat → Nat → Rat
  | 0, a => psi a l
  | k + 1, a => t * thn t l k (a + 1) + (1 - t) * thn t l k a
theorem thn_cons (t q : Rat) (l : List Rat) : ∀ k a, thn t ((t * q) :: l) k a = (1 - q) * thn t l k a + q * thn t l (k + 1) a := by
  intro k
  induction k with
  | zero => intro a; simp only [thn, psi]; grind
  | succ k ih =>
    intro a
    have h1 := ih (a + 1)
    have h2 := ih a
    simp only [thn] at *
    rw [h1, h2]
    grind
theorem thn_one (t : Rat) : ∀ k a : Nat, 1 ≤ a → (a : Rat) * thn t [] (k + 1) a + ((k : Rat) + 1) * t * thn t [] k (a + 1) = 1 := by
  intro k
  induction k with
  | zero =>
    intro a ha
    have h3 : (0 : Rat) < (a : Rat) := by exact_mod_cast ha
    have e2 : ((a + 1 : Nat) : Rat) = (a : Rat) + 1 := by simp
    simp only [thn, psi]
    rw [e2]
    have e1 : (a : Rat) * (1 / (a : Rat)) = 1 := by grind
    have e3 : ((a : Rat) + 1) * (1 / ((a : Rat) + 1)) = 1 := by grind
    generalize 1 / ((a : Rat) + 1) = x at *
    generalize 1 / (a : Rat) = y at *
    grind
  | succ k ih =>
    intro a ha
    have i1 := ih a ha
    have i2 := ih (a + 1) (by omega)
    have e2 : ((a + 1 : Nat) : Rat) = (a : Rat) + 1 := by simp
    have e3 : ((k + 1 : Nat) : Rat) = (k : Rat) + 1 := by simp
    rw [e2] at i2
    rw [e3]
    have u1 : thn t [] (k + 1 + 1) a = t * thn t [] (k + 1) (a + 1) + (1 - t) * thn t [] (k + 1) a := rfl
    have u2 : thn t [] (k + 1) (a + 1) = t * thn t [] k (a + 1 + 1) + (1 - t) * thn t [] k (a + 1) := rfl
    rw [u1]
    generalize thn t [] (k + 1) a = A at *
    generalize thn t [] (k + 1) (a + 1) = B at *
    generalize thn t [] k (a + 1) = C at *
    generalize thn t [] k (a + 1 + 1) = D at *
    grind
theorem thn_le (t : Rat) (h1 : t ≤ 1) : ∀ k : Nat, ((k : Rat) + 1) * (t * thn t [] k 1) ≤ 1 := by
  intro k
  induction k with
  | zero => simp only [thn, psi]; grind
  | succ k ih =>
    have i1 := thn_one t k 1 (by omega)
    have u1 : thn t [] (k + 1) 1 = t * thn t [] k (1 + 1) + (1 - t) * thn t [] k 1 := rfl
    have e3 : ((k + 1 : Nat) : Rat) = (k : Rat) + 1 := by simp
    have e4 : ((1 : Nat) : Rat) = 1 := rfl
    rw [e3]
    rw [e4] at i1
    generalize thn t [] (k + 1) 1 = A at *
    generalize thn t [] k (1 + 1) = B at *
    generalize thn t [] k 1 = C at *
    have e5 : ((k : Rat) + 1 + 1) * (t * A) = t + (1 - t) * (((k : Rat) + 1) * (t * C)) := by grind
    have e6 := Rat.mul_le_mul_of_nonneg_left ih (show (0 : Rat) ≤ 1 - t by grind)
    rw [e5]
    grind
theorem thin (t : Rat) (h0 : 0 ≤ t) (h1 : t ≤ 1) : ∀ {l : List Rat}, In01 l → ∀ k, t * thn t (l.map (t * ·)) k 1 ≤ psi (k + 1) l
  | [], _, k => by
    have h := thn_le t h1 k
    have e2 : ((k + 1 : Nat) : Rat) = (k : Rat) + 1 := by simp
    have hk := inv_pos (k + 1) (by omega)
    simp only [List.map_nil, psi]
    rw [e2] at *
    have e3 : ((k : Rat) + 1) * (1 / ((k : Rat) + 1)) = 1 := by
      have : (0 : Rat) < (k : Rat) + 1 := by rw [← e2]; exact_mod_cast Nat.succ_pos k
      grind
    have h5 := Rat.mul_le_mul_of_nonneg_left h (Rat.le_of_lt hk)
    generalize 1 / ((k : Rat) + 1) = x at *
    generalize t * thn t [] k 1 = y at *
    have e6 : x * (((k : Rat) + 1) * y) = y := by grind
    rw [e6] at h5
    grind
  | q :: l, h, k => by
    obtain ⟨⟨a0, a1⟩, hl⟩ := h.cons
    have i1 := thin t h0 h1 hl k
    have i2 := thin t h0 h1 hl (k + 1)
    have j1 := Rat.mul_le_mul_of_nonneg_left i1 (show (0 : Rat) ≤ 1 - q by grind)
    have j2 := Rat.mul_le_mul_of_nonneg_left i2 a0
    rw [List.map_cons, thn_cons]
    simp only [psi]
    grind
/-- one by one, by a product -/
def Lex (x y : Rat) : List Rat → List Rat → Prop
  | [], [] => True
  | a :: l, b :: m => x * b ≤ y * a ∧ Lex x y l m
  | _, _ => False
/-- HOW MUCH LIKELIER IT MAY BE THAT ONE IS CHOSEN BY COINS -/
theorem coins {x y : Rat} (hx : 0 ≤ x) (hxy : x ≤ y) {l m : List Rat} (hl : In01 l) (hm : In01 m) (h : Lex x y l m) : x * psi 1 l ≤ y * psi 1 m := by
  by_cases hy : y = 0
  · have : x = 0 := by grind
    subst this
    have := Rat.mul_nonneg (show (0 : Rat) ≤ y by grind) (psi_nn hm 1 (by omega))
    grind
  · have hy0 : 0 < y := by
      have : (0 : Rat) ≤ y := Rat.le_trans hx hxy
      exact Rat.lt_of_le_of_ne this (fun h => hy h.symm)
    have hi : 0 < y⁻¹ := Rat.inv_pos.2 hy0
    have ht0 : 0 ≤ x * y⁻¹ := Rat.mul_nonneg hx (Rat.le_of_lt hi)
    have hyi : y * y⁻¹ = 1 := by grind
    have ht1 : x * y⁻¹ ≤ 1 := by
      have := Rat.mul_le_mul_of_nonneg_left hxy (Rat.le_of_lt hi)
      grind
    have hml : In01 (m.map (x * y⁻¹ * ·)) := by
      intro q hq
      obtain ⟨p, hp, rfl⟩ := List.mem_map.1 hq
      obtain ⟨p0, p1⟩ := hm p hp
      refine ⟨Rat.mul_nonneg ht0 p0, ?_⟩
      have := Rat.mul_le_mul_of_nonneg_left p1 ht0
      grind
    have hles : Les (m.map (x * y⁻¹ * ·)) l := by
      clear hml hl hm
      induction l generalizing m with
      | nil => cases m with
        | nil => trivial
        | cons b m => simp [Lex] at h
      | cons a l ih => cases m with
        | nil => simp [Lex] at h
        | cons b m =>
          refine ⟨?_, ih h.2⟩
          have h9 := Rat.mul_le_mul_of_nonneg_left h.1 (Rat.le_of_lt hi)
          have e8 : y⁻¹ * (x * b) = x * y⁻¹ * b := by grind
          have e9 : y⁻¹ * (y * a) = a := by rw [← Rat.mul_assoc, Rat.mul_comm y⁻¹ y, hyi, Rat.one_mul]
          rw [e8, e9] at h9
          exact h9
    have h1 := psi_mono hml hl hles 1 (by omega)
    have h2 := thin (x * y⁻¹) ht0 ht1 hm 0
    simp only [thn] at h2
    have h3 := Rat.mul_le_mul_of_nonneg_left h1 hx
    have h4 := Rat.mul_le_mul_of_nonneg_left h2 (Rat.le_of_lt hy0)
    have e : y * (x * y⁻¹ * psi 1 (m.map (x * y⁻¹ * ·))) = x * psi 1 (m.map (x * y⁻¹ * ·)) := by grind
    rw [e] at h4
    exact Rat.le_trans h3 h4

/-! ### each one and the others -/
def picks {α : Type} : List α → List (α × List α)
  | [] => []
  | a :: l => (a, l) :: (picks l).map fun x => (x.1, a :: x.2)
def sum {α : Type} (f : α → Rat) : List α → Rat
  | [] => 0
  | a :: l => f a + sum f l
theorem sum_map {α β : Type} (f : β → Rat) (g : α → β) (l : List α) : sum f (l.map g) = sum (fun a => f (g a)) l := by
  induction l with
  | nil => rfl
  | cons a l ih => simp only [List.map_cons, sum, ih]
theorem sum_lin {α : Type} (a b : Rat) (f g : α → Rat) (l : List α) : sum (fun x => a * f x + b * g x) l = a * sum f l + b * sum g l := by
  induction l with
  | nil => simp only [sum]; grind
  | cons x l ih => simp only [sum, ih]; grind
theorem sum_congr {α : Type} {f g : α → Rat} {l : List α} (h : ∀ x ∈ l, f x = g x) : sum f l = sum g l := by
  induction l with
  | nil => rfl
  | cons x l ih => simp only [sum]; rw [h x (List.mem_cons_self ..), ih fun y hy => h y (List.mem_cons_of_mem _ hy)]
theorem sum_nn {α : Type} {f : α → Rat} {l : List α} (h : ∀ x ∈ l, 0 ≤ f x) : 0 ≤ sum f l := by
  induction l with
  | nil => exact Rat.le_refl
  | cons x l ih =>
    have h1 := h x (List.mem_cons_self ..)
    have h2 := ih fun y hy => h y (List.mem_cons_of_mem _ hy)
    simp only [sum]; grind
theorem picks_perm {α : Type} : ∀ {l : List α} {x : α × List α}, x ∈ picks l → (x.1 :: x.2).Perm l
  | [], _, h => by simp [picks] at h
  | a :: l, x, h => by
    simp only [picks, List.mem_cons, List.mem_map] at h
    rcases h with rfl | ⟨y, hy, rfl⟩
    · exact List.Perm.refl _
    · exact (List.Perm.swap _ _ _).trans ((picks_perm hy).cons a)
/-- as many orders begin so -/
theorem psi_rec (l : List Rat) : ∀ k, 1 ≤ k → sum (fun x : Rat × List Rat => (1 - x.1) * psi k x.2) (picks l) = ((l.length : Rat) + (k : Rat)) * psi k l - 1 := by
  induction l with
  | nil =>
    intro k hk
    have h3 : (0 : Rat) < (k : Rat) := by exact_mod_cast hk
    simp only [picks, sum, psi, List.length_nil]
    have e1 : (k : Rat) * (1 / (k : Rat)) = 1 := by grind
    have e0 : ((0 : Nat) : Rat) = 0 := rfl
    rw [e0]
    grind
  | cons q l ih =>
    intro k hk
    have i1 := ih k hk
    have i2 := ih (k + 1) (by omega)
    simp only [picks, sum]
    rw [sum_map]
    have e : sum (fun x : Rat × List Rat => (1 - x.1) * psi k (q :: x.2)) (picks l) = (1 - q) * sum (fun x : Rat × List Rat => (1 - x.1) * psi k x.2) (picks l) + q * sum (fun x : Rat × List Rat => (1 - x.1) * psi (k + 1) x.2) (picks l) := by
      rw [← sum_lin]
      refine sum_congr fun x _ => ?_
      simp only [psi]
      grind
    have e2 : ((k + 1 : Nat) : Rat) = (k : Rat) + 1 := by simp
    have e3 : ((q :: l).length : Rat) = (l.length : Rat) + 1 := by simp
    simp only at e ⊢
    rw [e, i1, i2, e2, e3]
    simp only [psi]
    grind
theorem psi_tot1 (l : List Rat) : ∀ k, 1 ≤ k → sum (fun x : Rat × List Rat => x.1 * psi (k + 1) x.2) (picks l) = 1 - (k : Rat) * psi k l := by
  induction l with
  | nil =>
    intro k hk
    have h3 : (0 : Rat) < (k : Rat) := by exact_mod_cast hk
    simp only [picks, sum, psi]
    have e1 : (k : Rat) * (1 / (k : Rat)) = 1 := by grind
    grind
  | cons q l ih =>
    intro k hk
    have i1 := ih k hk
    have i2 := ih (k + 1) (by omega)
    simp only [picks, sum]
    rw [sum_map]
    have e : sum (fun x : Rat × List Rat => x.1 * psi (k + 1) (q :: x.2)) (picks l) = (1 - q) * sum (fun x : Rat × List Rat => x.1 * psi (k + 1) x.2) (picks l) + q * sum (fun x : Rat × List Rat => x.1 * psi (k + 1 + 1) x.2) (picks l) := by
      rw [← sum_lin]
      refine sum_congr fun x _ => ?_
      simp only [psi]
      grind
    have e2 : ((k + 1 : Nat) : Rat) = (k : Rat) + 1 := by simp
    simp only at e ⊢
    rw [e, i1, i2, e2]
    simp only [psi]
    grind
def prd (l : List Rat) : Rat := l.foldr (fun q r => (1 - q) * r) 1
theorem psi_tot (l : List Rat) : sum (fun x : Rat × List Rat => x.1 * psi 1 x.2) (picks l) = 1 - prd l := by
  induction l with
  | nil => simp only [picks, sum, prd, List.foldr_nil]; grind
  | cons q l ih =>
    have i2 := psi_tot1 l 1 (by omega)
    simp only [picks, sum]
    rw [sum_map]
    have e : sum (fun x : Rat × List Rat => x.1 * psi 1 (q :: x.2)) (picks l) = (1 - q) * sum (fun x : Rat × List Rat => x.1 * psi 1 x.2) (picks l) + q * sum (fun x : Rat × List Rat => x.1 * psi (1 + 1) x.2) (picks l) := by
      rw [← sum_lin]
      refine sum_congr fun x _ => ?_
      simp only [psi]
      grind
    have e4 : ((1 : Nat) : Rat) = 1 := rfl
    have e5 : prd (q :: l) = (1 - q) * prd l := rfl
    simp only at e ⊢
    rw [e, ih, i2, e4, e5]
    grind
theorem prd_one {l : List Rat} (h : (1 : Rat) ∈ l) : prd l = 0 := by
  induction l with
  | nil => cases h
  | cons q l ih =>
    have e5 : prd (q :: l) = (1 - q) * prd l := rfl
    rw [e5]
    rcases List.mem_cons.1 h with h | h
    · rw [← h]; grind
    · rw [ih h]; grind
/-- the likelier its own coin says yes, the fewer of the others' do -/
theorem psi_others {a b : Rat} {l m : List Rat} (h : (a :: l).Perm (b :: m)) (hl : In01 (a :: l)) (hab : a ≤ b) : psi 1 l ≤ psi 1 m := by
  by_cases e : b = a
  · subst e
    rw [psi_perm (List.perm_cons b |>.1 h)]
    exact Rat.le_refl
  · have hb : b ∈ l := by
      have : b ∈ a :: l := h.symm.subset (List.mem_cons_self ..)
      rcases List.mem_cons.1 this with h | h
      · exact absurd h e
      · exact h
    have h1 := List.perm_cons_erase hb
    have h2 : m.Perm (a :: l.erase b) := by
      have h3 : (b :: m).Perm (b :: a :: l.erase b) := h.symm.trans ((h1.cons a).trans (List.Perm.swap _ _ _))
      exact (List.perm_cons b).1 h3
    rw [psi_perm h1, psi_perm h2]
    have hT : In01 (l.erase b) := fun q hq => hl q (List.mem_cons_of_mem _ (List.mem_of_mem_erase hq))
    have i := psi_anti hT 1 (by omega)
    have j := Rat.mul_le_mul_of_nonneg_left i (show (0 : Rat) ≤ b - a by grind)
    simp only [psi]
    grind

/-! ### CHEBYSHEV -/
theorem cheb {α : Type} (w s c : α → Rat) : ∀ (l : List α), (∀ x ∈ l, 0 ≤ w x) → (∀ x ∈ l, ∀ y ∈ l, 0 ≤ (s x - s y) * (c x - c y)) →
    sum (fun x => w x * s x) l * sum (fun x => w x * c x) l ≤ sum w l * sum (fun x => w x * (s x * c x)) l
  | [], _, _ => by simp only [sum]; grind
  | x :: l, hw, h => by
    have ih := cheb w s c l (fun y hy => hw y (List.mem_cons_of_mem _ hy)) (fun y hy z hz => h y (List.mem_cons_of_mem _ hy) z (List.mem_cons_of_mem _ hz))
    have hin : 0 ≤ sum (fun y => w y * ((s y - s x) * (c y - c x))) l := sum_nn fun y hy => Rat.mul_nonneg (hw y (List.mem_cons_of_mem _ hy)) (h y (List.mem_cons_of_mem _ hy) x (List.mem_cons_self ..))
    have he : sum (fun y => w y * ((s y - s x) * (c y - c x))) l = sum (fun y => w y * (s y * c y)) l + s x * c x * sum w l - s x * sum (fun y => w y * c y) l - c x * sum (fun y => w y * s y) l := by
      clear hin ih h hw
      induction l with
      | nil => simp only [sum]; grind
      | cons y l ih => simp only [sum]; rw [ih]; grind
    have hwx := hw x (List.mem_cons_self ..)
    rw [he] at hin
    have h3 := Rat.mul_nonneg hwx hin
    simp only [sum]
    grind
/-- MCKENNA AND SHELDON -/
theorem better {α : Type} (p s : α → Rat) (l : List α) (hp : ∀ x ∈ l, 0 ≤ p x ∧ p x ≤ 1) (h1 : ∃ x ∈ l, p x = 1) (hs : ∀ x ∈ l, ∀ y ∈ l, s x ≤ s y → p x ≤ p y) :
    sum (fun x => p x * s x) l ≤ sum p l * sum (fun x : α × List α => p x.1 * (s x.1 * psi 1 (x.2.map p))) (picks l) := by
  have fst_sum : ∀ (f : α → Rat) (l : List α), sum (fun x : α × List α => f x.1) (picks l) = sum f l := by
    intro f l
    induction l with
    | nil => rfl
    | cons a l ih => simp only [picks, sum]; rw [sum_map, ih]
  have hpk : ∀ x ∈ picks l, x.1 ∈ l := fun x hx => (picks_perm hx).subset (List.mem_cons_self ..)
  have key := cheb (fun x : α × List α => p x.1) (fun x => s x.1) (fun x => psi 1 (x.2.map p)) (picks l) (fun x hx => (hp _ (hpk x hx)).1) (by
    intro x hx y hy
    have px := (picks_perm hx).map p
    have py := (picks_perm hy).map p
    have hin : ∀ {z : α × List α}, z ∈ picks l → In01 ((z.1 :: z.2).map p) := by
      intro z hz q hq
      obtain ⟨a, ha, rfl⟩ := List.mem_map.1 hq
      exact hp a ((picks_perm hz).subset ha)
    rcases @Rat.le_total (s x.1) (s y.1) with c | c
    · have := psi_others (l := x.2.map p) (m := y.2.map p) (px.trans py.symm) (hin hx) (hs _ (hpk x hx) _ (hpk y hy) c)
      have := Rat.mul_nonneg (show (0 : Rat) ≤ s y.1 - s x.1 by grind) (show (0 : Rat) ≤ psi 1 (y.2.map p) - psi 1 (x.2.map p) by grind)
      grind
    · have := psi_others (l := y.2.map p) (m := x.2.map p) (py.trans px.symm) (hin hy) (hs _ (hpk y hy) _ (hpk x hx) c)
      exact Rat.mul_nonneg (by grind) (by grind))
  have e1 : sum (fun x : α × List α => p x.1 * psi 1 (x.2.map p)) (picks l) = 1 := by
    have h2 := psi_tot (l.map p)
    rw [prd_one (by obtain ⟨x, hx, e⟩ := h1; exact List.mem_map.2 ⟨x, hx, e⟩)] at h2
    have h3 : picks (l.map p) = (picks l).map fun x => (p x.1, x.2.map p) := by
      clear key hpk hp h1 hs h2
      induction l with
      | nil => rfl
      | cons a l ih => simp [picks, ih]
    rw [h3, sum_map] at h2
    simp only at h2
    rw [h2]; grind
  rw [fst_sum p l] at key
  rw [fst_sum (fun x => p x * s x) l, e1] at key
  grind

/-! ### ALL ORDERS -/
/-- one more, at every place -/
def ins {α : Type} (x : α) : List α → List (List α)
  | [] => [[x]]
  | a :: l => (x :: a :: l) :: (ins x l).map (a :: ·)
def ordL {α : Type} : List α → List (List α)
  | [] => [[]]
  | x :: l => (ordL l).flatMap (ins x)
theorem sum_append {α : Type} (f : α → Rat) (l m : List α) : sum f (l ++ m) = sum f l + sum f m := by
  induction l with
  | nil => simp only [List.nil_append, sum]; grind
  | cons a l ih => simp only [List.cons_append, sum, ih]; grind
theorem sum_flat {α β : Type} (f : β → Rat) (g : α → List β) (l : List α) : sum f (l.flatMap g) = sum (fun a => sum f (g a)) l := by
  induction l with
  | nil => rfl
  | cons a l ih => rw [List.flatMap_cons, sum_append, ih]; rfl
theorem sum_add {α : Type} (f g : α → Rat) (l : List α) : sum (fun x => f x + g x) l = sum f l + sum g l := by
  have := sum_lin 1 1 f g l
  simp only [Rat.one_mul] at this
  exact this
theorem sum_scale {α : Type} (a : Rat) (f : α → Rat) (l : List α) : sum (fun x => a * f x) l = a * sum f l := by
  induction l with
  | nil => simp only [sum]; grind
  | cons x l ih => simp only [sum, ih]; grind
/-- all orders, by which is first -/
theorem ord_first {α : Type} : ∀ (l : List α) (f : List α → Rat), l ≠ [] → sum f (ordL l) = sum (fun x : α × List α => sum (fun o => f (x.1 :: o)) (ordL x.2)) (picks l)
  | [], _, h => absurd rfl h
  | x :: l, f, _ => by
    have h1 : sum f (ordL (x :: l)) = sum (fun o => sum f (ins x o)) (ordL l) := by
      simp only [ordL]
      exact sum_flat ..
    rw [h1]
    simp only [picks, sum]
    rw [sum_map]
    cases l with
    | nil => simp only [ordL, picks, sum, ins]
    | cons b l =>
      have h2 := ord_first (b :: l) (fun o => sum f (ins x o)) (by simp)
      rw [h2]
      have h3 := ord_first (b :: l) (fun o => f (x :: o)) (by simp)
      rw [h3, ← sum_add]
      refine sum_congr fun y _ => ?_
      have h4 : ∀ o, sum f (ins x (y.1 :: o)) = f (x :: y.1 :: o) + sum (fun o => f (y.1 :: o)) (ins x o) := by
        intro o
        simp only [ins, sum]
        rw [sum_map]
      have h5 : sum (fun o => sum f (ins x (y.1 :: o))) (ordL y.2) = sum (fun o => f (x :: y.1 :: o) + sum (fun o => f (y.1 :: o)) (ins x o)) (ordL y.2) := sum_congr fun o _ => h4 o
      rw [h5, sum_add]
      simp only [ordL]
      rw [sum_flat]
theorem ins_perm {α : Type} {x : α} : ∀ {l o : List α}, o ∈ ins x l → o.Perm (x :: l)
  | [], o, h => by simp only [ins, List.mem_singleton] at h; subst h; exact List.Perm.refl _
  | a :: l, o, h => by
    simp only [ins, List.mem_cons, List.mem_map] at h
    rcases h with rfl | ⟨o', h, rfl⟩
    · exact List.Perm.refl _
    · exact ((ins_perm h).cons a).trans (List.Perm.swap _ _ _)
theorem ord_perm {α : Type} : ∀ {l o : List α}, o ∈ ordL l → o.Perm l
  | [], o, h => by simp only [ordL, List.mem_singleton] at h; subst h; exact List.Perm.refl _
  | x :: l, o, h => by
    simp only [ordL, List.mem_flatMap] at h
    obtain ⟨o', h1, h2⟩ := h
    exact (ins_perm h2).trans ((ord_perm h1).cons x)
theorem ins_len {α : Type} (x : α) : ∀ (l : List α), (ins x l).length = l.length + 1
  | [] => rfl
  | a :: l => by simp [ins, ins_len x l]
def fact : Nat → Nat
  | 0 => 1
  | n + 1 => (n + 1) * fact n
theorem sum_const {α : Type} (c : Rat) (l : List α) : sum (fun _ => c) l = (l.length : Rat) * c := by
  induction l with
  | nil => simp only [sum, List.length_nil]; have : ((0 : Nat) : Rat) = 0 := rfl; rw [this]; grind
  | cons a l ih => simp only [sum, ih, List.length_cons]; have e2 : ((l.length + 1 : Nat) : Rat) = (l.length : Rat) + 1 := by simp
                   rw [e2]; grind
theorem ord_len {α : Type} : ∀ (l : List α), (ordL l).length = fact l.length
  | [] => rfl
  | x :: l => by
    simp only [ordL, List.length_flatMap]
    have h : (ordL l).map (fun o => (ins x o).length) = (ordL l).map (fun _ => l.length + 1) := List.map_congr_left fun o ho => by rw [ins_len, (ord_perm ho).length_eq]
    rw [h, List.map_const', List.sum_replicate_nat, ord_len l]
    simp only [fact, List.length_cons]
    exact Nat.mul_comm _ _
theorem picks_sum_perm {α : Type} {l m : List α} (hp : l.Perm m) : ∀ (h : α × List α → Rat), (∀ a R R', R.Perm R' → h (a, R) = h (a, R')) → sum h (picks l) = sum h (picks m) := by
  induction hp with
  | nil => intro h _; rfl
  | cons x hlm ih =>
    intro h hh
    simp only [picks, sum]
    rw [sum_map, sum_map, hh x _ _ hlm, ih (fun y => h (y.1, x :: y.2)) (fun a R R' hR => hh a _ _ (hR.cons x))]
  | swap x y l =>
    intro h hh
    simp only [picks, List.map_cons, List.map_map, sum]
    rw [sum_map, sum_map]
    have e : sum (fun a => h (((fun x_1 : α × List α => (x_1.1, x :: x_1.2)) ∘ fun x => (x.1, y :: x.2)) a)) (picks l) = sum (fun a => h (((fun x : α × List α => (x.1, y :: x.2)) ∘ fun x_1 => (x_1.1, x :: x_1.2)) a)) (picks l) := sum_congr fun a _ => hh _ _ _ (List.Perm.swap _ _ _)
    rw [e]
    grind
  | trans _ _ ih1 ih2 => intro h hh; rw [ih1 h hh, ih2 h hh]
/-- what all weigh together -/
def pU {α : Type} (U : α → Rat) (l : List α) : Rat := l.foldr (fun a r => U a * r) 1
theorem pU_cons {α : Type} (U : α → Rat) (a : α) (l : List α) : pU U (a :: l) = U a * pU U l := rfl
theorem pU_perm {α : Type} (U : α → Rat) {l m : List α} (h : l.Perm m) : pU U l = pU U m := by
  induction h with
  | nil => rfl
  | cons x _ ih => rw [pU_cons, pU_cons, ih]
  | swap x y l => simp only [pU_cons]; grind
  | trans _ _ ih1 ih2 => rw [ih1, ih2]
/-- how much of an order's weight chooses i -/
def val {α : Type} [DecidableEq α] (U D : α → Rat) (i : α) : List α → Rat
  | [] => 0
  | a :: o => if a = i then D i * pU U o else (U a - D a) * val U D i o
theorem picks_map {α β : Type} (p : α → β) : ∀ (l : List α), picks (l.map p) = (picks l).map fun x => (p x.1, x.2.map p)
  | [] => rfl
  | a :: l => by simp [picks, picks_map p l]
theorem ord_sum_perm {α : Type} : ∀ (n : Nat) (l m : List α), l.length = n → l.Perm m → ∀ f : List α → Rat, sum f (ordL l) = sum f (ordL m) := by
  intro n
  induction n with
  | zero =>
    intro l m hl hp f
    obtain rfl := List.length_eq_zero_iff.1 hl
    obtain rfl := List.nil_perm.1 hp
    rfl
  | succ n ih =>
    intro l m hl hp f
    have h1 : l ≠ [] := by intro h; rw [h] at hl; simp at hl
    have h2 : m ≠ [] := by intro h; rw [h] at hp; exact h1 (List.perm_nil.1 hp)
    rw [ord_first l f h1, ord_first m f h2]
    -- the rest is one shorter only where it comes of a pick: say so by its length
    have h3 : ∀ (k : List α), k.length = n + 1 → sum (fun x : α × List α => sum (fun o => f (x.1 :: o)) (ordL x.2)) (picks k) = sum (fun x : α × List α => if x.2.length = n then sum (fun o => f (x.1 :: o)) (ordL x.2) else 0) (picks k) := by
      intro k hk
      refine sum_congr fun x hx => ?_
      have := (picks_perm hx).length_eq
      rw [if_pos (by simp at this; omega)]
    rw [h3 l hl, h3 m (by rw [← hp.length_eq]; exact hl)]
    refine picks_sum_perm hp _ fun a R R' hR => ?_
    simp only
    rw [← hR.length_eq]
    by_cases c : R.length = n
    · rw [if_pos c, if_pos c]
      exact ih R R' c hR _
    · rw [if_neg c, if_neg c]
/-- BY COINS, IN ALL ORDERS -/
theorem flips {α : Type} [DecidableEq α] (U D : α → Rat) (i : α) : ∀ (n : Nat) (T : List α), T.length = n → (∀ a ∈ i :: T, 0 < U a) → i ∉ T → ∀ l : List α, l.Perm (i :: T) →
    sum (val U D i) (ordL l) = ((fact (n + 1) : Nat) : Rat) * (D i * pU U T) * psi 1 (T.map fun a => D a * (U a)⁻¹) := by
  intro n
  induction n with
  | zero =>
    intro T hT hU hi l hl
    obtain rfl := List.length_eq_zero_iff.1 hT
    obtain rfl := List.perm_singleton.1 hl
    have e4 : ((1 : Nat) : Rat) = 1 := rfl
    have e5 : ((fact (0 + 1) : Nat) : Rat) = 1 := rfl
    rw [e5]
    simp only [ordL, List.flatMap_cons, List.flatMap_nil, ins, sum, List.append_nil, val, List.map_nil, psi, if_true]
    rw [e4]
    grind
  | succ n ih =>
    intro T hT hU hi l hl
    rw [ord_sum_perm _ l _ rfl hl, ord_first _ _ (by simp)]
    simp only [picks, sum]
    rw [sum_map]
    have e1 : sum (fun o => val U D i (i :: o)) (ordL T) = ((fact (n + 1) : Nat) : Rat) * (D i * pU U T) := by
      have h1 : sum (fun o => val U D i (i :: o)) (ordL T) = sum (fun _ => D i * pU U T) (ordL T) := sum_congr fun o ho => by
        simp only [val, if_true]
        rw [pU_perm U (ord_perm ho)]
      rw [h1, sum_const, ord_len, hT]
    have e2 : sum (fun x : α × List α => sum (fun o => val U D i (x.1 :: o)) (ordL (i :: x.2))) (picks T) = ((fact (n + 1) : Nat) : Rat) * (D i * pU U T) * sum (fun x : α × List α => (1 - D x.1 * (U x.1)⁻¹) * psi 1 (x.2.map fun a => D a * (U a)⁻¹)) (picks T) := by
      rw [← sum_scale]
      refine sum_congr fun x hx => ?_
      have hp := picks_perm hx
      have hxT : x.1 ∈ T := hp.subset (List.mem_cons_self ..)
      have hne : ¬ x.1 = i := fun h => hi (h ▸ hxT)
      have hlen : x.2.length = n := by have := hp.length_eq; simp at this; omega
      have h2 := ih x.2 hlen (fun a ha => hU a (by
        rcases List.mem_cons.1 ha with h | h
        · rw [h]; exact List.mem_cons_self ..
        · exact List.mem_cons_of_mem _ (hp.subset (List.mem_cons_of_mem _ h)))) (fun h => hi (hp.subset (List.mem_cons_of_mem _ h))) (i :: x.2) (List.Perm.refl _)
      have h3 : sum (fun o => val U D i (x.1 :: o)) (ordL (i :: x.2)) = (U x.1 - D x.1) * sum (val U D i) (ordL (i :: x.2)) := by
        rw [← sum_scale]
        refine sum_congr fun o _ => ?_
        simp only [val]
        rw [if_neg hne]
      rw [h3, h2]
      have h4 : pU U T = U x.1 * pU U x.2 := by rw [← pU_perm U hp, pU_cons]
      have h5 := hU x.1 (List.mem_cons_of_mem _ hxT)
      rw [h4]
      generalize psi 1 (x.2.map fun a => D a * (U a)⁻¹) = z
      generalize pU U x.2 = y
      generalize ((fact (n + 1) : Nat) : Rat) = k
      have h6 : U x.1 * (U x.1)⁻¹ = 1 := by grind
      generalize U x.1 = v at *
      generalize v⁻¹ = v' at *
      have h7 : v * (1 - D x.1 * v') = v - D x.1 := by grind
      rw [← h7]
      grind
    have e3 := psi_rec (T.map fun a => D a * (U a)⁻¹) 1 (by omega)
    rw [picks_map, sum_map] at e3
    simp only at e1 e2 e3 ⊢
    rw [e1, e2, e3, List.length_map, hT]
    have f1 : ((fact (n + 1 + 1) : Nat) : Rat) = ((n : Rat) + 1 + 1) * ((fact (n + 1) : Nat) : Rat) := by
      show (((n + 1 + 1) * fact (n + 1) : Nat) : Rat) = _
      simp
    have f2 : ((n + 1 : Nat) : Rat) = (n : Rat) + 1 := by simp
    have e4 : ((1 : Nat) : Rat) = 1 := rfl
    rw [f1, f2, e4]
    grind


/-! ### IN WHOLE NUMBERS -/
def sumI {α : Type} (f : α → Int) : List α → Int
  | [] => 0
  | a :: l => f a + sumI f l
theorem sumI_cast {α : Type} (f : α → Int) (l : List α) : ((sumI f l : Int) : Rat) = sum (fun a => ((f a : Int) : Rat)) l := by
  induction l with
  | nil => rfl
  | cons a l ih => simp only [sumI, sum, Rat.intCast_add, ih]
def pI {α : Type} (U : α → Int) (l : List α) : Int := l.foldr (fun a r => U a * r) 1
theorem pI_cast {α : Type} (U : α → Int) (l : List α) : ((pI U l : Int) : Rat) = pU (fun a => ((U a : Int) : Rat)) l := by
  induction l with
  | nil => rfl
  | cons a l ih =>
    have e : pI U (a :: l) = U a * pI U l := rfl
    rw [e, pU_cons, Rat.intCast_mul, ih]
def valI {α : Type} [DecidableEq α] (U D : α → Int) (i : α) : List α → Int
  | [] => 0
  | a :: o => if a = i then D i * pI U o else (U a - D a) * valI U D i o
theorem valI_cast {α : Type} [DecidableEq α] (U D : α → Int) (i : α) (l : List α) : ((valI U D i l : Int) : Rat) = val (fun a => ((U a : Int) : Rat)) (fun a => ((D a : Int) : Rat)) i l := by
  induction l with
  | nil => rfl
  | cons a l ih =>
    simp only [valI, val]
    split
    · rw [Rat.intCast_mul, pI_cast]
    · rw [Rat.intCast_mul, Rat.intCast_sub, ih]
theorem picks_erase {α : Type} [DecidableEq α] : ∀ {l : List α}, l.Nodup → picks l = l.map fun a => (a, l.erase a)
  | [], _ => rfl
  | a :: l, h => by
    have hn := List.nodup_cons.1 h
    simp only [picks, List.map_cons, List.erase_cons_head]
    rw [picks_erase hn.2, List.map_map]
    congr 1
    refine List.map_congr_left fun b hb => ?_
    have hne : a ≠ b := fun e => hn.1 (e ▸ hb)
    simp [hne]

/-- how far below the best, as a chance -/
def ch (u d : Int) (s : List Nat) (i : Nat) : Rat := (((d ^ s.getD i 0 : Int) : Rat)) * (((u ^ s.getD i 0 : Int) : Rat))⁻¹
/-- the weight of i, by coins -/
def flW (u d : Int) (s : List Nat) (i : Nat) : Int := sumI (valI (fun j => u ^ s.getD j 0) (fun j => d ^ s.getD j 0) i) (ordL (List.range s.length).reverse)
/-- the others -/
def oth (u d : Int) (s : List Nat) (i : Nat) : List Rat := ((List.range s.length).erase i).map (ch u d s)
/-- all together -/
def flC (u : Int) (s : List Nat) : Rat := ((fact s.length : Nat) : Rat) * pU (fun j => ((u ^ s.getD j 0 : Int) : Rat)) (List.range s.length)
theorem powq_pos {u : Int} (h : 1 ≤ u) (n : Nat) : (0 : Rat) < ((u ^ n : Int) : Rat) := by
  have : (0 : Int) < u ^ n := Int.pow_pos (by omega)
  exact_mod_cast this
theorem ch_pos {u d : Int} (hd : 1 ≤ d) (hu : 1 ≤ u) (s : List Nat) (i : Nat) : 0 < ch u d s i :=
  Rat.mul_pos (powq_pos hd _) (Rat.inv_pos.2 (powq_pos hu _))
theorem powi_le {u d : Int} (hd : 0 ≤ d) (h : d ≤ u) (n : Nat) : d ^ n ≤ u ^ n := by
  induction n with
  | zero => simp
  | succ n ih =>
    rw [Int.pow_succ, Int.pow_succ]
    exact Int.mul_le_mul ih h hd (Int.pow_nonneg (by omega))
theorem ch_le {u d : Int} (hd : 1 ≤ d) (hu : d ≤ u) (s : List Nat) (i : Nat) : ch u d s i ≤ 1 := by
  unfold ch
  have h1 : ((d ^ s.getD i 0 : Int) : Rat) ≤ ((u ^ s.getD i 0 : Int) : Rat) := by exact_mod_cast powi_le (show 0 ≤ d by omega) hu _
  have h2 := powq_pos (show 1 ≤ u by omega) (s.getD i 0)
  have h3 := Rat.mul_le_mul_of_nonneg_left h1 (Rat.le_of_lt (Rat.inv_pos.2 h2))
  have h4 : ((u ^ s.getD i 0 : Int) : Rat) * (((u ^ s.getD i 0 : Int) : Rat))⁻¹ = 1 := by grind
  grind
theorem oth_in {u d : Int} (hd : 1 ≤ d) (hu : d ≤ u) (s : List Nat) (i : Nat) : In01 (oth u d s i) := by
  intro q hq
  obtain ⟨j, _, rfl⟩ := List.mem_map.1 hq
  exact ⟨Rat.le_of_lt (ch_pos hd (by omega) s j), ch_le hd hu s j⟩
theorem pU_pos {α : Type} {U : α → Rat} {l : List α} (h : ∀ a ∈ l, 0 < U a) : 0 < pU U l := by
  induction l with
  | nil => show (0 : Rat) < 1; grind
  | cons a l ih =>
    rw [pU_cons]
    exact Rat.mul_pos (h a (List.mem_cons_self ..)) (ih fun b hb => h b (List.mem_cons_of_mem _ hb))
theorem fact_pos : ∀ n, 0 < fact n
  | 0 => by simp [fact]
  | n + 1 => Nat.mul_pos (by omega) (fact_pos n)
theorem flC_pos {u : Int} (hu : 1 ≤ u) (s : List Nat) : 0 < flC u s := by
  unfold flC
  refine Rat.mul_pos ?_ (pU_pos fun a _ => powq_pos hu _)
  exact_mod_cast fact_pos _
/-- a weight, told -/
theorem flW_is {u d : Int} (hu : 1 ≤ u) (s : List Nat) {i : Nat} (hi : i < s.length) : ((flW u d s i : Int) : Rat) = flC u s * (ch u d s i * psi 1 (oth u d s i)) := by
  unfold flW
  have hm : i ∈ List.range s.length := List.mem_range.2 hi
  have hnd : (List.range s.length).Nodup := List.nodup_range
  have hp : (List.range s.length).Perm (i :: (List.range s.length).erase i) := List.perm_cons_erase hm
  have hlen : ((List.range s.length).erase i).length = s.length - 1 := by rw [List.length_erase_of_mem hm, List.length_range]
  have h1 := flips (fun j => ((u ^ s.getD j 0 : Int) : Rat)) (fun j => ((d ^ s.getD j 0 : Int) : Rat)) i (s.length - 1) ((List.range s.length).erase i) hlen (fun a _ => powq_pos hu _) (fun h => by
    have := (hp.nodup_iff.1 hnd)
    exact (List.nodup_cons.1 this).1 h) (List.range s.length).reverse ((List.reverse_perm _).trans hp)
  rw [sumI_cast, show (fun a => ((valI (fun j => u ^ s.getD j 0) (fun j => d ^ s.getD j 0) i a : Int) : Rat)) = val (fun j => ((u ^ s.getD j 0 : Int) : Rat)) (fun j => ((d ^ s.getD j 0 : Int) : Rat)) i from funext fun a => valI_cast _ _ _ _, h1]
  rw [show s.length - 1 + 1 = s.length by omega]
  unfold flC oth
  rw [pU_perm _ hp, pU_cons]
  have h2 : ch u d s i * ((u ^ s.getD i 0 : Int) : Rat) = ((d ^ s.getD i 0 : Int) : Rat) := by
    unfold ch
    have := powq_pos hu (s.getD i 0)
    generalize ((u ^ s.getD i 0 : Int) : Rat) = v at *
    grind
  rw [← h2]
  have h3 : (fun a => ((d ^ s.getD a 0 : Int) : Rat) * (((u ^ s.getD a 0 : Int) : Rat))⁻¹) = ch u d s := rfl
  rw [h3]
  grind
theorem psi_pos {l : List Rat} (h : In01 l) : ∀ k, 1 ≤ k → 0 < psi k l := by
  induction l with
  | nil => intro k hk; exact inv_pos k hk
  | cons q l ih =>
    intro k hk
    obtain ⟨⟨h0, h1⟩, hl⟩ := h.cons
    have a := ih hl k hk
    have b := ih hl (k + 1) (by omega)
    simp only [psi]
    by_cases c : q = 1
    · subst c; grind
    · have c1 : (0 : Rat) < 1 - q := by
        have := Rat.lt_of_le_of_ne h1 c
        grind
      have d1 := Rat.mul_pos c1 a
      have d2 := Rat.mul_nonneg h0 (Rat.le_of_lt b)
      grind
theorem flW_pos {u d : Int} (hd : 1 ≤ d) (hu : d ≤ u) (s : List Nat) {i : Nat} (hi : i < s.length) : 0 < flW u d s i := by
  have h := flW_is (u := u) (d := d) (by omega) s hi
  have h1 := Rat.mul_pos (flC_pos (show 1 ≤ u by omega) s) (Rat.mul_pos (ch_pos hd (show 1 ≤ u by omega) s i) (psi_pos (oth_in hd hu s i) 1 (by omega)))
  rw [← h] at h1
  exact_mod_cast h1
theorem ch_tot {u d : Int} (s : List Nat) (h0 : 0 ∈ s) : sum (fun i => ch u d s i * psi 1 (oth u d s i)) (List.range s.length) = 1 := by
  have h1 := psi_tot ((List.range s.length).map (ch u d s))
  rw [prd_one (by
    obtain ⟨i, hi, e⟩ := List.getElem_of_mem h0
    refine List.mem_map.2 ⟨i, List.mem_range.2 hi, ?_⟩
    unfold ch
    rw [show s.getD i 0 = 0 by simp [List.getD, List.getElem?_eq_getElem hi, e]]
    simp only [Int.pow_zero]
    have : ((1 : Int) : Rat) = 1 := rfl
    rw [this]
    grind), picks_map, sum_map, picks_erase List.nodup_range, sum_map] at h1
  simp only at h1
  have h2 : (1 : Rat) - 0 = 1 := by grind
  rw [h2] at h1
  exact h1
/-- all weights together -/
theorem flW_tot {u d : Int} (hu : 1 ≤ u) (s : List Nat) (h0 : 0 ∈ s) : ((sumI (flW u d s) (List.range s.length) : Int) : Rat) = flC u s := by
  rw [sumI_cast]
  have h1 : sum (fun a => ((flW u d s a : Int) : Rat)) (List.range s.length) = sum (fun i => flC u s * (ch u d s i * psi 1 (oth u d s i))) (List.range s.length) := sum_congr fun i hi => flW_is hu s (List.mem_range.1 hi)
  rw [h1, sum_scale, ch_tot s h0]
  grind

theorem ch_pow {u d : Int} (hu : 1 ≤ u) (n : Nat) : ((d ^ n : Int) : Rat) * (((u ^ n : Int) : Rat))⁻¹ = ((d : Rat) * (u : Rat)⁻¹) ^ n := by
  have hq : (0 : Rat) < (u : Rat) := by exact_mod_cast hu
  induction n with
  | zero => simp only [Int.pow_zero, Rat.pow_zero]; have : ((1 : Int) : Rat) = 1 := rfl; rw [this]; grind
  | succ n ih =>
    have h2 := powq_pos hu n
    rw [Rat.pow_succ, ← ih, Int.pow_succ, Int.pow_succ, Rat.intCast_mul, Rat.intCast_mul]
    generalize ((u ^ n : Int) : Rat) = v at *
    generalize ((d ^ n : Int) : Rat) = w at *
    grind
theorem ch_is {u d : Int} (hu : 1 ≤ u) (s : List Nat) (i : Nat) : ch u d s i = ((d : Rat) * (u : Rat)⁻¹) ^ s.getD i 0 := ch_pow hu _
theorem q_in {u d : Int} (hd : 1 ≤ d) (hu : d ≤ u) : 0 < (d : Rat) * (u : Rat)⁻¹ ∧ (d : Rat) * (u : Rat)⁻¹ ≤ 1 := by
  have h1 : (0 : Rat) < (d : Rat) := by exact_mod_cast hd
  have h2 : (0 : Rat) < (u : Rat) := by exact_mod_cast (show (0 : Int) < u by omega)
  have h3 : (d : Rat) ≤ (u : Rat) := by exact_mod_cast hu
  have h4 := Rat.inv_pos.2 h2
  refine ⟨Rat.mul_pos h1 h4, ?_⟩
  have h5 := Rat.mul_le_mul_of_nonneg_left h3 (Rat.le_of_lt h4)
  have h6 : (u : Rat) * (u : Rat)⁻¹ = 1 := by grind
  grind
theorem pow_posq {q : Rat} (h : 0 < q) (n : Nat) : 0 < q ^ n := by
  induction n with
  | zero => rw [Rat.pow_zero]; grind
  | succ n ih => rw [Rat.pow_succ]; exact Rat.mul_pos ih h
theorem pow_anti {q : Rat} (h0 : 0 < q) (h1 : q ≤ 1) {n m : Nat} (h : n ≤ m) : q ^ m ≤ q ^ n := by
  obtain ⟨k, rfl⟩ := Nat.le.dest h
  clear h
  induction k with
  | zero => exact Rat.le_refl
  | succ k ih =>
    have h2 := pow_posq h0 (n + k)
    rw [← Nat.add_assoc, Rat.pow_succ]
    have h3 := Rat.mul_le_mul_of_nonneg_left h1 (Rat.le_of_lt h2)
    grind
theorem lex_map {α : Type} {x y : Rat} {f g : α → Rat} {T : List α} (h : ∀ j ∈ T, x * g j ≤ y * f j) : Lex x y (T.map f) (T.map g) := by
  induction T with
  | nil => trivial
  | cons a T ih => exact ⟨h a (List.mem_cons_self ..), ih fun j hj => h j (List.mem_cons_of_mem _ hj)⟩
theorem pow_addq (q : Rat) (n m : Nat) : q ^ (n + m) = q ^ n * q ^ m := by
  induction m with
  | zero => rw [Nat.add_zero, Rat.pow_zero]; grind
  | succ m ih => rw [← Nat.add_assoc, Rat.pow_succ, ih, Rat.pow_succ]; grind
/-- BY COINS NOTHING IS MUCH LIKELIER -/
theorem flip_far {u d : Int} (hd : 1 ≤ d) (hu : d ≤ u) {s t : List Nat} (hlen : s.length = t.length) (h0 : 0 ∈ s) (h0' : 0 ∈ t) {K : Nat}
    (hK : ∀ i j, i < s.length → j < s.length → t.getD i 0 + s.getD j 0 ≤ K + s.getD i 0 + t.getD j 0) {i : Nat} (hi : i < s.length) :
    flW u d s i * sumI (flW u d t) (List.range t.length) * d ^ K ≤ u ^ K * (flW u d t i * sumI (flW u d s) (List.range s.length)) := by
  have hu1 : 1 ≤ u := by omega
  obtain ⟨q0, q1⟩ := q_in hd hu
  have ti := flW_is (u := u) (d := d) hu1 t (i := i) (by omega)
  have si := flW_is (u := u) (d := d) hu1 s (i := i) hi
  have tt := flW_tot (u := u) (d := d) hu1 t h0'
  have st := flW_tot (u := u) (d := d) hu1 s h0
  have cs := flC_pos hu1 s
  have ct := flC_pos hu1 t
  have kd := powq_pos hd K
  have ku := powq_pos hu1 K
  have kq := ch_pow (d := d) hu1 K
  have hKK : ((u ^ K : Int) : Rat) * (((d : Rat) * (u : Rat)⁻¹) ^ K) = ((d ^ K : Int) : Rat) := by
    rw [← kq]
    generalize ((u ^ K : Int) : Rat) = v at *
    generalize ((d ^ K : Int) : Rat) = w at *
    grind
  have key : ((d ^ K : Int) : Rat) * ch u d s i * psi 1 (oth u d s i) ≤ ((u ^ K : Int) : Rat) * ch u d t i * psi 1 (oth u d t i) := by
    have hq := ch_pos hd hu1 s i
    refine coins (Rat.mul_nonneg (Rat.le_of_lt kd) (Rat.le_of_lt hq)) ?_ (oth_in hd hu s i) (oth_in hd hu t i) ?_
    · obtain ⟨j, hj, e⟩ := List.getElem_of_mem h0'
      have hx := hK i j hi (by omega)
      rw [show t.getD j 0 = 0 by simp [List.getD, List.getElem?_eq_getElem hj, e]] at hx
      rw [ch_is hu1, ch_is hu1, ← hKK, Rat.mul_assoc]
      refine Rat.mul_le_mul_of_nonneg_left ?_ (Rat.le_of_lt ku)
      rw [← pow_addq]
      exact pow_anti q0 q1 (by omega)
    · unfold oth
      rw [← hlen]
      refine lex_map fun j hj => ?_
      have hj' : j < s.length := List.mem_range.1 (List.mem_of_mem_erase hj)
      have hx := hK i j hi hj'
      rw [ch_is hu1, ch_is hu1, ch_is hu1, ch_is hu1, ← hKK, Rat.mul_assoc, Rat.mul_assoc, Rat.mul_assoc]
      refine Rat.mul_le_mul_of_nonneg_left ?_ (Rat.le_of_lt ku)
      rw [← pow_addq, ← pow_addq, ← pow_addq]
      exact pow_anti q0 q1 (by omega)
  have hcc := Rat.mul_pos cs ct
  have h3 := Rat.mul_le_mul_of_nonneg_left key (Rat.le_of_lt hcc)
  have h4 : ((flW u d s i * sumI (flW u d t) (List.range t.length) * d ^ K : Int) : Rat) ≤ ((u ^ K * (flW u d t i * sumI (flW u d s) (List.range s.length)) : Int) : Rat) := by
    rw [Rat.intCast_mul, Rat.intCast_mul, Rat.intCast_mul, Rat.intCast_mul, tt, st, ti, si]
    generalize psi 1 (oth u d s i) = a at *
    generalize psi 1 (oth u d t i) = b at *
    grind
  exact_mod_cast h4
/-- MCKENNA AND SHELDON, in whole numbers -/
theorem flip_better {u d : Int} (hd : 1 ≤ d) (hu : d ≤ u) {s : List Nat} (h0 : 0 ∈ s) {W : Nat} (hW : ∀ i, i < s.length → s.getD i 0 ≤ W) (l : Nat → Int)
    (hl : ∀ i j, i < s.length → j < s.length → l i ≤ l j → s.getD j 0 ≤ s.getD i 0) :
    sumI (fun i => u ^ (W - s.getD i 0) * d ^ s.getD i 0 * l i) (List.range s.length) * sumI (flW u d s) (List.range s.length) ≤
      sumI (fun i => u ^ (W - s.getD i 0) * d ^ s.getD i 0) (List.range s.length) * sumI (fun i => flW u d s i * l i) (List.range s.length) := by
  have hu1 : 1 ≤ u := by omega
  obtain ⟨q0, q1⟩ := q_in hd hu
  have st := flW_tot (u := u) (d := d) hu1 s h0
  have cs := flC_pos hu1 s
  have kw := powq_pos hu1 W
  have hw : ∀ i, i < s.length → ((u ^ (W - s.getD i 0) * d ^ s.getD i 0 : Int) : Rat) = ((u ^ W : Int) : Rat) * ch u d s i := by
    intro i hi
    have h1 := hW i hi
    have e : W = (W - s.getD i 0) + s.getD i 0 := by omega
    have h2 := powq_pos hu1 (s.getD i 0)
    have e2 : ((u ^ W : Int) : Rat) = ((u ^ (W - s.getD i 0) : Int) : Rat) * ((u ^ s.getD i 0 : Int) : Rat) := by rw [← Rat.intCast_mul, ← Int.pow_add, ← e]
    rw [e2, Rat.intCast_mul]
    unfold ch
    generalize ((u ^ s.getD i 0 : Int) : Rat) = v at *
    grind
  have b := better (ch u d s) (fun i => ((l i : Int) : Rat)) (List.range s.length) (fun i _ => ⟨Rat.le_of_lt (ch_pos hd hu1 s i), ch_le hd hu s i⟩) (by
    obtain ⟨i, hi, e⟩ := List.getElem_of_mem h0
    refine ⟨i, List.mem_range.2 hi, ?_⟩
    rw [ch_is hu1, show s.getD i 0 = 0 by simp [List.getD, List.getElem?_eq_getElem hi, e], Rat.pow_zero]) (by
    intro i hi j hj h
    have h' : l i ≤ l j := by exact_mod_cast h
    rw [ch_is hu1, ch_is hu1]
    exact pow_anti q0 q1 (hl i j (List.mem_range.1 hi) (List.mem_range.1 hj) h'))
  rw [picks_erase List.nodup_range, sum_map] at b
  simp only at b
  have e1 : ((sumI (fun i => u ^ (W - s.getD i 0) * d ^ s.getD i 0 * l i) (List.range s.length) : Int) : Rat) = ((u ^ W : Int) : Rat) * sum (fun i => ch u d s i * ((l i : Int) : Rat)) (List.range s.length) := by
    rw [sumI_cast, ← sum_scale]
    refine sum_congr fun i hi => ?_
    rw [Rat.intCast_mul, hw i (List.mem_range.1 hi)]
    grind
  have e2 : ((sumI (fun i => u ^ (W - s.getD i 0) * d ^ s.getD i 0) (List.range s.length) : Int) : Rat) = ((u ^ W : Int) : Rat) * sum (ch u d s) (List.range s.length) := by
    rw [sumI_cast, ← sum_scale]
    exact sum_congr fun i hi => hw i (List.mem_range.1 hi)
  have e3 : ((sumI (fun i => flW u d s i * l i) (List.range s.length) : Int) : Rat) = flC u s * sum (fun i => ch u d s i * (((l i : Int) : Rat) * psi 1 (((List.range s.length).erase i).map (ch u d s)))) (List.range s.length) := by
    rw [sumI_cast, ← sum_scale]
    refine sum_congr fun i hi => ?_
    rw [Rat.intCast_mul, flW_is hu1 s (List.mem_range.1 hi)]
    unfold oth
    grind
  have h3 := Rat.mul_le_mul_of_nonneg_left b (Rat.le_of_lt (Rat.mul_pos kw cs))
  have h4 : ((sumI (fun i => u ^ (W - s.getD i 0) * d ^ s.getD i 0 * l i) (List.range s.length) * sumI (flW u d s) (List.range s.length) : Int) : Rat) ≤ ((sumI (fun i => u ^ (W - s.getD i 0) * d ^ s.getD i 0) (List.range s.length) * sumI (fun i => flW u d s i * l i) (List.range s.length) : Int) : Rat) := by
    rw [Rat.intCast_mul, Rat.intCast_mul, e1, e2, e3, st]
    grind
  exact_mod_cast h4
/-- BY WEIGHTS NOTHING IS MUCH LIKELIER -/
theorem weigh_far {u d : Int} (hd : 1 ≤ d) (hu : d ≤ u) {s t : List Nat} (hlen : s.length = t.length) {V W : Nat} (hV : ∀ i, i < s.length → s.getD i 0 ≤ V) (hW : ∀ i, i < t.length → t.getD i 0 ≤ W) {K : Nat}
    (hK : ∀ i j, i < s.length → j < s.length → t.getD i 0 + s.getD j 0 ≤ K + s.getD i 0 + t.getD j 0) {i : Nat} (hi : i < s.length) :
    u ^ (V - s.getD i 0) * d ^ s.getD i 0 * sumI (fun j => u ^ (W - t.getD j 0) * d ^ t.getD j 0) (List.range t.length) * d ^ K ≤
      u ^ K * (u ^ (W - t.getD i 0) * d ^ t.getD i 0 * sumI (fun j => u ^ (V - s.getD j 0) * d ^ s.getD j 0) (List.range s.length)) := by
  have key : ∀ j, j < s.length → u ^ (V - s.getD i 0) * d ^ s.getD i 0 * (u ^ (W - t.getD j 0) * d ^ t.getD j 0) * d ^ K ≤ u ^ K * (u ^ (W - t.getD i 0) * d ^ t.getD i 0 * (u ^ (V - s.getD j 0) * d ^ s.getD j 0)) := by
    intro j hj
    have h1 := hK i j hi hj
    have a1 := hV i hi
    have a2 := hV j hj
    have a3 := hW i (by omega)
    have a4 := hW j (by omega)
    generalize s.getD i 0 = a at *
    generalize s.getD j 0 = b at *
    generalize t.getD i 0 = a' at *
    generalize t.getD j 0 = b' at *
    have e1 : u ^ (V - a) * d ^ a * (u ^ (W - b') * d ^ b') * d ^ K = u ^ (V - a + (W - b')) * d ^ (a + b' + K) := by
      rw [Int.pow_add, Int.pow_add, Int.pow_add]; grind
    have e2 : u ^ K * (u ^ (W - a') * d ^ a' * (u ^ (V - b) * d ^ b)) = u ^ (K + (W - a') + (V - b)) * d ^ (a' + b) := by
      rw [Int.pow_add, Int.pow_add, Int.pow_add]; grind
    rw [e1, e2]
    obtain ⟨k, hk⟩ := Nat.le.dest (show a' + b ≤ a + b' + K by omega)
    have e3 : K + (W - a') + (V - b) = V - a + (W - b') + k := by omega
    rw [e3, ← hk, Int.pow_add d (a' + b) k, Int.pow_add u (V - a + (W - b')) k]
    have h5 := powi_le (show 0 ≤ d by omega) hu k
    have h6 : 0 ≤ u ^ (V - a + (W - b')) * d ^ (a' + b) := Int.mul_nonneg (Int.pow_nonneg (by omega)) (Int.pow_nonneg (by omega))
    have h7 := Int.mul_le_mul_of_nonneg_left h5 h6
    rw [← Int.mul_assoc, Int.mul_right_comm _ (u ^ k)]
    exact h7
  rw [← hlen]
  have hall : ∀ L : List Nat, (∀ j ∈ L, j < s.length) → u ^ (V - s.getD i 0) * d ^ s.getD i 0 * sumI (fun j => u ^ (W - t.getD j 0) * d ^ t.getD j 0) L * d ^ K ≤ u ^ K * (u ^ (W - t.getD i 0) * d ^ t.getD i 0 * sumI (fun j => u ^ (V - s.getD j 0) * d ^ s.getD j 0) L) := by
    intro L
    induction L with
    | nil => intro _; simp [sumI]
    | cons j L ih =>
      intro hL
      have i1 := ih fun k hk => hL k (List.mem_cons_of_mem _ hk)
      have i2 := key j (hL j (List.mem_cons_self ..))
      simp only [sumI]
      grind
  exact hall _ fun j hj => List.mem_range.1 hj
end Go.Proofs.Ps

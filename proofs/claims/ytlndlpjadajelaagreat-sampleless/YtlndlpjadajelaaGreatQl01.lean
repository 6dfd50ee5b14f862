namespace Go.Proofs.YtlndlpjadajelaaGreat.Ds

/-- something that may come, and its weight -/
abbrev Pt := List Int × Int

/-- the order of lists: -1, 0, 1 -/
def cmpT : List Int → List Int → Int
  | [], [] => 0
  | [], _ :: _ => -1
  | _ :: _, [] => 1
  | a :: x, b :: y => if a < b then -1 else if b < a then 1 else cmpT x y

theorem cmpT_cases (x y : List Int) : cmpT x y = -1 ∨ cmpT x y = 0 ∨ cmpT x y = 1 := by
  induction x generalizing y with
  | nil => cases y <;> simp [cmpT]
  | cons a x ih => cases y with
    | nil => simp [cmpT]
    | cons b y => simp only [cmpT]; split; · simp
                  · split; · simp
                    · exact ih y

theorem cmpT_swap (x y : List Int) : cmpT y x = - cmpT x y := by
  induction x generalizing y with
  | nil => cases y <;> simp [cmpT]
  | cons a x ih => cases y with
    | nil => simp [cmpT]
    | cons b y =>
      simp only [cmpT]
      by_cases h1 : a < b
      · simp [h1, Int.not_lt.2 (Int.le_of_lt h1)]
      · by_cases h2 : b < a
        · simp [h1, h2]
        · simp [h1, h2, ih y]

theorem cmpT_self (x : List Int) : cmpT x x = 0 := by
  have := cmpT_swap x x; omega

theorem cmpT_zero (x y : List Int) : cmpT x y = 0 ↔ x = y := by
  constructor
  · intro h
    induction x generalizing y with
    | nil => cases y with | nil => rfl | cons b y => simp [cmpT] at h
    | cons a x ih => cases y with
      | nil => simp [cmpT] at h
      | cons b y =>
        simp only [cmpT] at h
        by_cases h1 : a < b
        · simp [h1] at h
        · by_cases h2 : b < a
          · simp [h1, h2] at h
          · simp [h1, h2] at h
            rw [ih y h, show a = b by omega]
  · rintro rfl; exact cmpT_self x

/-- less, of lists -/
abbrev ltL (x y : List Int) : Prop := cmpT x y < 0

theorem ltL_irrefl (x : List Int) : ¬ ltL x x := by unfold ltL; rw [cmpT_self]; omega

theorem ltL_trans {x y z : List Int} (h : ltL x y) (k : ltL y z) : ltL x z := by
  unfold ltL at *
  induction x generalizing y z with
  | nil => cases z with
    | nil => cases y <;> simp [cmpT] at *
    | cons c z => simp [cmpT]
  | cons a x ih => cases y with
    | nil => simp [cmpT] at h
    | cons b y => cases z with
      | nil => simp [cmpT] at k
      | cons c z =>
        simp only [cmpT] at *
        by_cases h1 : a < b
        · have : a < c := by
            by_cases h3 : b < c; · omega
            · by_cases h4 : c < b
              · simp [h3, h4] at k
              · omega
          simp [this]
        · by_cases h2 : b < a
          · simp [h1, h2] at h
          · simp [h1, h2] at h
            have : a = b := by omega
            subst this
            by_cases h3 : a < c; · simp [h3]
            · by_cases h4 : c < a
              · simp [h3, h4] at k
              · simp [h3, h4] at k ⊢
                exact ih h k

theorem ltL_asymm {x y : List Int} (h : ltL x y) : ¬ ltL y x := fun k => ltL_irrefl _ (ltL_trans h k)
theorem ltL_ne {x y : List Int} (h : ltL x y) : x ≠ y := by rintro rfl; exact ltL_irrefl _ h
theorem ltL_tri (x y : List Int) : ltL x y ∨ x = y ∨ ltL y x := by
  unfold ltL
  rw [← cmpT_zero x y, cmpT_swap x y]
  omega

theorem ltL_of_le_lt {x y z : List Int} (h : ¬ ltL y x) (k : ltL y z) : ltL x z := by
  rcases ltL_tri x y with h1 | h1 | h1
  · exact ltL_trans h1 k
  · exact h1 ▸ k
  · exact absurd h1 h

/-- the weight of something in a list -/
def wt : List Pt → List Int → Int
  | [], _ => 0
  | p :: l, o => (if p.1 = o then p.2 else 0) + wt l o

@[simp] theorem wt_nil (o : List Int) : wt [] o = 0 := rfl
theorem wt_cons (p : Pt) (l : List Pt) (o : List Int) : wt (p :: l) o = (if p.1 = o then p.2 else 0) + wt l o := rfl
theorem wt_append (l k : List Pt) (o : List Int) : wt (l ++ k) o = wt l o + wt k o := by
  induction l with
  | nil => simp
  | cons p l ih => simp only [List.cons_append, wt_cons, ih]; omega

theorem wt_perm {l k : List Pt} (h : l.Perm k) (o : List Int) : wt l o = wt k o := by
  induction h with
  | nil => rfl
  | cons x _ ih => simp only [wt_cons, ih]
  | swap x y l => simp only [wt_cons]; omega
  | trans _ _ h1 h2 => exact h1.trans h2

/-- all weights together -/
def tot : List Pt → Int
  | [] => 0
  | p :: l => p.2 + tot l

@[simp] theorem tot_nil : tot [] = 0 := rfl
theorem tot_cons (p : Pt) (l : List Pt) : tot (p :: l) = p.2 + tot l := rfl
theorem tot_append (l k : List Pt) : tot (l ++ k) = tot l + tot k := by
  induction l with
  | nil => simp
  | cons p l ih => simp only [List.cons_append, tot_cons, ih]; omega

/-- rising outcomes -/
def Rise (l : List Pt) : Prop := l.Pairwise fun p q => ltL p.1 q.1
/-- weights above 0 -/
def Pos (l : List Pt) : Prop := ∀ p ∈ l, 0 < p.2

theorem wt_none {l : List Pt} {o : List Int} (h : ∀ p ∈ l, p.1 ≠ o) : wt l o = 0 := by
  induction l with
  | nil => rfl
  | cons p l ih =>
    rw [wt_cons, if_neg (h p (by simp)), ih fun q hq => h q (by simp [hq])]; omega

theorem wt_head {p : Pt} {l : List Pt} (h : Rise (p :: l)) : wt (p :: l) p.1 = p.2 := by
  rw [wt_cons, if_pos rfl, wt_none fun q hq => (ltL_ne ((List.pairwise_cons.1 h).1 q hq)).symm]; omega

theorem rise_tail {p : Pt} {l : List Pt} (h : Rise (p :: l)) : Rise l := (List.pairwise_cons.1 h).2

/-- rising lists of weights above 0 are told by their weights -/
theorem rise_uniq {l k : List Pt} (hl : Rise l) (pl : Pos l) (hk : Rise k) (pk : Pos k) (h : ∀ o, wt l o = wt k o) : l = k := by
  induction l generalizing k with
  | nil => cases k with
    | nil => rfl
    | cons q k => have := h q.1; rw [wt_head hk] at this; have := pk q (by simp); simp at *; omega
  | cons p l ih => cases k with
    | nil => have := h p.1; rw [wt_head hl] at this; have := pl p (by simp); simp at *; omega
    | cons q k =>
      have e : p.1 = q.1 := by
        rcases ltL_tri p.1 q.1 with c | c | c
        · have := h p.1
          rw [wt_head hl, wt_none] at this
          · have := pl p (by simp); omega
          · intro r hr
            rcases List.mem_cons.1 hr with rfl | hr
            · exact (ltL_ne c).symm
            · exact (ltL_ne (ltL_trans c ((List.pairwise_cons.1 hk).1 r hr))).symm
        · exact c
        · have := h q.1
          rw [wt_head hk, wt_none] at this
          · have := pk q (by simp); omega
          · intro r hr
            rcases List.mem_cons.1 hr with rfl | hr
            · exact (ltL_ne c).symm
            · exact (ltL_ne (ltL_trans c ((List.pairwise_cons.1 hl).1 r hr))).symm
      have e2 : p.2 = q.2 := by
        have := h p.1
        rw [wt_head hl, e, wt_head hk] at this
        exact this
      have epq : p = q := Prod.ext e e2
      subst epq
      rw [ih (rise_tail hl) (fun r hr => pl r (by simp [hr])) (rise_tail hk) (fun r hr => pk r (by simp [hr])) fun o => by
        have := h o; simp only [wt_cons] at this; omega]

/-- laid into a rising list -/
def ins (p : Pt) : List Pt → List Pt
  | [] => [p]
  | q :: l => if ltL p.1 q.1 then p :: q :: l else if p.1 = q.1 then (q.1, q.2 + p.2) :: l else q :: ins p l

theorem ins_mem {p r : Pt} {l : List Pt} (h : r ∈ ins p l) : r.1 = p.1 ∨ ∃ q ∈ l, r.1 = q.1 := by
  induction l with
  | nil => simp [ins] at h; exact .inl (by rw [h])
  | cons q l ih =>
    simp only [ins] at h
    split at h
    · rcases List.mem_cons.1 h with rfl | h
      · exact .inl rfl
      · exact .inr ⟨r, h, rfl⟩
    · split at h
      · rcases List.mem_cons.1 h with rfl | h
        · exact .inr ⟨q, by simp, rfl⟩
        · exact .inr ⟨r, by simp [h], rfl⟩
      · rcases List.mem_cons.1 h with rfl | h
        · exact .inr ⟨r, by simp, rfl⟩
        · rcases ih h with h | ⟨s, hs, e⟩
          · exact .inl h
          · exact .inr ⟨s, by simp [hs], e⟩

theorem ins_rise {p : Pt} {l : List Pt} (h : Rise l) : Rise (ins p l) := by
  induction l with
  | nil => simp [ins, Rise]
  | cons q l ih =>
    have h' := List.pairwise_cons.1 h
    simp only [ins]
    split
    · rename_i c
      refine List.pairwise_cons.2 ⟨fun r hr => ?_, h⟩
      rcases List.mem_cons.1 hr with rfl | hr
      · exact c
      · exact ltL_trans c (h'.1 r hr)
    · split
      · exact List.pairwise_cons.2 ⟨fun r hr => h'.1 r hr, h'.2⟩
      · rename_i c1 c2
        have c3 : ltL q.1 p.1 := by rcases ltL_tri p.1 q.1 with c | c | c <;> first | exact absurd c c1 | exact absurd c c2 | exact c
        refine List.pairwise_cons.2 ⟨fun r hr => ?_, ih h'.2⟩
        rcases ins_mem hr with e | ⟨s, hs, e⟩
        · rw [e]; exact c3
        · rw [e]; exact h'.1 s hs

theorem ins_wt (p : Pt) (l : List Pt) (o : List Int) : wt (ins p l) o = (if p.1 = o then p.2 else 0) + wt l o := by
  induction l with
  | nil => simp [ins, wt_cons]
  | cons q l ih =>
    simp only [ins]
    split
    · simp only [wt_cons]
    · split
      · rename_i c
        simp only [wt_cons, c]
        split <;> omega
      · simp only [wt_cons, ih]; omega

theorem ins_pos {p : Pt} {l : List Pt} (hp : 0 < p.2) (h : Pos l) : Pos (ins p l) := by
  induction l with
  | nil => intro r hr; simp [ins] at hr; rw [hr]; exact hp
  | cons q l ih =>
    simp only [ins]
    have hq := h q (by simp)
    have hl : Pos l := fun r hr => h r (by simp [hr])
    split
    · intro r hr
      rcases List.mem_cons.1 hr with rfl | hr
      · exact hp
      · exact h r hr
    · split
      · intro r hr
        rcases List.mem_cons.1 hr with rfl | hr
        · show 0 < q.2 + p.2; omega
        · exact hl r hr
      · intro r hr
        rcases List.mem_cons.1 hr with rfl | hr
        · exact hq
        · exact ih hl r hr

/-- what is alike added, what has no weight left out, in order -/
def gath : List Pt → List Pt
  | [] => []
  | p :: l => if p.2 = 0 then gath l else ins p (gath l)

theorem gath_rise (l : List Pt) : Rise (gath l) := by
  induction l with
  | nil => simp [gath, Rise]
  | cons p l ih => simp only [gath]; split <;> first | exact ih | exact ins_rise ih

theorem gath_wt (l : List Pt) (o : List Int) : wt (gath l) o = wt l o := by
  induction l with
  | nil => rfl
  | cons p l ih =>
    simp only [gath]
    split
    · rename_i c; rw [wt_cons, ih, c]; split <;> omega
    · rw [ins_wt, wt_cons, ih]

theorem gath_pos {l : List Pt} (h : ∀ p ∈ l, 0 ≤ p.2) : Pos (gath l) := by
  induction l with
  | nil => simp [gath, Pos]
  | cons p l ih =>
    have h1 := ih fun q hq => h q (by simp [hq])
    simp only [gath]
    split
    · exact h1
    · have := h p (by simp)
      exact ins_pos (by omega) h1

/-- what rises, has weights above 0 and the same weights is what is gathered -/
theorem gath_is {l k : List Pt} (h : ∀ p ∈ l, 0 ≤ p.2) (r : Rise k) (p : Pos k) (e : ∀ o, wt k o = wt l o) : gath l = k :=
  rise_uniq (gath_rise l) (gath_pos h) r p fun o => by rw [gath_wt, e]

/-- the greatest divisor of all weights -/
def dv : List Pt → Nat
  | [] => 0
  | p :: l => Nat.gcd (dv l) p.2.natAbs

/-- .. from the front -/
def dvF (g : Nat) : List Pt → Nat
  | [] => g
  | p :: l => dvF (Nat.gcd g p.2.natAbs) l

theorem dvF_eq (g : Nat) (l : List Pt) : dvF g l = Nat.gcd g (dv l) := by
  induction l generalizing g with
  | nil => simp [dvF, dv]
  | cons p l ih =>
    simp only [dvF, dv, ih]
    rw [Nat.gcd_assoc, Nat.gcd_comm (dv l)]

theorem dv_dvd {l : List Pt} {p : Pt} (h : p ∈ l) : dv l ∣ p.2.natAbs := by
  induction l with
  | nil => cases h
  | cons q l ih =>
    rcases List.mem_cons.1 h with rfl | h
    · exact Nat.gcd_dvd_right _ _
    · exact Nat.dvd_trans (Nat.gcd_dvd_left _ _) (ih h)

theorem dvd_dv {l : List Pt} {m : Nat} (h : ∀ p ∈ l, m ∣ p.2.natAbs) : m ∣ dv l := by
  induction l with
  | nil => exact Nat.dvd_zero _
  | cons q l ih => exact Nat.dvd_gcd (ih fun p hp => h p (by simp [hp])) (h q (by simp))

theorem dv_pos {l : List Pt} (h : Pos l) (hne : l ≠ []) : 0 < dv l := by
  cases l with
  | nil => exact absurd rfl hne
  | cons p l => exact Nat.gcd_pos_of_pos_right _ (by have := h p (by simp); omega)

/-- all weights divided -/
def cut (g : Int) (l : List Pt) : List Pt := l.map fun p => (p.1, p.2 / g)

@[simp] theorem cut_length (g : Int) (l : List Pt) : (cut g l).length = l.length := by simp [cut]

/-- the answer of 'lowest' -/
def lowT (l : List Pt) : List Pt × Int :=
  if l = [] then ([], 6) else if 1073741824 < tot (cut (dv l) l) ∨ 4096 < l.length then ([], 4) else (cut (dv l) l, 0)

/-- what may be one -/
def okN (n : Int) : Bool := decide (-1073741824 ≤ n ∧ n ≤ 1073741824)
def okO (x : List Int) : Bool := decide (x.length ≤ 16) && x.all okN
def okP (p : Pt) : Bool := decide (0 ≤ p.2 ∧ p.2 ≤ 1073741824) && okO p.1

/-- Make -/
def makeT (l : List Pt) : List Pt × Int := if l.all okP then lowT (gath l) else ([], 3)
/-- Wrong -/
def wrongT (l : List Pt) : Int := if (makeT l).2 ≠ 0 then (makeT l).2 else if (makeT l).1 = l then 0 else 2

theorem tot_pos {l : List Pt} (h : Pos l) : 0 ≤ tot l := by
  induction l with
  | nil => simp
  | cons p l ih => have := ih fun q hq => h q (by simp [hq]); have := h p (by simp); rw [tot_cons]; omega

theorem tot_le {l : List Pt} {M : Int} (h : ∀ p ∈ l, p.2 ≤ M) : tot l ≤ l.length * M := by
  induction l with
  | nil => simp
  | cons p l ih =>
    have h1 := ih fun q hq => h q (by simp [hq])
    have h2 := h p (by simp)
    rw [tot_cons, List.length_cons, Int.natCast_add, Int.add_mul]
    omega

theorem ins_tot (p : Pt) (l : List Pt) : tot (ins p l) = p.2 + tot l := by
  induction l with
  | nil => simp [ins, tot_cons]
  | cons q l ih =>
    simp only [ins]
    split
    · simp only [tot_cons]
    · split
      · simp only [tot_cons]; omega
      · simp only [tot_cons, ih]; omega

theorem gath_tot (l : List Pt) : tot (gath l) = tot l := by
  induction l with
  | nil => rfl
  | cons p l ih =>
    simp only [gath]
    split
    · rw [tot_cons, ih]; omega
    · rw [ins_tot, tot_cons, ih]

theorem cut_tot {l : List Pt} {g : Int} (h : ∀ p ∈ l, g ∣ p.2) : tot (cut g l) = tot l / g := by
  induction l with
  | nil => simp [cut]
  | cons p l ih =>
    have h1 := ih fun q hq => h q (by simp [hq])
    simp only [cut, List.map_cons, tot_cons] at *
    rw [h1, Int.add_ediv_of_dvd_left (h p (by simp))]

theorem dv_dvd_int {l : List Pt} {p : Pt} (h : p ∈ l) : ((dv l : Nat) : Int) ∣ p.2 := Int.ofNat_dvd_left.2 (dv_dvd h)

theorem ins_length (p : Pt) (l : List Pt) : (ins p l).length ≤ l.length + 1 := by
  induction l with
  | nil => simp [ins]
  | cons q l ih =>
    simp only [ins]
    split
    · simp
    · split
      · simp
      · simp; omega

theorem gath_length (l : List Pt) : (gath l).length ≤ l.length := by
  induction l with
  | nil => simp [gath]
  | cons p l ih =>
    simp only [gath]
    split
    · simp; omega
    · have := ins_length p (gath l); simp; omega

end Go.Proofs.YtlndlpjadajelaaGreat.Ds

/-
  THE PLAIN MATHEMATICS OF CHAPTER 1: fractions as rational numbers.
-/
namespace Go.Proofs.Rt

/-! ### divisors -/
theorem gcd_step (a b : Nat) : Nat.gcd b (a % b) = Nat.gcd a b := by
  rw [Nat.gcd_comm a b, Nat.gcd_rec b a, Nat.gcd_comm]
theorem gcd_half_left (a b : Nat) (ha : a % 2 = 0) (hb : b % 2 = 1) : Nat.gcd (a / 2) b = Nat.gcd a b := by
  obtain ⟨k, rfl⟩ : ∃ k, a = 2 * k := ⟨a / 2, by omega⟩
  have h2 : Nat.Coprime 2 b := by
    unfold Nat.Coprime
    rw [Nat.gcd_rec, hb]; decide
  rw [Nat.mul_div_cancel_left _ (by decide)]
  exact (Nat.Coprime.gcd_mul_left_cancel k h2).symm
theorem gcd_half_right (a b : Nat) (ha : a % 2 = 1) (hb : b % 2 = 0) : Nat.gcd a (b / 2) = Nat.gcd a b := by
  rw [Nat.gcd_comm, gcd_half_left b a hb ha, Nat.gcd_comm]
theorem gcd_half_both (a b : Nat) (ha : a % 2 = 0) (hb : b % 2 = 0) : 2 * Nat.gcd (a / 2) (b / 2) = Nat.gcd a b := by
  rw [← Nat.gcd_mul_left]
  congr 1 <;> omega
theorem gcd_less_left (a b : Nat) (h : b ≤ a) : Nat.gcd (a - b) b = Nat.gcd a b := by
  rw [Nat.gcd_comm, Nat.gcd_sub_self_right h, Nat.gcd_comm]
theorem gcd_less_right (a b : Nat) (h : a ≤ b) : Nat.gcd a (b - a) = Nat.gcd a b := Nat.gcd_sub_self_right h

/-! ### fractions -/
/-- MaxPart. -/
def mx : Int := 1073741824
/-- How a number is told: above, below, errno. -/
def tell (q : Rat) : Int × Int × Int :=
  if q.num < 0 then (0, 0, 3) else if mx < q.num ∨ mx < (q.den : Int) then (0, 0, 4) else (q.num, (q.den : Int), 0)
/-- Make. -/
def mkT (u d : Int) : Int × Int × Int := if u < 0 ∨ d < 1 then (0, 0, 3) else tell (Rat.divInt u d)
/-- Right. -/
def rightB (u d : Int) : Bool := decide (0 ≤ u ∧ u ≤ mx ∧ 1 ≤ d ∧ d ≤ mx ∧ Int.gcd u d = 1)

theorem num_of (u d : Int) (hu : 0 ≤ u) (hd : 1 ≤ d) : (Rat.divInt u d).num = u / (Int.gcd u d : Int) := by
  obtain ⟨m, rfl⟩ := Int.eq_ofNat_of_zero_le hu
  obtain ⟨n, rfl⟩ := Int.eq_ofNat_of_zero_le (show 0 ≤ d by omega)
  rw [Rat.num_divInt]
  rw [Int.sign_eq_one_of_pos (by omega)]
  simp [Int.gcd_comm]
theorem den_of (u d : Int) (hu : 0 ≤ u) (hd : 1 ≤ d) : ((Rat.divInt u d).den : Int) = d / (Int.gcd u d : Int) := by
  obtain ⟨m, rfl⟩ := Int.eq_ofNat_of_zero_le hu
  obtain ⟨n, rfl⟩ := Int.eq_ofNat_of_zero_le (show 0 ≤ d by omega)
  rw [Rat.den_divInt]
  rw [if_neg (by omega)]
  simp [Int.gcd_comm]
theorem mkT_of (u d n m e : Int) (hu : 0 ≤ u) (hd : 1 ≤ d) (h : mkT u d = (n, m, e)) :
    ((1073741824 < u / (Int.gcd u d : Int) ∨ 1073741824 < d / (Int.gcd u d : Int)) ∧ 0 = n ∧ 0 = m ∧ 4 = e) ∨
    (u / (Int.gcd u d : Int) ≤ 1073741824 ∧ d / (Int.gcd u d : Int) ≤ 1073741824 ∧ u / (Int.gcd u d : Int) = n ∧ d / (Int.gcd u d : Int) = m ∧ 0 = e) := by
  unfold mkT at h
  rw [if_neg (by omega)] at h
  unfold tell at h
  rw [num_of u d hu hd, den_of u d hu hd] at h
  have h0 : 0 ≤ u / (Int.gcd u d : Int) := Int.ediv_nonneg hu (by omega)
  rw [if_neg (by omega)] at h
  unfold mx at h
  by_cases c : 1073741824 < u / (Int.gcd u d : Int) ∨ 1073741824 < d / (Int.gcd u d : Int)
  · rw [if_pos c] at h
    simp only [Prod.mk.injEq] at h
    exact .inl ⟨c, h⟩
  · rw [if_neg c] at h
    simp only [Prod.mk.injEq] at h
    exact .inr ⟨by omega, by omega, h⟩

/-! ### what is done with two -/
def timesT (a b c d : Int) : Int × Int × Int := if rightB a b = true ∧ rightB c d = true then mkT (a * c) (b * d) else (0, 0, 2)
def overT (a b c d : Int) : Int × Int × Int := if rightB a b = true ∧ rightB c d = true then mkT (a * d) (b * c) else (0, 0, 2)
def plusT (a b c d : Int) : Int × Int × Int := if rightB a b = true ∧ rightB c d = true then mkT (a * d + c * b) (b * d) else (0, 0, 2)
def minusT (a b c d : Int) : Int × Int × Int := if rightB a b = true ∧ rightB c d = true then mkT (a * d - c * b) (b * d) else (0, 0, 2)
def orderT (a b c d : Int) : Int × Int := if rightB a b = true ∧ rightB c d = true then (if a * d < c * b then -1 else if c * b < a * d then 1 else 0, 0) else (0, 2)
theorem right_bd {u d : Int} (h : rightB u d = true) : 0 ≤ u ∧ u ≤ 1073741824 ∧ 1 ≤ d ∧ d ≤ 1073741824 := by
  unfold rightB mx at h
  have := of_decide_eq_true h
  exact ⟨this.1, this.2.1, this.2.2.1, this.2.2.2.1⟩
theorem mul_bd {a b : Int} (ha : 0 ≤ a) (ha' : a ≤ 1073741824) (hb : 0 ≤ b) (hb' : b ≤ 1073741824) : 0 ≤ a * b ∧ a * b ≤ 1152921504606846976 :=
  ⟨Int.mul_nonneg ha hb, by have := Int.mul_le_mul ha' hb' hb (by decide); exact this⟩

/-! ### powers -/
def powT (u d n : Int) : Int × Int × Int :=
  if rightB u d = true then (if n < 0 ∨ 4096 < n then (0, 0, 3) else if mx < u ^ n.toNat ∨ mx < d ^ n.toNat then (0, 0, 4) else (u ^ n.toNat, d ^ n.toNat, 0)) else (0, 0, 2)
theorem right_nat (x y : Nat) : rightB (x : Int) (y : Int) = true ↔ (x ≤ 1073741824 ∧ 1 ≤ y ∧ y ≤ 1073741824 ∧ Nat.gcd x y = 1) := by
  unfold rightB mx
  rw [decide_eq_true_iff, show Int.gcd (x : Int) (y : Int) = Nat.gcd x y from rfl]
  omega
theorem mkT_coprime (x y : Nat) (hy : 1 ≤ y) (h : Nat.gcd x y = 1) : mkT (x : Int) (y : Int) = if x ≤ 1073741824 ∧ y ≤ 1073741824 then ((x : Int), (y : Int), 0) else (0, 0, 4) := by
  obtain ⟨n, m, e, hm⟩ : ∃ n m e, mkT (x : Int) (y : Int) = (n, m, e) := ⟨_, _, _, rfl⟩
  rw [hm]
  have := mkT_of x y n m e (by omega) (by omega) hm
  rw [show Int.gcd (x : Int) (y : Int) = Nat.gcd x y from rfl, h] at this
  simp only [Int.natCast_one, Int.ediv_one] at this
  rcases this with ⟨hc, rfl, rfl, rfl⟩ | ⟨h1, h2, rfl, rfl, rfl⟩
  · rw [if_neg (by omega)]
  · rw [if_pos (by omega)]
theorem times_pow (x y i : Nat) (h : rightB (x : Int) (y : Int) = true) (hi : x ^ i ≤ 1073741824) (hj : y ^ i ≤ 1073741824) :
    timesT ((x ^ i : Nat) : Int) ((y ^ i : Nat) : Int) (x : Int) (y : Int) = if x ^ (i + 1) ≤ 1073741824 ∧ y ^ (i + 1) ≤ 1073741824 then (((x ^ (i + 1) : Nat) : Int), ((y ^ (i + 1) : Nat) : Int), 0) else (0, 0, 4) := by
  have h' := (right_nat x y).1 h
  obtain ⟨h1, h2, h3, h4⟩ := h'
  have hr : rightB ((x ^ i : Nat) : Int) ((y ^ i : Nat) : Int) = true := (right_nat _ _).2 ⟨hi, Nat.pow_pos h2, hj, Nat.Coprime.pow i i h4⟩
  unfold timesT
  rw [if_pos ⟨hr, h⟩, ← Int.natCast_mul, ← Int.natCast_mul, ← Nat.pow_succ, ← Nat.pow_succ]
  exact mkT_coprime _ _ (Nat.pow_pos h2) (Nat.Coprime.pow _ _ h4)
theorem pow_gt (x i n : Nat) (hi : i ≤ n) (h : 1073741824 < x ^ i) : 1073741824 < x ^ n := by
  have hx : 0 < x := by
    cases x with
    | zero => cases i with
      | zero => simp at h
      | succ k => rw [Nat.zero_pow (by omega)] at h; omega
    | succ k => omega
  exact Nat.lt_of_lt_of_le h (Nat.pow_le_pow_right hx hi)
theorem powT_of (x y n : Nat) (h : rightB (x : Int) (y : Int) = true) (hn : n ≤ 4096) (a b e : Int) (hp : powT x y n = (a, b, e)) :
    ((1073741824 < x ^ n ∨ 1073741824 < y ^ n) ∧ 0 = a ∧ 0 = b ∧ 4 = e) ∨ (x ^ n ≤ 1073741824 ∧ y ^ n ≤ 1073741824 ∧ ((x ^ n : Nat) : Int) = a ∧ ((y ^ n : Nat) : Int) = b ∧ 0 = e) := by
  unfold powT mx at hp
  rw [if_pos h, if_neg (by omega), Int.toNat_natCast, ← Int.natCast_pow, ← Int.natCast_pow] at hp
  generalize x ^ n = p at *
  generalize y ^ n = q at *
  by_cases c : (1073741824 : Int) < p ∨ (1073741824 : Int) < q
  · rw [if_pos c] at hp
    simp only [Prod.mk.injEq] at hp
    exact .inl ⟨by omega, hp⟩
  · rw [if_neg c] at hp
    simp only [Prod.mk.injEq] at hp
    exact .inr ⟨by omega, by omega, hp⟩
end Go.Proofs.Rt

namespace Go.Proofs.YtlndlpjadajelaaGreat
open Go.Proofs.YtlndlpjadajelaaGreat.Ds

/-! ### WHICH ROWS ARE LOOKED AT: subsets, coded by the sum of 2, row times -/
namespace Sb
/-- is row i in a subset? -/
def bit (s i : Nat) : Bool := s / 2 ^ i % 2 == 1
/-- how much of p's Down, k times, a subset of k rows has -/
def wgt (u d : Int) : Nat → Nat → Int
  | 0, _ => 1
  | k + 1, s => wgt u d k s * (if bit s k then u else d - u)
def lst (u d : Int) (k : Nat) : List Pt := (List.range (2 ^ k)).map fun (s : Nat) => (([(s : Int)], wgt u d k s) : Pt)

theorem bit_add {s k i : Nat} (h : i < k) : bit (s + 2 ^ k) i = bit s i := by
  unfold bit
  obtain ⟨j, rfl⟩ : ∃ j, k = i + (j + 1) := ⟨k - i - 1, by omega⟩
  rw [Nat.pow_add, Nat.add_mul_div_left _ _ (Nat.two_pow_pos i), Nat.pow_succ, Nat.add_mul_mod_self_right]
theorem bit_top {s k : Nat} (h : s < 2 ^ k) : bit (s + 2 ^ k) k = true := by
  unfold bit
  have e : (s + 2 ^ k) / 2 ^ k = 1 := by
    rw [Nat.add_div_right _ (Nat.two_pow_pos k), Nat.div_eq_of_lt h]
  rw [e]
  rfl
theorem bit_not {s k : Nat} (h : s < 2 ^ k) : bit s k = false := by
  unfold bit
  rw [Nat.div_eq_of_lt h]
  rfl
theorem wgt_add (u d : Int) {s k : Nat} : ∀ {i : Nat}, i ≤ k → wgt u d i (s + 2 ^ k) = wgt u d i s
  | 0, _ => rfl
  | i + 1, h => by
    rw [wgt, wgt, wgt_add u d (show i ≤ k by omega), bit_add (by omega)]
theorem wgt_top (u d : Int) {s k : Nat} (h : s < 2 ^ k) : wgt u d (k + 1) (s + 2 ^ k) = wgt u d k s * u := by
  rw [wgt, wgt_add u d (Nat.le_refl k), bit_top h, if_pos rfl]
theorem wgt_not (u d : Int) {s k : Nat} (h : s < 2 ^ k) : wgt u d (k + 1) s = wgt u d k s * (d - u) := by
  rw [wgt, bit_not h]
  rfl
/-- one row more: those without it, then those with it -/
theorem lst_succ (u d : Int) (k : Nat) : lst u d (k + 1) = (lst u d k).map (fun p => (p.1, p.2 * (d - u))) ++ (List.range (2 ^ k)).map (fun (s : Nat) => (([(s : Int) + 2 ^ k], wgt u d k s * u) : Pt)) := by
  unfold lst
  rw [Nat.pow_succ, show 2 ^ k * 2 = 2 ^ k + 2 ^ k by omega, List.range_add, List.map_append, List.map_map, List.map_map]
  congr 1
  · refine List.map_congr_left fun s hs => ?_
    simp only [Function.comp]
    rw [wgt_not u d (List.mem_range.1 hs)]
  · refine List.map_congr_left fun s hs => ?_
    simp only [Function.comp]
    rw [Nat.add_comm (2 ^ k) s, wgt_top u d (List.mem_range.1 hs), Int.natCast_add, Int.natCast_pow]
    rfl
theorem lst_len (u d : Int) (k : Nat) : (lst u d k).length = 2 ^ k := by simp [lst]
theorem lst_get {u d : Int} {k s : Nat} (h : s < 2 ^ k) : (lst u d k)[s]? = some ([(s : Int)], wgt u d k s) := by
  unfold lst
  rw [List.getElem?_map, List.getElem?_range h]
  rfl

theorem wgt_le {u d : Int} (hu : 0 ≤ u) (h : u ≤ d) (s : Nat) : ∀ k, 0 ≤ wgt u d k s ∧ wgt u d k s ≤ d ^ k
  | 0 => by simp [wgt]
  | k + 1 => by
    obtain ⟨h1, h2⟩ := wgt_le hu h s k
    rw [wgt, Int.pow_succ]
    have hx : 0 ≤ (if bit s k = true then u else d - u) ∧ (if bit s k = true then u else d - u) ≤ d := by split <;> omega
    exact ⟨Int.mul_nonneg h1 hx.1, Int.mul_le_mul h2 hx.2 hx.1 (Int.le_trans h1 h2)⟩
theorem pow_up {d : Int} (h : 1 ≤ d) {i k : Nat} (hi : i ≤ k) : d ^ i ≤ d ^ k := by
  obtain ⟨j, rfl⟩ := Nat.le.dest hi
  rw [Int.pow_add]
  have h1 : 0 ≤ d ^ i := Int.le_of_lt (Int.pow_pos (by omega))
  have h2 : 1 ≤ d ^ j := by
    have := Int.pow_pos (n := d) (m := j) (by omega)
    omega
  calc d ^ i = d ^ i * 1 := (Int.mul_one _).symm
    _ ≤ d ^ i * d ^ j := Int.mul_le_mul_of_nonneg_left h2 h1
theorem two_le {k : Nat} (h : k ≤ 10) : 2 ^ k ≤ 1024 := by
  have := Nat.pow_le_pow_right (show 0 < 2 by decide) h
  omega
/-- no weight is too large -/
theorem wgt_small {u d : Int} {k : Nat} (hu : 0 ≤ u) (h : u ≤ d) (hd : 1 ≤ d) (hm : d ^ k ≤ 1073741824) {i : Nat} (hi : i ≤ k) (s : Nat) : 0 ≤ wgt u d i s ∧ wgt u d i s ≤ 1073741824 := by
  have h1 := wgt_le hu h s i
  have h2 := pow_up hd hi
  omega

/-- what is wrong with a chance -/
def chE (u d : Int) : Int := if Rt.rightB u d then (if d < u then 3 else 0) else 2
/-- Subsets -/
def subT (u d m : Int) : List Pt × Int :=
  if chE u d ≠ 0 then ([], chE u d) else if m < 0 ∨ 10 < m then ([], 5) else if 1073741824 < d ^ m.toNat then ([], 4) else makeT (lst u d m.toNat)
/-- Lost -/
def losT (u d x y : Int) : Int × Int × Int :=
  if chE u d ≠ 0 then (0, 0, chE u d) else
  match Rt.minusT x y 1 1 with
  | (a, b, e) => if e ≠ 0 then (0, 0, e) else
    match Rt.timesT u d a b with
    | (a', b', e') => if e' ≠ 0 then (0, 0, e') else Rt.plusT 1 1 a' b'
theorem ch_ok {u d : Int} (h : chE u d = 0) : Rt.rightB u d = true ∧ 0 ≤ u ∧ u ≤ d ∧ 1 ≤ d ∧ d ≤ 1073741824 := by
  unfold chE at h
  split at h
  · rename_i hr
    split at h
    · simp at h
    · obtain ⟨h1, h2, h3, h4⟩ := Rt.right_bd hr
      exact ⟨hr, by omega, by omega, by omega, by omega⟩
  · simp at h
end Sb
end Go.Proofs.YtlndlpjadajelaaGreat

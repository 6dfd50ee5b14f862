namespace Go.Proofs.Ytfcbkcoagoncoaa.Ds

/-- something that may come, and its weight -/
abbrev Pt := List Int × Int

/-- the order of lists: -1, 0, 1 -/
def cmpT : List Int → List Int → Int
  | [], [] => 0
  | [], _ :: _ => -1
  | _ :: _, [] => 1
  | a :: x, b :: y => if a < b then -1 else if b < a then 1 else cmpT x y

theorem cmpT_swap (x y : List Int) : cmpT y x = - cmpT x y := by
  induction x generalizing y with
  | nil => cases y <;> simp [cmpT]
  | cons a x ih => cases y with
    | nil => simp [cmpT]
    | cons b y =>
      simp only [cmpT]
      by_cases h1 : a < b
      · simp [h1, Int.not_lt.2 (Int.le_of_lt h1)]
      · by_cases h2 : b < a
        · simp [h1, h2]
        · simp [h1, h2, ih y]

theorem cmpT_self (x : List Int) : cmpT x x = 0 := by
  have := cmpT_swap x x; omega

theorem cmpT_zero (x y : List Int) : cmpT x y = 0 ↔ x = y := by
  constructor
  · intro h
    induction x generalizing y with
    | nil => cases y with | nil => rfl | cons b y => simp [cmpT] at h
    | cons a x ih => cases y with
      | nil => simp [cmpT] at h
      | cons b y =>
        simp only [cmpT] at h
        by_cases h1 : a < b
        · simp [h1] at h
        · by_cases h2 : b < a
          · simp [h1, h2] at h
          · simp [h1, h2] at h
            rw [ih y h, show a = b by omega]
  · rintro rfl; exact cmpT_self x

/-- less, of lists -/
abbrev ltL (x y : List Int) : Prop := cmpT x y < 0

theorem ltL_irrefl (x : List Int) : ¬ ltL x x := by unfold ltL; rw [cmpT_self]; omega

theorem ltL_trans {x y z : List Int} (h : ltL x y) (k : ltL y z) : ltL x z := by
  unfold ltL at *
  induction x generalizing y z with
  | nil => cases z with
    | nil => cases y <;> simp [cmpT] at *
    | cons c z => simp [cmpT]
  | cons a x ih => cases y with
    | nil => simp [cmpT] at h
    | cons b y => cases z with
      | nil => simp [cmpT] at k
      | cons c z =>
        simp only [cmpT] at *
        by_cases h1 : a < b
        · have : a < c := by
            by_cases h3 : b < c; · omega
            · by_cases h4 : c < b
              · simp [h3, h4] at k
              · omega
          simp [this]
        · by_cases h2 : b < a
          · simp [h1, h2] at h
          · simp [h1, h2] at h
            have : a = b := by omega
            subst this
            by_cases h3 : a < c; · simp [h3]
            · by_cases h4 : c < a
              · simp [h3, h4] at k
              · simp [h3, h4] at k ⊢
                exact ih h k

theorem ltL_ne {x y : List Int} (h : ltL x y) : x ≠ y := by rintro rfl; exact ltL_irrefl _ h
theorem ltL_tri (x y : List Int) : ltL x y ∨ x = y ∨ ltL y x := by
  unfold ltL
  rw [← cmpT_zero x y, cmpT_swap x y]
  omega

/-- the weight of something in a list -/
def wt : List Pt → List Int → Int
  | [], _ => 0
  | p :: l, o => (if p.1 = o then p.2 else 0) + wt l o

@[simp] theorem wt_nil (o : List Int) : wt [] o = 0 := rfl
theorem wt_cons (p : Pt) (l : List Pt) (o : List Int) : wt (p :: l) o = (if p.1 = o then p.2 else 0) + wt l o := rfl
theorem wt_append (l k : List Pt) (o : List Int) : wt (l ++ k) o = wt l o + wt k o := by
  induction l with
  | nil => simp
  | cons p l ih => simp only [List.cons_append, wt_cons, ih]; omega

theorem wt_perm {l k : List Pt} (h : l.Perm k) (o : List Int) : wt l o = wt k o := by
  induction h with
  | nil => rfl
  | cons x _ ih => simp only [wt_cons, ih]
  | swap x y l => simp only [wt_cons]; omega
  | trans _ _ h1 h2 => exact h1.trans h2

/-- all weights together -/
def tot : List Pt → Int
  | [] => 0
  | p :: l => p.2 + tot l

@[simp] theorem tot_nil : tot [] = 0 := rfl
theorem tot_cons (p : Pt) (l : List Pt) : tot (p :: l) = p.2 + tot l := rfl
theorem tot_append (l k : List Pt) : tot (l ++ k) = tot l + tot k := by
  induction l with
  | nil => simp
  | cons p l ih => simp only [List.cons_append, tot_cons, ih]; omega

/-- rising outcomes -/
def Rise (l : List Pt) : Prop := l.Pairwise fun p q => ltL p.1 q.1
/-- weights above 0 -/
def Pos (l : List Pt) : Prop := ∀ p ∈ l, 0 < p.2

theorem wt_none {l : List Pt} {o : List Int} (h : ∀ p ∈ l, p.1 ≠ o) : wt l o = 0 := by
  induction l with
  | nil => rfl
  | cons p l ih =>
    rw [wt_cons, if_neg (h p (by simp)), ih fun q hq => h q (by simp [hq])]; omega

theorem wt_head {p : Pt} {l : List Pt} (h : Rise (p :: l)) : wt (p :: l) p.1 = p.2 := by
  rw [wt_cons, if_pos rfl, wt_none fun q hq => (ltL_ne ((List.pairwise_cons.1 h).1 q hq)).symm]; omega

theorem rise_tail {p : Pt} {l : List Pt} (h : Rise (p :: l)) : Rise l := (List.pairwise_cons.1 h).2

/-- rising lists of weights above 0 are told by their weights -/
theorem rise_uniq {l k : List Pt} (hl : Rise l) (pl : Pos l) (hk : Rise k) (pk : Pos k) (h : ∀ o, wt l o = wt k o) : l = k := by
  induction l generalizing k with
  | nil => cases k with
    | nil => rfl
    | cons q k => have := h q.1; rw [wt_head hk] at this; have := pk q (by simp); simp at *; omega
  | cons p l ih => cases k with
    | nil => have := h p.1; rw [wt_head hl] at this; have := pl p (by simp); simp at *; omega
    | cons q k =>
      have e : p.1 = q.1 := by
        rcases ltL_tri p.1 q.1 with c | c | c
        · have := h p.1
          rw [wt_head hl, wt_none] at this
          · have := pl p (by simp); omega
          · intro r hr
            rcases List.mem_cons.1 hr with rfl | hr
            · exact (ltL_ne c).symm
            · exact (ltL_ne (ltL_trans c ((List.pairwise_cons.1 hk).1 r hr))).symm
        · exact c
        · have := h q.1
          rw [wt_head hk, wt_none] at this
          · have := pk q (by simp); omega
          · intro r hr
            rcases List.mem_cons.1 hr with rfl | hr
            · exact (ltL_ne c).symm
            · exact (ltL_ne (ltL_trans c ((List.pairwise_cons.1 hl).1 r hr))).symm
      have e2 : p.2 = q.2 := by
        have := h p.1
        rw [wt_head hl, e, wt_head hk] at this
        exact this
      have epq : p = q := Prod.ext e e2
      subst epq
      rw [ih (rise_tail hl) (fun r hr => pl r (by simp [hr])) (rise_tail hk) (fun r hr => pk r (by simp [hr])) fun o => by
        have := h o; simp only [wt_cons] at this; omega]

/-- laid into a rising list -/
def ins (p : Pt) : List Pt → List Pt
  | [] => [p]
  | q :: l => if ltL p.1 q.1 then p :: q :: l else if p.1 = q.1 then (q.1, q.2 + p.2) :: l else q :: ins p l

theorem ins_mem {p r : Pt} {l : List Pt} (h : r ∈ ins p l) : r.1 = p.1 ∨ ∃ q ∈ l, r.1 = q.1 := by
  induction l with
  | nil => simp [ins] at h; exact .inl (by rw [h])
  | cons q l ih =>
    simp only [ins] at h
    split at h
    · rcases List.mem_cons.1 h with rfl | h
      · exact .inl rfl
      · exact .inr ⟨r, h, rfl⟩
    · split at h
      · rcases List.mem_cons.1 h with rfl | h
        · exact .inr ⟨q, by simp, rfl⟩
        · exact .inr ⟨r, by simp [h], rfl⟩
      · rcases List.mem_cons.1 h with rfl | h
        · exact .inr ⟨r, by simp, rfl⟩
        · rcases ih h with h | ⟨s, hs, e⟩
          · exact .inl h
          · exact .inr ⟨s, by simp [hs], e⟩

theorem ins_rise {p : Pt} {l : List Pt} (h : Rise l) : Rise (ins p l) := by
  induction l with
  | nil => simp [ins, Rise]
  | cons q l ih =>
    have h' := List.pairwise_cons.1 h
    simp only [ins]
    split
    · rename_i c
      refine List.pairwise_cons.2 ⟨fun r hr => ?_, h⟩
      rcases List.mem_cons.1 hr with rfl | hr
      · exact c
      · exact ltL_trans c (h'.1 r hr)
    · split
      · exact List.pairwise_cons.2 ⟨fun r hr => h'.1 r hr, h'.2⟩
      · rename_i c1 c2
        have c3 : ltL q.1 p.1 := by rcases ltL_tri p.1 q.1 with c | c | c <;> first | exact absurd c c1 | exact absurd c c2 | exact c
        refine List.pairwise_cons.2 ⟨fun r hr => ?_, ih h'.2⟩
        rcases ins_mem hr with e | ⟨s, hs, e⟩
        · rw [e]; exact c3
        · rw [e]; exact h'.1 s hs

theorem ins_wt (p : Pt) (l : List Pt) (o : List Int) : wt (ins p l) o = (if p.1 = o then p.2 else 0) + wt l o := by
  induction l with
  | nil => simp [ins, wt_cons]
  | cons q l ih =>
    simp only [ins]
    split
    · simp only [wt_cons]
    · split
      · rename_i c
        simp only [wt_cons, c]
        split <;> omega
      · simp only [wt_cons, ih]; omega

theorem ins_pos {p : Pt} {l : List Pt} (hp : 0 < p.2) (h : Pos l) : Pos (ins p l) := by
  induction l with
  | nil => intro r hr; simp [ins] at hr; rw [hr]; exact hp
  | cons q l ih =>
    simp only [ins]
    have hq := h q (by simp)
    have hl : Pos l := fun r hr => h r (by simp [hr])
    split
    · intro r hr
      rcases List.mem_cons.1 hr with rfl | hr
      · exact hp
      · exact h r hr
    · split
      · intro r hr
        rcases List.mem_cons.1 hr with rfl | hr
        · show 0 < q.2 + p.2; omega
        · exact hl r hr
      · intro r hr
        rcases List.mem_cons.1 hr with rfl | hr
        · exact hq
        · exact ih hl r hr

/-- what is alike added, what has no weight left out, in order -/
def gath : List Pt → List Pt
  | [] => []
  | p :: l => if p.2 = 0 then gath l else ins p (gath l)

theorem gath_rise (l : List Pt) : Rise (gath l) := by
  induction l with
  | nil => simp [gath, Rise]
  | cons p l ih => simp only [gath]; split <;> first | exact ih | exact ins_rise ih

theorem gath_wt (l : List Pt) (o : List Int) : wt (gath l) o = wt l o := by
  induction l with
  | nil => rfl
  | cons p l ih =>
    simp only [gath]
    split
    · rename_i c; rw [wt_cons, ih, c]; split <;> omega
    · rw [ins_wt, wt_cons, ih]

theorem gath_pos {l : List Pt} (h : ∀ p ∈ l, 0 ≤ p.2) : Pos (gath l) := by
  induction l with
  | nil => simp [gath, Pos]
  | cons p l ih =>
    have h1 := ih fun q hq => h q (by simp [hq])
    simp only [gath]
    split
    · exact h1
    · have := h p (by simp)
      exact ins_pos (by omega) h1

/-- what rises, has weights above 0 and the same weights is what is gathered -/
theorem gath_is {l k : List Pt} (h : ∀ p ∈ l, 0 ≤ p.2) (r : Rise k) (p : Pos k) (e : ∀ o, wt k o = wt l o) : gath l = k :=
  rise_uniq (gath_rise l) (gath_pos h) r p fun o => by rw [gath_wt, e]

/-- the greatest divisor of all weights -/
def dv : List Pt → Nat
  | [] => 0
  | p :: l => Nat.gcd (dv l) p.2.natAbs

/-- .. from the front -/
def dvF (g : Nat) : List Pt → Nat
  | [] => g
  | p :: l => dvF (Nat.gcd g p.2.natAbs) l

theorem dvF_eq (g : Nat) (l : List Pt) : dvF g l = Nat.gcd g (dv l) := by
  induction l generalizing g with
  | nil => simp [dvF, dv]
  | cons p l ih =>
    simp only [dvF, dv, ih]
    rw [Nat.gcd_assoc, Nat.gcd_comm (dv l)]

theorem dv_dvd {l : List Pt} {p : Pt} (h : p ∈ l) : dv l ∣ p.2.natAbs := by
  induction l with
  | nil => cases h
  | cons q l ih =>
    rcases List.mem_cons.1 h with rfl | h
    · exact Nat.gcd_dvd_right _ _
    · exact Nat.dvd_trans (Nat.gcd_dvd_left _ _) (ih h)

theorem dv_pos {l : List Pt} (h : Pos l) (hne : l ≠ []) : 0 < dv l := by
  cases l with
  | nil => exact absurd rfl hne
  | cons p l => exact Nat.gcd_pos_of_pos_right _ (by have := h p (by simp); omega)

/-- all weights divided -/
def cut (g : Int) (l : List Pt) : List Pt := l.map fun p => (p.1, p.2 / g)

@[simp] theorem cut_length (g : Int) (l : List Pt) : (cut g l).length = l.length := by simp [cut]

/-- the answer of 'lowest' -/
def lowT (l : List Pt) : List Pt × Int :=
  if l = [] then ([], 6) else if 1073741824 < tot (cut (dv l) l) ∨ 4096 < l.length then ([], 4) else (cut (dv l) l, 0)

/-- what may be one -/
def okN (n : Int) : Bool := decide (-1073741824 ≤ n ∧ n ≤ 1073741824)
def okO (x : List Int) : Bool := decide (x.length ≤ 16) && x.all okN
def okP (p : Pt) : Bool := decide (0 ≤ p.2 ∧ p.2 ≤ 1073741824) && okO p.1

/-- Make -/
def makeT (l : List Pt) : List Pt × Int := if l.all okP then lowT (gath l) else ([], 3)
theorem tot_pos {l : List Pt} (h : Pos l) : 0 ≤ tot l := by
  induction l with
  | nil => simp
  | cons p l ih => have := ih fun q hq => h q (by simp [hq]); have := h p (by simp); rw [tot_cons]; omega

theorem tot_le {l : List Pt} {M : Int} (h : ∀ p ∈ l, p.2 ≤ M) : tot l ≤ l.length * M := by
  induction l with
  | nil => simp
  | cons p l ih =>
    have h1 := ih fun q hq => h q (by simp [hq])
    have h2 := h p (by simp)
    rw [tot_cons, List.length_cons, Int.natCast_add, Int.add_mul]
    omega

theorem ins_tot (p : Pt) (l : List Pt) : tot (ins p l) = p.2 + tot l := by
  induction l with
  | nil => simp [ins, tot_cons]
  | cons q l ih =>
    simp only [ins]
    split
    · simp only [tot_cons]
    · split
      · simp only [tot_cons]; omega
      · simp only [tot_cons, ih]; omega

theorem gath_tot (l : List Pt) : tot (gath l) = tot l := by
  induction l with
  | nil => rfl
  | cons p l ih =>
    simp only [gath]
    split
    · rw [tot_cons, ih]; omega
    · rw [ins_tot, tot_cons, ih]

theorem cut_tot {l : List Pt} {g : Int} (h : ∀ p ∈ l, g ∣ p.2) : tot (cut g l) = tot l / g := by
  induction l with
  | nil => simp [cut]
  | cons p l ih =>
    have h1 := ih fun q hq => h q (by simp [hq])
    simp only [cut, List.map_cons, tot_cons] at *
    rw [h1, Int.add_ediv_of_dvd_left (h p (by simp))]

theorem dv_dvd_int {l : List Pt} {p : Pt} (h : p ∈ l) : ((dv l : Nat) : Int) ∣ p.2 := Int.ofNat_dvd_left.2 (dv_dvd h)

end Go.Proofs.Ytfcbkcoagoncoaa.Ds

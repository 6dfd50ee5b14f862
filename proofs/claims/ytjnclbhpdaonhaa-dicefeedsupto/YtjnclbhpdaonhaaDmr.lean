import Derived.Test.YtjnclbhpdaonhaaDmt
namespace Go.Proofs.Ytjnclbhpdaonhaa.Ds

/-! ### draws along a tree -/

/-- what the digits ahead leave of a chance -/
def rm (T pl w : Int) : Int := w * pl % T
/-- the outcomes that are leaves of this level -/
def lvT (T pl : Int) (l : List Pt) : List (List Int) := (l.filter fun p => decide (T ≤ 2 * rm T pl p.2)).map (·.1)

def roT (T : Int) (l : List Pt) : Int → Int → Int → List Int → Option (List Int × Int × List Int)
  | _, _, _, [] => none
  | pl, node, u, b :: r => match (lvT T pl l)[(2 * node + b).toNat]? with
    | some o => some (o, u + 1, r)
    | none => roT T l (2 * pl % T) (2 * node + b - (lvT T pl l).length) (u + 1) r

/-- a draw -/
def roN (l : List Pt) : Nx := fun bits => match l with
  | [p] => some (p.1, 0, bits)
  | l => roT (tot l) l 1 0 0 bits

theorem mul_emod_emod (a b n : Int) : a * (b % n) % n = a * b % n := by rw [Int.mul_emod, Int.emod_emod, ← Int.mul_emod]

theorem rm_nn {T : Int} (hT : 0 < T) (pl w : Int) : 0 ≤ rm T pl w ∧ rm T pl w < T := ⟨Int.emod_nonneg _ (by omega), Int.emod_lt_of_pos _ hT⟩
theorem dbl_emod {T r : Int} (hr : 0 ≤ r ∧ r < T) : 2 * r % T = if T ≤ 2 * r then 2 * r - T else 2 * r := by
  by_cases h : T ≤ 2 * r
  · rw [if_pos h, show 2 * r = (2 * r - T) + T * 1 by omega, Int.add_mul_emod_self_left, Int.emod_eq_of_lt (by omega) (by omega)]
    omega
  · rw [if_neg h, Int.emod_eq_of_lt (by omega) (by omega)]
theorem rm_next (T pl w : Int) : rm T (2 * pl % T) w = 2 * rm T pl w % T := by
  unfold rm
  rw [mul_emod_emod, mul_emod_emod, ← Int.mul_assoc, ← Int.mul_assoc, Int.mul_comm w 2]

/-- all that is left -/
def tr (T pl : Int) : List Pt → Int
  | [] => 0
  | p :: l => rm T pl p.2 + tr T pl l

theorem lvT_cons (T pl : Int) (p : Pt) (l : List Pt) : lvT T pl (p :: l) = if T ≤ 2 * rm T pl p.2 then p.1 :: lvT T pl l else lvT T pl l := by
  unfold lvT
  rw [List.filter_cons]
  by_cases h : T ≤ 2 * rm T pl p.2
  · rw [if_pos h, if_pos (decide_eq_true h)]; rfl
  · rw [if_neg h, if_neg (by simp; omega)]
theorem lvT_append (T pl : Int) (l k : List Pt) : lvT T pl (l ++ k) = lvT T pl l ++ lvT T pl k := by simp [lvT]

theorem tr_next {T : Int} (hT : 0 < T) (pl : Int) (l : List Pt) : tr T (2 * pl % T) l = 2 * tr T pl l - T * (lvT T pl l).length := by
  induction l with
  | nil => simp [tr, lvT]
  | cons p l ih =>
    have h1 := rm_nn hT pl p.2
    simp only [tr]
    rw [ih, rm_next, dbl_emod h1, lvT_cons]
    split
    · have e : T * ((lvT T pl l).length + 1 : Int) = T * (lvT T pl l).length + T := by rw [Int.mul_add, Int.mul_one]
      simp only [List.length_cons]
      rw [Int.natCast_add, Int.natCast_one, e]
      omega
    · omega
theorem tr_nn {T : Int} (hT : 0 < T) (pl : Int) (l : List Pt) : 0 ≤ tr T pl l ∧ tr T pl l ≤ T * l.length := by
  induction l with
  | nil => simp [tr]
  | cons p l ih =>
    have h1 := rm_nn hT pl p.2
    simp only [tr, List.length_cons]
    rw [Int.natCast_add, Int.mul_add, Int.natCast_one, Int.mul_one]
    omega
theorem tr_mod (T pl : Int) (l : List Pt) : tr T pl l % T = tot l * pl % T := by
  induction l with
  | nil => simp [tr, tot]
  | cons p l ih =>
    simp only [tr, tot_cons]
    rw [Int.add_emod, ih, rm, Int.emod_emod, ← Int.add_emod, Int.add_mul]
theorem tr_one {T : Int} (l : List Pt) (h : ∀ p ∈ l, 0 ≤ p.2 ∧ p.2 < T) : tr T 1 l = tot l := by
  induction l with
  | nil => rfl
  | cons p l ih =>
    have := h p (by simp)
    rw [tr, tot_cons, ih fun q hq => h q (by simp [hq]), rm, Int.mul_one, Int.emod_eq_of_lt this.1 this.2]

/-- a node of this level -/
def Nd (T pl : Int) (l : List Pt) (node : Int) : Prop := ∃ I : Int, tr T pl l = T * I ∧ 0 ≤ node ∧ node < I
theorem Nd.le {T pl : Int} {l : List Pt} {node : Int} (h : Nd T pl l node) (hT : 0 < T) : 0 ≤ node ∧ node < l.length := by
  obtain ⟨I, h1, h2, h3⟩ := h
  have h4 := (tr_nn hT pl l).2
  rw [h1] at h4
  have := Int.le_of_mul_le_mul_left h4 hT
  omega
theorem Nd.next {T pl : Int} {l : List Pt} {node b : Int} (h : Nd T pl l node) (hT : 0 < T) (hb : 0 ≤ b ∧ b ≤ 1) (hm : ((lvT T pl l).length : Int) ≤ 2 * node + b) : Nd T (2 * pl % T) l (2 * node + b - (lvT T pl l).length) := by
  obtain ⟨I, h1, h2, h3⟩ := h
  refine ⟨2 * I - (lvT T pl l).length, ?_, by omega, by omega⟩
  rw [tr_next hT, h1, Int.mul_sub, ← Int.mul_assoc, ← Int.mul_assoc, Int.mul_comm T 2]
theorem Nd.start {l : List Pt} (h : ∀ p ∈ l, 0 ≤ p.2 ∧ p.2 < tot l) : Nd (tot l) 1 l 0 := ⟨1, by rw [tr_one l h, Int.mul_one], by omega, by omega⟩

/-! ### Knuth and Yao -/

/-- the outcome with which it ends -/
def roO (T : Int) (l : List Pt) : Int → Int → List Int → Option (List Int)
  | _, _, [] => none
  | pl, node, b :: r => match (lvT T pl l)[(2 * node + b).toNat]? with
    | some o => some o
    | none => roO T l (2 * pl % T) (2 * node + b - (lvT T pl l).length) r
theorem roO_is (T : Int) (l : List Pt) (pl node u : Int) (bits : List Int) : (roT T l pl node u bits).map (·.1) = roO T l pl node bits := by
  induction bits generalizing pl node u with
  | nil => rfl
  | cons b r ih =>
    simp only [roT, roO]
    cases (lvT T pl l)[(2 * node + b).toNat]? with
    | some o => rfl
    | none => exact ih _ _ _

theorem ro_step (T : Int) (l : List Pt) (pl : Int) (f : Option (List Int) → Nat) (L I I' : Nat) (hI : 2 * I = (lvT T pl l).length + I') :
    su (fun (c : Nat) => sm (fun bs => f (roO T l pl c bs)) (L + 1)) I =
      su (fun c => f (lvT T pl l)[c]? * 2 ^ L) (lvT T pl l).length + su (fun (c : Nat) => sm (fun bs => f (roO T l (2 * pl % T) c bs)) L) I' := by
  have e0 : ∀ c : Nat, sm (fun bs => f (roO T l pl c bs)) (L + 1) = sm (fun bs => f (roO T l pl c (0 :: bs))) L + sm (fun bs => f (roO T l pl c (1 :: bs))) L := fun c => rfl
  have e1 : su (fun (c : Nat) => sm (fun bs => f (roO T l pl c bs)) (L + 1)) I = su (fun (d : Nat) => sm (fun bs => f (match (lvT T pl l)[d]? with | some o => some o | none => roO T l (2 * pl % T) ((d : Int) - (lvT T pl l).length) bs)) L) (2 * I) := by
    rw [su_two]
    refine su_congr fun c _ => ?_
    rw [e0]
    simp only [roO]
    rw [show ((2 * (c : Int) + 0).toNat) = 2 * c by omega, show ((2 * (c : Int) + 1).toNat) = 2 * c + 1 by omega, show ((2 * c : Nat) : Int) = 2 * (c : Int) + 0 by omega, show ((2 * c + 1 : Nat) : Int) = 2 * (c : Int) + 1 by omega]
  rw [e1, hI, su_split]
  congr 1
  · refine su_congr fun d hd => ?_
    rw [List.getElem?_eq_getElem hd]
    show sm (fun _ => f (some (lvT T pl l)[d])) L = _
    exact sm_const _ _
  · refine su_congr fun d _ => ?_
    rw [List.getElem?_eq_none (by omega), show (((lvT T pl l).length + d : Nat) : Int) - (lvT T pl l).length = d by omega]

/-- outcomes stand once -/
def Once (l : List Pt) : Prop := l.Pairwise fun p q => p.1 ≠ q.1

theorem lv_count {T pl : Int} {l : List Pt} (h : Once l) {p : Pt} (hp : p ∈ l) (a : Nat) :
    su (fun c => (if (lvT T pl l)[c]? = some p.1 then 1 else 0) * a) (lvT T pl l).length = if T ≤ 2 * rm T pl p.2 then a else 0 := by
  have none : ∀ k : List Pt, (∀ q ∈ k, p.1 ≠ q.1) → su (fun c => (if (lvT T pl k)[c]? = some p.1 then 1 else 0) * a) (lvT T pl k).length = 0 := by
    intro k hk
    rw [su_congr (g := fun _ => 0), su_zero]
    intro i hi
    rw [if_neg, Nat.zero_mul]
    intro e
    have := List.mem_of_getElem? e
    simp only [lvT, List.mem_map, List.mem_filter] at this
    obtain ⟨q, ⟨hq, _⟩, e2⟩ := this
    exact hk q hq e2.symm
  induction l with
  | nil => cases hp
  | cons q l ih =>
    have h1 := List.pairwise_cons.1 h
    rw [lvT_cons]
    rcases List.mem_cons.1 hp with rfl | hp
    · have h2 := none l fun q hq => h1.1 q hq
      split
      · rw [List.length_cons, Nat.add_comm, su_split]
        simp only [su, List.getElem?_cons_zero, if_true, Nat.zero_add, Nat.one_mul]
        rw [su_congr (g := fun c => (if (lvT T pl l)[c]? = some p.1 then 1 else 0) * a), h2, Nat.add_zero]
        intro i _
        rw [Nat.add_comm, List.getElem?_cons_succ]
      · exact h2
    · have h2 := ih h1.2 hp
      have hne : ¬ q.1 = p.1 := h1.1 p hp
      split
      · rw [List.length_cons, Nat.add_comm, su_split]
        simp only [su, List.getElem?_cons_zero, Nat.zero_add]
        rw [if_neg (by simpa using hne), Nat.zero_mul, Nat.zero_add, su_congr (g := fun c => (if (lvT T pl l)[c]? = some p.1 then 1 else 0) * a), h2]
        intro i _
        rw [Nat.add_comm, List.getElem?_cons_succ]
      · exact h2

theorem ro_count {T : Int} (hT : 0 < T) {l : List Pt} (h : Once l) {p : Pt} (hp : p ∈ l) (L : Nat) (pl : Int) (I : Nat) (hI : tr T pl l = T * I) :
    ((su (fun (c : Nat) => sm (fun bs => if roO T l pl c bs = some p.1 then 1 else 0) L) I : Nat) : Int) = 2 ^ L * rm T pl p.2 / T := by
  induction L generalizing pl I with
  | zero =>
    have := rm_nn hT pl p.2
    simp only [sm, roO]
    rw [su_congr (g := fun _ => 0) (fun i _ => by simp), su_zero, Int.pow_zero, Int.one_mul, Int.ediv_eq_zero_of_lt this.1 this.2]
    rfl
  | succ L ih =>
    have hr := rm_nn hT pl p.2
    have h1 := tr_next hT pl l
    have h2 := (tr_nn hT (2 * pl % T) l).1
    rw [hI] at h1
    have h3 : tr T (2 * pl % T) l = T * (2 * (I : Int) - (lvT T pl l).length) := by
      rw [h1, Int.mul_sub, ← Int.mul_assoc, ← Int.mul_assoc, Int.mul_comm T 2]
    rw [h3] at h2
    have h4 : 0 ≤ 2 * (I : Int) - (lvT T pl l).length := by
      rcases Int.lt_or_le (2 * (I : Int) - (lvT T pl l).length) 0 with c | c
      · have := Int.mul_neg_of_pos_of_neg hT c
        omega
      · exact c
    obtain ⟨I', hI'⟩ := Int.eq_ofNat_of_zero_le h4
    have h5 := ih (2 * pl % T) I' (by rw [h3, hI'])
    have h6 := ro_step T l pl (fun o => if o = some p.1 then 1 else 0) L I I' (by omega)
    rw [h6, lv_count h hp, Int.natCast_add, h5, rm_next, dbl_emod hr]
    split
    · rename_i c
      have e : 2 ^ (L + 1) * rm T pl p.2 = 2 ^ L * (2 * rm T pl p.2 - T) + 2 ^ L * T := by
        rw [Int.pow_succ, Int.mul_assoc, ← Int.mul_add]
        congr 1
        omega
      rw [e, Int.add_mul_ediv_right _ _ (by omega), Int.add_comm]
      simp
    · rw [Int.pow_succ, Int.mul_assoc]
      simp
end Go.Proofs.Ytjnclbhpdaonhaa.Ds

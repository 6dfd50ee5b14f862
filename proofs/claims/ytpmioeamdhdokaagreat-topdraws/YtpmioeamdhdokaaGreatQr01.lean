import Derived.Test.YtpmioeamdhdokaaGreatQq01
import Derived.Test.YtpmioeamdhdokaaGreatQq02
import Derived.Test.YtpmioeamdhdokaaGreatQq03
import Derived.Test.YtpmioeamdhdokaaGreatQq04
import Derived.Test.YtpmioeamdhdokaaGreatQq05
import Derived.Test.YtpmioeamdhdokaaGreatQq06
import Derived.Test.YtpmioeamdhdokaaGreatQq07
import Derived.Test.YtpmioeamdhdokaaGreatQq08
import Derived.Test.YtpmioeamdhdokaaGreatQq09
import Derived.Test.YtpmioeamdhdokaaGreatQq10
import Derived.Test.YtpmioeamdhdokaaGreatQq11
import Derived.Test.YtpmioeamdhdokaaGreatQq12
import Derived.Test.YtpmioeamdhdokaaGreatQq13
import Derived.Test.YtpmioeamdhdokaaGreatQq14
import Derived.Test.YtpmioeamdhdokaaGreatQq15
import Derived.Test.YtpmioeamdhdokaaGreatQq16
import Derived.Test.YtpmioeamdhdokaaGreatQq17
import Derived.Test.YtpmioeamdhdokaaGreatQq18
import Derived.Test.YtpmioeamdhdokaaGreatQq19
import Derived.Test.YtpmioeamdhdokaaGreatQq20
import Derived.Test.YtpmioeamdhdokaaGreatQq21
import Derived.Test.YtpmioeamdhdokaaGreatQq22
import Derived.Test.YtpmioeamdhdokaaGreatQq23
import Derived.Test.YtpmioeamdhdokaaGreatQq24
import Derived.Test.YtpmioeamdhdokaaGreatQq25
import Derived.Test.YtpmioeamdhdokaaGreatQq26
import Derived.Test.YtpmioeamdhdokaaGreatQq27
import Derived.Test.YtpmioeamdhdokaaGreatQq28
import Derived.Test.YtpmioeamdhdokaaGreatQq29
import Derived.Test.YtpmioeamdhdokaaGreatQq30
import Derived.Test.YtpmioeamdhdokaaGreatQq31
import Derived.Test.YtpmioeamdhdokaaGreatQq32
import Derived.Test.YtpmioeamdhdokaaGreatQq33
import Derived.Test.YtpmioeamdhdokaaGreatQq34
import Derived.Test.YtpmioeamdhdokaaGreatQq35
import Derived.Test.YtpmioeamdhdokaaGreatQq36
import Derived.Test.YtpmioeamdhdokaaGreatQq37
import Derived.Test.YtpmioeamdhdokaaGreatRows
import Derived.WalkKit
import Derived.WalkSpells
import Derived.Deep.QuietTactic
import Derived.BigQuiet
import Derived.WalkSmall
namespace Go.Proofs.YtpmioeamdhdokaaGreat
open Go.RowKit Go.Proofs.YtpmioeamdhdokaaGreat.Ds

theorem dr2 (w : World) (a b c : Nat) : ∃ q, ((w.drewN a).drewN b).drewN c = w.drewN q := by simp only [World.drewN_drewN]; exact ⟨_, rfl⟩
/-! ### comparing -/

set_option maxHeartbeats 400000 in
theorem refCompare_any (B n1 n2 : Nat) (u v : Value) (x y : List Int) (w : World) (hx : Ints w B n1 u x) (hy : Ints w B n2 v y) (r : Int) (hr : cmpT x y = r) :
    Calls Tryz.prog 25 #[u, v] w fun e w' => e = .returned (.int .i64 r) ∧ ∃ q, w' = w.drewN q := by
  obtain ⟨ax, cx, rfl, hcx, hlx, hxx⟩ := hx
  obtain ⟨ay, cy, rfl, hcy, hly, hyy⟩ := hy
  have HX : Hid (x ≠ [] → ∃ b o, ax = some ⟨b, o, none⟩ ∧ b < B ∧ b ≠ n1 ∧ ∀ i z, x[i]? = some z → w.cell? ⟨b, o + i, none⟩ = some (.int .i64 z)) := hxx
  have HY : Hid (y ≠ [] → ∃ b o, ay = some ⟨b, o, none⟩ ∧ b < B ∧ b ≠ n2 ∧ ∀ i z, y[i]? = some z → w.cell? ⟨b, o + i, none⟩ = some (.int .i64 z)) := hyy
  have HR : Hid (cmpT x y = r) := hr
  clear hxx hyy hr
  go_enter Tryz.func25, Tryz.ntmps25
  go_wp2
  go_loopw [8] (fun s wr => ∃ i : Nat, s = .int .i64 (i : Int) ∧ i ≤ x.length ∧ i ≤ y.length ∧ cmpT (x.drop i) (y.drop i) = r ∧ ∃ q, wr = w.drewN q) (fun s _ => x.length - (intOf s).toNat)
  case atStart => exact ⟨0, rfl, Nat.zero_le _, Nat.zero_le _, HR.out, 0, rfl⟩
  case round =>
    obtain ⟨i, rfl, hix, hiy, hc, q, rfl⟩ := hrel
    have HC : Hid (cmpT (x.drop i) (y.drop i) = r) := hc
    clear hc
    by_cases h1 : i < x.length
    · obtain ⟨bx, ox, rfl, hbx, hnx, hcx⟩ := HX.out (ne_of_lt h1)
      obtain ⟨zx, hzx⟩ := get_lt h1
      have cx1 := hcx i zx hzx
      by_cases h2 : i < y.length
      · obtain ⟨by', oy, rfl, hby, hny, hcy⟩ := HY.out (ne_of_lt h2)
        obtain ⟨zy, hzy⟩ := get_lt h2
        have cy1 := hcy i zy hzy
        have st := cmpT_step hzx hzy
        have ST : Hid (cmpT (x.drop i) (y.drop i) = if zx < zy then -1 else if zy < zx then 1 else cmpT (x.drop (i + 1)) (y.drop (i + 1))) := st
        clear st hcx hcy HX HY hzx hzy
        by_cases c1 : zx = zy
        · subst c1
          go_wp2
          go_quiet (fail)
          go_wp2
          go_roundw
          case rel => exact ⟨i + 1, by go_num, h1, h2, by rw [← HC.out, ST.out]; simp, _, rfl⟩
          case measure => simp [intOf]; omega
        · by_cases c2 : zx < zy
          · have hr1 : r = -1 := by rw [← HC.out, ST.out]; simp [c2]
            subst hr1
            go_wp2
            go_quiet (fail)
            go_wp2
            go_quiet (fail)
            go_wp2
            go_ret
            exact ⟨rfl, dr2 _ _ _ _⟩
          · have hr1 : r = 1 := by rw [← HC.out, ST.out]; simp [c2, show zy < zx by omega]
            subst hr1
            go_wp2
            go_quiet (fail)
            go_wp2
            go_quiet (fail)
            go_wp2
            go_ret
            exact ⟨rfl, dr2 _ _ _ _⟩
      · have hr1 : r = 1 := by
          rw [← HC.out, List.drop_eq_getElem_cons h1, List.drop_eq_nil_of_le (show y.length ≤ i by omega)]; rfl
        subst hr1
        clear hcx HX HY
        go_wp2
        go_ret
        exact ⟨rfl, _, rfl⟩
    · by_cases h2 : i < y.length
      · have hr1 : r = -1 := by
          rw [← HC.out, List.drop_eq_nil_of_le (show x.length ≤ i by omega), List.drop_eq_getElem_cons h2]; rfl
        subst hr1
        have h3 : x.length < y.length := by omega
        clear HX HY
        go_wp2
        go_ret
        exact ⟨rfl, _, rfl⟩
      · have hr1 : r = 0 := by
          rw [← HC.out, List.drop_eq_nil_of_le (show x.length ≤ i by omega), List.drop_eq_nil_of_le (show y.length ≤ i by omega)]; rfl
        subst hr1
        have h3 : ¬ x.length < y.length := by omega
        clear HX HY
        go_wp2
        go_ret
        exact ⟨rfl, _, rfl⟩
end Go.Proofs.YtpmioeamdhdokaaGreat
namespace Go.Proofs.YtpmioeamdhdokaaGreat
open Go.RowKit Go.Proofs.YtpmioeamdhdokaaGreat.Ds

set_option maxHeartbeats 400000 in
theorem refTotal_any (B : Nat) (v : Value) (ts : List Tr) (w : World) (hB : B ≤ w.heap.size) (hp : Parts w B v ts) (hn : Nn (rd ts)) (ht : tot (rd ts) ≤ 4611686018427387904) (r : Int) (hr : tot (rd ts) = r) :
    Calls Tryz.prog 26 #[v] w fun e w' => e = .returned (.int .i64 r) ∧ Below w.heap.size w w' := by
  have HP : Hid (Parts w B v ts) := hp
  obtain ⟨a, c, rfl, hc, hl, _⟩ := hp
  have HT : Hid (tot (rd ts) ≤ 4611686018427387904 ∧ tot (rd ts) = r ∧ Nn (rd ts)) := ⟨ht, hr, hn⟩
  clear hn ht hr
  go_enter Tryz.func26, Tryz.ntmps26
  go_wp2
  go_loopw [3, 8] (fun s u wr => ∃ (i : Nat) (z : Int), s = .int .i64 z ∧ u = .int .i64 (i : Int) ∧ i ≤ ts.length ∧ tot ((rd ts).take i) = z ∧ Below w.heap.size w wr) (fun _ u _ => ts.length - (intOf u).toNat)
  case atStart => exact ⟨0, 0, rfl, rfl, Nat.zero_le _, by simp, Below.refl _ _⟩
  case round =>
    obtain ⟨i, z, rfl, rfl, hit, hz, hbl⟩ := hrel
    by_cases h1 : i < ts.length
    · obtain ⟨b, o, sa, sc, xs, k, rfl, hb, hs, c1, c2, _⟩ := HP.out.get hB hbl h1
      have e1 := tot_take (rd_get hs)
      have e2 := HT.out.2.2.tot_take_le (i + 1)
      have e3 := HT.out.1
      have hz2 : -4611686018427387904 ≤ z + k ∧ z + k ≤ 4611686018427387904 := by simp only at e1; omega
      have HZ : Hid (tot ((rd ts).take (i + 1)) = z + k) := by rw [Hid, e1, hz]
      clear e1 e2 e3 hz hs
      have hs1 := hbl.size
      go_wp2
      go_roundw
      case rel => exact ⟨i + 1, z + k, by go_num, by go_num, h1, HZ.out, bal hbl _⟩
      case measure => simp [intOf]; omega
    · have hz2 : z = r := by rw [← hz, ← HT.out.2.1, rd_take_all (by omega)]
      subst hz2
      clear hz HT
      go_wp2
      go_ret
      exact ⟨rfl, hbl⟩

end Go.Proofs.YtpmioeamdhdokaaGreat
namespace Go.Proofs.YtpmioeamdhdokaaGreat.Ds

/-! ### draws, one behind the other -/

/-! ### even draws -/

/-! ### sums -/

def su (f : Nat → Nat) : Nat → Nat
  | 0 => 0
  | k + 1 => su f k + f k

theorem su_congr {f g : Nat → Nat} {k : Nat} (h : ∀ i, i < k → f i = g i) : su f k = su g k := by
  induction k with
  | zero => rfl
  | succ k ih => simp only [su]; rw [ih fun i hi => h i (by omega), h k (by omega)]
theorem su_zero (k : Nat) : su (fun _ => 0) k = 0 := by
  induction k with
  | zero => rfl
  | succ k ih => simp only [su]; rw [ih]
theorem su_two (f : Nat → Nat) (k : Nat) : su f (2 * k) = su (fun i => f (2 * i) + f (2 * i + 1)) k := by
  induction k with
  | zero => rfl
  | succ k ih => rw [show 2 * (k + 1) = 2 * k + 1 + 1 by omega]; simp only [su]; rw [ih]; omega
theorem su_split (f : Nat → Nat) (a b : Nat) : su f (a + b) = su f a + su (fun i => f (a + i)) b := by
  induction b with
  | zero => rfl
  | succ b ih => rw [← Nat.add_assoc]; simp only [su]; rw [ih]; omega
theorem su_le (f g : Nat → Nat) (k : Nat) (h : ∀ i, i < k → f i ≤ g i) : su f k ≤ su g k := by
  induction k with
  | zero => exact Nat.le_refl _
  | succ k ih => simp only [su]; have := ih fun i hi => h i (by omega); have := h k (by omega); omega
theorem su_const (a k : Nat) : su (fun _ => a) k = k * a := by
  induction k with
  | zero => simp [su]
  | succ k ih => simp only [su]; rw [ih, Nat.succ_mul]

/-- all bits that there may be -/
def sm (f : List Int → Nat) : Nat → Nat
  | 0 => f []
  | L + 1 => sm (fun l => f (0 :: l)) L + sm (fun l => f (1 :: l)) L

theorem sm_congr {f g : List Int → Nat} {L : Nat} (h : ∀ l, f l = g l) : sm f L = sm g L := by rw [show f = g from funext h]
theorem sm_const (a L : Nat) : sm (fun _ => a) L = a * 2 ^ L := by
  induction L with
  | zero => simp [sm]
  | succ L ih => simp only [sm]; rw [ih, Nat.pow_succ, ← Nat.mul_assoc]; omega
theorem sm_snoc (f : List Int → Nat) (L : Nat) : sm (fun l => f (l ++ [0]) + f (l ++ [1])) L = sm f (L + 1) := by
  induction L generalizing f with
  | zero => rfl
  | succ L ih =>
    have h1 := ih (fun l => f (0 :: l))
    have h2 := ih (fun l => f (1 :: l))
    rw [sm, show sm f (L + 1 + 1) = sm (fun l => f (0 :: l)) (L + 1) + sm (fun l => f (1 :: l)) (L + 1) from rfl, ← h1, ← h2]
    rfl

/-- the bits of a number, the highest first -/
def dg (j : Nat) : Nat → List Int
  | 0 => []
  | L + 1 => dg (j / 2) L ++ [((j % 2 : Nat) : Int)]
theorem dg_len (j L : Nat) : (dg j L).length = L := by
  induction L generalizing j with
  | zero => rfl
  | succ L ih => simp [dg, ih]
theorem dg_bits (j L : Nat) : badB (dg j L) = false := by
  induction L generalizing j with
  | zero => rfl
  | succ L ih =>
    have h := ih (j / 2)
    simp only [badB, dg, List.any_append] at *
    rw [h]
    simp
    omega
theorem su_dg (f : List Int → Nat) (L : Nat) : su (fun j => f (dg j L)) (2 ^ L) = sm f L := by
  induction L generalizing f with
  | zero => simp [su, sm, dg]
  | succ L ih =>
    rw [Nat.pow_succ, Nat.mul_comm, su_two, ← sm_snoc, ← ih]
    refine su_congr fun i _ => ?_
    simp only [dg]
    rw [show 2 * i / 2 = i by omega, show (2 * i + 1) / 2 = i by omega, show 2 * i % 2 = 0 by omega, show (2 * i + 1) % 2 = 1 by omega]
    rfl

/-! ### Lumbroso -/

end Go.Proofs.YtpmioeamdhdokaaGreat.Ds
namespace Go.Proofs.YtpmioeamdhdokaaGreat.Ds

/-! ### draws along a tree -/

/-! ### Knuth and Yao -/

/-- the outcome with which it ends -/
def roO (T : Int) (l : List Pt) : Int → Int → List Int → Option (List Int)
  | _, _, [] => none
  | pl, node, b :: r => match (lvT T pl l)[(2 * node + b).toNat]? with
    | some o => some o
    | none => roO T l (2 * pl % T) (2 * node + b - (lvT T pl l).length) r
theorem roO_is (T : Int) (l : List Pt) (pl node u : Int) (bits : List Int) : (roT T l pl node u bits).map (·.1) = roO T l pl node bits := by
  induction bits generalizing pl node u with
  | nil => rfl
  | cons b r ih =>
    simp only [roT, roO]
    cases (lvT T pl l)[(2 * node + b).toNat]? with
    | some o => rfl
    | none => exact ih _ _ _

theorem ro_step (T : Int) (l : List Pt) (pl : Int) (f : Option (List Int) → Nat) (L I I' : Nat) (hI : 2 * I = (lvT T pl l).length + I') :
    su (fun (c : Nat) => sm (fun bs => f (roO T l pl c bs)) (L + 1)) I =
      su (fun c => f (lvT T pl l)[c]? * 2 ^ L) (lvT T pl l).length + su (fun (c : Nat) => sm (fun bs => f (roO T l (2 * pl % T) c bs)) L) I' := by
  have e0 : ∀ c : Nat, sm (fun bs => f (roO T l pl c bs)) (L + 1) = sm (fun bs => f (roO T l pl c (0 :: bs))) L + sm (fun bs => f (roO T l pl c (1 :: bs))) L := fun c => rfl
  have e1 : su (fun (c : Nat) => sm (fun bs => f (roO T l pl c bs)) (L + 1)) I = su (fun (d : Nat) => sm (fun bs => f (match (lvT T pl l)[d]? with | some o => some o | none => roO T l (2 * pl % T) ((d : Int) - (lvT T pl l).length) bs)) L) (2 * I) := by
    rw [su_two]
    refine su_congr fun c _ => ?_
    rw [e0]
    simp only [roO]
    rw [show ((2 * (c : Int) + 0).toNat) = 2 * c by omega, show ((2 * (c : Int) + 1).toNat) = 2 * c + 1 by omega, show ((2 * c : Nat) : Int) = 2 * (c : Int) + 0 by omega, show ((2 * c + 1 : Nat) : Int) = 2 * (c : Int) + 1 by omega]
  rw [e1, hI, su_split]
  congr 1
  · refine su_congr fun d hd => ?_
    rw [List.getElem?_eq_getElem hd]
    show sm (fun _ => f (some (lvT T pl l)[d])) L = _
    exact sm_const _ _
  · refine su_congr fun d _ => ?_
    rw [List.getElem?_eq_none (by omega), show (((lvT T pl l).length + d : Nat) : Int) - (lvT T pl l).length = d by omega]

/-- outcomes stand once -/
def Once (l : List Pt) : Prop := l.Pairwise fun p q => p.1 ≠ q.1

theorem lv_count {T pl : Int} {l : List Pt} (h : Once l) {p : Pt} (hp : p ∈ l) (a : Nat) :
    su (fun c => (if (lvT T pl l)[c]? = some p.1 then 1 else 0) * a) (lvT T pl l).length = if T ≤ 2 * rm T pl p.2 then a else 0 := by
  have none : ∀ k : List Pt, (∀ q ∈ k, p.1 ≠ q.1) → su (fun c => (if (lvT T pl k)[c]? = some p.1 then 1 else 0) * a) (lvT T pl k).length = 0 := by
    intro k hk
    rw [su_congr (g := fun _ => 0), su_zero]
    intro i hi
    rw [if_neg, Nat.zero_mul]
    intro e
    have := List.mem_of_getElem? e
    simp only [lvT, List.mem_map, List.mem_filter] at this
    obtain ⟨q, ⟨hq, _⟩, e2⟩ := this
    exact hk q hq e2.symm
  induction l with
  | nil => cases hp
  | cons q l ih =>
    have h1 := List.pairwise_cons.1 h
    rw [lvT_cons]
    rcases List.mem_cons.1 hp with rfl | hp
    · have h2 := none l fun q hq => h1.1 q hq
      split
      · rw [List.length_cons, Nat.add_comm, su_split]
        simp only [su, List.getElem?_cons_zero, if_true, Nat.zero_add, Nat.one_mul]
        rw [su_congr (g := fun c => (if (lvT T pl l)[c]? = some p.1 then 1 else 0) * a), h2, Nat.add_zero]
        intro i _
        rw [Nat.add_comm, List.getElem?_cons_succ]
      · exact h2
    · have h2 := ih h1.2 hp
      have hne : ¬ q.1 = p.1 := h1.1 p hp
      split
      · rw [List.length_cons, Nat.add_comm, su_split]
        simp only [su, List.getElem?_cons_zero, Nat.zero_add]
        rw [if_neg (by simpa using hne), Nat.zero_mul, Nat.zero_add, su_congr (g := fun c => (if (lvT T pl l)[c]? = some p.1 then 1 else 0) * a), h2]
        intro i _
        rw [Nat.add_comm, List.getElem?_cons_succ]
      · exact h2

theorem ro_count {T : Int} (hT : 0 < T) {l : List Pt} (h : Once l) {p : Pt} (hp : p ∈ l) (L : Nat) (pl : Int) (I : Nat) (hI : tr T pl l = T * I) :
    ((su (fun (c : Nat) => sm (fun bs => if roO T l pl c bs = some p.1 then 1 else 0) L) I : Nat) : Int) = 2 ^ L * rm T pl p.2 / T := by
  induction L generalizing pl I with
  | zero =>
    have := rm_nn hT pl p.2
    simp only [sm, roO]
    rw [su_congr (g := fun _ => 0) (fun i _ => by simp), su_zero, Int.pow_zero, Int.one_mul, Int.ediv_eq_zero_of_lt this.1 this.2]
    rfl
  | succ L ih =>
    have hr := rm_nn hT pl p.2
    have h1 := tr_next hT pl l
    have h2 := (tr_nn hT (2 * pl % T) l).1
    rw [hI] at h1
    have h3 : tr T (2 * pl % T) l = T * (2 * (I : Int) - (lvT T pl l).length) := by
      rw [h1, Int.mul_sub, ← Int.mul_assoc, ← Int.mul_assoc, Int.mul_comm T 2]
    rw [h3] at h2
    have h4 : 0 ≤ 2 * (I : Int) - (lvT T pl l).length := by
      rcases Int.lt_or_le (2 * (I : Int) - (lvT T pl l).length) 0 with c | c
      · have := Int.mul_neg_of_pos_of_neg hT c
        omega
      · exact c
    obtain ⟨I', hI'⟩ := Int.eq_ofNat_of_zero_le h4
    have h5 := ih (2 * pl % T) I' (by rw [h3, hI'])
    have h6 := ro_step T l pl (fun o => if o = some p.1 then 1 else 0) L I I' (by omega)
    rw [h6, lv_count h hp, Int.natCast_add, h5, rm_next, dbl_emod hr]
    split
    · rename_i c
      have e : 2 ^ (L + 1) * rm T pl p.2 = 2 ^ L * (2 * rm T pl p.2 - T) + 2 ^ L * T := by
        rw [Int.pow_succ, Int.mul_assoc, ← Int.mul_add]
        congr 1
        omega
      rw [e, Int.add_mul_ediv_right _ _ (by omega), Int.add_comm]
      simp
    · rw [Int.pow_succ, Int.mul_assoc]
      simp
end Go.Proofs.YtpmioeamdhdokaaGreat.Ds
namespace Go.Proofs.YtpmioeamdhdokaaGreat
open Go.RowKit Go.Proofs.YtpmioeamdhdokaaGreat.Ds

theorem Dis.once {l : List Pt} (h : Dis l) : Once l := by
  unfold Once
  refine List.Pairwise.imp ?_ h.rise
  intro p q hh e
  rw [e] at hh
  exact ltL_irrefl _ hh

end Go.Proofs.YtpmioeamdhdokaaGreat
namespace Go.Proofs.YtpmioeamdhdokaaGreat
open Go.RowKit Go.Proofs.YtpmioeamdhdokaaGreat.Ds

/-- the outcome of a draw -/
def roOut (l : List Pt) (bits : List Int) : Option (List Int) := (roN l bits).map (·.1)

/-- KNUTH AND YAO -/
theorem knuth_yao {l : List Pt} (h : Dis l) (L : Nat) {p : Pt} (hp : p ∈ l) : ((su (fun j => if roOut l (dg j L) = some p.1 then 1 else 0) (2 ^ L) : Nat) : Int) = 2 ^ L * p.2 / tot l := by
  rw [su_dg (fun bs => if roOut l bs = some p.1 then 1 else 0) L]
  by_cases h2 : 2 ≤ l.length
  · have hl := h.less h2
    have hT := h.tpos
    have e : ∀ bs, roOut l bs = roO (tot l) l 1 0 bs := by
      intro bs
      rw [← roO_is _ _ _ _ 0]
      match l, h2 with
      | _ :: _ :: _, _ => rfl
    have h3 := ro_count (T := tot l) (by omega) h.once hp L 1 1 (by rw [tr_one l hl]; simp)
    simp only [su, Nat.zero_add] at h3
    have h4 : rm (tot l) 1 p.2 = p.2 := by
      have := hl p hp
      rw [rm, Int.mul_one, Int.emod_eq_of_lt this.1 this.2]
    rw [h4] at h3
    rw [← h3]
    congr 1
    exact sm_congr fun bs => by rw [e]; rfl
  · match l, h.ne, h2, hp, h with
    | [q], _, _, hp, h =>
      obtain rfl : p = q := by simpa using hp
      have hq := h.pos p (by simp)
      have e : sm (fun bs => if roOut [p] bs = some p.1 then 1 else 0) L = 2 ^ L := by
        rw [sm_congr (g := fun _ => 1) fun bs => by simp [roOut, roN], sm_const, Nat.one_mul]
      rw [e]
      have e2 : tot [p] = p.2 := by simp [tot]
      rw [e2, Int.mul_ediv_cancel _ (by omega)]
      simp
    | _ :: _ :: _, _, h2, _, _ => exact absurd (by simp) h2

/-- what was counted -/
def Cnf (l : List Pt) (L k : Nat) (xs : List Int) : Prop := xs.length = l.length ∧ ∀ (i : Nat) (p : Pt), l[i]? = some p → xs[i]? = some ((su (fun j => if roOut l (dg j L) = some p.1 then 1 else 0) k : Nat) : Int)
theorem Cnf.start (l : List Pt) (L : Nat) : Cnf l L 0 (List.replicate l.length 0) := ⟨by simp, fun i p hp => by
  have := (List.getElem?_eq_some_iff.1 hp).1
  simp [su, this]⟩
theorem Cnf.none {l : List Pt} {L k : Nat} {xs : List Int} (h : Cnf l L k xs) (he : roOut l (dg k L) = none) : Cnf l L (k + 1) xs :=
  ⟨h.1, fun i p hp => by rw [h.2 i p hp]; simp [su, he]⟩
/-- as far as the list has been gone through -/
def Bmp (l : List Pt) (o : List Int) (xs ys : List Int) (i : Nat) : Prop := ys.length = xs.length ∧ ∀ (j : Nat) (q : Int) (p : Pt), xs[j]? = some q → l[j]? = some p → ys[j]? = some (q + if j < i ∧ p.1 = o then 1 else 0)
theorem Bmp.start (l : List Pt) (o : List Int) (xs : List Int) : Bmp l o xs xs 0 := ⟨rfl, fun j q p hq _ => by rw [hq]; simp⟩
theorem Bmp.no {l : List Pt} {o xs ys : List Int} {i : Nat} (h : Bmp l o xs ys i) {p : Pt} (hp : l[i]? = some p) (he : p.1 ≠ o) : Bmp l o xs ys (i + 1) := by
  refine ⟨h.1, fun j q p' hq hp' => ?_⟩
  rw [h.2 j q p' hq hp']
  by_cases e : j = i
  · subst e
    rw [hp] at hp'
    simp only [Option.some.injEq] at hp'
    subst hp'
    simp [he]
  · have : (j < i + 1) ↔ (j < i) := by omega
    simp only [this]
theorem Bmp.yes {l : List Pt} {o xs ys : List Int} {i : Nat} (h : Bmp l o xs ys i) {p : Pt} (hp : l[i]? = some p) (he : p.1 = o) {q : Int} (hq : ys[i]? = some q) : Bmp l o xs (ys.set i (q + 1)) (i + 1) := by
  refine ⟨by simpa using h.1, fun j r p' hr hp' => ?_⟩
  have h0 := h.2 j r p' hr hp'
  by_cases e : j = i
  · subst e
    rw [hp] at hp'
    simp only [Option.some.injEq] at hp'
    subst hp'
    rw [hq] at h0
    simp only [Option.some.injEq] at h0
    rw [List.getElem?_set_self ((List.getElem?_eq_some_iff.1 hq).1)]
    simp [he] at h0 ⊢
    omega
  · rw [List.getElem?_set_ne (by omega), h0]
    have : (j < i + 1) ↔ (j < i) := by omega
    simp only [this]
theorem Bmp.done {l : List Pt} {L k : Nat} {o xs ys : List Int} {i : Nat} (h : Bmp l o xs ys i) (hi : l.length ≤ i) (hc : Cnf l L k xs) (he : roOut l (dg k L) = some o) : Cnf l L (k + 1) ys := by
  refine ⟨by rw [h.1]; exact hc.1, fun j p hp => ?_⟩
  have hj := (List.getElem?_eq_some_iff.1 hp).1
  rw [h.2 j _ p (hc.2 j p hp) hp]
  have e : (j < i ∧ p.1 = o) ↔ (o = p.1) := ⟨fun h => h.2.symm, fun h => ⟨by omega, h.symm⟩⟩
  simp only [su, he, Option.some.injEq]
  by_cases c : o = p.1
  · rw [if_pos (e.2 c), if_pos c]; rfl
  · rw [if_neg (fun h => c (e.1 h)), if_neg c]; simp
theorem Cnf.le {l : List Pt} {L k : Nat} {xs : List Int} (h : Cnf l L k xs) {i : Nat} (hi : i < l.length) : ∃ q : Nat, xs[i]? = some (q : Int) ∧ q ≤ k := by
  obtain ⟨p, hp⟩ := get_lt hi
  refine ⟨su (fun j => if roOut l (dg j L) = some p.1 then 1 else 0) k, h.2 i p hp, ?_⟩
  have := su_le (fun j => if roOut l (dg j L) = some p.1 then 1 else 0) (fun _ => 1) k fun i _ => by split <;> omega
  rwa [su_const, Nat.mul_one] at this
theorem Bmp.le {l : List Pt} {o xs ys : List Int} {i k L j : Nat} (h : Bmp l o xs ys i) (hc : Cnf l L k xs) (hj : j < l.length) : ∃ q : Nat, ys[j]? = some (q : Int) ∧ q ≤ k + 1 := by
  obtain ⟨q, hq, hk⟩ := hc.le hj
  obtain ⟨p, hp⟩ := get_lt hj
  have := h.2 j q p hq hp
  split at this
  · exact ⟨q + 1, by simpa using this, by omega⟩
  · exact ⟨q, by simpa using this, by omega⟩

end Go.Proofs.YtpmioeamdhdokaaGreat

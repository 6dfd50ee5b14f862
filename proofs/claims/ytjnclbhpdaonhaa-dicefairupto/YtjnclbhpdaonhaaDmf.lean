import Derived.Test.YtjnclbhpdaonhaaDis
import Derived.Test.YtjnclbhpdaonhaaRls
namespace Go.Proofs.Ytjnclbhpdaonhaa
open Go.RowKit Go.Proofs.Ytjnclbhpdaonhaa.Ds

/-- a draw needs no more bits than it tells -/
theorem roT_take {T : Int} {l : List Pt} {pl nd u0 : Int} {bits : List Int} {o : List Int} {u : Int} {r : List Int} (h : roT T l pl nd u0 bits = some (o, u, r)) :
    ∃ j : Nat, u = u0 + j ∧ j ≤ bits.length ∧ roT T l pl nd u0 (bits.take j) = some (o, u, []) := by
  induction bits generalizing pl nd u0 with
  | nil => cases h
  | cons b bits ih =>
    simp only [roT] at h
    cases e : (lvT T pl l)[(2 * nd + b).toNat]? with
    | some o' =>
      rw [e] at h
      simp only [Option.some.injEq, Prod.mk.injEq] at h
      obtain ⟨rfl, rfl, rfl⟩ := h
      exact ⟨1, rfl, by simp, by simp [roT, e]⟩
    | none =>
      rw [e] at h
      obtain ⟨j, h1, h2, h3⟩ := ih h
      refine ⟨j + 1, by rw [h1]; omega, by simp; omega, ?_⟩
      rw [List.take_succ_cons]
      simp only [roT, e]
      exact h3
theorem roN_take {l : List Pt} {bits : List Int} {o : List Int} {u : Int} {r : List Int} (h : roN l bits = some (o, u, r)) :
    ∃ j : Nat, u = j ∧ j ≤ bits.length ∧ ∃ r', roN l (bits.take j) = some (o, u, r') := by
  match l, h with
  | [p], h =>
    simp only [roN, Option.some.injEq, Prod.mk.injEq] at h
    obtain ⟨rfl, rfl, rfl⟩ := h
    exact ⟨0, rfl, Nat.zero_le _, [], rfl⟩
  | [], h =>
    obtain ⟨j, h1, h2, h3⟩ := roT_take (show roT _ _ _ _ _ bits = _ from h)
    exact ⟨j, by omega, h2, [], h3⟩
  | _ :: _ :: _, h =>
    obtain ⟨j, h1, h2, h3⟩ := roT_take (show roT _ _ _ _ _ bits = _ from h)
    exact ⟨j, by omega, h2, [], h3⟩

/-- the outcome of a draw -/
def roOut (l : List Pt) (bits : List Int) : Option (List Int) := (roN l bits).map (·.1)

/-- KNUTH AND YAO -/
theorem knuth_yao {l : List Pt} (h : Dis l) (L : Nat) {p : Pt} (hp : p ∈ l) : ((su (fun j => if roOut l (dg j L) = some p.1 then 1 else 0) (2 ^ L) : Nat) : Int) = 2 ^ L * p.2 / tot l := by
  rw [su_dg (fun bs => if roOut l bs = some p.1 then 1 else 0) L]
  by_cases h2 : 2 ≤ l.length
  · have hl := h.less h2
    have hT := h.tpos
    have e : ∀ bs, roOut l bs = roO (tot l) l 1 0 bs := by
      intro bs
      rw [← roO_is _ _ _ _ 0]
      match l, h2 with
      | _ :: _ :: _, _ => rfl
    have h3 := ro_count (T := tot l) (by omega) h.once hp L 1 1 (by rw [tr_one l hl]; simp)
    simp only [su, Nat.zero_add] at h3
    have h4 : rm (tot l) 1 p.2 = p.2 := by
      have := hl p hp
      rw [rm, Int.mul_one, Int.emod_eq_of_lt this.1 this.2]
    rw [h4] at h3
    rw [← h3]
    congr 1
    exact sm_congr fun bs => by rw [e]; rfl
  · match l, h.ne, h2, hp, h with
    | [q], _, _, hp, h =>
      obtain rfl : p = q := by simpa using hp
      have hq := h.pos p (by simp)
      have e : sm (fun bs => if roOut [p] bs = some p.1 then 1 else 0) L = 2 ^ L := by
        rw [sm_congr (g := fun _ => 1) fun bs => by simp [roOut, roN], sm_const, Nat.one_mul]
      rw [e]
      have e2 : tot [p] = p.2 := by simp [tot]
      rw [e2, Int.mul_ediv_cancel _ (by omega)]
      simp
    | _ :: _ :: _, _, h2, _, _ => exact absurd (by simp) h2

/-- what was counted -/
def Cnf (l : List Pt) (L k : Nat) (xs : List Int) : Prop := xs.length = l.length ∧ ∀ (i : Nat) (p : Pt), l[i]? = some p → xs[i]? = some ((su (fun j => if roOut l (dg j L) = some p.1 then 1 else 0) k : Nat) : Int)
theorem Cnf.start (l : List Pt) (L : Nat) : Cnf l L 0 (List.replicate l.length 0) := ⟨by simp, fun i p hp => by
  have := (List.getElem?_eq_some_iff.1 hp).1
  simp [su, this]⟩
theorem Cnf.none {l : List Pt} {L k : Nat} {xs : List Int} (h : Cnf l L k xs) (he : roOut l (dg k L) = none) : Cnf l L (k + 1) xs :=
  ⟨h.1, fun i p hp => by rw [h.2 i p hp]; simp [su, he]⟩
/-- as far as the list has been gone through -/
def Bmp (l : List Pt) (o : List Int) (xs ys : List Int) (i : Nat) : Prop := ys.length = xs.length ∧ ∀ (j : Nat) (q : Int) (p : Pt), xs[j]? = some q → l[j]? = some p → ys[j]? = some (q + if j < i ∧ p.1 = o then 1 else 0)
theorem Bmp.start (l : List Pt) (o : List Int) (xs : List Int) : Bmp l o xs xs 0 := ⟨rfl, fun j q p hq _ => by rw [hq]; simp⟩
theorem Bmp.no {l : List Pt} {o xs ys : List Int} {i : Nat} (h : Bmp l o xs ys i) {p : Pt} (hp : l[i]? = some p) (he : p.1 ≠ o) : Bmp l o xs ys (i + 1) := by
  refine ⟨h.1, fun j q p' hq hp' => ?_⟩
  rw [h.2 j q p' hq hp']
  by_cases e : j = i
  · subst e
    rw [hp] at hp'
    simp only [Option.some.injEq] at hp'
    subst hp'
    simp [he]
  · have : (j < i + 1) ↔ (j < i) := by omega
    simp only [this]
theorem Bmp.yes {l : List Pt} {o xs ys : List Int} {i : Nat} (h : Bmp l o xs ys i) {p : Pt} (hp : l[i]? = some p) (he : p.1 = o) {q : Int} (hq : ys[i]? = some q) : Bmp l o xs (ys.set i (q + 1)) (i + 1) := by
  refine ⟨by simpa using h.1, fun j r p' hr hp' => ?_⟩
  have h0 := h.2 j r p' hr hp'
  by_cases e : j = i
  · subst e
    rw [hp] at hp'
    simp only [Option.some.injEq] at hp'
    subst hp'
    rw [hq] at h0
    simp only [Option.some.injEq] at h0
    rw [List.getElem?_set_self ((List.getElem?_eq_some_iff.1 hq).1)]
    simp [he] at h0 ⊢
    omega
  · rw [List.getElem?_set_ne (by omega), h0]
    have : (j < i + 1) ↔ (j < i) := by omega
    simp only [this]
theorem Bmp.done {l : List Pt} {L k : Nat} {o xs ys : List Int} {i : Nat} (h : Bmp l o xs ys i) (hi : l.length ≤ i) (hc : Cnf l L k xs) (he : roOut l (dg k L) = some o) : Cnf l L (k + 1) ys := by
  refine ⟨by rw [h.1]; exact hc.1, fun j p hp => ?_⟩
  have hj := (List.getElem?_eq_some_iff.1 hp).1
  rw [h.2 j _ p (hc.2 j p hp) hp]
  have e : (j < i ∧ p.1 = o) ↔ (o = p.1) := ⟨fun h => h.2.symm, fun h => ⟨by omega, h.symm⟩⟩
  simp only [su, he, Option.some.injEq]
  by_cases c : o = p.1
  · rw [if_pos (e.2 c), if_pos c]; rfl
  · rw [if_neg (fun h => c (e.1 h)), if_neg c]; simp
theorem Cnf.le {l : List Pt} {L k : Nat} {xs : List Int} (h : Cnf l L k xs) {i : Nat} (hi : i < l.length) : ∃ q : Nat, xs[i]? = some (q : Int) ∧ q ≤ k := by
  obtain ⟨p, hp⟩ := get_lt hi
  refine ⟨su (fun j => if roOut l (dg j L) = some p.1 then 1 else 0) k, h.2 i p hp, ?_⟩
  have := su_le (fun j => if roOut l (dg j L) = some p.1 then 1 else 0) (fun _ => 1) k fun i _ => by split <;> omega
  rwa [su_const, Nat.mul_one] at this
theorem Bmp.le {l : List Pt} {o xs ys : List Int} {i k L j : Nat} (h : Bmp l o xs ys i) (hc : Cnf l L k xs) (hj : j < l.length) : ∃ q : Nat, ys[j]? = some (q : Int) ∧ q ≤ k + 1 := by
  obtain ⟨q, hq, hk⟩ := hc.le hj
  obtain ⟨p, hp⟩ := get_lt hj
  have := h.2 j q p hq hp
  split at this
  · exact ⟨q + 1, by simpa using this, by omega⟩
  · exact ⟨q, by simpa using this, by omega⟩

theorem rolls_one {l : List Pt} (h : (ownT l).2 = 0) {bits : List Int} (hb : badB bits = false) (hl : bits.length ≤ 9) : rollsT l bits 1 = (drT (roN l) 1 bits, 0) := by
  have h1 : wrB bits 1 = 0 := by
    unfold wrB
    rw [hb, if_neg (by omega), if_neg (by simp)]
  unfold rollsT drawsT
  rw [if_pos h, if_pos h1]
  rfl
end Go.Proofs.Ytjnclbhpdaonhaa

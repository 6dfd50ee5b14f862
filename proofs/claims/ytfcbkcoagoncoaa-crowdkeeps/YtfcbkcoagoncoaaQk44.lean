import Derived.Test.YtfcbkcoagoncoaaQk07
import Derived.Test.YtfcbkcoagoncoaaQk43
import Derived.Test.YtfcbkcoagoncoaaQk20
namespace Go.Proofs.Ytfcbkcoagoncoaa
open Go.RowKit Go.Proofs.Ytfcbkcoagoncoaa.Ds Go.Proofs.Ytfcbkcoagoncoaa.Crd

/-- how far two are that were made -/
theorem within_made {L M a b : List Pt} (h1 : makeT L = (a, 0)) (h2 : makeT M = (b, 0)) (hs : Sup L M) {U D : Int} (hU : 0 < U) (hD : 0 < D) (hb : Bd L M U D) {x y e : Int} (hf : farT a b = (x, y, e)) :
    e = 4 ∨ (e = 0 ∧ x * D ≤ U * y ∧ 0 ≤ x ∧ x ≤ 1073741824 ∧ 0 ≤ y ∧ y ≤ 1073741824) := by
  obtain ⟨d1, g, hg, w1, t1⟩ := make_told h1
  obtain ⟨d2, g', hg', w2, t2⟩ := make_told h2
  have hsl := sup_make hg hg' w1 w2 hs
  have hbl := bd_make hg hg' w1 w2 t1 t2 hb
  have he : twoE a b = 0 := by unfold twoE; rw [d1.own, d2.own]; simp
  by_cases c : e = 0
  · subst c
    obtain ⟨_, _, _, _, _, hr, _, hm⟩ := far_told hf
    obtain ⟨b1, b2, b3, b4⟩ := Rt.right_bd hr
    exact .inr ⟨rfl, hm U D hU hD hbl, b1, b2, by omega, b4⟩
  · rcases far_is d1 d2 he with ⟨h, _⟩ | ⟨_, U', D', hU', hD', h, _⟩
    · exact absurd hsl h
    · rw [h] at hf
      rcases Rt.mkT_of U' D' x y e (by omega) (by omega) hf with ⟨_, _, _, h⟩ | ⟨_, _, _, _, h⟩
      · exact .inl h.symm
      · exact absurd h.symm c
namespace Crd
/-- ONE PERSON's TRUTH IS ANOTHER ONE -/
theorem near_far {u d : Int} {k : Nat} {ts us : List Int} (hP : Peo u d k ts) (hQ : Peo u d k us) {a b : List Int} {t t' : Int} (e1 : ts = a ++ t :: b) (e2 : us = a ++ t' :: b) {l m : List Pt} (h1 : makeT (expL u d k (natsT ts)) = (l, 0)) (h2 : makeT (expL u d k (natsT us)) = (m, 0))
    {x y e : Int} (hf : farT l m = (x, y, e)) : e = 4 ∨ (e = 0 ∧ x * d ≤ u * y ∧ 0 ≤ x ∧ x ≤ 1073741824 ∧ 0 ≤ y ∧ y ≤ 1073741824) := by
  have hd := hP.d1
  have hdu := hP.du
  have hu : 1 ≤ u := by omega
  have hlen : (natsT us).length = (natsT ts).length := by rw [nats_len, nats_len, e1, e2]; simp
  have n1 : natsT ts = natsT a ++ t.toNat :: natsT b := by rw [e1]; simp [natsT]
  have n2 : natsT us = natsT a ++ t'.toNat :: natsT b := by rw [e2]; simp [natsT]
  have T1 := exp_tot u d k (natsT ts) hP.nats
  have T2 := exp_tot u d k (natsT us) hQ.nats
  rw [hlen] at T2
  have hT0 : 0 ≤ (u + k * d) ^ (natsT ts).length := by
    have h5 : 0 ≤ (k : Int) * d := Int.mul_nonneg (by omega) (by omega)
    have := pow_ge_one (S := u + k * d) (by omega) (natsT ts).length
    omega
  have hw1 : ∀ o, o ∈ cnts (natsT ts).length k → d * wgh u d k (natsT ts) o ≤ u * wgh u d k (natsT us) o := fun o _ => by
    rw [n1, n2]; exact wgh_near u d (by omega) hdu k _ _ _ _ o
  have hw2 : ∀ o, o ∈ cnts (natsT ts).length k → d * wgh u d k (natsT us) o ≤ u * wgh u d k (natsT ts) o := fun o _ => by
    rw [n1, n2]; exact wgh_near u d (by omega) hdu k _ _ _ _ o
  refine within_made h1 h2 (fun o => ?_) (U := u) (D := d) (by omega) (by omega) ⟨hdu, fun o ho => ?_⟩ hf
  · rw [exp_wt, exp_wt, hlen]
    by_cases c : o ∈ cnts (natsT ts).length k
    · rw [if_pos c, if_pos c]
      have a1 := wgh_pos hu hd k (natsT ts) o c
      have a2 := wgh_pos hu hd k (natsT us) o (by rw [hlen]; exact c)
      omega
    · rw [if_neg c, if_neg c]
  · rw [exp_wt] at ho
    have c : o ∈ cnts (natsT ts).length k := by
      by_cases c : o ∈ cnts (natsT ts).length k
      · exact c
      · rw [if_neg c] at ho; omega
    rw [T1, T2, exp_wt, exp_wt, hlen, if_pos c, if_pos c]
    have m1 := Int.mul_le_mul_of_nonneg_right (hw1 o c) hT0
    have m2 := Int.mul_le_mul_of_nonneg_right (hw2 o c) hT0
    constructor
    · rw [Int.mul_assoc, Int.mul_comm _ d, ← Int.mul_assoc, Int.mul_comm _ d, ← Int.mul_assoc]; exact m1
    · rw [Int.mul_assoc, Int.mul_comm _ d, ← Int.mul_assoc, Int.mul_comm _ d, ← Int.mul_assoc]; exact m2
theorem set_split {ts : List Int} {i : Nat} {x : Int} (y : Int) (h : ts[i]? = some x) : ts = ts.take i ++ x :: ts.drop (i + 1) ∧ ts.set i y = ts.take i ++ y :: ts.drop (i + 1) := by
  have hi := (List.getElem?_eq_some_iff.1 h).1
  have hx := (List.getElem?_eq_some_iff.1 h).2
  constructor
  · rw [← hx, List.getElem_cons_drop hi, List.take_append_drop]
  · rw [List.set_eq_take_append_cons_drop, if_pos hi]
/-- what CrowdKeeps asks -/
theorem keeps_main {u d K : Int} {ts : List Int} {i : Nat} {x0 other : Int} (hi : ts[i]? = some x0) {l m : List Pt} (h1 : shuT u d K ts = (l, 0)) (h2 : shuT u d K (ts.set i other) = (m, 0)) {x y e : Int} (hf : farT l m = (x, y, e)) :
    (e = 4 ∨ (e = 0 ∧ x * d ≤ u * y ∧ 0 ≤ x ∧ x ≤ 1073741824 ∧ 0 ≤ y ∧ y ≤ 1073741824)) ∧ 0 ≤ d ∧ d ≤ 1073741824 ∧ 0 ≤ u ∧ u ≤ 1073741824 := by
  have p1 : peoE u d K ts = 0 := by
    by_cases c : peoE u d K ts = 0
    · exact c
    · unfold shuT at h1; rw [if_pos c] at h1; simp only [Prod.mk.injEq] at h1; exact h1.2
  have p2 : peoE u d K (ts.set i other) = 0 := by
    by_cases c : peoE u d K (ts.set i other) = 0
    · exact c
    · unfold shuT at h2; rw [if_pos c] at h2; simp only [Prod.mk.injEq] at h2; exact h2.2
  obtain ⟨k, hk, hP⟩ := peo_ok p1
  obtain ⟨k', hk', hQ⟩ := peo_ok p2
  obtain rfl : k = k' := by omega
  rw [shu_of p1 hk] at h1
  rw [shu_of p2 hk] at h2
  obtain ⟨s1, s2⟩ := set_split other hi
  have := hP.d1
  have := hP.du
  have := hP.u30
  exact ⟨near_far hP hQ s1 s2 h1 h2 hf, by omega, by omega, by omega, by omega⟩
end Crd
end Go.Proofs.Ytfcbkcoagoncoaa

namespace Go.Proofs.Ytfcbkcoagoncoaa
open Go.RowKit Go.Proofs.Ytfcbkcoagoncoaa.Ds

theorem refMost_any (a b c d : Int) (ha0 : 0 ≤ a) (ha : a ≤ 1073741824) (hb0 : 0 ≤ b) (hb : b ≤ 1073741824) (hc0 : 0 ≤ c) (hc : c ≤ 1073741824) (hd0 : 0 ≤ d) (hd : d ≤ 1073741824) (r : Bool) (hr : decide (a * d ≤ c * b) = r) (w : World) :
    Calls Try.prog 15 #[rv a b, rv c d] w fun e w' => e = .returned (.bool r) ∧ Below w.heap.size w w' := by
  have b1 := Rt.mul_bd ha0 ha hd0 hd
  have b2 := Rt.mul_bd hc0 hc hb0 hb
  obtain ⟨P, hP⟩ : ∃ P, a * d = P := ⟨_, rfl⟩
  obtain ⟨Q, hQ⟩ : ∃ Q, c * b = Q := ⟨_, rfl⟩
  rw [hP] at b1
  rw [hQ] at b2
  rw [hP, hQ] at hr
  by_cases h : P ≤ Q
  · have hh : decide (P ≤ Q) = true := decide_eq_true h
    obtain rfl : true = r := by rw [← hr, hh]
    clear hr
    go_enter Try.func15, Try.ntmps15
    go_wp2
    go_ret
    exact ⟨rfl, bal (ba _ _) _⟩
  · have hh : decide (P ≤ Q) = false := decide_eq_false h
    obtain rfl : false = r := by rw [← hr, hh]
    clear hr
    go_enter Try.func15, Try.ntmps15
    go_wp2
    go_ret
    exact ⟨rfl, bal (ba _ _) _⟩

end Go.Proofs.Ytfcbkcoagoncoaa

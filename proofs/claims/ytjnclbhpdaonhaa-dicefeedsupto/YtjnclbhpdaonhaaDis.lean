import Derived.Test.YtjnclbhpdaonhaaEql
import Derived.Test.YtjnclbhpdaonhaaDmr
namespace Go.Proofs.Ytjnclbhpdaonhaa
open Go.RowKit Go.Proofs.Ytjnclbhpdaonhaa.Ds

/-- a distribution -/
structure Dis (l : List Pt) : Prop where
  rise : Rise l
  pos : Pos l
  le : tot l ≤ 1073741824
  ne : l ≠ []
  ok : l.all okP = true
  few : l.length ≤ 4096
  one : dv l = 1

theorem cut_rise {g : Int} {l : List Pt} (h : Rise l) : Rise (cut g l) := by
  unfold Rise cut
  rw [List.pairwise_map]
  exact h

theorem dv_mul (g : Nat) : ∀ l : List Pt, dv (l.map fun p => (p.1, (g : Int) * p.2)) = g * dv l
  | [] => by simp [dv]
  | p :: l => by
    simp only [List.map_cons, dv, dv_mul g l]
    rw [Int.natAbs_mul, Int.natAbs_natCast, Nat.gcd_mul_left]

theorem cut_back {l : List Pt} {g : Nat} (h : ∀ p ∈ l, (g : Int) ∣ p.2) : (cut g l).map (fun p => (p.1, (g : Int) * p.2)) = l := by
  simp only [cut, List.map_map]
  conv => rhs; rw [← List.map_id l]
  refine List.map_congr_left fun p hp => ?_
  simp only [Function.comp, id]
  rw [Int.mul_ediv_cancel' (h p hp)]

theorem lowT_ok {l m : List Pt} (hp : Pos l) (hr : Rise l) (h : lowT l = (m, 0)) : Rise m ∧ Pos m ∧ tot m ≤ 1073741824 ∧ m ≠ [] ∧ m.length ≤ 4096 ∧ dv m = 1 := by
  unfold lowT at h
  split at h
  · simp at h
  · rename_i hne
    split at h
    · simp at h
    · rename_i hc
      simp only [Prod.mk.injEq, and_true] at h
      subst h
      have hd := dv_pos hp hne
      have hdv : ∀ p ∈ l, ((dv l : Nat) : Int) ∣ p.2 := fun p hp => dv_dvd_int hp
      refine ⟨cut_rise hr, ?_, by omega, ?_, by rw [cut_length]; omega, ?_⟩
      · intro p hpm
        obtain ⟨q, hq, rfl⟩ := List.mem_map.1 hpm
        have h1 := hp q hq
        exact Int.ediv_pos_of_pos_of_dvd h1 (by omega) (hdv q hq)
      · simp [cut, hne]
      · have e := dv_mul (dv l) (cut (dv l) l)
        rw [cut_back hdv] at e
        exact Nat.eq_of_mul_eq_mul_left hd (by rw [← e, Nat.mul_one])

theorem ownT_ok {l m : List Pt} (h : ownT l = (m, 0)) : m = l ∧ Dis l := by
  unfold ownT at h
  split at h
  · rename_i h0
    split at h
    · rename_i h1
      simp only [Prod.mk.injEq, and_true] at h
      have hm : makeT l = (l, 0) := Prod.ext h1 h0
      unfold makeT at hm
      split at hm
      · rename_i hok
        obtain ⟨a, b, c, d, e, f⟩ := lowT_ok (gath_pos (all_okP hok).1) (gath_rise l) hm
        exact ⟨h.symm, a, b, c, d, hok, e, f⟩
      · simp at hm
    · simp at h
  · rename_i h0
    simp only [Prod.mk.injEq] at h
    exact absurd h.2 h0


theorem Dis.once {l : List Pt} (h : Dis l) : Once l := by
  unfold Once
  refine List.Pairwise.imp ?_ h.rise
  intro p q hh e
  rw [e] at hh
  exact ltL_irrefl _ hh
theorem Dis.tpos {l : List Pt} (h : Dis l) : 1 ≤ tot l := by
  cases l with
  | nil => exact absurd rfl h.ne
  | cons p l =>
    have h1 := h.pos p (by simp)
    have h2 : 0 ≤ tot l := (Nn.of_pos (l := l) fun q hq => h.pos q (by simp [hq])).tot_nn
    rw [tot_cons]; omega
/-- of two outcomes or more each has less than all -/
theorem Dis.less {l : List Pt} (h : Dis l) (h2 : 2 ≤ l.length) : ∀ p ∈ l, 0 ≤ p.2 ∧ p.2 < tot l := by
  intro p hp
  have h1 := h.pos p hp
  refine ⟨by omega, ?_⟩
  obtain ⟨a, b, rfl⟩ := List.append_of_mem hp
  have ha : 0 ≤ tot a := (Nn.of_pos (l := a) fun q hq => h.pos q (by simp [hq])).tot_nn
  have hb : 0 ≤ tot b := (Nn.of_pos (l := b) fun q hq => h.pos q (by simp [hq])).tot_nn
  rw [tot_append, tot_cons]
  cases a with
  | cons q a =>
    have := h.pos q (by simp)
    have h3 : 0 ≤ tot a := (Nn.of_pos (l := a) fun r hr => h.pos r (by simp [hr])).tot_nn
    rw [tot_cons]; omega
  | nil => cases b with
    | cons q b =>
      have := h.pos q (by simp)
      have h3 : 0 ≤ tot b := (Nn.of_pos (l := b) fun r hr => h.pos r (by simp [hr])).tot_nn
      rw [tot_cons]; simp; omega
    | nil => simp at h2
end Go.Proofs.Ytjnclbhpdaonhaa

import Derived.Test.YtfcbkcoagoncoaaQf04
/-
  WHAT IS MADE, ONE PERSON BEHIND THE OTHER, IS WHAT IS MADE OF ALL WAYS AT ONCE.
-/
namespace Go.Proofs.Ytfcbkcoagoncoaa.Crd
open Go.Proofs.Ytfcbkcoagoncoaa.Ds Go.Proofs.Ytfcbkcoagoncoaa

/-! ### what is proportional is made the same -/
def gro (c : Int) (l : List Pt) : List Pt := l.map fun p => (p.1, c * p.2)
theorem gro_wt (c : Int) (l : List Pt) (o : List Int) : wt (gro c l) o = c * wt l o := by
  induction l with
  | nil => simp [gro]
  | cons p l ih =>
    simp only [gro, List.map_cons] at *
    rw [wt_cons, wt_cons, ih, Int.mul_add]
    simp only
    split <;> simp
theorem gro_rise {c : Int} {l : List Pt} (h : Rise l) : Rise (gro c l) := by
  unfold Rise gro
  rw [List.pairwise_map]
  exact h
theorem gro_pos {c : Int} {l : List Pt} (hc : 0 < c) (h : Pos l) : Pos (gro c l) := by
  intro p hp
  obtain ⟨q, hq, rfl⟩ := List.mem_map.1 hp
  exact Int.mul_pos hc (h q hq)
theorem gro_dv {c : Int} (hc : 0 < c) : ∀ l : List Pt, dv (gro c l) = c.natAbs * dv l
  | [] => by simp [gro, dv]
  | p :: l => by
    have ih := gro_dv hc l
    simp only [gro, List.map_cons, dv] at *
    rw [ih, Int.natAbs_mul, Nat.gcd_mul_left]
theorem gro_cut {c : Int} (hc : 0 < c) (g : Nat) (l : List Pt) : cut ((c.natAbs * g : Nat) : Int) (gro c l) = cut g l := by
  unfold cut gro
  rw [List.map_map]
  refine List.map_congr_left fun p _ => ?_
  show (p.1, c * p.2 / ((c.natAbs * g : Nat) : Int)) = (p.1, p.2 / (g : Int))
  rw [Int.natCast_mul, Int.natAbs_of_nonneg (by omega), Int.mul_ediv_mul_of_pos _ _ hc]
theorem gro_low {c : Int} (hc : 0 < c) (l : List Pt) : lowT (gro c l) = lowT l := by
  unfold lowT
  rw [gro_dv hc, gro_cut hc]
  have h1 : (gro c l = []) ↔ (l = []) := by simp [gro]
  have h2 : (gro c l).length = l.length := by simp [gro]
  simp only [h1, h2]
theorem okP_nn {l : List Pt} (h : l.all okP = true) : ∀ p ∈ l, 0 ≤ p.2 := by
  intro p hp
  have := List.all_eq_true.1 h p hp
  unfold okP at this
  simp at this
  omega
theorem make_prop {L M : List Pt} {c : Int} (hc : 0 < c) (hL : L.all okP = true) (hM : M.all okP = true) (h : ∀ o, wt M o = c * wt L o) : makeT M = makeT L := by
  unfold makeT
  rw [if_pos hL, if_pos hM]
  have : gath M = gro c (gath L) := gath_is (okP_nn hM) (gro_rise (gath_rise L)) (gro_pos hc (gath_pos (okP_nn hL))) fun o => by rw [gro_wt, gath_wt, h]
  rw [this, gro_low hc]

/-! ### all ways and their weights -/
def expL (u d : Int) (k : Nat) (ts : List Nat) : List Pt := (cnts ts.length k).map fun h => (h, wgh u d k ts h)
theorem exp_rise (u d : Int) (k : Nat) (ts : List Nat) : Rise (expL u d k ts) := by
  unfold Rise expL
  rw [List.pairwise_map]
  exact cnts_rise k _
theorem exp_pos {u d : Int} (hu : 1 ≤ u) (hd : 1 ≤ d) (k : Nat) (ts : List Nat) : Pos (expL u d k ts) := by
  intro p hp
  obtain ⟨h, hh, rfl⟩ := List.mem_map.1 hp
  have := wgh_pos hu hd k ts h hh
  show 0 < wgh u d k ts h
  omega
theorem wt_map_in (F : List Int → Int) : ∀ (l : List (List Int)) (o : List Int), l.Pairwise ltL → wt (l.map fun h => (h, F h)) o = if o ∈ l then F o else 0
  | [], o, _ => by simp
  | x :: l, o, h => by
    have h' := List.pairwise_cons.1 h
    rw [List.map_cons, wt_cons, wt_map_in F l o h'.2]
    by_cases e : x = o
    · subst e
      have : x ∉ l := fun hx => ltL_irrefl _ (h'.1 x hx)
      simp [this]
    · have e' : ¬ o = x := fun q => e q.symm
      simp [e, e']
theorem exp_wt (u d : Int) (k : Nat) (ts : List Nat) (o : List Int) : wt (expL u d k ts) o = if o ∈ cnts ts.length k then wgh u d k ts o else 0 := wt_map_in _ _ _ (cnts_rise k _)
theorem tot_smL {l : List (List Int)} {F : List Int → Int} : tot (l.map fun h => (h, F h)) = smL F l := by
  induction l with
  | nil => rfl
  | cons x l ih => rw [List.map_cons, tot_cons, ih, smL]
theorem exp_tot (u d : Int) (k : Nat) (ts : List Nat) (h : ∀ t ∈ ts, t ≤ k) : tot (expL u d k ts) = (u + k * d) ^ ts.length := by
  unfold expL; rw [tot_smL, wgh_tot u d k ts h]
theorem smL_mem {α : Type} {F : α → Int} {l : List α} (hn : ∀ x ∈ l, 0 ≤ F x) {x : α} (hx : x ∈ l) : F x ≤ smL F l := by
  induction l with
  | nil => cases hx
  | cons y l ih =>
    have h1 : 0 ≤ smL F l := smL_nn fun z hz => hn z (by simp [hz])
    have h2 := hn y (by simp)
    rcases List.mem_cons.1 hx with rfl | hx
    · rw [smL]; omega
    · have := ih (fun z hz => hn z (by simp [hz])) hx; rw [smL]; omega
theorem wgh_le {u d : Int} (hu : 1 ≤ u) (hd : 1 ≤ d) (k : Nat) (ts : List Nat) (hts : ∀ t ∈ ts, t ≤ k) {h : List Int} (hh : h ∈ cnts ts.length k) : wgh u d k ts h ≤ (u + k * d) ^ ts.length := by
  rw [← wgh_tot u d k ts hts]
  exact smL_mem (fun x hx => by have := wgh_pos hu hd k ts x hx; omega) hh
theorem cnt_le {n k : Nat} {h : List Int} (hh : h ∈ cnts n k) {x : Int} (hx : x ∈ h) : x ≤ n := by
  obtain ⟨h1, h2, h3⟩ := mem_cnts.1 hh
  have : x ≤ tl h := smL_mem (F := id) h2 hx
  omega
theorem okO_cnt {n k : Nat} {h : List Int} (hn : n ≤ 4096) (hk : k ≤ 15) (hh : h ∈ cnts n k) : okO h = true := by
  obtain ⟨h1, h2, h3⟩ := mem_cnts.1 hh
  unfold okO
  rw [Bool.and_eq_true, List.all_eq_true]
  refine ⟨by simp; omega, fun x hx => ?_⟩
  have := cnt_le hh hx
  have := h2 x hx
  unfold okN
  simp; omega
theorem exp_ok {u d : Int} (hu : 1 ≤ u) (hd : 1 ≤ d) {k : Nat} (hk : k ≤ 7) {ts : List Nat} (hn : ts.length ≤ 4096) (hts : ∀ t ∈ ts, t ≤ k) (hS : (u + k * d) ^ ts.length ≤ 1073741824) : (expL u d k ts).all okP = true := by
  rw [List.all_eq_true]
  intro p hp
  obtain ⟨h, hh, rfl⟩ := List.mem_map.1 hp
  have h1 := wgh_pos hu hd k ts h hh
  have h2 := wgh_le hu hd k ts hts hh
  unfold okP
  rw [Bool.and_eq_true]
  exact ⟨by simp; omega, okO_cnt hn (by omega) hh⟩
theorem gath_self {l : List Pt} (hr : Rise l) (hp : Pos l) : gath l = l := gath_is (fun p h => Int.le_of_lt (hp p h)) hr hp fun _ => rfl
theorem cut_tot_le {l : List Pt} (hp : Pos l) : tot (cut (dv l) l) ≤ tot l := by
  rw [cut_tot fun p h => dv_dvd_int h]
  exact Int.ediv_le_self _ (tot_pos hp)
/-- what is made of all ways -/
theorem exp_make {u d : Int} (hu : 1 ≤ u) (hd : 1 ≤ d) {k : Nat} (hk : k ≤ 7) {ts : List Nat} (hn : ts.length ≤ 4096) (hts : ∀ t ∈ ts, t ≤ k) (hS : (u + k * d) ^ ts.length ≤ 1073741824) :
    makeT (expL u d k ts) = if 4096 < (cnts ts.length k).length then ([], 4) else (cut (dv (expL u d k ts)) (expL u d k ts), 0) := by
  have hp := exp_pos hu hd k ts
  have hne : expL u d k ts ≠ [] := by
    unfold expL
    simp [cnts_ne]
  have hl : (expL u d k ts).length = (cnts ts.length k).length := by simp [expL]
  unfold makeT lowT
  rw [if_pos (exp_ok hu hd hk hn hts hS), gath_self (exp_rise u d k ts) hp, if_neg hne, hl]
  have h1 := cut_tot_le hp
  rw [exp_tot u d k ts hts] at h1
  by_cases c : 4096 < (cnts ts.length k).length
  · rw [if_pos (.inr c), if_pos c]
  · rw [if_neg (by omega), if_neg c]

/-! ### one more is heard -/
def jn1 (s : List Pt) (p : Pt) : List Pt := s.map fun q => (inc (q.1.headD 0).toNat p.1, p.2 * q.2)
def jn (l s : List Pt) : List Pt := l.flatMap (jn1 s)
/-- what one person says, with weights by a function -/
def sayL (σ : Nat → Int) (k : Nat) : List Pt := (List.range (k + 1)).map fun (j : Nat) => ([(j : Int)], σ j)
theorem jn1_wt (σ : Nat → Int) (p : Pt) (o : List Int) (hp : p.1.length = o.length) : ∀ r : List Nat, (∀ j ∈ r, j < o.length) →
    wt (jn1 (r.map fun (j : Nat) => ([(j : Int)], σ j)) p) o = smL (fun j => σ j * (if p.1 = dec j o then p.2 else 0)) r
  | [], _ => by simp [jn1, smL]
  | j :: r, h => by
    have ih := jn1_wt σ p o hp r fun i hi => h i (by simp [hi])
    have hj := h j (by simp)
    simp only [jn1, List.map_cons, List.headD_cons, Int.toNat_natCast] at ih ⊢
    rw [wt_cons, ih, smL]
    congr 1
    have : (inc j p.1 = o) ↔ (p.1 = dec j o) := by
      constructor
      · intro e; rw [← e, dec_inc j p.1 (by omega)]
      · intro e; rw [e, inc_dec j o hj]
    simp only [this]
    by_cases c : p.1 = dec j o
    · rw [if_pos c, if_pos c, Int.mul_comm]
    · rw [if_neg c, if_neg c, Int.mul_zero]
theorem jn1_none (s : List Pt) (p : Pt) (o : List Int) (hp : p.1.length ≠ o.length) : wt (jn1 s p) o = 0 := by
  refine wt_none fun q hq => ?_
  obtain ⟨x, _, rfl⟩ := List.mem_map.1 hq
  intro e
  have := congrArg List.length e
  rw [inc_len] at this
  exact hp this
theorem jn_wt (σ : Nat → Int) (k : Nat) : ∀ (l : List Pt) (o : List Int), (∀ p ∈ l, p.1.length = k + 1) →
    wt (jn l (sayL σ k)) o = if o.length = k + 1 then smL (fun j => σ j * wt l (dec j o)) (List.range (k + 1)) else 0
  | [], o, _ => by
    simp only [jn, List.flatMap_nil, wt_nil, Int.mul_zero]
    rw [smL_zero]; simp
  | p :: l, o, h => by
    have ih := jn_wt σ k l o fun q hq => h q (by simp [hq])
    have hp := h p (by simp)
    have e1 : jn (p :: l) (sayL σ k) = jn1 (sayL σ k) p ++ jn l (sayL σ k) := by simp [jn]
    rw [e1, wt_append, ih]
    by_cases c : o.length = k + 1
    · rw [if_pos c, if_pos c, sayL, jn1_wt σ p o (by omega) _ (fun j hj => by have := List.mem_range.1 hj; omega), ← smL_add]
      refine smL_congr fun j _ => ?_
      rw [wt_cons, Int.mul_add]
    · rw [if_neg c, if_neg c, jn1_none _ _ _ (by omega)]; rfl
/-- ONE MORE IS HEARD: the weights -/
theorem jn_exp {u d : Int} {k t : Nat} {ts : List Nat} {l : List Pt} {σ : Nat → Int} {c g : Int} (hl : ∀ p ∈ l, p.1.length = k + 1)
    (hw : ∀ o, wt (expL u d k ts) o = c * wt l o) (hσ : ∀ j, j ≤ k → sayW u d t j = g * σ j) (o : List Int) : wt (expL u d k (ts ++ [t])) o = c * g * wt (jn l (sayL σ k)) o := by
  rw [exp_wt, jn_wt σ k l o hl]
  have hlen : (ts ++ [t]).length = ts.length + 1 := by simp
  rw [hlen]
  by_cases cl : o.length = k + 1
  · rw [if_pos cl, ← smL_mul]
    have key : ∀ j ∈ List.range (k + 1), c * g * (σ j * wt l (dec j o)) = if o ∈ cnts (ts.length + 1) k ∧ 0 < o.getD j 0 then sayW u d t j * wgh u d k ts (dec j o) else 0 := by
      intro j hj
      have hjk : j ≤ k := by have := List.mem_range.1 hj; omega
      have h1 := hw (dec j o)
      rw [exp_wt] at h1
      have h2 : c * g * (σ j * wt l (dec j o)) = sayW u d t j * (c * wt l (dec j o)) := by
        rw [hσ j hjk]
        grind
      rw [h2, ← h1]
      have h3 := dec_mem_iff (n := ts.length) hjk cl
      by_cases c2 : dec j o ∈ cnts ts.length k
      · rw [if_pos c2, if_pos (h3.1 c2)]
      · rw [if_neg c2, if_neg (fun x => c2 (h3.2 x)), Int.mul_zero]
    rw [smL_congr key]
    by_cases cm : o ∈ cnts (ts.length + 1) k
    · rw [if_pos cm, wgh_snoc]
      simp only [cm, true_and]
    · rw [if_neg cm]
      simp only [cm, false_and, if_false]
      rw [smL_zero]
  · rw [if_neg cl, if_neg (fun h => cl (mem_cnts.1 h).1), Int.mul_zero]
end Go.Proofs.Ytfcbkcoagoncoaa.Crd

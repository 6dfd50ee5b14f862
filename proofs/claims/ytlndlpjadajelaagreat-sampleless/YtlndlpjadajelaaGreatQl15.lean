import Derived.Test.YtlndlpjadajelaaGreatQl14
namespace Go.Proofs.YtlndlpjadajelaaGreat
open Go.RowKit Go.Proofs.YtlndlpjadajelaaGreat.Ds

/-! ### two lists in one -/
def addP (p : Pt × Pt) : Pt := (if p.1.2 = 0 then p.2.1 else p.1.1, p.1.2 + p.2.2)
def plusT (a b : List Pt) : List Pt := if 4096 < a.length then a else (mrgP a b).map addP

theorem add_mrg {a b : List Pt} (ra : Rise a) (rb : Rise b) (pa : Pos a) (pb : Pos b) :
    Rise ((mrgP a b).map addP) ∧ Pos ((mrgP a b).map addP) ∧ (∀ o, wt ((mrgP a b).map addP) o = wt a o + wt b o) ∧ tot ((mrgP a b).map addP) = tot a + tot b ∧ ∀ p ∈ (mrgP a b).map addP, (∃ q ∈ a, q.1 = p.1) ∨ ∃ q ∈ b, q.1 = p.1 := by
  induction a, b using mrgP.induct with
  | case1 => simp [mrgP, Rise, Pos]
  | case2 b bs ih =>
    obtain ⟨h1, h2, h3, h4, h5⟩ := ih ra (rise_tail rb) pa fun q hq => pb q (by simp [hq])
    have hb := pb b (by simp)
    have e : addP (([], 0), b) = b := by simp [addP]
    rw [mrgP, List.map_cons, e]
    refine ⟨List.pairwise_cons.2 ⟨fun q hq => ?_, h1⟩, fun q hq => ?_, fun o => ?_, ?_, fun q hq => ?_⟩
    · rcases h5 q hq with ⟨r, hr, he⟩ | ⟨r, hr, he⟩
      · cases hr
      · rw [← he]; exact (List.pairwise_cons.1 rb).1 r hr
    · rcases List.mem_cons.1 hq with rfl | hq
      · exact hb
      · exact h2 q hq
    · rw [wt_cons, h3, wt_cons]; omega
    · rw [tot_cons, h4, tot_cons]; omega
    · rcases List.mem_cons.1 hq with rfl | hq
      · exact .inr ⟨_, by simp, rfl⟩
      · exact (h5 q hq).imp id fun ⟨r, hr, he⟩ => ⟨r, by simp [hr], he⟩
  | case3 a az ih =>
    obtain ⟨h1, h2, h3, h4, h5⟩ := ih (rise_tail ra) rb (fun q hq => pa q (by simp [hq])) pb
    have ha := pa a (by simp)
    have e : addP (a, ([], 0)) = a := by simp [addP]; rw [if_neg (by omega)]
    rw [mrgP, List.map_cons, e]
    refine ⟨List.pairwise_cons.2 ⟨fun q hq => ?_, h1⟩, fun q hq => ?_, fun o => ?_, ?_, fun q hq => ?_⟩
    · rcases h5 q hq with ⟨r, hr, he⟩ | ⟨r, hr, he⟩
      · rw [← he]; exact (List.pairwise_cons.1 ra).1 r hr
      · cases hr
    · rcases List.mem_cons.1 hq with rfl | hq
      · exact ha
      · exact h2 q hq
    · rw [wt_cons, h3, wt_cons]; omega
    · rw [tot_cons, h4, tot_cons]; omega
    · rcases List.mem_cons.1 hq with rfl | hq
      · exact .inl ⟨_, by simp, rfl⟩
      · exact (h5 q hq).imp (fun ⟨r, hr, he⟩ => ⟨r, by simp [hr], he⟩) id
  | case4 a az b bs h ih =>
    obtain ⟨h1, h2, h3, h4, h5⟩ := ih (rise_tail ra) rb (fun q hq => pa q (by simp [hq])) pb
    have ha := pa a (by simp)
    have e : addP (a, ([], 0)) = a := by simp [addP]; rw [if_neg (by omega)]
    rw [mrgP, if_pos h, List.map_cons, e]
    refine ⟨List.pairwise_cons.2 ⟨fun q hq => ?_, h1⟩, fun q hq => ?_, fun o => ?_, ?_, fun q hq => ?_⟩
    · rcases h5 q hq with ⟨r, hr, he⟩ | ⟨r, hr, he⟩
      · rw [← he]; exact (List.pairwise_cons.1 ra).1 r hr
      · rw [← he]
        rcases List.mem_cons.1 hr with rfl | hr
        · exact h
        · exact ltL_trans h ((List.pairwise_cons.1 rb).1 r hr)
    · rcases List.mem_cons.1 hq with rfl | hq
      · exact ha
      · exact h2 q hq
    · rw [wt_cons, h3, wt_cons a az]; omega
    · rw [tot_cons, h4, tot_cons a az]; omega
    · rcases List.mem_cons.1 hq with rfl | hq
      · exact .inl ⟨_, by simp, rfl⟩
      · exact (h5 q hq).imp (fun ⟨r, hr, he⟩ => ⟨r, by simp [hr], he⟩) id
  | case5 a az b bs hn h ih =>
    obtain ⟨h1, h2, h3, h4, h5⟩ := ih ra (rise_tail rb) pa (fun q hq => pb q (by simp [hq]))
    have hb := pb b (by simp)
    have hba : ltL b.1 a.1 := by unfold ltL; rw [cmpT_swap]; omega
    have e : addP (([], 0), b) = b := by simp [addP]
    rw [mrgP, if_neg hn, if_pos h, List.map_cons, e]
    refine ⟨List.pairwise_cons.2 ⟨fun q hq => ?_, h1⟩, fun q hq => ?_, fun o => ?_, ?_, fun q hq => ?_⟩
    · rcases h5 q hq with ⟨r, hr, he⟩ | ⟨r, hr, he⟩
      · rw [← he]
        rcases List.mem_cons.1 hr with rfl | hr
        · exact hba
        · exact ltL_trans hba ((List.pairwise_cons.1 ra).1 r hr)
      · rw [← he]; exact (List.pairwise_cons.1 rb).1 r hr
    · rcases List.mem_cons.1 hq with rfl | hq
      · exact hb
      · exact h2 q hq
    · rw [wt_cons, h3, wt_cons b bs]; omega
    · rw [tot_cons, h4, tot_cons b bs]; omega
    · rcases List.mem_cons.1 hq with rfl | hq
      · exact .inr ⟨_, by simp, rfl⟩
      · exact (h5 q hq).imp id (fun ⟨r, hr, he⟩ => ⟨r, by simp [hr], he⟩)
  | case6 a az b bs hn h ih =>
    obtain ⟨h1, h2, h3, h4, h5⟩ := ih (rise_tail ra) (rise_tail rb) (fun q hq => pa q (by simp [hq])) (fun q hq => pb q (by simp [hq]))
    have ha := pa a (by simp)
    have hb := pb b (by simp)
    have hab : a.1 = b.1 := (cmpT_zero _ _).1 (by omega)
    have e : addP (a, b) = (a.1, a.2 + b.2) := by simp only [addP]; rw [if_neg (by omega)]
    rw [mrgP, if_neg hn, if_neg h, List.map_cons, e]
    refine ⟨List.pairwise_cons.2 ⟨fun q hq => ?_, h1⟩, fun q hq => ?_, fun o => ?_, ?_, fun q hq => ?_⟩
    · rcases h5 q hq with ⟨r, hr, he⟩ | ⟨r, hr, he⟩
      · rw [← he]; exact (List.pairwise_cons.1 ra).1 r hr
      · rw [← he]; simp only; rw [hab]; exact (List.pairwise_cons.1 rb).1 r hr
    · rcases List.mem_cons.1 hq with rfl | hq
      · simp only; omega
      · exact h2 q hq
    · rw [wt_cons, h3, wt_cons a az, wt_cons b bs]
      simp only
      by_cases ho : a.1 = o
      · rw [if_pos ho, if_pos ho, if_pos (hab.symm.trans ho)]; omega
      · rw [if_neg ho, if_neg ho, if_neg (fun k => ho (hab.trans k))]; omega
    · rw [tot_cons, h4, tot_cons a az, tot_cons b bs]; simp only; omega
    · rcases List.mem_cons.1 hq with rfl | hq
      · exact .inl ⟨a, by simp, rfl⟩
      · exact (h5 q hq).imp (fun ⟨r, hr, he⟩ => ⟨r, by simp [hr], he⟩) (fun ⟨r, hr, he⟩ => ⟨r, by simp [hr], he⟩)

theorem mulL_wt (g : Int) (l : List Pt) (o : List Int) : wt (mulL g l) o = wt l o * g := by
  induction l with
  | nil => simp [mulL]
  | cons p l ih =>
    simp only [mulL, List.map_cons] at *
    rw [wt_cons, wt_cons, ih, Int.add_mul]
    simp only
    split <;> simp
theorem mulL_tot (g : Int) (l : List Pt) : tot (mulL g l) = tot l * g := by
  induction l with
  | nil => simp [mulL]
  | cons p l ih =>
    simp only [mulL, List.map_cons] at *
    rw [tot_cons, tot_cons, ih, Int.add_mul]
theorem mulL_rise {g : Int} {l : List Pt} (h : Rise l) : Rise (mulL g l) := by
  unfold Rise mulL
  rw [List.pairwise_map]
  exact h
theorem mulL_pos {g : Int} {l : List Pt} (hg : 0 < g) (h : Pos l) : Pos (mulL g l) := by
  intro p hp
  obtain ⟨q, hq, rfl⟩ := List.mem_map.1 hp
  exact Int.mul_pos (h q hq) hg
theorem mulL_len (g : Int) (l : List Pt) : (mulL g l).length = l.length := by simp [mulL]

/-! ### all that comes behind -/
def spr (N : List Int → List Pt) (A : Int) (l : List Pt) : List Pt := l.flatMap fun p => (N p.1).map fun q => (q.1, p.2 * q.2 * (A / tot (N p.1)))

theorem one_wt (n : List Pt) (k c : Int) (o : List Int) : wt (n.map fun q => (q.1, k * q.2 * c)) o = wt n o * (k * c) := by
  induction n with
  | nil => simp
  | cons p n ih =>
    simp only [List.map_cons]
    rw [wt_cons, wt_cons, ih, Int.add_mul]
    simp only
    split
    · rw [show k * p.2 * c = p.2 * (k * c) by ac_rfl]
    · simp
theorem one_tot (n : List Pt) (k c : Int) : tot (n.map fun q => (q.1, k * q.2 * c)) = tot n * (k * c) := by
  induction n with
  | nil => simp
  | cons p n ih =>
    simp only [List.map_cons]
    rw [tot_cons, tot_cons, ih, Int.add_mul]
    simp only
    rw [show k * p.2 * c = p.2 * (k * c) by ac_rfl]
theorem spr_snoc (N : List Int → List Pt) (A : Int) (l : List Pt) (p : Pt) : spr N A (l ++ [p]) = spr N A l ++ (N p.1).map fun q => (q.1, p.2 * q.2 * (A / tot (N p.1))) := by simp [spr]
theorem spr_wt_snoc (N : List Int → List Pt) (A : Int) (l : List Pt) (p : Pt) (o : List Int) : wt (spr N A (l ++ [p])) o = wt (spr N A l) o + wt (N p.1) o * (p.2 * (A / tot (N p.1))) := by
  rw [spr_snoc, wt_append, one_wt]
theorem spr_cons (N : List Int → List Pt) (A : Int) (l : List Pt) (p : Pt) : spr N A (p :: l) = ((N p.1).map fun q => (q.1, p.2 * q.2 * (A / tot (N p.1)))) ++ spr N A l := by simp [spr]
theorem spr_scale (N : List Int → List Pt) (A g : Int) {l : List Pt} (h : ∀ p ∈ l, tot (N p.1) ∣ A) (o : List Int) : wt (spr N (A * g) l) o = wt (spr N A l) o * g := by
  induction l with
  | nil => simp [spr]
  | cons p l ih =>
    rw [spr_cons, spr_cons, wt_append, wt_append, one_wt, one_wt, ih fun q hq => h q (by simp [hq]), Int.add_mul]
    have e : A * g / tot (N p.1) = A / tot (N p.1) * g := Int.mul_ediv_assoc' g (h p (by simp))
    rw [e]
    have : wt (N p.1) o * (p.2 * (A / tot (N p.1) * g)) = wt (N p.1) o * (p.2 * (A / tot (N p.1))) * g := by ac_rfl
    rw [this]
theorem spr_tot (N : List Int → List Pt) (A : Int) {l : List Pt} (h : ∀ p ∈ l, tot (N p.1) ∣ A) : tot (spr N A l) = A * tot l := by
  induction l with
  | nil => simp [spr]
  | cons p l ih =>
    rw [spr_cons, tot_append, one_tot, ih fun q hq => h q (by simp [hq]), tot_cons, Int.mul_add]
    have e : tot (N p.1) * (p.2 * (A / tot (N p.1))) = p.2 * (tot (N p.1) * (A / tot (N p.1))) := by ac_rfl
    rw [e, Int.mul_ediv_cancel' (h p (by simp)), Int.mul_comm]
theorem spr_nn (N : List Int → List Pt) (A : Int) {l : List Pt} (hl : Nn l) (hN : ∀ p ∈ l, Nn (N p.1)) (hA : 0 ≤ A) : Nn (spr N A l) := by
  intro q hq
  obtain ⟨p, hp, hq⟩ := List.mem_flatMap.1 hq
  obtain ⟨r, hr, rfl⟩ := List.mem_map.1 hq
  exact Int.mul_nonneg (Int.mul_nonneg (hl p hp) (hN p hp r hr)) (Int.ediv_nonneg hA ((hN p hp).tot_nn))

/-- the least number that all totals divide, as far as it may be told -/
def allT (thn : List Int → List Pt × Int) : Int → List Pt → Int × Int
  | A, [] => (A, 0)
  | A, p :: l => if (thn p.1).2 = 0 then
      (if 1073741824 < A * (tot (thn p.1).1 / (Int.gcd A (tot (thn p.1).1) : Int)) then (0, 4) else allT thn (A * (tot (thn p.1).1 / (Int.gcd A (tot (thn p.1).1) : Int))) l)
    else (0, (thn p.1).2)
/-- chain -/
def chT (thn : List Int → List Pt × Int) (l : List Pt) : List Pt × Int :=
  if (allT thn 1 l).2 = 0 then (if 1073741824 < (allT thn 1 l).1 * tot l then ([], 4) else lowT (gath (spr (fun x => (thn x).1) (allT thn 1 l).1 l))) else ([], (allT thn 1 l).2)

/-- rising lists: what is in one is in the other -/
theorem rise_len {a b : List Pt} (ra : Rise a) (rb : Rise b) (h : ∀ p ∈ a, ∃ q ∈ b, q.1 = p.1) : a.length ≤ b.length := by
  have key : ∀ (l : List Pt) (f : List Int → Int), (∀ p ∈ l, f p.1 = 1) → sumL f l = l.length := by
    intro l f
    induction l with
    | nil => intro _; rfl
    | cons p l ih => intro hf; rw [sumL, hf p (by simp), ih fun q hq => hf q (by simp [hq]), List.length_cons]; omega
  have h1 := sumL_sub (f := fun o => if ∃ q ∈ b, q.1 = o then 1 else 0) (fun o => by split <;> omega) ra rb fun o ho => if_neg fun ⟨q, hq, e⟩ => ho q hq e
  rw [key a _ fun p hp => if_pos (h p hp), key b _ fun p hp => if_pos ⟨p, hp, rfl⟩] at h1
  omega

/-- what chain holds between two rounds -/
structure Ch (thn : List Int → List Pt × Int) (l : List Pt) (i : Nat) (A : Int) (s : List Pt) : Prop where
  rest : allT thn 1 l = allT thn A (l.drop i)
  sc : 1 ≤ A ∧ A ≤ 1073741824
  dvd : ∀ p ∈ l.take i, tot (thn p.1).1 ∣ A
  nn : ∀ p ∈ l.take i, Nn (thn p.1).1
  rise : Rise s
  pos : Pos s
  le : ∀ o, wt s o ≤ wt (spr (fun x => (thn x).1) A (l.take i)) o
  eq : s.length ≤ 4096 → ∀ o, wt s o = wt (spr (fun x => (thn x).1) A (l.take i)) o
  tt : tot s ≤ A * tot (l.take i)

theorem Ch.nil (thn : List Int → List Pt × Int) (l : List Pt) : Ch thn l 0 1 [] :=
  ⟨by simp, by omega, by simp, by simp, by simp [Rise], by simp [Pos], by simp [spr], by simp [spr], by simp⟩

theorem tot_take_le {l : List Pt} (h : Nn l) (i : Nat) : tot (l.take i) ≤ tot l := by
  have h1 : tot l = tot (l.take i) + tot (l.drop i) := by rw [← tot_append, List.take_append_drop]
  have h2 : Nn (l.drop i) := fun p hp => h p (List.mem_of_mem_drop hp)
  have := h2.tot_nn
  omega

/-- an error of one that comes behind -/
theorem Ch.err {thn : List Int → List Pt × Int} {l : List Pt} {i : Nat} {A : Int} {s : List Pt} {p : Pt} (h : Ch thn l i A s) (hp : l[i]? = some p) (he : (thn p.1).2 ≠ 0) : chT thn l = ([], (thn p.1).2) := by
  have e : allT thn 1 l = (0, (thn p.1).2) := by
    rw [h.rest, List.drop_eq_getElem_cons (List.getElem?_eq_some_iff.1 hp).1, (List.getElem?_eq_some_iff.1 hp).2, allT, if_neg he]
  unfold chT
  rw [e, if_neg he]
theorem Ch.much {thn : List Int → List Pt × Int} {l : List Pt} {i : Nat} {A : Int} {s : List Pt} {p : Pt} (h : Ch thn l i A s) (hp : l[i]? = some p) (he : (thn p.1).2 = 0) (hm : 1073741824 < A * (tot (thn p.1).1 / (Int.gcd A (tot (thn p.1).1) : Int))) : chT thn l = ([], 4) := by
  have e : allT thn 1 l = (0, 4) := by
    rw [h.rest, List.drop_eq_getElem_cons (List.getElem?_eq_some_iff.1 hp).1, (List.getElem?_eq_some_iff.1 hp).2, allT, if_pos he, if_pos hm]
  unfold chT
  rw [e]
  rfl

theorem Ch.step {thn : List Int → List Pt × Int} {l : List Pt} {i : Nat} {A : Int} {s : List Pt} {x : List Int} {k : Int} {n : List Pt} {g A' : Int} (h : Ch thn l i A s) (hl : Pos l) (hp : l[i]? = some (x, k)) (ht : thn x = (n, 0)) (hn : Dis n)
    (hg : tot n / (Int.gcd A (tot n) : Int) = g) (hA : A * g = A') (hm : A' ≤ 1073741824) : Ch thn l (i + 1) A' (plusT (mulL g s) (mulL (k * (A' / tot n)) n)) := by
  have tn := tot_pos2 hn.pos hn.ne
  have hA1 := h.sc.1
  have hgd : (Int.gcd A (tot n) : Int) ∣ tot n := Int.gcd_dvd_right _ _
  have hgA : (Int.gcd A (tot n) : Int) ∣ A := Int.gcd_dvd_left _ _
  have hgp : 0 < (Int.gcd A (tot n) : Int) := by
    have : 0 < Int.gcd A (tot n) := Int.gcd_pos_of_ne_zero_left _ (by omega)
    omega
  have hg0 : 0 < g := by rw [← hg]; exact Int.ediv_pos_of_pos_of_dvd tn (by omega) hgd
  have hdn : tot n ∣ A' := by
    obtain ⟨c, hc⟩ := hgA
    refine ⟨c, ?_⟩
    have e2 : (Int.gcd A (tot n) : Int) * g = tot n := by rw [← hg]; exact Int.mul_ediv_cancel' hgd
    have e3 : A * g = (Int.gcd A (tot n) : Int) * c * g := congrArg (· * g) hc
    rw [← hA, e3, Int.mul_right_comm, e2]
  have hA'1 : 1 ≤ A' := by rw [← hA]; exact Int.mul_pos (by omega) hg0
  have hq0 : 0 < A' / tot n := Int.ediv_pos_of_pos_of_dvd (by omega) (by omega) hdn
  have hk : 0 < k := hl (x, k) (List.mem_of_getElem? hp)
  have htake : l.take (i + 1) = l.take i ++ [(x, k)] := by rw [List.take_add_one, hp]; rfl
  have hnx : (thn x).1 = n := by rw [ht]
  have hd' : ∀ p ∈ l.take i, tot (thn p.1).1 ∣ A' := fun p hp => by rw [← hA]; exact Int.dvd_mul_of_dvd_left (h.dvd p hp)
  have hscale : ∀ o, wt (spr (fun x => (thn x).1) A' (l.take i)) o = wt (spr (fun x => (thn x).1) A (l.take i)) o * g := fun o => by
    rw [← hA]; exact spr_scale (fun x => (thn x).1) A g h.dvd o
  have hw : ∀ o, wt (spr (fun x => (thn x).1) A' (l.take (i + 1))) o = wt (spr (fun x => (thn x).1) A (l.take i)) o * g + wt n o * (k * (A' / tot n)) := fun o => by
    rw [htake, spr_wt_snoc, hscale]
    simp only [hnx]
  have hkq : 0 < k * (A' / tot n) := Int.mul_pos hk hq0
  have rs := mulL_rise (g := g) h.rise
  have ps := mulL_pos hg0 h.pos
  have rn := mulL_rise (g := k * (A' / tot n)) hn.rise
  have pn := mulL_pos hkq hn.pos
  have htt : tot (mulL g s) ≤ A' * tot (l.take i) := by
    rw [mulL_tot, ← hA]
    have := Int.mul_le_mul_of_nonneg_right h.tt (show 0 ≤ g by omega)
    have e : A * tot (l.take i) * g = A * g * tot (l.take i) := by ac_rfl
    rw [e] at this
    exact this
  have hnt : tot (mulL (k * (A' / tot n)) n) = A' * k := by
    rw [mulL_tot]
    have e : tot n * (k * (A' / tot n)) = tot n * (A' / tot n) * k := by ac_rfl
    rw [e, Int.mul_ediv_cancel' hdn]
  have htot : A' * tot (l.take (i + 1)) = A' * tot (l.take i) + A' * k := by
    rw [htake, tot_append, tot_cons, tot_nil, Int.mul_add]; simp
  have nnw : ∀ o, 0 ≤ wt n o * (k * (A' / tot n)) := fun o => Int.mul_nonneg ((Nn.of_pos hn.pos).wt_le o).1 (by omega)
  have hrest : allT thn 1 l = allT thn A' (l.drop (i + 1)) := by
    rw [h.rest, List.drop_eq_getElem_cons (List.getElem?_eq_some_iff.1 hp).1, (List.getElem?_eq_some_iff.1 hp).2, allT]
    simp only [ht, if_true]
    rw [hg, hA, if_neg (by omega)]
  have hdvd : ∀ p ∈ l.take (i + 1), tot (thn p.1).1 ∣ A' := by
    rw [htake]
    intro p hp
    rcases List.mem_append.1 hp with hp | hp
    · exact hd' p hp
    · simp at hp; subst hp; simp only [hnx]; exact hdn
  have hnn : ∀ p ∈ l.take (i + 1), Nn (thn p.1).1 := by
    rw [htake]
    intro p hp
    rcases List.mem_append.1 hp with hp | hp
    · exact h.nn p hp
    · simp at hp; subst hp; simp only [hnx]; exact Nn.of_pos hn.pos
  by_cases hc : 4096 < s.length
  · have hp1 : plusT (mulL g s) (mulL (k * (A' / tot n)) n) = mulL g s := by unfold plusT; rw [if_pos (by rw [mulL_len]; exact hc)]
    rw [hp1]
    refine ⟨hrest, ⟨hA'1, hm⟩, hdvd, hnn, rs, ps, fun o => ?_, fun hle => ?_, ?_⟩
    · rw [mulL_wt, hw]
      have h1 := Int.mul_le_mul_of_nonneg_right (h.le o) (show 0 ≤ g by omega)
      have h2 := nnw o
      omega
    · rw [mulL_len] at hle; omega
    · rw [htot]
      have : 0 ≤ A' * k := Int.mul_nonneg (by omega) (by omega)
      omega
  · have hp1 : plusT (mulL g s) (mulL (k * (A' / tot n)) n) = (mrgP (mulL g s) (mulL (k * (A' / tot n)) n)).map addP := by unfold plusT; rw [if_neg (by rw [mulL_len]; exact hc)]
    rw [hp1]
    obtain ⟨b1, b2, b3, b4, _⟩ := add_mrg rs rn ps pn
    have hweq : ∀ o, wt ((mrgP (mulL g s) (mulL (k * (A' / tot n)) n)).map addP) o = wt (spr (fun x => (thn x).1) A' (l.take (i + 1))) o := fun o => by
      rw [b3, mulL_wt, mulL_wt, hw, h.eq (by omega)]
    refine ⟨hrest, ⟨hA'1, hm⟩, hdvd, hnn, b1, b2, fun o => by rw [hweq]; exact Int.le_refl _, fun _ o => hweq o, ?_⟩
    rw [b4, htot, hnt]
    omega

theorem Ch.done {thn : List Int → List Pt × Int} {l : List Pt} {i : Nat} {A : Int} {s : List Pt} (h : Ch thn l i A s) (hl : Nn l) (hi : l.length ≤ i) : chT thn l = if 1073741824 < A * tot l then ([], 4) else lowT s := by
  have e : allT thn 1 l = (A, 0) := by rw [h.rest, List.drop_eq_nil_of_le hi, allT]
  have ht : l.take i = l := List.take_of_length_le hi
  have hle := h.le
  have heq := h.eq
  have hnn := h.nn
  rw [ht] at hle heq hnn
  unfold chT
  rw [e]
  simp only [if_true]
  by_cases hm : 1073741824 < A * tot l
  · rw [if_pos hm, if_pos hm]
  · rw [if_neg hm, if_neg hm]
    have hsn : Nn (spr (fun x => (thn x).1) A l) := spr_nn _ _ hl hnn (by have := h.sc.1; omega)
    by_cases hc : s.length ≤ 4096
    · rw [gath_is hsn h.rise h.pos (heq hc)]
    · have hsub : ∀ p ∈ s, ∃ q ∈ gath (spr (fun x => (thn x).1) A l), q.1 = p.1 := by
        intro p hp
        refine wt_pos_mem ?_
        rw [gath_wt]
        have h1 := mem_wt_pos h.rise h.pos hp
        have h2 := hle p.1
        omega
      have hlen := rise_len h.rise (gath_rise _) hsub
      have hs0 : s ≠ [] := by intro h0; rw [h0] at hc; simp at hc
      have hg0 : gath (spr (fun x => (thn x).1) A l) ≠ [] := by intro h0; rw [h0] at hlen; simp at hlen; exact hs0 hlen
      unfold lowT
      rw [if_neg hs0, if_neg hg0, if_pos (.inr (by omega)), if_pos (.inr (by omega))]
end Go.Proofs.YtlndlpjadajelaaGreat

namespace Go.Proofs.YtlndlpjadajelaaGreat
open Go.RowKit Go.Proofs.YtlndlpjadajelaaGreat.Ds

def sumW (f : List Int → Int) : List Pt → Int
  | [] => 0
  | p :: l => p.2 * f p.1 + sumW f l

theorem sumW_congr {f g : List Int → Int} {l : List Pt} (h : ∀ p ∈ l, f p.1 = g p.1) : sumW f l = sumW g l := by
  induction l with
  | nil => rfl
  | cons p l ih => rw [sumW, sumW, h p (by simp), ih fun q hq => h q (by simp [hq])]

theorem sumW_mul (f : List Int → Int) (c : Int) (l : List Pt) : sumW (fun o => f o * c) l = sumW f l * c := by
  induction l with
  | nil => simp [sumW]
  | cons p l ih => simp only [sumW, ih, Int.add_mul, Int.mul_assoc]

theorem spr_is (N : List Int → List Pt) (A : Int) (l : List Pt) (o : List Int) : wt (spr N A l) o = sumW (fun x => A / tot (N x) * wt (N x) o) l := by
  induction l with
  | nil => rfl
  | cons p l ih =>
    rw [spr_cons, wt_append, one_wt, ih, sumW]
    have : wt (N p.1) o * (p.2 * (A / tot (N p.1))) = p.2 * (A / tot (N p.1) * wt (N p.1) o) := by ac_rfl
    rw [this]

theorem allT_ok {thn : List Int → List Pt × Int} {l : List Pt} {A A' : Int} (h : allT thn A l = (A', 0)) (hA : 1 ≤ A) (hd : ∀ p ∈ l, (thn p.1).2 = 0 → Dis (thn p.1).1) : A ∣ A' ∧ 1 ≤ A' ∧ ∀ p ∈ l, (thn p.1).2 = 0 ∧ tot (thn p.1).1 ∣ A' := by
  induction l generalizing A with
  | nil => simp [allT] at h; subst h; exact ⟨Int.dvd_refl _, hA, fun p hp => by cases hp⟩
  | cons p l ih =>
    rw [allT] at h
    split at h
    · rename_i h0
      split at h
      · simp at h
      · have hn := hd p (by simp) h0
        have tn := tot_pos2 hn.pos hn.ne
        obtain ⟨n, hnn⟩ : ∃ n, (thn p.1).1 = n := ⟨_, rfl⟩
        rw [hnn] at h hn tn
        have hgd : (Int.gcd A (tot n) : Int) ∣ tot n := Int.gcd_dvd_right _ _
        have hgA : (Int.gcd A (tot n) : Int) ∣ A := Int.gcd_dvd_left _ _
        have hgp : 0 < (Int.gcd A (tot n) : Int) := by
          have : 0 < Int.gcd A (tot n) := Int.gcd_pos_of_ne_zero_left _ (by omega)
          omega
        have hg0 : 0 < tot n / (Int.gcd A (tot n) : Int) := Int.ediv_pos_of_pos_of_dvd tn (by omega) hgd
        obtain ⟨i1, i2, i3⟩ := ih h (Int.mul_pos (by omega) hg0) fun q hq => hd q (by simp [hq])
        have hdn : tot n ∣ A * (tot n / (Int.gcd A (tot n) : Int)) := by
          obtain ⟨c, hc⟩ := hgA
          refine ⟨c, ?_⟩
          have e2 : (Int.gcd A (tot n) : Int) * (tot n / (Int.gcd A (tot n) : Int)) = tot n := Int.mul_ediv_cancel' hgd
          have e3 : A * (tot n / (Int.gcd A (tot n) : Int)) = (Int.gcd A (tot n) : Int) * c * (tot n / (Int.gcd A (tot n) : Int)) := congrArg (· * (tot n / (Int.gcd A (tot n) : Int))) hc
          rw [e3, Int.mul_right_comm, e2]
        refine ⟨Int.dvd_trans (Int.dvd_mul_right _ _) i1, i2, fun q hq => ?_⟩
        rcases List.mem_cons.1 hq with rfl | hq
        · exact ⟨h0, by rw [hnn]; exact Int.dvd_trans hdn i1⟩
        · exact i3 q hq
    · rename_i h0
      simp only [Prod.mk.injEq] at h
      exact absurd h.2 h0

theorem low_told {k l' : List Pt} (hn : Nn k) (hok : ∀ o, 0 < wt k o → okO o = true) (h : lowT (gath k) = (l', 0)) : Dis l' ∧ ∃ g : Int, 0 < g ∧ (∀ o, wt k o = g * wt l' o) ∧ tot k = g * tot l' := by
  have hp := gath_pos hn
  obtain ⟨a, b, c, d, e, f⟩ := lowT_ok hp (gath_rise k) h
  have hne : gath k ≠ [] := by intro h0; rw [h0] at h; simp [lowT] at h
  have hl : l' = cut (dv (gath k)) (gath k) := by
    unfold lowT at h
    rw [if_neg hne] at h
    split at h
    · simp at h
    · simp at h; exact h.symm
  have hg : grow (dv (gath k)) l' = gath k := by rw [hl]; exact cut_back fun p hp => dv_dvd_int hp
  have hd := dv_pos hp hne
  have hw : ∀ o, wt k o = (dv (gath k) : Int) * wt l' o := fun o => by rw [← grow_wt, hg, gath_wt]
  refine ⟨⟨a, b, c, d, ?_, e, f⟩, dv (gath k), by omega, hw, by rw [← grow_tot, hg, gath_tot]⟩
  rw [List.all_eq_true]
  intro p hpm
  have h1 : 0 < wt k p.1 := by rw [hw]; exact Int.mul_pos (by omega) (mem_wt_pos a b hpm)
  have h3 := Pos.le_tot (Nn.of_pos b) hpm
  have h4 := b p hpm
  unfold okP
  rw [Bool.and_eq_true]
  exact ⟨by simp; omega, hok _ h1⟩

theorem Dis.okO {l : List Pt} (h : Dis l) {p : Pt} (hp : p ∈ l) : okO p.1 = true := by
  have := List.all_eq_true.1 h.ok p hp
  unfold okP at this
  rw [Bool.and_eq_true] at this
  exact this.2

theorem own_dis {l : List Pt} (h : (ownT l).2 = 0) : Dis (ownT l).1 := by
  have := ownT_ok (Prod.ext rfl h : ownT l = ((ownT l).1, 0))
  rw [this.1]
  exact this.2

end Go.Proofs.YtlndlpjadajelaaGreat

namespace Go.Proofs.YtlndlpjadajelaaGreat
open Go.RowKit Go.Proofs.YtlndlpjadajelaaGreat.Ds

/-! ### what is made of parts that are no more than may be -/
theorem make_ok {L : List Pt} (ho : L.all okP = true) (h0 : 0 < tot L) (h1 : tot L ≤ 1073741824) (hl : L.length ≤ 4096) : ∃ l, makeT L = (l, 0) := by
  have hne : gath L ≠ [] := by
    intro h
    have := gath_tot L
    rw [h] at this
    simp [tot] at this
    omega
  have hp := gath_pos (all_okP ho).1
  have hd := dv_pos hp hne
  refine ⟨cut (dv (gath L)) (gath L), ?_⟩
  unfold makeT lowT
  rw [if_pos ho, if_neg hne, if_neg]
  have h2 := gath_length L
  have h3 : tot (cut (dv (gath L)) (gath L)) ≤ tot L := by
    rw [cut_tot (fun p hp => dv_dvd_int hp), gath_tot]
    exact Int.ediv_le_self _ (by omega)
  omega

/-! ### one number each -/
theorem rise_one (f : Nat → Int) (g : Nat → Int) (hf : ∀ i j, i < j → f i < f j) (n : Nat) : Rise ((List.range n).map fun (i : Nat) => (([f i], g i) : Pt)) := by
  unfold Rise
  rw [List.pairwise_map]
  refine List.Pairwise.imp ?_ List.pairwise_lt_range
  intro i j hij
  have := hf i j hij
  simp [ltL, cmpT, this]
theorem wt_one {f g : Nat → Int} (hf : ∀ i j, i < j → f i < f j) {n i : Nat} (hi : i < n) : wt ((List.range n).map fun (i : Nat) => (([f i], g i) : Pt)) [f i] = g i := by
  have hm : (([f i], g i) : Pt) ∈ (List.range n).map fun (i : Nat) => (([f i], g i) : Pt) := List.mem_map.2 ⟨i, List.mem_range.2 hi, rfl⟩
  exact wt_mem (rise_one f g hf n) hm
theorem wt_one_pos {f g : Nat → Int} {n : Nat} {o : List Int} (h : 0 < wt ((List.range n).map fun (i : Nat) => (([f i], g i) : Pt)) o) : ∃ i, i < n ∧ o = [f i] := by
  obtain ⟨p, hp, rfl⟩ := wt_pos_mem h
  obtain ⟨i, hi, rfl⟩ := List.mem_map.1 hp
  exact ⟨i, List.mem_range.1 hi, rfl⟩
theorem okP_one {z k : Int} (h1 : -1073741824 ≤ z) (h2 : z ≤ 1073741824) (h3 : 0 ≤ k) (h4 : k ≤ 1073741824) : okP ([z], k) = true := by
  simp [okP, okO, okN, h1, h2, h3, h4]

/-! ### Hide -/
theorem hid_okP {u d lo : Int} {R a : Nat} (hR1 : 1 ≤ R) (ha : a ≤ R) (hd : 1 ≤ d) (hdu : d ≤ u) (hm : (u + d) * u ^ R ≤ 1073741824) (hlo : -1073741824 ≤ lo) (hhi : lo + (R : Int) ≤ 1073741824) : (hidL u d lo R a).all okP = true := by
  rw [List.all_eq_true]
  intro p hp
  obtain ⟨i, hi, rfl⟩ := List.mem_map.1 hp
  have := List.mem_range.1 hi
  exact okP_one (by omega) (by omega) (hwt_nn hd hdu R a i) (Int.le_trans (hwt_le hd hdu ha hR1 (by omega)) hm)
theorem hid_make {u d lo : Int} {R a : Nat} (hR1 : 1 ≤ R) (hR : R ≤ 64) (ha : a ≤ R) (hd : 1 ≤ d) (hdu : d ≤ u) (hm : (u + d) * u ^ R ≤ 1073741824) (hlo : -1073741824 ≤ lo) (hhi : lo + (R : Int) ≤ 1073741824) : ∃ l, makeT (hidL u d lo R a) = (l, 0) := by
  refine make_ok (hid_okP hR1 ha hd hdu hm hlo hhi) ?_ ?_ (by simp [hidL]; omega)
  · rw [hid_tot ha hR1]
    exact Int.mul_pos (by omega) (by have := pow_pos' (show 1 ≤ u by omega) R; omega)
  · rw [hid_tot ha hR1]; exact hm
theorem hid_wt {u d lo : Int} {R a i : Nat} (hi : i ≤ R) : wt (hidL u d lo R a) [lo + (i : Int)] = hwt u d R a i :=
  wt_one (f := fun i => lo + (i : Int)) (g := hwt u d R a) (fun i j h => by omega) (by omega)
theorem hwt_pos {u d : Int} (hd : 1 ≤ d) (h : d < u) (R a i : Nat) : 0 < hwt u d R a i := by
  unfold hwt
  refine Int.mul_pos (gk_pos (by omega) (by omega) _ _) ?_
  split <;> omega
/-- JUST SO FAR -/
theorem hid_far {u d lo : Int} {R a b f : Nat} {l m : List Pt} (hR1 : 1 ≤ R) (ha : a ≤ R) (hb : b ≤ R) (hd : 1 ≤ d) (hdu : d < u) (hrt : Rt.rightB u d = true) (hm : (u + d) * u ^ R ≤ 1073741824)
    (h1 : makeT (hidL u d lo R a) = (l, 0)) (h2 : makeT (hidL u d lo R b) = (m, 0)) (hf : f = a - b + (b - a)) : farT l m = (u ^ f, d ^ f, 0) := by
  have hu1 : 1 ≤ u := by omega
  have hT : 0 < (u + d) * u ^ R := Int.mul_pos (by omega) (by have := pow_pos' hu1 R; omega)
  have t1 := hid_tot (u := u) (d := d) (lo := lo) ha hR1
  have t2 := hid_tot (u := u) (d := d) (lo := lo) hb hR1
  have hfR : u ^ f ≤ 1073741824 := by
    have e1 := pow_mono hu1 (show f ≤ R by omega)
    have e2 := Int.mul_le_mul_of_nonneg_right (show 1 ≤ u + d by omega) (show 0 ≤ u ^ R from pow_nn (by omega) _)
    omega
  have hp : 0 < u ^ f := by have := pow_pos' hu1 f; omega
  have hr : Rt.rightB (u ^ f) (d ^ f) = true := by
    obtain ⟨x, rfl⟩ := Int.eq_ofNat_of_zero_le (show 0 ≤ u by omega)
    obtain ⟨y, rfl⟩ := Int.eq_ofNat_of_zero_le (show 0 ≤ d by omega)
    have hg := (Rt.right_nat x y).1 hrt
    have hy := pow_le (show (0 : Int) ≤ (y : Int) by omega) (show (y : Int) ≤ (x : Int) by omega) f
    rw [← Int.natCast_pow, ← Int.natCast_pow] at *
    refine (Rt.right_nat _ _).2 ⟨by omega, Nat.pow_pos hg.2.1, by omega, Nat.Coprime.pow f f hg.2.2.2⟩
  have hs : Sup (hidL u d lo R a) (hidL u d lo R b) := by
    intro o
    constructor
    · intro h
      obtain ⟨i, hi, rfl⟩ := wt_one_pos (f := fun i => lo + (i : Int)) (g := hwt u d R a) h
      show 0 < wt _ [lo + (i : Int)]
      rw [hid_wt (by omega)]; exact hwt_pos hd hdu _ _ _
    · intro h
      obtain ⟨i, hi, rfl⟩ := wt_one_pos (f := fun i => lo + (i : Int)) (g := hwt u d R b) h
      show 0 < wt _ [lo + (i : Int)]
      rw [hid_wt (by omega)]; exact hwt_pos hd hdu _ _ _
  have key : ∀ (i x y : Nat), i ≤ R → x ≤ R → y ≤ R → (y - i + (i - y)) ≤ (x - i + (i - x)) + f → hwt u d R x i * ((u + d) * u ^ R) * d ^ f ≤ u ^ f * (hwt u d R y i * ((u + d) * u ^ R)) := by
    intro i x y hi hx hy hxy
    have e1 := gk_bd hd (Int.le_of_lt hdu) (R := R) (k := i - x + (x - i)) (k' := i - y + (y - i)) (f := f) (by omega) (by omega) (by omega)
    unfold hwt
    have hc : 0 ≤ (if i = 0 ∨ i = R then u else u - d) := by split <;> omega
    generalize (if i = 0 ∨ i = R then u else u - d) = c at *
    have e2 := Int.mul_le_mul_of_nonneg_right e1 (Int.mul_nonneg hc (Int.le_of_lt hT))
    calc gk u d R (i - x + (x - i)) * c * ((u + d) * u ^ R) * d ^ f = gk u d R (i - x + (x - i)) * d ^ f * (c * ((u + d) * u ^ R)) := by rw [Int.mul_right_comm, Int.mul_right_comm _ c, Int.mul_assoc]
      _ ≤ u ^ f * gk u d R (i - y + (y - i)) * (c * ((u + d) * u ^ R)) := e2
      _ = u ^ f * (gk u d R (i - y + (y - i)) * c * ((u + d) * u ^ R)) := by simp only [Int.mul_assoc]
  refine far_make h1 h2 hs ⟨pow_le (by omega) (Int.le_of_lt hdu) f, ?_⟩ hp hr [lo + (a : Int)] (by rw [hid_wt ha]; exact hwt_pos hd hdu _ _ _) ?_
  · intro o ho
    obtain ⟨i, hi, rfl⟩ := wt_one_pos (f := fun i => lo + (i : Int)) (g := hwt u d R a) ho
    show wt _ [lo + (i : Int)] * _ * _ ≤ _ * (wt _ [lo + (i : Int)] * _) ∧ wt _ [lo + (i : Int)] * _ * _ ≤ _ * (wt _ [lo + (i : Int)] * _)
    rw [hid_wt (by omega), hid_wt (by omega), t1, t2]
    exact ⟨key i a b (by omega) ha hb (by omega), key i b a (by omega) hb ha (by omega)⟩
  · rw [hid_wt ha, hid_wt ha, t1, t2]
    have e1 := gk_far u d (R := R) (k := 0) f (by omega)
    unfold hwt
    rw [show a - a + (a - a) = 0 by omega, show a - b + (b - a) = 0 + f by omega]
    generalize (if a = 0 ∨ a = R then u else u - d) = c at *
    calc gk u d R 0 * c * ((u + d) * u ^ R) * d ^ f = d ^ f * gk u d R 0 * (c * ((u + d) * u ^ R)) := by rw [Int.mul_right_comm, Int.mul_right_comm _ c, Int.mul_assoc, Int.mul_comm (d ^ f)]
      _ = u ^ f * gk u d R (0 + f) * (c * ((u + d) * u ^ R)) := by rw [e1]
      _ = u ^ f * (gk u d R (0 + f) * c * ((u + d) * u ^ R)) := by simp only [Int.mul_assoc]
/-- by 1 everything is the same -/
theorem hid_same {u lo : Int} (h : Rt.rightB u u = true) (hu : 1 ≤ u) {R a b : Nat} : hidL u u lo R a = hidL u u lo R b := by
  have e : u = 1 := by
    obtain ⟨x, rfl⟩ := Int.eq_ofNat_of_zero_le (show 0 ≤ u by omega)
    have := ((Rt.right_nat x x).1 h).2.2.2
    rw [Nat.gcd_self] at this
    omega
  subst e
  unfold hidL hwt gk
  simp [Int.one_pow]

/-- what Hide tells of two numbers -/
theorem hide_two {u d lo hi m n : Int} {l : List Pt} (h : hideT u d lo hi m = (l, 0)) :
    ∃ l', hideT u d lo hi n = (l', 0) ∧ lossE u d = 0 ∧ (u = d ∨ lo = hi → l = l') ∧
      (¬ u = d → ¬ lo = hi → ∃ f : Nat, (f : Int) = max (plcT lo hi m - plcT lo hi n) (plcT lo hi n - plcT lo hi m) ∧ Rt.powT u d f = (u ^ f, d ^ f, 0) ∧ farT l l' = (u ^ f, d ^ f, 0)) := by
  unfold hideT at *
  by_cases c0 : lossE u d = 0
  · obtain ⟨hrt, hdu, hd1, hu1⟩ := loss_ok c0
    rw [if_neg (by simpa using c0)] at *
    by_cases c1 : -1073741824 ≤ lo ∧ lo ≤ hi ∧ hi ≤ 1073741824 ∧ hi - lo ≤ 64
    · rw [if_neg (by simp; omega)] at *
      by_cases c2 : lo = hi
      · rw [if_pos c2] at *
        exact ⟨l, h, c0, fun _ => rfl, fun _ k => absurd c2 k⟩
      · rw [if_neg c2] at *
        by_cases c3 : 1073741824 < (u + d) * u ^ (hi - lo).toNat
        · rw [if_pos c3] at h; simp at h
        · rw [if_neg c3] at *
          have hA : (plcT lo hi m - lo).toNat ≤ (hi - lo).toNat := by unfold plcT; omega
          have hB : (plcT lo hi n - lo).toNat ≤ (hi - lo).toNat := by unfold plcT; omega
          obtain ⟨l', hl'⟩ := hid_make (u := u) (d := d) (lo := lo) (R := (hi - lo).toNat) (a := (plcT lo hi n - lo).toNat) (by omega) (by omega) hB hd1 hdu (by omega) c1.1 (by omega)
          refine ⟨l', hl', c0, ?_, ?_⟩
          · intro hc
            rcases hc with rfl | hc
            · rw [hid_same hrt hd1 (b := (plcT lo hi n - lo).toNat), hl'] at h
              simpa using h.symm
            · exact absurd hc c2
          · intro hne _
            have p1 : lo ≤ plcT lo hi m := by unfold plcT; omega
            have p2 : lo ≤ plcT lo hi n := by unfold plcT; omega
            refine ⟨(plcT lo hi m - lo).toNat - (plcT lo hi n - lo).toNat + ((plcT lo hi n - lo).toNat - (plcT lo hi m - lo).toNat), by omega, ?_, hid_far (by omega) hA hB hd1 (by omega) hrt (by omega) h hl' rfl⟩
            generalize hf : (plcT lo hi m - lo).toNat - (plcT lo hi n - lo).toNat + ((plcT lo hi n - lo).toNat - (plcT lo hi m - lo).toNat) = f
            have hfR : f ≤ (hi - lo).toNat := by omega
            have e1 := pow_mono (show 1 ≤ u by omega) hfR
            have e2 := Int.mul_le_mul_of_nonneg_right (show 1 ≤ u + d by omega) (show 0 ≤ u ^ (hi - lo).toNat from pow_nn (by omega) _)
            have e3 := pow_le (show 0 ≤ d by omega) hdu f
            unfold Rt.powT Rt.mx
            rw [if_pos hrt, if_neg (by omega), Int.toNat_natCast, if_neg (by omega)]
    · rw [if_pos c1] at h; simp at h
  · rw [if_pos c0] at h
    simp at h
    exact absurd h.2 c0
end Go.Proofs.YtlndlpjadajelaaGreat

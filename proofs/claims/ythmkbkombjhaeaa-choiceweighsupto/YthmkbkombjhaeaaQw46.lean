import Derived.Test.YthmkbkombjhaeaaQw45
import Derived.Test.YthmkbkombjhaeaaQw28
namespace Go.Proofs.Ythmkbkombjhaeaa
open Go.RowKit Go.Proofs.Ythmkbkombjhaeaa.Ds

/-! ### WHAT CHAPTER 7 SAYS, ON LISTS -/
theorem num_wt {n i : Nat} {g : Nat → Int} (h : i < n) : wt (numL n g) [(i : Int)] = g i :=
  wt_one (f := fun i => (i : Int)) (fun i j h => by show (i : Int) < j; omega) h
theorem num_tot (n : Nat) (g : Nat → Int) : tot (numL n g) = Ps.sumI g (List.range n) := by
  unfold numL
  rw [tot_range (fun i => [(i : Int)]) g n]
  induction n with
  | zero => rfl
  | succ n ih =>
    have app : ∀ (l m : List Nat), Ps.sumI g (l ++ m) = Ps.sumI g l + Ps.sumI g m := by
      intro l m
      induction l with
      | nil => simp [Ps.sumI]
      | cons a l ih => simp only [List.cons_append, Ps.sumI, ih]; omega
    rw [List.range_succ, app, ← ih]
    simp [sumR, Ps.sumI]
theorem num_sup {n : Nat} {g h : Nat → Int} (hg : ∀ i, i < n → 0 < g i) (hh : ∀ i, i < n → 0 < h i) : Sup (numL n g) (numL n h) := by
  intro o
  constructor
  · intro ho
    obtain ⟨i, hi, rfl⟩ := wt_one_pos (f := fun i => (i : Int)) ho
    show 0 < wt (numL n h) [(i : Int)]
    rw [num_wt hi]; exact hh i hi
  · intro ho
    obtain ⟨i, hi, rfl⟩ := wt_one_pos (f := fun i => (i : Int)) ho
    show 0 < wt (numL n g) [(i : Int)]
    rw [num_wt hi]; exact hg i hi
theorem num_bd {n : Nat} {g h : Nat → Int} {U D : Int} (hUD : D ≤ U) (h1 : ∀ i, i < n → g i * Ps.sumI h (List.range n) * D ≤ U * (h i * Ps.sumI g (List.range n))) (h2 : ∀ i, i < n → h i * Ps.sumI g (List.range n) * D ≤ U * (g i * Ps.sumI h (List.range n))) : Bd (numL n g) (numL n h) U D := by
  refine ⟨hUD, fun o ho => ?_⟩
  obtain ⟨i, hi, rfl⟩ := wt_one_pos (f := fun i => (i : Int)) ho
  show wt (numL n g) [(i : Int)] * _ * _ ≤ _ * (wt (numL n h) [(i : Int)] * _) ∧ wt (numL n h) [(i : Int)] * _ * _ ≤ _ * (wt (numL n g) [(i : Int)] * _)
  rw [num_wt hi, num_wt hi, num_tot, num_tot]
  exact ⟨h1 i hi, h2 i hi⟩
/-- how far two are that were made -/
theorem within_made {L M a b : List Pt} (h1 : makeT L = (a, 0)) (h2 : makeT M = (b, 0)) (hs : Sup L M) {U D : Int} (hU : 0 < U) (hD : 0 < D) (hb : Bd L M U D) {x y e : Int} (hf : farT a b = (x, y, e)) :
    e = 4 ∨ (e = 0 ∧ x * D ≤ U * y) := by
  obtain ⟨d1, g, hg, w1, t1⟩ := make_told h1
  obtain ⟨d2, g', hg', w2, t2⟩ := make_told h2
  have hsl := sup_make hg hg' w1 w2 hs
  have hbl := bd_make hg hg' w1 w2 t1 t2 hb
  have he : twoE a b = 0 := by unfold twoE; rw [d1.own, d2.own]; simp
  by_cases c : e = 0
  · subst c
    exact .inr ⟨rfl, (far_told hf).2.2.2.2.2.2.2 U D hU hD hbl⟩
  · rcases far_is d1 d2 he with ⟨h, _⟩ | ⟨_, U', D', hU', hD', h, _⟩
    · exact absurd hsl h
    · rw [h] at hf
      rcases Rt.mkT_of U' D' x y e (by omega) (by omega) hf with ⟨_, _, _, h⟩ | ⟨_, _, _, _, h⟩
      · exact .inl h.symm
      · exact absurd h.symm c

theorem mxI_near {l m : List Int} {far : Int} (hlen : l.length = m.length) (h0 : 1 ≤ l.length) (h : ∀ i, i < l.length → max (l.getD i 0 - m.getD i 0) (m.getD i 0 - l.getD i 0) ≤ far) : mxI l - mxI m ≤ far ∧ mxI m - mxI l ≤ far := by
  have hl : l ≠ [] := by intro e; rw [e] at h0; simp at h0
  have hm : m ≠ [] := by intro e; rw [e] at hlen; simp at hlen; exact hl hlen
  obtain ⟨i, hi, e⟩ := List.getElem_of_mem (mxI_mem hl)
  obtain ⟨j, hj, e'⟩ := List.getElem_of_mem (mxI_mem hm)
  have a1 := h i hi
  have a2 := h j (by omega)
  have b1 := mxI_le (List.getElem_mem (l := m) (n := i) (by omega))
  have b2 := mxI_le (List.getElem_mem (l := l) (n := j) (by omega))
  have g1 : l.getD i 0 = mxI l := by simp [List.getD, List.getElem?_eq_getElem hi, e]
  have g2 : m.getD j 0 = mxI m := by simp [List.getD, List.getElem?_eq_getElem hj, e']
  have g3 : m.getD i 0 = m[i]'(by omega) := by simp [List.getD, List.getElem?_eq_getElem (show i < m.length by omega)]
  have g4 : l.getD j 0 = l[j]'(by omega) := by simp [List.getD, List.getElem?_eq_getElem (show j < l.length by omega)]
  omega
theorem bel_far {l m : List Int} {far : Nat} (hlen : l.length = m.length) (h : ∀ i, i < l.length → max (l.getD i 0 - m.getD i 0) (m.getD i 0 - l.getD i 0) ≤ (far : Int)) (i j : Nat) (hi : i < l.length) (hj : j < l.length) :
    (belT m).getD i 0 + (belT l).getD j 0 ≤ 2 * far + (belT l).getD i 0 + (belT m).getD j 0 := by
  have a1 := bel_get hi
  have a2 := bel_get hj
  have a3 := bel_get (l := m) (i := i) (by omega)
  have a4 := bel_get (l := m) (i := j) (by omega)
  have b1 := h i hi
  have b2 := h j hj
  omega
theorem pow_ge {u d : Int} (hd : 1 ≤ d) (hu : d ≤ u) (n : Nat) : d ^ n ≤ u ^ n := Ps.powi_le (by omega) hu n
/-- THE CHOICE HIDES THE SCORES -/
theorem weigh_keeps {u d : Int} {l m : List Int} {a b : List Pt} {far : Nat} (hlen : l.length = m.length) (h : ∀ i, i < l.length → max (l.getD i 0 - m.getD i 0) (m.getD i 0 - l.getD i 0) ≤ (far : Int))
    (h1 : weighT u d l = (a, 0)) (h2 : weighT u d m = (b, 0)) {x y e : Int} (hf : farT a b = (x, y, e)) : e = 4 ∨ (e = 0 ∧ x * d ^ (2 * far) ≤ u ^ (2 * far) * y) := by
  unfold weighT at h1 h2
  by_cases c1 : choE u d l = 0
  · by_cases c2 : choE u d m = 0
    · rw [if_neg (by simpa using c1)] at h1
      rw [if_neg (by simpa using c2)] at h2
      obtain ⟨_, hu, hd, l1, _⟩ := cho_ok c1
      split at h1
      · simp at h1
      · split at h2
        · simp at h2
        · rw [← hlen] at h2
          have pos : ∀ (s : List Nat) (i : Nat), 0 < wgW u d s i := fun s i => Int.mul_pos (Int.pow_pos (by omega)) (Int.pow_pos (by omega))
          have hl := bel_len l
          have hm := bel_len m
          refine within_made h1 h2 (num_sup (fun i _ => pos _ i) (fun i _ => pos _ i)) (Int.pow_pos (by omega)) (Int.pow_pos (by omega)) (num_bd (pow_ge hd hu _) (fun i hi => ?_) (fun i hi => ?_)) hf
          · have := Ps.weigh_far hd hu (s := belT l) (t := belT m) (V := mxN (belT l)) (W := mxN (belT m)) (K := 2 * far) (by omega) (fun i hi => mxN_le hi) (fun i hi => mxN_le hi) (fun i j hi hj => bel_far hlen h i j (by omega) (by omega)) (i := i) (by omega)
            rw [hl, hm, ← hlen] at this
            exact this
          · have := Ps.weigh_far hd hu (s := belT m) (t := belT l) (V := mxN (belT m)) (W := mxN (belT l)) (K := 2 * far) (by omega) (fun i hi => mxN_le hi) (fun i hi => mxN_le hi) (fun i j hi hj => by have := bel_far hlen h j i (by omega) (by omega); omega) (i := i) (by omega)
            rw [hl, hm, ← hlen] at this
            exact this
    · rw [if_pos (by simpa using c2)] at h2; simp only [Prod.mk.injEq] at h2; exact absurd h2.2 c2
  · rw [if_pos (by simpa using c1)] at h1; simp only [Prod.mk.injEq] at h1; exact absurd h1.2 c1
theorem flip_keeps {u d : Int} {l m : List Int} {a b : List Pt} {far : Nat} (hlen : l.length = m.length) (h : ∀ i, i < l.length → max (l.getD i 0 - m.getD i 0) (m.getD i 0 - l.getD i 0) ≤ (far : Int))
    (h1 : flipT u d l = (a, 0)) (h2 : flipT u d m = (b, 0)) {x y e : Int} (hf : farT a b = (x, y, e)) : e = 4 ∨ (e = 0 ∧ x * d ^ (2 * far) ≤ u ^ (2 * far) * y) := by
  unfold flipT at h1 h2
  by_cases c1 : choE u d l = 0
  · by_cases c2 : choE u d m = 0
    · rw [if_neg (by simpa using c1)] at h1
      rw [if_neg (by simpa using c2)] at h2
      obtain ⟨_, hu, hd, l1, _⟩ := cho_ok c1
      split at h1
      · simp at h1
      · split at h2
        · simp at h2
        · rw [← hlen] at h2
          have hl := bel_len l
          have hm := bel_len m
          refine within_made h1 h2 (num_sup (fun i hi => Ps.flW_pos hd hu _ (by omega)) (fun i hi => Ps.flW_pos hd hu _ (by omega))) (Int.pow_pos (by omega)) (Int.pow_pos (by omega)) (num_bd (pow_ge hd hu _) (fun i hi => ?_) (fun i hi => ?_)) hf
          · have := Ps.flip_far hd hu (s := belT l) (t := belT m) (K := 2 * far) (by omega) (bel_zero l1) (bel_zero (by omega)) (fun i j hi hj => bel_far hlen h i j (by omega) (by omega)) (i := i) (by omega)
            rw [hl, hm, ← hlen] at this
            exact this
          · have := Ps.flip_far hd hu (s := belT m) (t := belT l) (K := 2 * far) (by omega) (bel_zero (by omega)) (bel_zero l1) (fun i j hi hj => by have := bel_far hlen h j i (by omega) (by omega); omega) (i := i) (by omega)
            rw [hl, hm, ← hlen] at this
            exact this
    · rw [if_pos (by simpa using c2)] at h2; simp only [Prod.mk.injEq] at h2; exact absurd h2.2 c2
  · rw [if_pos (by simpa using c1)] at h1; simp only [Prod.mk.injEq] at h1; exact absurd h1.2 c1
end Go.Proofs.Ythmkbkombjhaeaa

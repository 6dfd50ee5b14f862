import Derived.Test.YthmkbkombjhaeaaQw46
import Derived.Test.YthmkbkombjhaeaaQw18
import Derived.Test.YthmkbkombjhaeaaQw21
import Derived.Test.YthmkbkombjhaeaaQw17
import Derived.Test.YthmkbkombjhaeaaQw10
namespace Go.Proofs.Ythmkbkombjhaeaa
open Go.RowKit Go.Proofs.Ythmkbkombjhaeaa.Ds

/-! ### WHAT IS CHOSEN, ON THE WHOLE -/
/-- whatever is told of an outcome, times its weight, together -/
def wsum (F : List Int → Int) : List Pt → Int
  | [] => 0
  | p :: l => F p.1 * p.2 + wsum F l
theorem wsum_tot (l : List Pt) : wsum (fun _ => 1) l = tot l := by
  induction l with
  | nil => simp [wsum]
  | cons p l ih => rw [wsum, ih, tot_cons]; omega
theorem wsum_msum (place : Int) (l : List Pt) : wsum (fun o => o.getD place.toNat 0) l = msum place l := by
  induction l with
  | nil => rfl
  | cons p l ih => rw [wsum, ih, msum]
theorem wsum_ins (F : List Int → Int) (p : Pt) (l : List Pt) : wsum F (ins p l) = F p.1 * p.2 + wsum F l := by
  induction l with
  | nil => simp [ins, wsum]
  | cons q l ih =>
    simp only [ins]
    split
    · simp only [wsum]
    · split
      · rename_i e; simp only [wsum]; rw [e, Int.mul_add]; omega
      · simp only [wsum, ih]; omega
theorem wsum_gath (F : List Int → Int) (l : List Pt) : wsum F (gath l) = wsum F l := by
  induction l with
  | nil => rfl
  | cons p l ih =>
    simp only [gath]
    split
    · rename_i c; rw [wsum, ih, c]; omega
    · rw [wsum_ins, ih, wsum]
theorem wsum_grow (F : List Int → Int) (g : Int) (l : List Pt) : wsum F (grow g l) = g * wsum F l := by
  induction l with
  | nil => simp [grow, wsum]
  | cons p l ih =>
    simp only [grow, List.map_cons, wsum] at *
    rw [ih, Int.mul_add, Int.mul_left_comm]
theorem make_wsum {k l' : List Pt} (h : makeT k = (l', 0)) : Dis l' ∧ ∃ g : Int, 0 < g ∧ ∀ F, wsum F k = g * wsum F l' := by
  refine ⟨(make_told h).1, ?_⟩
  unfold makeT at h
  split at h
  · rename_i hok
    have hp := gath_pos (all_okP hok).1
    have hne : gath k ≠ [] := by intro h0; rw [h0] at h; simp [lowT] at h
    have hl : l' = cut (dv (gath k)) (gath k) := by
      unfold lowT at h
      rw [if_neg hne] at h
      split at h
      · simp at h
      · simp at h; exact h.symm
    have hg : grow (dv (gath k)) l' = gath k := by rw [hl]; exact cut_back fun p hp => dv_dvd_int hp
    have hd := dv_pos hp hne
    exact ⟨dv (gath k), by omega, fun F => by rw [← wsum_grow, hg, wsum_gath]⟩
  · simp at h
theorem wsum_num (F : List Int → Int) (n : Nat) (g : Nat → Int) : wsum F (numL n g) = Ps.sumI (fun (i : Nat) => g i * F [(i : Int)]) (List.range n) := by
  unfold numL
  generalize List.range n = r
  induction r with
  | nil => rfl
  | cons i r ih => simp only [List.map_cons, wsum, Ps.sumI, ih]; rw [Int.mul_comm]
theorem wsum_map (F L : List Int → Int) (l : List Pt) : wsum F (l.map fun p => ([L p.1], p.2)) = wsum (fun o => F [L o]) l := by
  induction l with
  | nil => rfl
  | cons p l ih => simp only [List.map_cons, wsum, ih]

/-- the score of an outcome -/
def scL (l : List Int) (o : List Int) : Int := l.getD (o.getD 0 0).toNat 0
/-- is it one number of a score -/
def scB (l : List Int) (p : Pt) : Bool := decide (p.1.length = 1 ∧ 0 ≤ p.1.getD 0 0 ∧ p.1.getD 0 0 < (l.length : Int))
/-- the scores' distribution -/
def scP (k : List Pt) (l : List Int) : List Pt := k.map fun p => ([scL l p.1], p.2)
/-- a mean in lowest terms -/
def meaT (k : List Pt) : Int × Int := (msum 0 k / (Int.gcd (msum 0 k) (tot k) : Nat), tot k / (Int.gcd (msum 0 k) (tot k) : Nat))
theorem made_score {n : Nat} {g : Nat → Int} {l : List Int} {a : List Pt} (hn : n = l.length) (hl : ∀ z ∈ l, -1073741824 ≤ z ∧ z ≤ 1073741824) (h : makeT (numL n g) = (a, 0)) :
    Dis a ∧ a.all (scB l) = true ∧ ∃ k, makeT (scP a l) = (k, 0) ∧ Dis k ∧ k.all (hasP 0) = true ∧ ∀ x y, meaT k = (x, y) → 1 ≤ y ∧ x * Ps.sumI g (List.range n) = y * Ps.sumI (fun i => g i * l.getD i 0) (List.range n) ∧ -1073741824 * y ≤ x ∧ x ≤ 1073741824 * y ∧ y ≤ 1073741824 := by
  obtain ⟨hd, c, hc, hw⟩ := make_wsum h
  obtain ⟨_, c', hc', hw', _⟩ := make_told h
  have hout : ∀ p ∈ a, ∃ i, i < n ∧ p.1 = [(i : Int)] := by
    intro p hp
    have h1 : 0 < wt a p.1 := mem_wt_pos hd.rise hd.pos hp
    have h2 : 0 < wt (numL n g) p.1 := by rw [hw']; exact Int.mul_pos hc' h1
    exact wt_one_pos (f := fun i => (i : Int)) h2
  have hsb : a.all (scB l) = true := by
    rw [List.all_eq_true]
    intro p hp
    obtain ⟨i, hi, e⟩ := hout p hp
    unfold scB
    rw [e]
    simp
    omega
  have hz : ∀ o, -1073741824 ≤ scL l o ∧ scL l o ≤ 1073741824 := by
    intro o
    unfold scL
    rw [List.getD_eq_getElem?_getD]
    cases hx : l[(o.getD 0 0).toNat]? with
    | none => simp
    | some z => exact hl z (List.mem_of_getElem? hx)
  have hok : (scP a l).all okP = true := by
    rw [List.all_eq_true]
    intro p hp
    obtain ⟨q, hq, rfl⟩ := List.mem_map.1 hp
    have h2 := hd.pos q hq
    have h3 := Pos.le_tot (Nn.of_pos hd.pos) hq
    have h4 := hd.le
    exact okP_one (hz _).1 (hz _).2 (by show 0 ≤ q.2; omega) (by show q.2 ≤ _; omega)
  have ht : tot (scP a l) = tot a := by rw [← wsum_tot, ← wsum_tot]; exact wsum_map _ _ _
  have hta := tot_pos2 hd.pos hd.ne
  obtain ⟨k, hk⟩ := make_ok hok (by rw [ht]; exact hta) (by rw [ht]; exact hd.le) (by simp [scP]; exact hd.few)
  obtain ⟨kd, c2, hc2, kw⟩ := make_wsum hk
  obtain ⟨_, c3, hc3, kw', _⟩ := make_told hk
  refine ⟨hd, hsb, k, hk, kd, ?_, ?_⟩
  · rw [List.all_eq_true]
    intro p hp
    have h1 : 0 < wt k p.1 := mem_wt_pos kd.rise kd.pos hp
    have h2 : 0 < wt (scP a l) p.1 := by rw [kw']; exact Int.mul_pos hc3 h1
    obtain ⟨q, hq, e⟩ := wt_pos_mem h2
    obtain ⟨r, _, rfl⟩ := List.mem_map.1 hq
    unfold hasP
    rw [← e]
    simp
  · intro x y hxy
    unfold meaT at hxy
    simp only [Prod.mk.injEq] at hxy
    have hT := tot_pos2 kd.pos kd.ne
    have g1 : 0 < Int.gcd (msum 0 k) (tot k) := Int.gcd_pos_of_ne_zero_right _ (by omega)
    have d1 : ((Int.gcd (msum 0 k) (tot k) : Nat) : Int) ∣ msum 0 k := Int.gcd_dvd_left ..
    have d2 : ((Int.gcd (msum 0 k) (tot k) : Nat) : Int) ∣ tot k := Int.gcd_dvd_right ..
    have hb := msum_bd (place := 0) kd.ok
    have hle := kd.le
    generalize Int.gcd (msum 0 k) (tot k) = G at *
    obtain ⟨m', hm'⟩ := d1
    obtain ⟨t', ht'⟩ := d2
    have hG : (0 : Int) < (G : Int) := by omega
    have ex : x = m' := by rw [← hxy.1, hm', Int.mul_ediv_cancel_left _ (by omega)]
    have ey : y = t' := by rw [← hxy.2, ht', Int.mul_ediv_cancel_left _ (by omega)]
    rw [ht'] at hT hb hle
    rw [hm'] at hb
    have hy : 0 < t' := pos_cancel hG hT
    have k1 := kw (fun o => o.getD (0 : Int).toNat 0)
    rw [wsum_msum, wsum_msum, hm'] at k1
    have k2 := kw (fun _ => 1)
    rw [wsum_tot, wsum_tot, ht', ht] at k2
    have k3 := hw (fun o => [scL l o].getD (0 : Int).toNat 0)
    have k4 := hw (fun _ => 1)
    rw [wsum_tot, wsum_tot, num_tot] at k4
    have k5 : msum 0 (scP a l) = wsum (fun o => [scL l o].getD (0 : Int).toNat 0) a := by rw [← wsum_msum]; exact wsum_map _ _ _
    rw [← k5] at k3
    have k6 : wsum (fun o => [scL l o].getD (0 : Int).toNat 0) (numL n g) = Ps.sumI (fun i => g i * l.getD i 0) (List.range n) := by
      rw [wsum_num]
      have : (fun (i : Nat) => g i * [scL l [(i : Int)]].getD (0 : Int).toNat 0) = fun i => g i * l.getD i 0 := funext fun i => by simp [scL]
      rw [this]
    rw [k6] at k3
    rw [ex, ey]
    refine ⟨by omega, ?_, ?_, ?_, ?_⟩
    · rw [k4, k3, k1, k2]
      simp only [Int.mul_left_comm, Int.mul_comm]
    · refine Int.le_of_mul_le_mul_left (a := (G : Int)) ?_ hG
      rw [Int.mul_left_comm]; exact hb.1
    · refine Int.le_of_mul_le_mul_left (a := (G : Int)) ?_ hG
      rw [Int.mul_left_comm]; exact hb.2
    · have := Int.mul_le_mul_of_nonneg_right (show (1 : Int) ≤ G by omega) (show 0 ≤ t' by omega)
      omega
theorem frac_le {x y x' y' A B C D : Int} (hy : 1 ≤ y) (hy' : 1 ≤ y') (hA : 0 < A) (hC : 0 < C) (h1 : x * A = y * B) (h2 : x' * C = y' * D) (h : B * C ≤ A * D) : x * y' ≤ x' * y := by
  refine Int.le_of_mul_le_mul_right (a := A * C) ?_ (Int.mul_pos hA hC)
  have e1 : x * y' * (A * C) = y * y' * (B * C) := by
    calc x * y' * (A * C) = x * A * (y' * C) := by simp only [Int.mul_assoc, Int.mul_left_comm]
      _ = y * B * (y' * C) := by rw [h1]
      _ = y * y' * (B * C) := by simp only [Int.mul_assoc, Int.mul_left_comm]
  have e2 : x' * y * (A * C) = y * y' * (A * D) := by
    calc x' * y * (A * C) = x' * C * (y * A) := by simp only [Int.mul_left_comm, Int.mul_comm]
      _ = y' * D * (y * A) := by rw [h2]
      _ = y * y' * (A * D) := by simp only [Int.mul_left_comm, Int.mul_comm]
  rw [e1, e2]
  exact Int.mul_le_mul_of_nonneg_left h (Int.mul_nonneg (by omega) (by omega))
theorem sumI_pos {g : Nat → Int} : ∀ {r : List Nat}, r ≠ [] → (∀ i ∈ r, 0 < g i) → 0 < Ps.sumI g r
  | [], h, _ => absurd rfl h
  | [i], _, h => by simp only [Ps.sumI]; have := h i (by simp); omega
  | i :: j :: r, _, h => by
    have := sumI_pos (r := j :: r) (by simp) fun k hk => h k (List.mem_cons_of_mem _ hk)
    have := h i (List.mem_cons_self ..)
    simp only [Ps.sumI] at *
    omega
/-- MCKENNA AND SHELDON: what is chosen by coins scores no less -/
theorem better_score {u d : Int} {l : List Int} {a b ka kb : List Pt} (h1 : weighT u d l = (a, 0)) (h2 : flipT u d l = (b, 0)) (k1 : makeT (scP a l) = (ka, 0)) (k2 : makeT (scP b l) = (kb, 0)) {x y x' y' : Int} (m1 : meaT ka = (x, y)) (m2 : meaT kb = (x', y')) : x * y' ≤ x' * y := by
  unfold weighT at h1
  unfold flipT at h2
  by_cases c1 : choE u d l = 0
  · rw [if_neg (by simpa using c1)] at h1 h2
    obtain ⟨_, hu, hd, l1, _, hl, _⟩ := cho_ok c1
    split at h1
    · simp at h1
    · split at h2
      · simp at h2
      · obtain ⟨_, _, k, hk, _, _, hx⟩ := made_score rfl hl h1
        obtain ⟨_, _, k', hk', _, _, hx'⟩ := made_score rfl hl h2
        rw [k1] at hk
        rw [k2] at hk'
        simp only [Prod.mk.injEq, and_true] at hk hk'
        subst hk hk'
        obtain ⟨y1, e1, _⟩ := hx x y m1
        obtain ⟨y2, e2, _⟩ := hx' x' y' m2
        have hbl := bel_len l
        have hb := Ps.flip_better hd hu (s := belT l) (bel_zero l1) (W := mxN (belT l)) (fun i hi => mxN_le hi) (fun i => l.getD i 0) (fun i j hi hj h => by
          have g1 := bel_get (l := l) (i := i) (by omega)
          have g2 := bel_get (l := l) (i := j) (by omega)
          omega)
        rw [hbl] at hb
        have hne : List.range l.length ≠ [] := by intro e; have := congrArg List.length e; simp at this; simp [this] at l1
        exact frac_le y1 y2 (sumI_pos hne fun i _ => Int.mul_pos (Int.pow_pos (by omega)) (Int.pow_pos (by omega))) (sumI_pos hne fun i hi => Ps.flW_pos hd hu _ (by rw [hbl]; exact List.mem_range.1 hi)) e1 e2 hb
  · rw [if_pos (by simpa using c1)] at h1; simp only [Prod.mk.injEq] at h1; exact absurd h1.2 c1
end Go.Proofs.Ythmkbkombjhaeaa

namespace Go.Proofs.Ythmkbkombjhaeaa
open Go.RowKit Go.Proofs.Ythmkbkombjhaeaa.Ds

theorem ownFor_any (B : Nat) (v : Value) (ts : List Tr) (w : World) (hB : B ≤ w.heap.size) (hp : Parts w B v ts) (l : List Pt) (er : Int) (hr : ownT (rd ts) = (l, er)) :
    Calls Try.prog 47 #[v, .bool true] w fun e w' => ∃ v' us, e = .returned (.tuple #[v', .int .i64 er]) ∧ rd us = l ∧ OwnN w' w.heap.size v' us ∧ Below w.heap.size w w' := by
  have kc := own_any B v ts w hB hp l er hr
  obtain ⟨a, c, rfl, _⟩ := hp
  clear hr
  go_enter Try.func47, Try.ntmps47
  go_wp2_with fail
  refine kc.mono ?_
  rintro e w1 ⟨v1, us, rfl, h1, h2, h3⟩
  obtain ⟨b1, d1, rfl⟩ := h2.slice
  have H2 : Hid (OwnN w1 w.heap.size (.slice b1 us.length d1) us ∧ rd us = l) := ⟨h2, h1⟩
  clear h1 h2 kc
  by_cases h0 : er = 0
  · subst h0
    go_wp2
    exact bodyPost_ret (v := .tuple #[.slice b1 us.length d1, .int .i64 0]) (by simp [results, Try.results47, go_sem]) rfl ⟨_, us, rfl, H2.out.2, H2.out.1, h3⟩
  · have h0' : (er == 0) = false := by simpa using h0
    go_wp2
    exact bodyPost_ret (v := .tuple #[.slice b1 us.length d1, .int .i64 er]) (by simp [results, Try.results47, go_sem]) rfl ⟨_, us, rfl, H2.out.2, H2.out.1, h3⟩
end Go.Proofs.Ythmkbkombjhaeaa

namespace Go.Proofs.Ythmkbkombjhaeaa
open Go.RowKit Go.Proofs.Ythmkbkombjhaeaa.Ds

theorem fn_there0 (d : Nat) (fn : Fn) (xs ys : Array Value) (w : World) : (Op.equalIn (d + 1) 64 (.func fn xs ys) .nilFunc).run Try.prog w = .ok false w := by
  simp only [Op.equalIn, Sem.run_bind, run_underlying Try.underlying64, Result.andThen_ok]
  rfl
theorem fn_there (fn : Fn) (xs ys : Array Value) (w : World) : (Op.equal 64 (.func fn xs ys) .nilFunc).run Try.prog w = .ok false w := fn_there0 9999 fn xs ys w
theorem fn_is (fn : Fn) (xs ys : Array Value) (w : World) : (binOp .neq 64 (.func fn xs ys) .nilFunc).run Try.prog w = .ok (.bool true) w := by
  simp only [binOp, Sem.run_bind, fn_there, Result.andThen_ok]
  rfl
end Go.Proofs.Ythmkbkombjhaeaa

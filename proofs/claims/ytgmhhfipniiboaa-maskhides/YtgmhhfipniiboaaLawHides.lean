import Derived.Test.YtgmhhfipniiboaaSme
import Derived.Test.YtgmhhfipniiboaaShs
import Derived.Deep.DeepCutAuto
import Derived.Deep.RegionWith
namespace Go.Proofs.Ytgmhhfipniiboaa
open Go.RowKit

/-- what three pairs share -/
def prl (m j : Nat) : List Int := [((j % m : Nat) : Int), ((j / m % m : Nat) : Int), ((j / m / m : Nat) : Int)]
theorem three_num (w : World) (x y z : Int) : Num (w.alloc (.cells #[.int .i64 x, .int .i64 y, .int .i64 z] 3)) (w.heap.size + 1) (.slice (some ⟨w.heap.size, 0, none⟩) 3 3) [x, y, z] := by
  refine ⟨_, 3, rfl, Nat.le_refl _, by simp, fun _ => ⟨w.heap.size, 0, rfl, by omega, fun i u hi => ?_⟩⟩
  match i, hi with
  | 0, hi => simp at hi; subst hi; exact nc _ _ 0 _ rfl rfl
  | 1, hi => simp at hi; subst hi; exact nc _ _ 1 _ rfl rfl
  | 2, hi => simp at hi; subst hi; exact nc _ _ 2 _ rfl rfl
theorem lt_cube {m j : Nat} (h : j < m * m * m) : j / m / m < m := by
  rw [Nat.div_div_eq_div_mul]
  exact Nat.div_lt_of_lt_mul h
/-- is it seen just so -/
theorem sam_see (m j : Nat) (hm : 2 ≤ m) (hj : j < m * m * m) (xs cs : List Int) :
    sam m (rowF 3 (msk m 3 xs (shr m 3 (prl m j)))) cs 3 = see m (gx xs 0 % m) (gx xs 1 % m) (gx xs 2 % m) (gx cs 0 % m) (gx cs 1 % m) (gx cs 2 % m) (j % m) (j / m % m) (j / m / m) := by
  have h1 : j % m < m := Nat.mod_lt _ (by omega)
  have h2 : j / m % m < m := Nat.mod_lt _ (by omega)
  have h3 := lt_cube hj
  have p0 : prs m (prl m j) 0 = ((j % m : Nat) : Int) := by
    rw [prs, if_pos (by simp [prl])]
    show ((j % m : Nat) : Int) % (m : Int) = _
    exact Int.emod_eq_of_lt (Int.natCast_nonneg _) (Int.ofNat_lt.2 h1)
  have p1 : prs m (prl m j) 1 = ((j / m % m : Nat) : Int) := by
    rw [prs, if_pos (by simp [prl])]
    show ((j / m % m : Nat) : Int) % (m : Int) = _
    exact Int.emod_eq_of_lt (Int.natCast_nonneg _) (Int.ofNat_lt.2 h2)
  have p2 : prs m (prl m j) 2 = ((j / m / m : Nat) : Int) := by
    rw [prs, if_pos (by simp [prl])]
    show ((j / m / m : Nat) : Int) % (m : Int) = _
    exact Int.emod_eq_of_lt (Int.natCast_nonneg _) (Int.ofNat_lt.2 h3)
  generalize (j % m : Nat) = x at *
  generalize (j / m % m : Nat) = y at *
  generalize (j / m / m : Nat) = z at *
  have s01 : shr m 3 (prl m j) 0 1 = (x : Int) := p0
  have s02 : shr m 3 (prl m j) 0 2 = (y : Int) := p1
  have s12 : shr m 3 (prl m j) 1 2 = (z : Int) := p2
  have s10 : shr m 3 (prl m j) 1 0 = (x : Int) := p0
  have s20 : shr m 3 (prl m j) 2 0 = (y : Int) := p1
  have s21 : shr m 3 (prl m j) 2 1 = (z : Int) := p2
  generalize shr m 3 (prl m j) = sh at *
  have v0 : cov 0 all (rowF 3 (sh 0)) 3 = (x : Int) + y := by
    rw [cov_succ, cov_succ, cov_succ, rowF_get (by omega), rowF_get (by omega), rowF_get (by omega), s01, s02]
    simp [cov, sumZ, all, sg]
  have v1 : cov 1 all (rowF 3 (sh 1)) 3 = -(x : Int) + z := by
    rw [cov_succ, cov_succ, cov_succ, rowF_get (by omega), rowF_get (by omega), rowF_get (by omega), s10, s12]
    simp [cov, sumZ, all, sg]
  have v2 : cov 2 all (rowF 3 (sh 2)) 3 = -(y : Int) - z := by
    rw [cov_succ, cov_succ, cov_succ, rowF_get (by omega), rowF_get (by omega), rowF_get (by omega), s20, s21]
    simp [cov, sumZ, all, sg]
    omega
  rw [sam, sam, sam, sam, rowF_get (by omega), rowF_get (by omega), rowF_get (by omega), msk, msk, msk, v0, v1, v2, see]
  simp [Bool.decide_and, Bool.and_assoc]
theorem ways_succ (m : Nat) (u v w c0 c1 c2 : Int) (n : Nat) : ways m u v w c0 c1 c2 (n + 1) = ways m u v w c0 c1 c2 n + (if see m u v w c0 c1 c2 (n % m) (n / m % m) (n / m / m) then 1 else 0) := rfl
theorem ways_in (m : Nat) (u v w c0 c1 c2 : Int) (n : Nat) : 0 ≤ ways m u v w c0 c1 c2 n ∧ ways m u v w c0 c1 c2 n ≤ n := by
  induction n with
  | zero => exact ⟨by simp [ways, sumZ], by simp [ways, sumZ]⟩
  | succ n ih =>
    rw [ways_succ]
    split <;> (push_cast; omega)

theorem wrap_nat {d : Nat} (h : d ≤ 1073741824) : IntKind.i64.wrap (d : Int) = (d : Int) := by rw [IntKind.wrap_i64]; omega
theorem run_quo {x d r : Int} (hd : d ≠ 0) (hr : x.tdiv d = r) (hb : -9223372036854775808 ≤ r ∧ r ≤ 9223372036854775807) (u : World) : (binOp .quo 3 (.int .i64 x) (.int .i64 d)).run Try.prog u = .ok (.int .i64 r) u := by
  have : IntKind.i64.wrap r = r := by rw [IntKind.wrap_i64]; omega
  simp [go_sem, hd, hr, this]
theorem run_rem {x d r : Int} (hd : d ≠ 0) (hr : x.tmod d = r) (u : World) : (binOp .rem 3 (.int .i64 x) (.int .i64 d)).run Try.prog u = .ok (.int .i64 r) u := by
  simp [go_sem, hd, hr]
theorem nat_quo {x d r : Nat} (hd : d ≠ 0) (hr : x / d = r) (hx : x ≤ 1073741824) (u : World) : (binOp .quo 3 (.int .i64 (x : Int)) (.int .i64 (d : Int))).run Try.prog u = .ok (.int .i64 (r : Int)) u := by
  have h1 : r ≤ x := by rw [← hr]; exact Nat.div_le_self _ _
  refine run_quo (by omega) ?_ (by omega) u
  rw [Int.tdiv_eq_ediv_of_nonneg (Int.natCast_nonneg _), ← Int.natCast_ediv, hr]
theorem nat_rem {x d r : Nat} (hd : d ≠ 0) (hr : x % d = r) (u : World) : (binOp .rem 3 (.int .i64 (x : Int)) (.int .i64 (d : Int))).run Try.prog u = .ok (.int .i64 (r : Int)) u := by
  refine run_rem (by omega) ?_ u
  rw [md_tm _ _ (Int.natCast_nonneg _), ← Int.natCast_emod, hr]
/-- the sums of three -/
def su3 (m : Int) (xs : List Int) (k : Nat) : Int := sumZ (fun i => gx xs i % m) k
theorem su3_succ (m : Int) (xs : List Int) (k : Nat) : su3 m xs (k + 1) = su3 m xs k + gx xs k % m := rfl

set_option maxRecDepth 100000 in
set_option maxHeartbeats 4000000 in
theorem hides_ok (B m : Nat) (hm : 2 ≤ m) (hm2 : m ≤ 6) (av bv cv : Value) (axs bxs cs : List Int) (W : World) (hB : B ≤ W.heap.size) (ha : Num W B av axs) (hb : Num W B bv bxs) (hc : Num W B cv cs) (la : axs.length = 3) (lb : bxs.length = 3) (lc : cs.length = 3) :
    Calls Try.prog 5 #[.int .i64 (m : Int), av, bv, cv] W fun e W' => e = .returned (.bool true) ∧ Below W.heap.size W W' := by
  have HA : Hid (Num W B av axs) := ha
  have HBV : Hid (Num W B bv bxs) := hb
  have HCV : Hid (Num W B cv cs) := hc
  have HL : Hid (axs.length = 3 ∧ bxs.length = 3 ∧ cs.length = 3) := ⟨la, lb, lc⟩
  have ka := alive_any W
  obtain ⟨aa, ac, rfl, _⟩ := ha.slice
  obtain ⟨ba', bc, rfl, _⟩ := hb.slice
  obtain ⟨ca, cc, rfl, _⟩ := hc.slice
  rw [la] at HA ⊢
  rw [lb] at HBV ⊢
  rw [lc] at HCV ⊢
  have hmi : 2 ≤ (m : Int) := by omega
  have hmi2 : (m : Int) ≤ 1073741824 := by omega
  have h0 : ¬ (m : Int) = 0 := by omega
  obtain ⟨p, hp⟩ : ∃ p, m * m = p := ⟨_, rfl⟩
  obtain ⟨q, hq⟩ : ∃ q, p * m = q := ⟨_, rfl⟩
  have HQ : Hid (m * m * m = q) := by rw [Hid, hp, hq]
  have hpb : p ≤ 36 := by rw [← hp]; exact Nat.mul_le_mul hm2 hm2
  have hqb : q ≤ 216 := by rw [← hq]; exact Nat.mul_le_mul hpb hm2
  have hpi : (m : Int) * (m : Int) = (p : Int) := by rw [← hp]; simp
  have hqi : (p : Int) * (m : Int) = (q : Int) := by rw [← hq]; simp
  have hwp : IntKind.i64.wrap ((m : Int) * (m : Int)) = (p : Int) := by rw [hpi, IntKind.wrap_i64]; omega
  have hwq : IntKind.i64.wrap ((p : Int) * (m : Int)) = (q : Int) := by rw [hqi, IntKind.wrap_i64]; omega
  have KMOD : ∀ x V, Calls Try.prog 13 #[.int .i64 x, .int .i64 (m : Int)] V fun e W' => e = .returned (.int .i64 (x % (m : Int))) ∧ W' = V := fun x V => mod_any x m hmi hmi2 _ rfl V
  have e3 : ((3 : Nat) : Int) = 3 := rfl
  clear ha hb hc la lb lc hp hq
  go_enter Try.func5, Try.ntmps5
  go_wp2_with fail
  refine ka.mono ?_
  rintro e1 w1 ⟨rfl, hb1⟩
  clear ka
  go_wp2_with fail
  go_loopw [9, 10, 11] (fun sv ov iv wr => ∃ (k : Nat) (s o : Int), iv = .int .i64 (k : Int) ∧ sv = .int .i64 s ∧ ov = .int .i64 o ∧ k ≤ 3 ∧ 0 ≤ s ∧ s < m ∧ 0 ≤ o ∧ o < m ∧ Hid (su3 m axs k % m = s ∧ su3 m bxs k % m = o) ∧ Below W.heap.size W wr) (fun _ _ iv _ => 3 - (intOf iv).toNat)
  case atStart => exact ⟨0, 0, 0, rfl, rfl, rfl, by omega, by omega, by omega, by omega, by omega, ⟨Int.zero_emod _, Int.zero_emod _⟩, hb1⟩
  case round =>
    obtain ⟨k, s, o, rfl, rfl, rfl, hk, hs0, hs1, ho0, ho1, HS, hbl⟩ := hrel
    by_cases h1 : k < 3
    · have z1 : (k : Int) < 3 := by omega
      obtain ⟨b1, o1, c1, x, e1, _, _, hxx, hcx⟩ := (HA.out.at hB hbl).get (i := k) (by rw [HL.out.1]; exact h1)
      rw [HL.out.1] at e1
      simp only [Value.slice.injEq] at e1
      obtain ⟨rfl, -, rfl⟩ := e1
      obtain ⟨b2, o2, c2, y, e1, _, _, hyy, hcy⟩ := (HBV.out.at hB hbl).get (i := k) (by rw [HL.out.2.1]; exact h1)
      rw [HL.out.2.1] at e1
      simp only [Value.slice.injEq] at e1
      obtain ⟨rfl, -, rfl⟩ := e1
      have HX : Hid (gx axs k = x ∧ gx bxs k = y) := ⟨gx_get hxx, gx_get hyy⟩
      clear hxx hyy
      obtain ⟨u, hu⟩ : ∃ u, x % (m : Int) = u := ⟨_, rfl⟩
      obtain ⟨v, hv⟩ : ∃ v, y % (m : Int) = v := ⟨_, rfl⟩
      have hu0 : 0 ≤ u := by rw [← hu]; exact Int.emod_nonneg _ (by omega)
      have hu1 : u < m := by rw [← hu]; exact Int.emod_lt_of_pos _ (by omega)
      have hv0 : 0 ≤ v := by rw [← hv]; exact Int.emod_nonneg _ (by omega)
      have hv1 : v < m := by rw [← hv]; exact Int.emod_lt_of_pos _ (by omega)
      obtain ⟨s2, hs2⟩ : ∃ s2, (s + u) % (m : Int) = s2 := ⟨_, rfl⟩
      obtain ⟨t2, ht2⟩ : ∃ t2, (o + v) % (m : Int) = t2 := ⟨_, rfl⟩
      have hs20 : 0 ≤ s2 := by rw [← hs2]; exact Int.emod_nonneg _ (by omega)
      have hs21 : s2 < m := by rw [← hs2]; exact Int.emod_lt_of_pos _ (by omega)
      have ht20 : 0 ≤ t2 := by rw [← ht2]; exact Int.emod_nonneg _ (by omega)
      have ht21 : t2 < m := by rw [← ht2]; exact Int.emod_lt_of_pos _ (by omega)
      have k1 := fun V => mod_any x m hmi hmi2 u hu V
      have k2 := fun V => mod_any (s + u) m hmi hmi2 s2 hs2 V
      have k3 := fun V => mod_any y m hmi hmi2 v hv V
      have k4 := fun V => mod_any (o + v) m hmi hmi2 t2 ht2 V
      have HS2 : Hid (su3 m axs (k + 1) % m = s2 ∧ su3 m bxs (k + 1) % m = t2) := by
        refine ⟨?_, ?_⟩
        · rw [su3_succ, HX.out.1, hu, ← hs2, ← HS.out.1, md_add]
        · rw [su3_succ, HX.out.2, hv, ← ht2, ← HS.out.2, md_add]
      clear hu hv hs2 ht2 HS KMOD
      go_wp2_with fail
      go_quiet (first | (go_at_call 13; with_reducible refine Calls.quiet_of_same (k1 _)) | (go_at_call 13; with_reducible refine Calls.quiet_of_same (k3 _)) | (go_at_call 13; with_reducible refine Calls.quiet_of_same (k2 _)) | (go_at_call 13; with_reducible refine Calls.quiet_of_same (k4 _)))
      go_wp2
      go_roundw
      case rel => exact ⟨k + 1, s2, t2, by go_num, rfl, rfl, h1, hs20, hs21, ht20, ht21, HS2, below_drewN hbl _⟩
      case measure => simp [intOf]; omega
    · obtain rfl : k = 3 := by omega
      by_cases c1 : s = o
      · subst c1
        have HSUM : Hid ((gx axs 0 % m + gx axs 1 % m + gx axs 2 % m) % (m : Int) = (gx bxs 0 % m + gx bxs 1 % m + gx bxs 2 % m) % (m : Int)) := by
          have h := HS.out.1.trans HS.out.2.symm
          rw [Hid]
          simpa [su3, sumZ] using h
        have z2 : (s != s) = false := by simp
        obtain ⟨a0, ha0⟩ : ∃ a0, gx axs 0 % (m : Int) = a0 := ⟨_, rfl⟩
        obtain ⟨a1, ha1⟩ : ∃ a1, gx axs 1 % (m : Int) = a1 := ⟨_, rfl⟩
        obtain ⟨a2, ha2⟩ : ∃ a2, gx axs 2 % (m : Int) = a2 := ⟨_, rfl⟩
        obtain ⟨b0, hb0⟩ : ∃ b0, gx bxs 0 % (m : Int) = b0 := ⟨_, rfl⟩
        obtain ⟨b1, hb1'⟩ : ∃ b1, gx bxs 1 % (m : Int) = b1 := ⟨_, rfl⟩
        obtain ⟨b2, hb2⟩ : ∃ b2, gx bxs 2 % (m : Int) = b2 := ⟨_, rfl⟩
        obtain ⟨c0, hc0⟩ : ∃ c0, gx cs 0 % (m : Int) = c0 := ⟨_, rfl⟩
        obtain ⟨c1, hc1⟩ : ∃ c1, gx cs 1 % (m : Int) = c1 := ⟨_, rfl⟩
        obtain ⟨c2, hc2⟩ : ∃ c2, gx cs 2 % (m : Int) = c2 := ⟨_, rfl⟩
        have HSAM : Hid (∀ j, j < q → sam m (rowF 3 (msk m 3 axs (shr m 3 (prl m j)))) cs 3 = see m a0 a1 a2 c0 c1 c2 (j % m) (j / m % m) (j / m / m) ∧ sam m (rowF 3 (msk m 3 bxs (shr m 3 (prl m j)))) cs 3 = see m b0 b1 b2 c0 c1 c2 (j % m) (j / m % m) (j / m / m)) := fun j hj => by
          rw [← ha0, ← ha1, ← ha2, ← hb0, ← hb1', ← hb2, ← hc0, ← hc1, ← hc2]
          exact ⟨sam_see m j hm (by rw [HQ.out]; exact hj) axs cs, sam_see m j hm (by rw [HQ.out]; exact hj) bxs cs⟩
        have HEND : Hid (ways m a0 a1 a2 c0 c1 c2 q = ways m b0 b1 b2 c0 c1 c2 q) := by
          have h := HSUM.out
          rw [ha0, ha1, ha2, hb0, hb1', hb2] at h
          rw [Hid, ← HQ.out]
          exact hides_main m (by omega) a0 a1 a2 b0 b1 b2 c0 c1 c2 h
        clear ha0 ha1 ha2 hb0 hb1' hb2 hc0 hc1 hc2 HSUM HS KMOD
        go_wp2_with fail
        go_loopw [12, 13, 14] (fun xv yv iv wr => ∃ (j : Nat) (x y : Int), iv = .int .i64 (j : Int) ∧ xv = .int .i64 x ∧ yv = .int .i64 y ∧ j ≤ q ∧ 0 ≤ x ∧ x ≤ j ∧ 0 ≤ y ∧ y ≤ j ∧ Hid (ways m a0 a1 a2 c0 c1 c2 j = x ∧ ways m b0 b1 b2 c0 c1 c2 j = y) ∧ Below W.heap.size W wr) (fun _ _ iv _ => q - (intOf iv).toNat)
        case atStart => exact ⟨0, 0, 0, rfl, rfl, rfl, Nat.zero_le _, by omega, by omega, by omega, by omega, ⟨rfl, rfl⟩, hbl⟩
        case round =>
          clear hbl
          obtain ⟨j, x, y, rfl, rfl, rfl, hj, hx0, hx1, hy0, hy1, HW, hbl⟩ := hrel
          by_cases c9 : j < q
          · have z9 : (j : Int) < (q : Int) := by omega
            obtain ⟨w2, hw2'⟩ : ∃ w2, w2 = wr := ⟨_, rfl⟩
            subst hw2'
            obtain ⟨d, hd⟩ : ∃ d, j / m = d := ⟨_, rfl⟩
            obtain ⟨X, hX⟩ : ∃ X, j % m = X := ⟨_, rfl⟩
            obtain ⟨Y, hY⟩ : ∃ Y, d % m = Y := ⟨_, rfl⟩
            obtain ⟨Z, hZ⟩ : ∃ Z, d / m = Z := ⟨_, rfl⟩
            have hdj : d ≤ j := by rw [← hd]; exact Nat.div_le_self _ _
            have r1 := nat_rem (x := j) (d := m) (by omega) hX
            have r2 := nat_quo (x := j) (d := m) (by omega) hd (by omega)
            have r3 := nat_rem (x := d) (d := m) (by omega) hY
            have r4 := nat_quo (x := d) (d := m) (by omega) hZ (by omega)
            have hm0 : ((m : Int) == 0) = false := by simp; omega
            have hm1 : ¬ m = 0 := by omega
            have i1 : (j : Int) % (m : Int) = (X : Int) := by rw [← hX]; exact (Int.natCast_emod _ _).symm
            have i2 : (j : Int) / (m : Int) = (d : Int) := by rw [← hd]; exact (Int.natCast_ediv _ _).symm
            have i3 : (d : Int) % (m : Int) = (Y : Int) := by rw [← hY]; exact (Int.natCast_emod _ _).symm
            have i4 : (d : Int) / (m : Int) = (Z : Int) := by rw [← hZ]; exact (Int.natCast_ediv _ _).symm
            have t1 : (j : Int).tmod (m : Int) = (X : Int) := by rw [md_tm _ _ (Int.natCast_nonneg _), i1]
            have t2 : (j : Int).tdiv (m : Int) = (d : Int) := by rw [Int.tdiv_eq_ediv_of_nonneg (Int.natCast_nonneg _), i2]
            have t3 : (d : Int).tmod (m : Int) = (Y : Int) := by rw [md_tm _ _ (Int.natCast_nonneg _), i3]
            have t4 : (d : Int).tdiv (m : Int) = (Z : Int) := by rw [Int.tdiv_eq_ediv_of_nonneg (Int.natCast_nonneg _), i4]
            have hZd : Z ≤ d := by rw [← hZ]; exact Nat.div_le_self _ _
            have wd : IntKind.i64.wrap (d : Int) = (d : Int) := wrap_nat (by omega)
            have wZ : IntKind.i64.wrap (Z : Int) = (Z : Int) := wrap_nat (by omega)
            have HPR : Hid (prl m j = [(X : Int), (Y : Int), (Z : Int)]) := by rw [Hid, prl, hd, hX, hY, hZ]
            have KS : Hid (∀ V, V = (w2.alloc (.cells #[.int .i64 (X : Int), .int .i64 (Y : Int), .int .i64 (Z : Int)] 3)).drew ∨ V = w2.drew.alloc (.cells #[.int .i64 (X : Int), .int .i64 (Y : Int), .int .i64 (Z : Int)] 3) → Calls Try.prog 11 #[.int .i64 (m : Int), .int .i64 3, .slice (some ⟨w2.heap.size, 0, none⟩) 3 3] V fun e W' => ∃ R, e = .returned (.slice (some ⟨R, 0, none⟩) 3 3) ∧ Mat W' R 3 3 (shr m 3 (prl m j)) ∧ Below w2.heap.size w2 W') := by
              intro V hV
              rw [HPR.out]
              have hN : Num V (w2.heap.size + 1) (.slice (some ⟨w2.heap.size, 0, none⟩) 3 3) [(X : Int), (Y : Int), (Z : Int)] ∧ w2.heap.size + 1 ≤ V.heap.size ∧ Below w2.heap.size w2 V := by
                rcases hV with rfl | rfl
                · exact ⟨(three_num w2 _ _ _).at (by simp) (Below.refl _ _).drew, by simp, (ba _ _).drew⟩
                · exact ⟨three_num w2.drew _ _ _, by simp, (Below.refl _ w2).drew.alloc (Nat.le_refl _) _⟩
              exact (shares_any m 3 hmi hmi2 (by decide) (by decide) (w2.heap.size + 1) _ [(X : Int), (Y : Int), (Z : Int)] V hN.2.1 hN.1).mono fun e W' ⟨he, h1, h2⟩ => ⟨_, he, h1, hN.2.2.trans (h2.mono (by omega))⟩
            clear hd hX hY hZ HPR
            go_wp2_with fail
            go_cut [15] (fun sv wx => ∃ R, sv = .slice (some ⟨R, 0, none⟩) 3 3 ∧ Mat wx R 3 3 (shr m 3 (prl m j)) ∧ Below w2.heap.size w2 wx)
            case first => as_aux_lemma =>
              go_region_held3 (fun _ => True) (trivial) ((go_at_call 11; refine (KS.out _ ?_).mono ?_; (first | exact Or.inl rfl | exact Or.inr rfl); rintro e3 w3 ⟨R, rfl, hM, hb3⟩))
              go_wp2
              go_meet
              exact ⟨R, rfl, hM, hb3⟩
            case rest => as_aux_lemma =>
              obtain ⟨R, rfl, hM, hbc⟩ := hcut
              have bW : Below W.heap.size W wc := bt hbl hbc
              obtain ⟨sh, hsh⟩ : ∃ sh, shr m 3 (prl m j) = sh := ⟨_, rfl⟩
              have hS := HSAM.out j c9
              rw [hsh] at hM hS
              have HIN : Hid (∀ i k, i < 3 → k < 3 → 0 ≤ sh i k ∧ sh i k < (m : Int)) := by rw [← hsh]; exact fun i k _ _ => shr_in m hmi 3 _ i k
              have KM : Hid (∀ V, Below wc.heap.size wc V → (Calls Try.prog 12 #[.int .i64 (m : Int), .slice aa 3 ac, .slice (some ⟨R, 0, none⟩) 3 3] V fun e W' => ∃ a c, e = .returned (.tuple #[.slice a 3 c, .bool true]) ∧ Num W' W'.heap.size (.slice a 3 c) (rowF 3 (msk m 3 axs sh)) ∧ Below V.heap.size V W') ∧ (Calls Try.prog 12 #[.int .i64 (m : Int), .slice ba' 3 bc, .slice (some ⟨R, 0, none⟩) 3 3] V fun e W' => ∃ a c, e = .returned (.tuple #[.slice a 3 c, .bool true]) ∧ Num W' W'.heap.size (.slice a 3 c) (rowF 3 (msk m 3 bxs sh)) ∧ Below V.heap.size V W')) := fun V hV =>
                ⟨masks_any m 3 R sh hmi hmi2 (by decide) (by decide) HIN.out B _ axs V (Nat.le_trans hB (bt bW hV).size) (HA.out.at hB (bt bW hV)) HL.out.1 (hM.at hV), masks_any m 3 R sh hmi hmi2 (by decide) (by decide) HIN.out B _ bxs V (Nat.le_trans hB (bt bW hV).size) (HBV.out.at hB (bt bW hV)) HL.out.2.1 (hM.at hV)⟩
              have km1 := (KM.out wc (Below.refl _ _)).1
              obtain ⟨r1, hr1⟩ : ∃ r1, see m a0 a1 a2 c0 c1 c2 (j % m) (j / m % m) (j / m / m) = r1 := ⟨_, rfl⟩
              obtain ⟨r2, hr2⟩ : ∃ r2, see m b0 b1 b2 c0 c1 c2 (j % m) (j / m % m) (j / m / m) = r2 := ⟨_, rfl⟩
              have HR1 : Hid (see m a0 a1 a2 c0 c1 c2 (j % m) (j / m % m) (j / m / m) = r1) := hr1
              have HR2 : Hid (see m b0 b1 b2 c0 c1 c2 (j % m) (j / m % m) (j / m / m) = r2) := hr2
              rw [hr1, hr2] at hS
              have HS2 : Hid (sam m (rowF 3 (msk m 3 axs sh)) cs 3 = r1 ∧ sam m (rowF 3 (msk m 3 bxs sh)) cs 3 = r2) := hS
              clear hS hr1 hr2 hsh hM HSAM HEND HQ
              go_wp2_with fail
              refine km1.mono ?_
              rintro e4 w4 ⟨p4, q4, rfl, hn4, hb4⟩
              have HN4 : Hid (Num w4 w4.heap.size (.slice p4 3 q4) (rowF 3 (msk m 3 axs sh))) := hn4
              have km2 := (KM.out w4 hb4).2
              have bW4 : Below W.heap.size W w4 := bt bW hb4
              clear km1 hn4 KM HIN
              go_wp2_with fail
              refine km2.mono ?_
              rintro e5 w5 ⟨p5, q5, rfl, hn5, hb5⟩
              have HN5 : Hid (Num w5 w5.heap.size (.slice p5 3 q5) (rowF 3 (msk m 3 bxs sh))) := hn5
              have bW5 : Below W.heap.size W w5 := bt bW4 hb5
              have ks1 := same_any m hmi hmi2 w4.heap.size B _ _ (rowF 3 (msk m 3 axs sh)) cs w5 hb5.size (Nat.le_trans hB bW5.size) (HN4.out.at (Nat.le_refl _) hb5) (HCV.out.at hB bW5) (by rw [rowF_len]; exact HL.out.2.2) r1 (by rw [rowF_len]; exact HS2.out.1)
              have KS2 : Hid (∀ V, Below w5.heap.size w5 V → Calls Try.prog 14 #[.slice p5 3 q5, .slice ca 3 cc, .int .i64 (m : Int)] V fun e W' => e = .returned (.bool r2) ∧ Below V.heap.size V W') := fun V hV => same_any m hmi hmi2 w5.heap.size B _ _ (rowF 3 (msk m 3 bxs sh)) cs V hV.size (Nat.le_trans hB (bt bW5 hV).size) (HN5.out.at (Nat.le_refl _) hV) (HCV.out.at hB (bt bW5 hV)) (by rw [rowF_len]; exact HL.out.2.2) r2 (by rw [rowF_len]; exact HS2.out.2)
              clear km2 hn5 HN4 HS2
              go_wp2_with fail
              refine ks1.mono ?_
              rintro e6 w6 ⟨rfl, hb6⟩
              have bW6 : Below W.heap.size W w6 := bt bW5 hb6
              have ks2 := KS2.out w6 hb6
              clear ks1 KS2 HN5
              cases r1 with
              | true =>
                go_wp2_with fail
                refine ks2.mono ?_
                rintro e7 w7 ⟨rfl, hb7⟩
                clear ks2
                cases r2 with
                | true =>
                  have HW2 : Hid (ways m a0 a1 a2 c0 c1 c2 (j + 1) = x + 1 ∧ ways m b0 b1 b2 c0 c1 c2 (j + 1) = y + 1) := by
                    refine ⟨?_, ?_⟩
                    · rw [ways_succ, HR1.out, HW.out.1]; simp
                    · rw [ways_succ, HR2.out, HW.out.2]; simp
                  clear HR1 HR2 HW
                  go_wp2
                  refine ⟨?_, ?_⟩
                  · (repeat apply Exists.intro)
                    refine ⟨?_, rfl⟩
                    exact ⟨j + 1, x + 1, y + 1, by go_num, by first | rfl | go_num, by first | rfl | go_num, by omega, by omega, by omega, by omega, by omega, HW2, bt bW6 hb7⟩
                  · simp [intOf]; omega
                | false =>
                  have HW2 : Hid (ways m a0 a1 a2 c0 c1 c2 (j + 1) = x + 1 ∧ ways m b0 b1 b2 c0 c1 c2 (j + 1) = y) := by
                    refine ⟨?_, ?_⟩
                    · rw [ways_succ, HR1.out, HW.out.1]; simp
                    · rw [ways_succ, HR2.out, HW.out.2]; simp
                  clear HR1 HR2 HW
                  go_wp2
                  refine ⟨?_, ?_⟩
                  · (repeat apply Exists.intro)
                    refine ⟨?_, rfl⟩
                    exact ⟨j + 1, x + 1, y, by go_num, by first | rfl | go_num, by first | rfl | go_num, by omega, by omega, by omega, by omega, by omega, HW2, bt bW6 hb7⟩
                  · simp [intOf]; omega
              | false =>
                go_wp2_with fail
                refine ks2.mono ?_
                rintro e7 w7 ⟨rfl, hb7⟩
                clear ks2
                cases r2 with
                | true =>
                  have HW2 : Hid (ways m a0 a1 a2 c0 c1 c2 (j + 1) = x ∧ ways m b0 b1 b2 c0 c1 c2 (j + 1) = y + 1) := by
                    refine ⟨?_, ?_⟩
                    · rw [ways_succ, HR1.out, HW.out.1]; simp
                    · rw [ways_succ, HR2.out, HW.out.2]; simp
                  clear HR1 HR2 HW
                  go_wp2
                  refine ⟨?_, ?_⟩
                  · (repeat apply Exists.intro)
                    refine ⟨?_, rfl⟩
                    exact ⟨j + 1, x, y + 1, by go_num, by first | rfl | go_num, by first | rfl | go_num, by omega, by omega, by omega, by omega, by omega, HW2, bt bW6 hb7⟩
                  · simp [intOf]; omega
                | false =>
                  have HW2 : Hid (ways m a0 a1 a2 c0 c1 c2 (j + 1) = x ∧ ways m b0 b1 b2 c0 c1 c2 (j + 1) = y) := by
                    refine ⟨?_, ?_⟩
                    · rw [ways_succ, HR1.out, HW.out.1]; simp
                    · rw [ways_succ, HR2.out, HW.out.2]; simp
                  clear HR1 HR2 HW
                  go_wp2
                  refine ⟨?_, ?_⟩
                  · (repeat apply Exists.intro)
                    refine ⟨?_, rfl⟩
                    exact ⟨j + 1, x, y, by go_num, by first | rfl | go_num, by first | rfl | go_num, by omega, by omega, by omega, by omega, by omega, HW2, bt bW6 hb7⟩
                  · simp [intOf]; omega
          · obtain rfl : j = q := by omega
            have z9 : ¬ (j : Int) < (j : Int) := by omega
            have HXY : Hid (x = y) := by rw [Hid, ← HW.out.1, ← HW.out.2]; exact HEND.out
            obtain rfl := HXY.out
            go_wp2
            go_ret
            exact ⟨rfl, hbl⟩
      · have z2 : (s != o) = true := by simp [c1]
        go_wp2
        go_ret
        exact ⟨rfl, hbl⟩
set_option maxRecDepth 100000 in
set_option maxHeartbeats 1000000 in
theorem maskHides_walk (B : Nat) (m : Int) (av bv cv : Value) (axs bxs cs : List Int) (W : World) (hB : B ≤ W.heap.size) (ha : Num W B av axs) (hb : Num W B bv bxs) (hc : Num W B cv cs) :
    Calls Try.prog 5 #[.int .i64 m, av, bv, cv] W fun e W' => e = .returned (.bool true) ∧ Below W.heap.size W W' := by
  have ka := alive_any W
  by_cases c1 : m < 2
  · obtain ⟨aa, ac, rfl, _⟩ := ha.slice
    obtain ⟨ba', bc, rfl, _⟩ := hb.slice
    obtain ⟨ca, cc, rfl, _⟩ := hc.slice
    clear ha hb hc
    go_enter Try.func5, Try.ntmps5
    go_wp2_with fail
    refine ka.mono ?_
    rintro e1 w1 ⟨rfl, hb1⟩
    clear ka
    go_wp2
    go_ret
    exact ⟨rfl, hb1⟩
  by_cases c2 : m > 6
  · obtain ⟨aa, ac, rfl, _⟩ := ha.slice
    obtain ⟨ba', bc, rfl, _⟩ := hb.slice
    obtain ⟨ca, cc, rfl, _⟩ := hc.slice
    clear ha hb hc
    go_enter Try.func5, Try.ntmps5
    go_wp2_with fail
    refine ka.mono ?_
    rintro e1 w1 ⟨rfl, hb1⟩
    clear ka
    go_wp2
    go_ret
    exact ⟨rfl, hb1⟩
  by_cases l1 : axs.length = 3
  · by_cases l2 : bxs.length = 3
    · by_cases l3 : cs.length = 3
      · obtain ⟨k, rfl⟩ : ∃ k : Nat, m = (k : Int) := ⟨m.toNat, by omega⟩
        exact hides_ok B k (by omega) (by omega) av bv cv axs bxs cs W hB ha hb hc l1 l2 l3
      · obtain ⟨aa, ac, rfl, _⟩ := ha.slice
        obtain ⟨ba', bc, rfl, _⟩ := hb.slice
        obtain ⟨ca, cc, rfl, _⟩ := hc.slice
        have z1 : ((cs.length : Int) != 3) = true := by simp; omega
        have z2 : ¬ (cs.length : Int) = 3 := by omega
        rw [l1, l2]
        clear ha hb hc
        go_enter Try.func5, Try.ntmps5
        go_wp2_with fail
        refine ka.mono ?_
        rintro e1 w1 ⟨rfl, hb1⟩
        clear ka
        go_wp2
        go_ret
        exact ⟨rfl, hb1⟩
    · obtain ⟨aa, ac, rfl, _⟩ := ha.slice
      obtain ⟨ba', bc, rfl, _⟩ := hb.slice
      obtain ⟨ca, cc, rfl, _⟩ := hc.slice
      have z1 : ((bxs.length : Int) != 3) = true := by simp; omega
      have z2 : ¬ (bxs.length : Int) = 3 := by omega
      rw [l1]
      clear ha hb hc
      go_enter Try.func5, Try.ntmps5
      go_wp2_with fail
      refine ka.mono ?_
      rintro e1 w1 ⟨rfl, hb1⟩
      clear ka
      go_wp2
      go_ret
      exact ⟨rfl, hb1⟩
  · obtain ⟨aa, ac, rfl, _⟩ := ha.slice
    obtain ⟨ba', bc, rfl, _⟩ := hb.slice
    obtain ⟨ca, cc, rfl, _⟩ := hc.slice
    have z1 : ((axs.length : Int) != 3) = true := by simp; omega
    have z2 : ¬ (axs.length : Int) = 3 := by omega
    clear ha hb hc
    go_enter Try.func5, Try.ntmps5
    go_wp2_with fail
    refine ka.mono ?_
    rintro e1 w1 ⟨rfl, hb1⟩
    clear ka
    go_wp2
    go_ret
    exact ⟨rfl, hb1⟩
end Go.Proofs.Ytgmhhfipniiboaa

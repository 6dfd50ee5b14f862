import Derived.Test.YtfcbkcoagoncoaaQf07
import Derived.Test.YtfcbkcoagoncoaaQf10
import Derived.Test.YtfcbkcoagoncoaaQf27
namespace Go.Proofs.Ytfcbkcoagoncoaa
open Go.RowKit Go.Proofs.Ytfcbkcoagoncoaa.Ds Go.Proofs.Ytfcbkcoagoncoaa.Crd

/-- crowd.spread -/
theorem spread_any (u d K : Int) (h1 : 1 ≤ K) (h2 : K ≤ 8) (hd0 : 0 ≤ d) (hd : d ≤ 1073741824) (hu0 : 0 ≤ u) (hu : u ≤ 1073741824) (w : World) :
    Calls Try.prog 25 #[rv u d, .int .i64 K] w fun e w' => e = .returned (.int .i64 (u + (K - 1) * d)) ∧ Below w.heap.size w w' := by
  have m1 : 0 ≤ (K - 1) * d := Int.mul_nonneg (by omega) (by omega)
  have m2 : (K - 1) * d ≤ 7 * 1073741824 := Int.mul_le_mul (by omega) (by omega) (by omega) (by omega)
  go_enter Try.func25, Try.ntmps25
  go_wp2
  go_ret
  exact ⟨rfl, ba _ _⟩
theorem powT_S {S : Int} {n : Nat} (h1 : 1 ≤ S) (h2 : S ≤ 1073741824) (hn : n ≤ 12) : (Rt.powT S 1 (n : Int)).2.2 = if 1073741824 < S ^ n then 4 else 0 := by
  have hr : Rt.rightB S 1 = true := by
    unfold Rt.rightB Rt.mx
    simp; omega
  unfold Rt.powT
  rw [if_pos hr, if_neg (by omega), Int.toNat_natCast]
  have e : Rt.mx = 1073741824 := rfl
  rw [e, Int.one_pow]
  by_cases c : 1073741824 < S ^ n
  · rw [if_pos (.inl c), if_pos c]
  · rw [if_neg (by omega), if_neg c]

set_option maxHeartbeats 4000000 in
set_option maxRecDepth 100000 in
/-- crowd.wrong -/
theorem wrong_any (B : Nat) (u d K : Int) (v : Value) (ts : List Int) (w : World) (hB : B ≤ w.heap.size) (hx : Num w B v ts) (e : Int) (he : peoE u d K ts = e) :
    Calls Try.prog 16 #[rv u d, .int .i64 K, v] w fun x w' => x = .returned (.int .i64 e) ∧ Below w.heap.size w w' := by
  have HN : Hid (Num w B v ts) := hx
  obtain ⟨va, vc, rfl, hvc, hvl, _⟩ := hx
  unfold peoE at he
  by_cases c1 : K < 1 ∨ 8 < K
  · rw [if_pos c1] at he
    subst he
    clear HN
    rcases c1 with c1 | c1
    · go_enter Try.func16, Try.ntmps16
      go_wp2
      go_ret
      exact ⟨rfl, ba _ _⟩
    · have c1' : ¬ K < 1 := by omega
      go_enter Try.func16, Try.ntmps16
      go_wp2
      go_ret
      exact ⟨rfl, ba _ _⟩
  rw [if_neg c1] at he
  have k1 : 1 ≤ K := by omega
  have k2 : K ≤ 8 := by omega
  clear c1
  by_cases c2 : 12 < ts.length
  · rw [if_pos c2] at he
    subst he
    have c2' : ((ts.length : Nat) : Int) > 12 := by omega
    clear HN
    go_enter Try.func16, Try.ntmps16
    go_wp2
    go_ret
    exact ⟨rfl, ba _ _⟩
  rw [if_neg c2] at he
  have c2' : ts.length ≤ 12 := by omega
  clear c2
  obtain ⟨l0, e0, hr0⟩ : ∃ l0 e0, resT u d K 0 = (l0, e0) := ⟨_, _, rfl⟩
  have kc := respond_fr u d K 0 l0 e0 hr0
  rw [hr0] at he
  by_cases c3 : e0 = 0
  · subst c3
    obtain ⟨a1, a2, a3, a4, a5⟩ := res_ok (by rw [hr0])
    obtain ⟨q1, q2, q3, q4⟩ := loss_ok a1
    simp only [ne_eq, not_true_eq_false, if_false] at he
    have HE : Hid ((if resE u d K ts ≠ 0 then resE u d K ts else if 1073741824 < (u + (K - 1) * d) ^ ts.length then 4 else 0) = e) := he
    have m1 : 0 ≤ (K - 1) * d := Int.mul_nonneg (by omega) (by omega)
    have HS : Hid (1 ≤ u + (K - 1) * d ∧ u + (K - 1) * d ≤ 1073741824) := ⟨by omega, a5⟩
    clear he hr0 a1 q1 a5 m1
    go_enter Try.func16, Try.ntmps16
    go_wp2_with fail
    refine (kc _).mono ?_
    rintro x w1 ⟨v1, us1, rfl, _, ho1, hb1, _⟩
    obtain ⟨b1, d1, rfl⟩ := ho1.slice
    have G1 := bt (ba _ _) hb1
    obtain ⟨hc1, hf1⟩ := bcell hb1
    have r1 : w1.cell? ⟨w.heap.size, 0, none⟩ = some (.int .i64 u) := by rw [hc1 _ _ (by simp)]; simp [go_sem]
    have r2 : w1.cell? ⟨w.heap.size, 1, none⟩ = some (.int .i64 d) := by rw [hc1 _ _ (by simp)]; simp [go_sem]
    have hz1 : w.heap.size < w1.heap.size := by have := hb1.size; simp at this; omega
    clear hc1 hf1 hb1 kc ho1
    go_wp2_with fail
    go_loopw [37] (fun s wr => ∃ i : Nat, s = .int .i64 (i : Int) ∧ i ≤ ts.length ∧ Hid (resE u d K ts = resE u d K (ts.drop i)) ∧ Below w1.heap.size w1 wr) (fun s _ => ts.length - (intOf s).toNat)
    case atStart => exact ⟨0, rfl, Nat.zero_le _, rfl, Below.refl _ _⟩
    case round =>
      obtain ⟨i, rfl, hit, HI, hbl⟩ := hrel
      have hbs := hbl.size
      have s1 : wr.cell? ⟨w.heap.size, 0, none⟩ = some (.int .i64 u) := (hbl.cell (p := ⟨w.heap.size, 0, none⟩) hz1).trans r1
      have s2 : wr.cell? ⟨w.heap.size, 1, none⟩ = some (.int .i64 d) := (hbl.cell (p := ⟨w.heap.size, 1, none⟩) hz1).trans r2
      have GB : Below w.heap.size w wr := bt G1 hbl
      by_cases h1 : i < ts.length
      · obtain ⟨b, o, c, x, hv, hc, hb, hxi, hcell⟩ := (HN.out.at hB GB).get h1
        simp only [Value.slice.injEq, true_and] at hv
        obtain ⟨rfl, rfl⟩ := hv
        obtain ⟨lx, ex, hrx⟩ : ∃ lx ex, resT u d K x = (lx, ex) := ⟨_, _, rfl⟩
        have kx := respond_fr u d K x lx ex hrx
        have HST : Hid (resE u d K (ts.drop i) = if ex ≠ 0 then ex else resE u d K (ts.drop (i + 1))) := by
          rw [Hid, List.drop_eq_getElem_cons h1, (List.getElem?_eq_some_iff.1 hxi).2, resE, hrx]
        clear hrx hxi
        go_wp2_with fail
        refine (kx _).mono ?_
        rintro y w2 ⟨v2, us2, rfl, _, ho2, hb2, _⟩
        obtain ⟨b2, d2, rfl⟩ := ho2.slice
        have hbl2 : Below w1.heap.size w1 w2 := bt hbl hb2
        have GB2 : Below w.heap.size w w2 := bt GB hb2
        clear ho2 kx hb2
        by_cases c4 : ex = 0
        · subst c4
          go_wp2
          go_roundw
          case rel => exact ⟨i + 1, by go_num, by omega, by rw [Hid, HI.out, HST.out]; simp, hbl2⟩
          case measure => simp [intOf]; omega
        · have c5 : (ex != 0) = true := by simpa using c4
          have hee : e = ex := by
            have h3 := HE.out
            rw [HI.out, HST.out, if_pos c4, if_pos c4] at h3
            exact h3.symm
          subst hee
          go_wp2
          go_ret
          exact ⟨rfl, GB2⟩
      · obtain rfl : i = ts.length := by omega
        have hz : resE u d K ts = 0 := by rw [HI.out, List.drop_length]; rfl
        have hee : e = if 1073741824 < (u + (K - 1) * d) ^ ts.length then 4 else 0 := by
          have h3 := HE.out
          rw [hz] at h3
          simp only [ne_eq, not_true_eq_false, if_false] at h3
          exact h3.symm
        have ks := spread_any u d K k1 k2 (by omega) (by omega) (by omega) (by omega)
        obtain ⟨S, hS⟩ : ∃ S, u + (K - 1) * d = S := ⟨_, rfl⟩
        have hS1 : 1 ≤ S ∧ S ≤ 1073741824 := by rw [← hS]; exact HS.out
        rw [hS] at hee ks
        rw [← powT_S hS1.1 hS1.2 c2'] at hee
        obtain ⟨p, q, e', hp⟩ : ∃ p q e', Rt.powT S 1 (ts.length : Int) = (p, q, e') := ⟨_, _, _, rfl⟩
        have kp := power_any S 1 (ts.length : Int) p q e' hp
        rw [hp] at hee
        obtain rfl : e = e' := hee
        clear hp hz HE HS HI hS
        go_wp2_with fail
        refine (ks _).mono ?_
        rintro y w2 ⟨rfl, hb2⟩
        have GB2 : Below w.heap.size w w2 := bt GB hb2
        clear hb2 ks
        go_wp2_with fail
        refine (kp _).mono ?_
        rintro y w3 ⟨rfl, hb3⟩
        have GB3 : Below w.heap.size w w3 := bt GB2 hb3
        clear hb3 kp
        go_wp2
        go_ret
        exact ⟨rfl, bal GB3 _⟩
  · have c4 : (e0 != 0) = true := by simpa using c3
    rw [if_pos c3] at he
    obtain rfl : e0 = e := he
    clear hr0 HN
    go_enter Try.func16, Try.ntmps16
    go_wp2_with fail
    refine (kc _).mono ?_
    rintro x w1 ⟨v1, us1, rfl, _, ho1, hb1, _⟩
    obtain ⟨b1, d1, rfl⟩ := ho1.slice
    have G1 := bt (ba _ _) hb1
    clear ho1 hb1 kc
    go_wp2
    go_ret
    exact ⟨rfl, G1⟩
end Go.Proofs.Ytfcbkcoagoncoaa

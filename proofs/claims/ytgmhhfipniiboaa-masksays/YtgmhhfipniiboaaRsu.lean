import Derived.Test.YtgmhhfipniiboaaRmk
namespace Go.Proofs.Ytgmhhfipniiboaa
open Go.RowKit

theorem su_bad' {er r z q : Int} {e : Int} (h1 : e = er) (h2 : (if er = 0 then z else 0) = r) (h3 : e = q) (hq : q ≠ 0) : q = er ∧ 0 = r := by
  subst h1
  rw [if_neg (by rw [h3]; exact hq)] at h2
  exact ⟨h3.symm, h2⟩
theorem md_up (a s c m : Int) : ((a - c) % m + s) % m = (a - (c - s)) % m := by rw [md_add]; congr 1; omega
theorem md_dn (a s c m : Int) : ((a - c) % m - s) % m = (a - (c + s)) % m := by rw [md_sub]; congr 1; omega
set_option maxRecDepth 100000 in
set_option maxHeartbeats 4000000 in
theorem rsum_any (m : Int) (B : Nat) (mv tv sv : Value) (xs : List Int) (ts : List Bool) (rs : List Rw) (W : World) (hx : Num W B mv xs) (ht : Bls W B tv ts) (hs : Rws W B sv rs) (er r : Int) (he : smE m xs ts (rr rs) = er) (hr : smN m xs ts (rr rs) = r) :
    Calls Try.prog 9 #[.int .i64 m, mv, tv, sv] W fun e W' => e = .returned (.tuple #[.int .i64 r, .int .i64 er]) ∧ W' = W := by
  have HN : Hid (Num W B mv xs) := hx
  have HT : Hid (Bls W B tv ts) := ht
  have HS : Hid (Rws W B sv rs) := hs
  obtain ⟨t, htm⟩ : ∃ t, tmE m xs.length = t := ⟨_, rfl⟩
  have kt := team_any m xs.length t htm W
  obtain ⟨a, c, rfl, hc, hl⟩ := hx.slice
  obtain ⟨ta, tc, rfl, htc, htl⟩ := ht.slice
  obtain ⟨sa, sc, rfl, hsc, hsl⟩ := hs.slice
  rw [smN, he] at hr
  rw [smE, htm, rr_len] at he
  have h3 := tmE_cases' m xs.length
  rw [htm] at h3
  have HM : Hid (tmE m xs.length = t) := htm
  clear htm hs hx ht
  rcases h3 with rfl | rfl | rfl
  · obtain rfl : 3 = er := he
    obtain rfl : 0 = r := hr
    go_enter Try.func9, Try.ntmps9
    go_wp2_with fail
    refine kt.mono ?_
    rintro e1 w1 ⟨rfl, rfl⟩
    clear kt
    go_wp2
    go_ret2
    exact ⟨rfl, rfl⟩
  · obtain rfl : 5 = er := he
    obtain rfl : 0 = r := hr
    go_enter Try.func9, Try.ntmps9
    go_wp2_with fail
    refine kt.mono ?_
    rintro e1 w1 ⟨rfl, rfl⟩
    clear kt
    go_wp2
    go_ret2
    exact ⟨rfl, rfl⟩
  · obtain ⟨hm, hm2, hn, hn2⟩ := tmE_ok HM.out
    rw [if_pos rfl] at he
    by_cases d1 : ts.length = xs.length
    · by_cases d2 : rs.length = xs.length
      · rw [if_pos ⟨d1, d2⟩] at he
        have HE : Hid (erS m xs ts (rr rs) xs.length = er) := he
        have HR : Hid ((if er = 0 then suS xs ts (rr rs) xs.length % m else 0) = r) := hr
        have z1 : ((ts.length : Int) != (xs.length : Int)) = false := by simp; omega
        have z2 : ((rs.length : Int) != (xs.length : Int)) = false := by simp; omega
        have HD1 : Hid (ts.length = xs.length ∧ rs.length = xs.length) := ⟨d1, d2⟩
        clear he hr d1 d2
        go_enter Try.func9, Try.ntmps9
        go_wp2_with fail
        refine kt.mono ?_
        rintro e1 w1 ⟨rfl, hw1⟩
        have hwy := hw1.symm
        subst hwy
        clear kt hw1
        go_wp2_with fail
        go_loopw [11, 35] (fun nv iv wr => ∃ (k : Nat) (s : Int), iv = .int .i64 (k : Int) ∧ nv = .int .i64 s ∧ k ≤ xs.length ∧ 0 ≤ s ∧ s < m ∧ Hid (erS m xs ts (rr rs) k = 0) ∧ Hid (suS xs ts (rr rs) k % m = s) ∧ wr = W) (fun _ iv _ => xs.length - (intOf iv).toNat)
        case atStart => exact ⟨0, 0, rfl, rfl, Nat.zero_le _, by omega, by omega, rfl, by rw [Hid]; exact Int.zero_emod m, rfl⟩
        case round =>
          obtain ⟨i, s, rfl, rfl, hi, hs0, hs1, HK, HSU, hwr⟩ := hrel
          have hwy := hwr.symm
          subst hwy
          clear hwr
          by_cases h1 : i < xs.length
          · obtain ⟨b', o, c', x, e1, _, _, hxx, hcx⟩ := HN.out.get h1
            simp only [Value.slice.injEq] at e1
            obtain ⟨rfl, -, rfl⟩ := e1
            obtain ⟨b2, o2, c2, th, e1, _, _, htt, hct⟩ := HT.out.get (i := i) (by rw [HD1.out.1]; exact h1)
            simp only [Value.slice.injEq] at e1
            obtain ⟨rfl, -, rfl⟩ := e1
            obtain ⟨b3, o3, c3, ra, rc, row, e1, _, hrr, hrl, hcr, hrow⟩ := HS.out.get (i := i) (by rw [HD1.out.2]; exact h1)
            simp only [Value.slice.injEq] at e1
            obtain ⟨rfl, -, rfl⟩ := e1
            have z3 : (i : Int) < (xs.length : Int) := by omega
            have z4 : (i : Int) < (ts.length : Int) := by rw [HD1.out.1]; exact z3
            have z5 : (i : Int) < (rs.length : Int) := by rw [HD1.out.2]; exact z3
            have HX : Hid (gx xs i = x) := gx_get hxx
            have HTK : Hid (gb ts i = th) := gb_get htt
            have HRW : Hid (gl (rr rs) i = row) := gl_get (rr_get hrr)
            have HNR : Hid (Num W B (.slice ra row.length rc) row) := hrow
            clear hxx htt hrr hrow
            cases th with
            | false =>
              have HK2 : Hid (erS m xs ts (rr rs) (i + 1) = 0) := erS_next HK.out (by rw [erI, HTK.out]; rfl)
              have HSU2 : Hid (suS xs ts (rr rs) (i + 1) % m = s) := by rw [Hid, suS_succ, suI, HTK.out, ← HSU.out]; simp
              go_wp2
              go_roundw
              case rel => exact ⟨i + 1, s, by go_num, rfl, h1, hs0, hs1, HK2, HSU2, by first | rfl | trivial⟩
              case measure => simp [intOf]; omega
            | true =>
              by_cases e8 : row.length = xs.length
              · have HI0 : Hid (erI m xs ts (rr rs) i = if inM m x = true then (if bad m (away ts) row xs.length = true then 3 else 0) else 3) := by rw [Hid, erI, HTK.out, HRW.out, HX.out, if_pos rfl, if_pos e8]
                have z6 : ((row.length : Int) != (xs.length : Int)) = false := by simp; omega
                have HE8 : Hid (row.length = xs.length) := e8
                clear e8
                by_cases f1 : x < 0
                · have HI : Hid (erI m xs ts (rr rs) i = 3) := by rw [Hid, HI0.out, if_neg (by simp [inM]; omega)]
                  have HD : Hid (3 = er ∧ 0 = r) := su_bad' HE.out HR.out (erS_hit HK.out HI.out (by decide) h1) (by decide)
                  obtain ⟨rfl, rfl⟩ := HD.out
                  go_wp2
                  go_ret2
                  exact ⟨rfl, rfl⟩
                by_cases f2 : x ≥ m
                · have HI : Hid (erI m xs ts (rr rs) i = 3) := by rw [Hid, HI0.out, if_neg (by simp [inM]; omega)]
                  have HD : Hid (3 = er ∧ 0 = r) := su_bad' HE.out HR.out (erS_hit HK.out HI.out (by decide) h1) (by decide)
                  obtain ⟨rfl, rfl⟩ := HD.out
                  go_wp2
                  go_ret2
                  exact ⟨rfl, rfl⟩
                have HI1 : Hid (erI m xs ts (rr rs) i = if bad m (away ts) row xs.length = true then 3 else 0) := by rw [Hid, HI0.out, if_pos (inM_iff.2 (by omega))]
                obtain ⟨t, ht⟩ : ∃ t, (s + x) % m = t := ⟨_, rfl⟩
                have km := mod_any (s + x) m hm hm2 t ht W
                obtain ⟨ht0, ht1⟩ := md_in m (s + x) hm
                rw [ht] at ht0 ht1
                obtain ⟨A, hA⟩ : ∃ A, suS xs ts (rr rs) i + x = A := ⟨_, rfl⟩
                have HA : Hid (suS xs ts (rr rs) i + x = A) := hA
                have HT1 : Hid (A % m = t) := by rw [Hid, ← hA, ← ht, ← HSU.out, md_add]
                clear HI0 hA ht
                go_wp2_with fail
                refine km.mono ?_
                rintro e1 w1 ⟨rfl, hw1⟩
                have hwy := hw1.symm
                subst hwy
                clear km hw1
                go_wp2_with fail
                go_loopw [11, 74] (fun nv iv wr => ∃ (k : Nat) (y : Int), iv = .int .i64 (k : Int) ∧ nv = .int .i64 y ∧ k ≤ xs.length ∧ 0 ≤ y ∧ y < m ∧ Hid (bad m (away ts) row k = false) ∧ Hid ((A - cov i (away ts) row k) % m = y) ∧ wr = W) (fun _ iv _ => xs.length - (intOf iv).toNat)
                case atStart => exact ⟨0, t, rfl, rfl, Nat.zero_le _, ht0, ht1, rfl, by rw [Hid, cov, sumZ, Int.sub_zero]; exact HT1.out, rfl⟩
                case round =>
                  obtain ⟨k, y, rfl, rfl, hk, hy0, hy1, HB, HY, hwr⟩ := hrel
                  have hwy := hwr.symm
                  subst hwy
                  clear hwr
                  by_cases h2 : k < xs.length
                  · obtain ⟨b4, o4, c4, tk, e1, _, _, htt, hctk⟩ := HT.out.get (i := k) (by rw [HD1.out.1]; exact h2)
                    simp only [Value.slice.injEq, Option.some.injEq, Addr.mk.injEq, and_true] at e1
                    obtain ⟨⟨rfl, rfl⟩, -, -⟩ := e1
                    obtain ⟨b5, o5, c5, y5, e1, _, _, hyy, hcy⟩ := HNR.out.get (i := k) (by rw [HE8.out]; exact h2)
                    simp only [Value.slice.injEq] at e1
                    obtain ⟨rfl, -, rfl⟩ := e1
                    have w3 : (k : Int) < (xs.length : Int) := by omega
                    have w4 : (k : Int) < (ts.length : Int) := by rw [HD1.out.1]; exact w3
                    have w5 : (k : Int) < (row.length : Int) := by rw [HE8.out]; exact w3
                    have HYK : Hid (gx row k = y5) := gx_get hyy
                    have HTT : Hid (gb ts k = tk) := gb_get htt
                    clear htt hyy
                    by_cases g1 : k = i
                    · subst g1
                      have HW : Hid (away ts k = false) := by rw [Hid, away, HTK.out]; rfl
                      have HB2 : Hid (bad m (away ts) row (k + 1) = false) := by rw [Hid, bad, HB.out, HW.out]; rfl
                      have HY2 : Hid ((A - cov k (away ts) row (k + 1)) % m = y) := by rw [Hid, cov_succ, HW.out]; simpa using HY.out
                      go_wp2
                      go_roundw
                      case rel => exact ⟨k + 1, y, by go_num, rfl, h2, hy0, hy1, HB2, HY2, by first | rfl | trivial⟩
                      case measure => simp [intOf]; omega
                    · have g2 : ((k : Int) == (i : Int)) = false := by simp; omega
                      have g3 : ¬ (k : Int) = (i : Int) := by omega
                      cases tk with
                      | true =>
                        have HW : Hid (away ts k = false) := by rw [Hid, away, HTT.out]; rfl
                        have HB2 : Hid (bad m (away ts) row (k + 1) = false) := by rw [Hid, bad, HB.out, HW.out]; rfl
                        have HY2 : Hid ((A - cov i (away ts) row (k + 1)) % m = y) := by rw [Hid, cov_succ, HW.out]; simpa using HY.out
                        go_wp2
                        go_roundw
                        case rel => exact ⟨k + 1, y, by go_num, rfl, h2, hy0, hy1, HB2, HY2, by first | rfl | trivial⟩
                        case measure => simp [intOf]; omega
                      | false =>
                        have HW : Hid (away ts k = true) := by rw [Hid, away, HTT.out]; rfl
                        by_cases f3 : y5 < 0
                        · have HF : Hid (bad m (away ts) row xs.length = true) := bad_hit h2 HW.out (by rw [HYK.out]; simp [inM]; omega)
                          have HI : Hid (erI m xs ts (rr rs) i = 3) := by rw [Hid, HI1.out, if_pos HF.out]
                          have HD : Hid (3 = er ∧ 0 = r) := su_bad' HE.out HR.out (erS_hit HK.out HI.out (by decide) h1) (by decide)
                          obtain ⟨rfl, rfl⟩ := HD.out
                          go_wp2
                          go_ret2
                          exact ⟨rfl, rfl⟩
                        by_cases f4 : y5 ≥ m
                        · have HF : Hid (bad m (away ts) row xs.length = true) := bad_hit h2 HW.out (by rw [HYK.out]; simp [inM]; omega)
                          have HI : Hid (erI m xs ts (rr rs) i = 3) := by rw [Hid, HI1.out, if_pos HF.out]
                          have HD : Hid (3 = er ∧ 0 = r) := su_bad' HE.out HR.out (erS_hit HK.out HI.out (by decide) h1) (by decide)
                          obtain ⟨rfl, rfl⟩ := HD.out
                          go_wp2
                          go_ret2
                          exact ⟨rfl, rfl⟩
                        have HB2 : Hid (bad m (away ts) row (k + 1) = false) := by rw [Hid, bad, HB.out, HW.out, HYK.out, inM_iff.2 (by omega)]; rfl
                        by_cases g4 : k < i
                        · have g5 : (k : Int) < (i : Int) := by omega
                          obtain ⟨t2, ht2⟩ : ∃ t2, (y + y5) % m = t2 := ⟨_, rfl⟩
                          have km := mod_any (y + y5) m hm hm2 t2 ht2 W
                          obtain ⟨ht20, ht21⟩ := md_in m (y + y5) hm
                          rw [ht2] at ht20 ht21
                          have HY2 : Hid ((A - cov i (away ts) row (k + 1)) % m = t2) := by
                            rw [Hid, cov_succ, HW.out, HYK.out, if_pos rfl, sg, if_neg (by omega), if_pos g4, ← ht2, ← HY.out, md_up, Int.sub_eq_add_neg (a := cov i (away ts) row k)]
                          clear ht2
                          go_wp2_with fail
                          refine km.mono ?_
                          rintro e1 w1 ⟨rfl, hw1⟩
                          have hwy := hw1.symm
                          subst hwy
                          clear km hw1
                          go_wp2
                          go_roundw
                          case rel => exact ⟨k + 1, t2, by go_num, rfl, h2, ht20, ht21, HB2, HY2, by first | rfl | trivial⟩
                          case measure => simp [intOf]; omega
                        · have g5 : ¬ (k : Int) < (i : Int) := by omega
                          obtain ⟨t2, ht2⟩ : ∃ t2, (y - y5) % m = t2 := ⟨_, rfl⟩
                          have km := mod_any (y - y5) m hm hm2 t2 ht2 W
                          obtain ⟨ht20, ht21⟩ := md_in m (y - y5) hm
                          rw [ht2] at ht20 ht21
                          have HY2 : Hid ((A - cov i (away ts) row (k + 1)) % m = t2) := by
                            rw [Hid, cov_succ, HW.out, HYK.out, if_pos rfl, sg, if_pos (by omega), ← ht2, ← HY.out, md_dn]
                          clear ht2
                          go_wp2_with fail
                          refine km.mono ?_
                          rintro e1 w1 ⟨rfl, hw1⟩
                          have hwy := hw1.symm
                          subst hwy
                          clear km hw1
                          go_wp2
                          go_roundw
                          case rel => exact ⟨k + 1, t2, by go_num, rfl, h2, ht20, ht21, HB2, HY2, by first | rfl | trivial⟩
                          case measure => simp [intOf]; omega
                  · obtain rfl : k = xs.length := by omega
                    have w3 : ¬ (xs.length : Int) < (xs.length : Int) := by omega
                    have HI : Hid (erI m xs ts (rr rs) i = 0) := by rw [Hid, HI1.out, HB.out]; rfl
                    have HK2 : Hid (erS m xs ts (rr rs) (i + 1) = 0) := erS_next HK.out HI.out
                    have HSU2 : Hid (suS xs ts (rr rs) (i + 1) % m = y) := by
                      rw [Hid, suS_succ, suI, HTK.out, HRW.out, HX.out, if_pos rfl, ← HY.out, ← HA.out]
                      congr 1; omega
                    go_wp2
                    go_roundw
                    case rel => exact ⟨i + 1, y, by go_num, rfl, h1, hy0, hy1, HK2, HSU2, by first | rfl | trivial⟩
                    case measure => simp [intOf]; omega
              · have HI : Hid (erI m xs ts (rr rs) i = 8) := by rw [Hid, erI, HTK.out, HRW.out, if_pos rfl, if_neg e8]
                have HD : Hid (8 = er ∧ 0 = r) := su_bad' HE.out HR.out (erS_hit HK.out HI.out (by decide) h1) (by decide)
                obtain ⟨rfl, rfl⟩ := HD.out
                have z6 : ((row.length : Int) != (xs.length : Int)) = true := by simp; omega
                have z7 : ¬ (row.length : Int) = (xs.length : Int) := by omega
                clear e8
                go_wp2
                go_ret2
                exact ⟨rfl, rfl⟩
          · obtain rfl : i = xs.length := by omega
            have z3 : ¬ (xs.length : Int) < (xs.length : Int) := by omega
            have H3 : Hid (0 = er ∧ s = r) := by
              have h := HE.out
              rw [HK.out] at h
              refine ⟨h, ?_⟩
              have h2 := HR.out
              rw [← h, if_pos rfl, HSU.out] at h2
              exact h2
            obtain ⟨rfl, rfl⟩ := H3.out
            go_wp2
            go_ret2
            exact ⟨rfl, rfl⟩
      · rw [if_neg (by omega)] at he
        obtain rfl : 8 = er := he
        obtain rfl : 0 = r := hr
        have z1 : ((ts.length : Int) != (xs.length : Int)) = false := by simp; omega
        have z2 : ((rs.length : Int) != (xs.length : Int)) = true := by simp; omega
        have z4 : ¬ (rs.length : Int) = (xs.length : Int) := by omega
        clear d1 d2
        go_enter Try.func9, Try.ntmps9
        go_wp2_with fail
        refine kt.mono ?_
        rintro e1 w1 ⟨rfl, rfl⟩
        clear kt
        go_wp2
        go_ret2
        exact ⟨rfl, rfl⟩
    · rw [if_neg (by omega)] at he
      obtain rfl : 8 = er := he
      obtain rfl : 0 = r := hr
      have z1 : ((ts.length : Int) != (xs.length : Int)) = true := by simp; omega
      have z3 : ¬ (ts.length : Int) = (xs.length : Int) := by omega
      go_enter Try.func9, Try.ntmps9
      go_wp2_with fail
      refine kt.mono ?_
      rintro e1 w1 ⟨rfl, rfl⟩
      clear kt
      go_wp2
      go_ret2
      exact ⟨rfl, rfl⟩
end Go.Proofs.Ytgmhhfipniiboaa

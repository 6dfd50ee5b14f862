import Derived.Test.YtgmhhfipniiboaaCov
namespace Go.Proofs.Ytgmhhfipniiboaa
open Go.RowKit

theorem tmE_cases2 (m n : Int) : tmE m n = 3 ∨ tmE m n = 5 ∨ tmE m n = 0 := by
  unfold tmE
  split
  · exact .inl rfl
  · split
    · exact .inr (.inl rfl)
    · exact .inr (.inr rfl)
theorem md_in2 (m s : Int) (hm : 2 ≤ m) : 0 ≤ s % m ∧ s % m < m := ⟨Int.emod_nonneg _ (by omega), Int.emod_lt_of_pos _ (by omega)⟩
theorem md_fin (S x c m : Int) : (S % m + (x - c % m) % m) % m = (S + (x - c)) % m := by
  rw [md_add', md_add, show S + (x - c % m) = (S + x) - c % m by omega, md_sub', show S + x - c = S + (x - c) by omega]
/-- what is told where something is wrong with a member -/
theorem su_bad {er r z q : Int} {e : Int} (h1 : e = er) (h2 : (if er = 0 then z else 0) = r) (h3 : e = q) (hq : q ≠ 0) : q = er ∧ 0 = r := by
  subst h1
  rw [if_neg (by rw [h3]; exact hq)] at h2
  exact ⟨h3.symm, h2⟩
set_option maxRecDepth 100000 in
set_option maxHeartbeats 2000000 in
theorem sum_any (m : Int) (B : Nat) (mv tv sv : Value) (xs : List Int) (ts : List Bool) (rs : List Rw) (W : World) (hB : B ≤ W.heap.size) (hx : Num W B mv xs) (ht : Bls W B tv ts) (hs : Rws W B sv rs) (er r : Int) (he : smE m xs ts (rr rs) = er) (hr : smN m xs ts (rr rs) = r) :
    Calls Try.prog 8 #[.int .i64 m, mv, tv, sv] W fun e W' => e = .returned (.tuple #[.int .i64 r, .int .i64 er]) ∧ Below W.heap.size W W' := by
  obtain ⟨X, hX⟩ : ∃ X, W.alloc (.cells #[tv] 23) = X := ⟨_, rfl⟩
  have bX : Below W.heap.size W X := by rw [← hX]; exact ba _ _
  have cX : X.cell? ⟨W.heap.size, 0, none⟩ = some tv := by rw [← hX]; exact nc _ _ 0 _ rfl rfl
  have HN : Hid (Num X B mv xs) := hx.at hB bX
  have HT : Hid (Thr X B W.heap.size tv ts) := ⟨cX, ht.at hB bX⟩
  have HS : Hid (Rws X B sv rs) := hs.at hB bX
  obtain ⟨t, htm⟩ : ∃ t, tmE m xs.length = t := ⟨_, rfl⟩
  have kt := wrong_any m xs.length t htm X
  obtain ⟨a, c, rfl, hc, hl, _⟩ := hx
  obtain ⟨ta, tc, rfl, htc, htl, _⟩ := ht
  obtain ⟨sa, sc, rfl, hsc, hsl⟩ := hs.slice
  rw [smN, he] at hr
  rw [smE, htm, rr_len] at he
  have h3 := tmE_cases2 m xs.length
  rw [htm] at h3
  have HM : Hid (tmE m xs.length = t) := htm
  clear htm hs
  rcases h3 with rfl | rfl | rfl
  · obtain rfl : 3 = er := he
    obtain rfl : 0 = r := hr
    go_enter Try.func8, Try.ntmps8
    go_wp2_with fail
    refine kt.mono ?_
    rintro e1 w1 ⟨rfl, rfl⟩
    clear kt
    go_wp2
    go_ret2
    exact ⟨rfl, bX⟩
  · obtain rfl : 5 = er := he
    obtain rfl : 0 = r := hr
    go_enter Try.func8, Try.ntmps8
    go_wp2_with fail
    refine kt.mono ?_
    rintro e1 w1 ⟨rfl, rfl⟩
    clear kt
    go_wp2
    go_ret2
    exact ⟨rfl, bX⟩
  · obtain ⟨hm, hm2, hn, hn2⟩ := tmE_ok HM.out
    rw [if_pos rfl] at he
    by_cases d1 : ts.length = xs.length
    · by_cases d2 : rs.length = xs.length
      · rw [if_pos ⟨d1, d2⟩] at he
        have HE : Hid (erS m xs ts (rr rs) xs.length = er) := he
        have HR : Hid ((if er = 0 then suS xs ts (rr rs) xs.length % m else 0) = r) := hr
        have z1 : ((ts.length : Int) != (xs.length : Int)) = false := by simp; omega
        have z2 : ((rs.length : Int) != (xs.length : Int)) = false := by simp; omega
        have HD1 : Hid (ts.length = xs.length ∧ rs.length = xs.length) := ⟨d1, d2⟩
        clear he hr d1 d2
        go_enter Try.func8, Try.ntmps8
        go_wp2_with fail
        refine kt.mono ?_
        rintro e1 w1 ⟨rfl, hw1⟩
        have hwy := hw1.symm
        subst hwy
        clear kt hw1 hX
        go_wp2_with fail
        go_loopw [12, 38] (fun nv iv wr => ∃ (k : Nat) (s : Int), iv = .int .i64 (k : Int) ∧ nv = .int .i64 s ∧ k ≤ xs.length ∧ 0 ≤ s ∧ s < m ∧ Hid (erS m xs ts (rr rs) k = 0) ∧ Hid (suS xs ts (rr rs) k % m = s) ∧ wr = X) (fun _ iv _ => xs.length - (intOf iv).toNat)
        case atStart => exact ⟨0, 0, rfl, rfl, Nat.zero_le _, by omega, by omega, rfl, by rw [Hid]; exact Int.zero_emod m, rfl⟩
        case round =>
          obtain ⟨k, s, rfl, rfl, hk, hs0, hs1, HK, HSU, hwr⟩ := hrel
          have hwy := hwr.symm
          subst hwy
          clear hwr
          by_cases h1 : k < xs.length
          · obtain ⟨b', o, c', x, e1, _, _, hxx, hcx⟩ := HN.out.get h1
            simp only [Value.slice.injEq] at e1
            obtain ⟨rfl, -, rfl⟩ := e1
            obtain ⟨b2, o2, c2, th, e1, _, _, htt, hct⟩ := HT.out.is.get (i := k) (by rw [HD1.out.1]; exact h1)
            simp only [Value.slice.injEq] at e1
            obtain ⟨rfl, -, rfl⟩ := e1
            obtain ⟨b3, o3, c3, ra, rc, row, e1, _, hrr, hrl, hcr, hrow⟩ := HS.out.get (i := k) (by rw [HD1.out.2]; exact h1)
            simp only [Value.slice.injEq] at e1
            obtain ⟨rfl, -, rfl⟩ := e1
            have z3 : (k : Int) < (xs.length : Int) := by omega
            have z4 : (k : Int) < (ts.length : Int) := by rw [HD1.out.1]; exact z3
            have z5 : (k : Int) < (rs.length : Int) := by rw [HD1.out.2]; exact z3
            have HX : Hid (gx xs k = x) := gx_get hxx
            have HTK : Hid (gb ts k = th) := gb_get htt
            have HRW : Hid (gl (rr rs) k = row) := gl_get (rr_get hrr)
            have HNR : Hid (Num X B (.slice ra row.length rc) row) := hrow
            clear hxx htt hrr hrow
            cases th with
            | false =>
              have HK2 : Hid (erS m xs ts (rr rs) (k + 1) = 0) := erS_next HK.out (by rw [erI, HTK.out]; rfl)
              have HSU2 : Hid (suS xs ts (rr rs) (k + 1) % m = s) := by rw [Hid, suS_succ, suI, HTK.out, ← HSU.out]; simp
              go_wp2
              go_roundw
              case rel => exact ⟨k + 1, s, by go_num, rfl, h1, hs0, hs1, HK2, HSU2, by first | rfl | trivial⟩
              case measure => simp [intOf]; omega
            | true =>
              obtain ⟨u, hu⟩ : ∃ u, unE m xs.length x row.length = u := ⟨_, rfl⟩
              have ku := unfit_any m xs.length x ra row.length rc u hu X
              by_cases e8 : row.length = xs.length
              · obtain ⟨i, hi⟩ : ∃ i, inM m x = i := ⟨_, rfl⟩
                rw [unE, if_pos (by omega), hi] at hu
                cases i with
                | false =>
                  obtain rfl : 3 = u := hu
                  have HI : Hid (erI m xs ts (rr rs) k = 3) := by rw [Hid, erI, HTK.out, HRW.out, HX.out, hi, if_pos rfl, if_pos e8]; rfl
                  have HD : Hid (3 = er ∧ 0 = r) := su_bad HE.out HR.out (erS_hit HK.out HI.out (by decide) h1) (by decide)
                  obtain ⟨rfl, rfl⟩ := HD.out
                  clear hi e8
                  go_wp2_with fail
                  refine ku.mono ?_
                  rintro e1 w1 ⟨rfl, hw1⟩
                  have hwy := hw1.symm
                  subst hwy
                  clear ku hw1
                  go_wp2
                  go_ret2
                  exact ⟨rfl, bX⟩
                | true =>
                  obtain rfl : 0 = u := hu
                  obtain ⟨hx0, hx1⟩ := inM_iff.1 hi
                  obtain ⟨q, hq⟩ : ∃ q, bad m (away ts) row row.length = q := ⟨_, rfl⟩
                  obtain ⟨cv, hcv⟩ : ∃ cv, (if q = true then 0 else cov k (away ts) row row.length % m) = cv := ⟨_, rfl⟩
                  have kc := covAway_any m k B (.slice ra row.length rc) row hm hm2 (by omega) (by omega) X HNR.out W.heap.size _ ts HT.out (by rw [HD1.out.1, e8]) q hq cv hcv _ rfl
                  cases q with
                  | true =>
                    obtain rfl : 0 = cv := hcv
                    rw [if_pos rfl] at kc
                    have HI : Hid (erI m xs ts (rr rs) k = 3) := by rw [Hid, erI, HTK.out, HRW.out, HX.out, hi, if_pos rfl, if_pos e8, if_pos rfl, ← e8, hq]; rfl
                    have HD : Hid (3 = er ∧ 0 = r) := su_bad HE.out HR.out (erS_hit HK.out HI.out (by decide) h1) (by decide)
                    obtain ⟨rfl, rfl⟩ := HD.out
                    clear hi e8 hq
                    go_wp2_with fail
                    refine ku.mono ?_
                    rintro e1 w1 ⟨rfl, hw1⟩
                    have hwy := hw1.symm
                    subst hwy
                    clear ku hw1
                    go_wp2_with fail
                    refine kc.mono ?_
                    rintro e1 w1 ⟨rfl, hw1⟩
                    have hwy := hw1.symm
                    subst hwy
                    clear kc hw1
                    go_wp2
                    go_ret2
                    exact ⟨rfl, bX⟩
                  | false =>
                    rw [if_neg (by decide)] at kc hcv
                    obtain ⟨hc0, hc1⟩ := md_in2 m (cov k (away ts) row row.length) hm
                    rw [hcv] at hc0 hc1
                    obtain ⟨d, hd⟩ : ∃ d, (x - cv) % m = d := ⟨_, rfl⟩
                    have kd := minus_any m x cv hm hm2 hx0 hx1 hc0 hc1 d hd X
                    obtain ⟨hd0, hd1⟩ := md_in2 m (x - cv) hm
                    rw [hd] at hd0 hd1
                    obtain ⟨t, ht⟩ : ∃ t, (s + d) % m = t := ⟨_, rfl⟩
                    have kp := plus_any m s d hm hm2 hs0 hs1 hd0 hd1 t ht X
                    obtain ⟨ht0, ht1⟩ := md_in2 m (s + d) hm
                    rw [ht] at ht0 ht1
                    have HI : Hid (erI m xs ts (rr rs) k = 0) := by rw [Hid, erI, HTK.out, HRW.out, HX.out, hi, if_pos rfl, if_pos e8, if_pos rfl, ← e8, hq]; rfl
                    have HK2 : Hid (erS m xs ts (rr rs) (k + 1) = 0) := erS_next HK.out HI.out
                    have HSU2 : Hid (suS xs ts (rr rs) (k + 1) % m = t) := by
                      rw [Hid, suS_succ, suI, HTK.out, HRW.out, HX.out, if_pos rfl, ← e8, ← ht, ← hd, ← hcv, ← HSU.out, md_fin]
                    clear hi e8 hq hcv hd ht HI
                    go_wp2_with fail
                    refine ku.mono ?_
                    rintro e1 w1 ⟨rfl, hw1⟩
                    have hwy := hw1.symm
                    subst hwy
                    clear ku hw1
                    go_wp2_with fail
                    refine kc.mono ?_
                    rintro e1 w1 ⟨rfl, hw1⟩
                    have hwy := hw1.symm
                    subst hwy
                    clear kc hw1
                    go_wp2_with fail
                    refine kd.mono ?_
                    rintro e1 w1 ⟨rfl, hw1⟩
                    have hwy := hw1.symm
                    subst hwy
                    clear kd hw1
                    go_wp2_with fail
                    refine kp.mono ?_
                    rintro e1 w1 ⟨rfl, hw1⟩
                    have hwy := hw1.symm
                    subst hwy
                    clear kp hw1
                    go_wp2
                    go_roundw
                    case rel => exact ⟨k + 1, t, by go_num, rfl, h1, ht0, ht1, HK2, HSU2, by first | rfl | trivial⟩
                    case measure => simp [intOf]; omega
              · rw [unE, if_neg (by omega)] at hu
                obtain rfl : 8 = u := hu
                have HI : Hid (erI m xs ts (rr rs) k = 8) := by rw [Hid, erI, HTK.out, HRW.out, if_pos rfl, if_neg e8]
                have HD : Hid (8 = er ∧ 0 = r) := su_bad HE.out HR.out (erS_hit HK.out HI.out (by decide) h1) (by decide)
                obtain ⟨rfl, rfl⟩ := HD.out
                clear e8
                go_wp2_with fail
                refine ku.mono ?_
                rintro e1 w1 ⟨rfl, hw1⟩
                have hwy := hw1.symm
                subst hwy
                clear ku hw1
                go_wp2
                go_ret2
                exact ⟨rfl, bX⟩
          · obtain rfl : k = xs.length := by omega
            have z3 : ¬ (xs.length : Int) < (xs.length : Int) := by omega
            have H3 : Hid (0 = er ∧ s = r) := by
              have h := HE.out
              rw [HK.out] at h
              refine ⟨h, ?_⟩
              have h2 := HR.out
              rw [← h, if_pos rfl, HSU.out] at h2
              exact h2
            obtain ⟨rfl, rfl⟩ := H3.out
            go_wp2
            go_ret2
            exact ⟨rfl, bX⟩
      · rw [if_neg (by omega)] at he
        obtain rfl : 8 = er := he
        obtain rfl : 0 = r := hr
        have z1 : ((ts.length : Int) != (xs.length : Int)) = false := by simp; omega
        have z2 : ((rs.length : Int) != (xs.length : Int)) = true := by simp; omega
        have z4 : ¬ (rs.length : Int) = (xs.length : Int) := by omega
        clear d1 d2
        go_enter Try.func8, Try.ntmps8
        go_wp2_with fail
        refine kt.mono ?_
        rintro e1 w1 ⟨rfl, rfl⟩
        clear kt
        go_wp2
        go_ret2
        exact ⟨rfl, bX⟩
    · rw [if_neg (by omega)] at he
      obtain rfl : 8 = er := he
      obtain rfl : 0 = r := hr
      have z1 : ((ts.length : Int) != (xs.length : Int)) = true := by simp; omega
      have z3 : ¬ (ts.length : Int) = (xs.length : Int) := by omega
      go_enter Try.func8, Try.ntmps8
      go_wp2_with fail
      refine kt.mono ?_
      rintro e1 w1 ⟨rfl, rfl⟩
      clear kt
      go_wp2
      go_ret2
      exact ⟨rfl, bX⟩
end Go.Proofs.Ytgmhhfipniiboaa

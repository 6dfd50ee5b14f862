import Derived.Test.YtgmhhfipniiboaaSml
namespace Go.Proofs.Ytgmhhfipniiboaa
open Go.RowKit

theorem tmE_cases' (m n : Int) : tmE m n = 3 ∨ tmE m n = 5 ∨ tmE m n = 0 := by
  unfold tmE
  split
  · exact .inl rfl
  · split
    · exact .inr (.inl rfl)
    · exact .inr (.inr rfl)
theorem md_in (m s : Int) (hm : 2 ≤ m) : 0 ≤ s % m ∧ s % m < m := ⟨Int.emod_nonneg _ (by omega), Int.emod_lt_of_pos _ (by omega)⟩
set_option maxRecDepth 100000 in
set_option maxHeartbeats 2000000 in
theorem rmask_any (m me x : Int) (B : Nat) (v : Value) (xs : List Int) (W : World) (hx : Num W B v xs) (er r : Int) (he : mkE m me x xs = er) (hr : mkN m me x xs = r) :
    Calls Try.prog 7 #[.int .i64 m, .int .i64 me, .int .i64 x, v] W fun e W' => e = .returned (.tuple #[.int .i64 r, .int .i64 er]) ∧ W' = W := by
  have HN : Hid (Num W B v xs) := hx
  obtain ⟨t, ht⟩ : ∃ t, tmE m xs.length = t := ⟨_, rfl⟩
  have kt := team_any m xs.length t ht W
  obtain ⟨a, c, rfl, hc, hl, _⟩ := hx
  rw [mkN, he] at hr
  rw [mkE, ht] at he
  have h3 := tmE_cases' m xs.length
  rw [ht] at h3
  have HT : Hid (tmE m xs.length = t) := ht
  clear ht
  rcases h3 with rfl | rfl | rfl
  · obtain rfl : 3 = er := he
    obtain rfl : 0 = r := hr
    go_enter Try.func7, Try.ntmps7
    go_wp2_with fail
    refine kt.mono ?_
    rintro e1 w1 ⟨rfl, rfl⟩
    clear kt
    go_wp2
    go_ret2
    exact ⟨rfl, rfl⟩
  · obtain rfl : 5 = er := he
    obtain rfl : 0 = r := hr
    go_enter Try.func7, Try.ntmps7
    go_wp2_with fail
    refine kt.mono ?_
    rintro e1 w1 ⟨rfl, rfl⟩
    clear kt
    go_wp2
    go_ret2
    exact ⟨rfl, rfl⟩
  · obtain ⟨hm, hm2, hn, hn2⟩ := tmE_ok HT.out
    rw [if_pos rfl] at he
    by_cases c1 : me < 0
    · rw [if_neg (by omega)] at he
      obtain rfl : 3 = er := he
      obtain rfl : 0 = r := hr
      go_enter Try.func7, Try.ntmps7
      go_wp2_with fail
      refine kt.mono ?_
      rintro e1 w1 ⟨rfl, rfl⟩
      clear kt
      go_wp2
      go_ret2
      exact ⟨rfl, rfl⟩
    by_cases c2 : me ≥ (xs.length : Int)
    · rw [if_neg (by omega)] at he
      obtain rfl : 3 = er := he
      obtain rfl : 0 = r := hr
      go_enter Try.func7, Try.ntmps7
      go_wp2_with fail
      refine kt.mono ?_
      rintro e1 w1 ⟨rfl, rfl⟩
      clear kt
      go_wp2
      go_ret2
      exact ⟨rfl, rfl⟩
    by_cases c3 : x < 0
    · rw [if_neg (by omega)] at he
      obtain rfl : 3 = er := he
      obtain rfl : 0 = r := hr
      go_enter Try.func7, Try.ntmps7
      go_wp2_with fail
      refine kt.mono ?_
      rintro e1 w1 ⟨rfl, rfl⟩
      clear kt
      go_wp2
      go_ret2
      exact ⟨rfl, rfl⟩
    by_cases c4 : x ≥ m
    · rw [if_neg (by omega)] at he
      obtain rfl : 3 = er := he
      obtain rfl : 0 = r := hr
      go_enter Try.func7, Try.ntmps7
      go_wp2_with fail
      refine kt.mono ?_
      rintro e1 w1 ⟨rfl, rfl⟩
      clear kt
      go_wp2
      go_ret2
      exact ⟨rfl, rfl⟩
    rw [if_pos (by omega)] at he
    obtain ⟨j, rfl⟩ : ∃ j : Nat, me = (j : Int) := ⟨me.toNat, by omega⟩
    rw [Int.toNat_natCast] at hr
    have HE : Hid ((if bad m all xs xs.length = true then (3 : Int) else 0) = er) := he
    have HR : Hid ((if er = 0 then (x + cov j all xs xs.length) % m else 0) = r) := hr
    clear he hr
    go_enter Try.func7, Try.ntmps7
    go_wp2_with fail
    refine kt.mono ?_
    rintro e1 w1 ⟨rfl, hw1⟩
    have hwy := hw1.symm
    subst hwy
    clear kt hw1
    go_wp2_with fail
    go_loopw [41] (fun iv wr => ∃ (k : Nat), iv = .int .i64 (k : Int) ∧ k ≤ xs.length ∧ Hid (bad m all xs k = false) ∧ wr = W) (fun iv _ => xs.length - (intOf iv).toNat)
    case atStart => exact ⟨0, rfl, Nat.zero_le _, rfl, rfl⟩
    case round =>
      obtain ⟨k, rfl, hk, HB, hwr⟩ := hrel
      have hwy := hwr.symm
      subst hwy
      clear hwr
      by_cases h1 : k < xs.length
      · obtain ⟨b', o, c', y, he, _, _, hxx, hcx⟩ := HN.out.get h1
        simp only [Value.slice.injEq] at he
        obtain ⟨rfl, -, rfl⟩ := he
        have z1 : (k : Int) < (xs.length : Int) := by omega
        have HX : Hid (gx xs k = y) := gx_get hxx
        clear hxx
        by_cases d1 : y < 0
        · have HF : Hid (bad m all xs xs.length = true) := bad_hit h1 rfl (by rw [HX.out]; simp [inM]; omega)
          have H3 : Hid (3 = er ∧ 0 = r) := by
            have h := HE.out
            rw [HF.out, if_pos rfl] at h
            refine ⟨h, ?_⟩
            have h2 := HR.out
            rw [← h] at h2
            exact h2
          obtain ⟨rfl, rfl⟩ := H3.out
          go_wp2
          go_ret2
          exact ⟨rfl, rfl⟩
        by_cases d2 : y ≥ m
        · have HF : Hid (bad m all xs xs.length = true) := bad_hit h1 rfl (by rw [HX.out]; simp [inM]; omega)
          have H3 : Hid (3 = er ∧ 0 = r) := by
            have h := HE.out
            rw [HF.out, if_pos rfl] at h
            refine ⟨h, ?_⟩
            have h2 := HR.out
            rw [← h] at h2
            exact h2
          obtain ⟨rfl, rfl⟩ := H3.out
          go_wp2
          go_ret2
          exact ⟨rfl, rfl⟩
        have HB2 : Hid (bad m all xs (k + 1) = false) := by rw [Hid, bad, HB.out, HX.out]; simp [inM]; omega
        go_wp2
        go_roundw
        case rel => exact ⟨k + 1, by go_num, h1, HB2, by first | rfl | trivial⟩
        case measure => simp [intOf]; omega
      · obtain rfl : k = xs.length := by omega
        have z1 : ¬ (xs.length : Int) < (xs.length : Int) := by omega
        have H3 : Hid (0 = er ∧ (x + cov j all xs xs.length) % m = r) := by
          have h := HE.out
          rw [HB.out] at h
          have h' : 0 = er := h
          refine ⟨h', ?_⟩
          have h2 := HR.out
          rw [← h', if_pos rfl] at h2
          exact h2
        have h0r : 0 = er := H3.out.1
        subst h0r
        have HR2 : Hid ((x + cov j all xs xs.length) % m = r) := H3.out.2
        clear HE HR H3
        go_wp2_with fail
        go_loopw [2, 13] (fun nv iv wr => ∃ (k : Nat) (y : Int), iv = .int .i64 (k : Int) ∧ nv = .int .i64 y ∧ k ≤ j ∧ 0 ≤ y ∧ y < m ∧ Hid ((x + cov j all xs k) % m = y) ∧ wr = W) (fun _ iv _ => j - (intOf iv).toNat)
        case atStart => exact ⟨0, x, rfl, rfl, Nat.zero_le _, by omega, by omega, by rw [Hid, cov, sumZ, Int.add_zero]; exact md_self x m (by omega) (by omega), rfl⟩
        case round =>
          obtain ⟨k, y, rfl, rfl, hk2, hy0, hy1, HY, hwr⟩ := hrel
          have hwy := hwr.symm
          subst hwy
          clear hwr
          by_cases h2 : k < j
          · obtain ⟨b', o, c', s, he, _, _, hxx, hcx⟩ := HN.out.get (i := k) (by omega)
            simp only [Value.slice.injEq] at he
            obtain ⟨rfl, -, rfl⟩ := he
            have z2 : (k : Int) < (j : Int) := by omega
            have z3 : (k : Int) < (xs.length : Int) := by omega
            have hsin := inM_iff.1 (bad_at HB.out (k := k) (by omega) rfl)
            rw [gx_get hxx] at hsin
            obtain ⟨hs0, hs1⟩ := hsin
            obtain ⟨t, ht⟩ : ∃ t, (y - s) % m = t := ⟨_, rfl⟩
            have km := mod_any (y - s) m hm hm2 t ht W
            obtain ⟨ht0, ht1⟩ := md_in m (y - s) hm
            rw [ht] at ht0 ht1
            have HY2 : Hid ((x + cov j all xs (k + 1)) % m = t) := by
              rw [Hid, cov_succ, gx_get hxx, ← ht, ← HY.out, md_sub]
              simp [all, sg, h2, show ¬ j < k by omega]
              congr 1; omega
            clear hxx ht HY
            go_wp2_with fail
            refine km.mono ?_
            rintro e1 w1 ⟨rfl, hw1⟩
            have hwy := hw1.symm
            subst hwy
            clear km hw1
            go_wp2
            go_roundw
            case rel => exact ⟨k + 1, t, by go_num, rfl, h2, ht0, ht1, HY2, by first | rfl | trivial⟩
            case measure => simp [intOf]; omega
          · obtain rfl : k = j := by omega
            have z2 : ¬ (k : Int) < (k : Int) := by omega
            go_wp2_with fail
            go_loopw [2, 14] (fun nv iv wr => ∃ (i : Nat) (y : Int), iv = .int .i64 (i : Int) ∧ nv = .int .i64 y ∧ k + 1 ≤ i ∧ i ≤ xs.length ∧ 0 ≤ y ∧ y < m ∧ Hid ((x + cov k all xs i) % m = y) ∧ wr = W) (fun _ iv _ => xs.length - (intOf iv).toNat)
            case atStart => exact ⟨k + 1, y, by go_num, rfl, Nat.le_refl _, by omega, hy0, hy1, by rw [Hid, cov_succ]; simpa [sg] using HY.out, rfl⟩
            case round =>
              obtain ⟨i, y, rfl, rfl, hi1, hi2, hy0, hy1, HY, hwr⟩ := hrel
              have hwy := hwr.symm
              subst hwy
              clear hwr
              by_cases h4 : i < xs.length
              · obtain ⟨b', o, c', s, he, _, _, hxx, hcx⟩ := HN.out.get h4
                simp only [Value.slice.injEq] at he
                obtain ⟨rfl, -, rfl⟩ := he
                have z3 : (i : Int) < (xs.length : Int) := by omega
                have hsin := inM_iff.1 (bad_at HB.out h4 rfl)
                rw [gx_get hxx] at hsin
                obtain ⟨hs0, hs1⟩ := hsin
                obtain ⟨t, ht⟩ : ∃ t, (y + s) % m = t := ⟨_, rfl⟩
                have km := mod_any (y + s) m hm hm2 t ht W
                obtain ⟨ht0, ht1⟩ := md_in m (y + s) hm
                rw [ht] at ht0 ht1
                have HY2 : Hid ((x + cov k all xs (i + 1)) % m = t) := by
                  rw [Hid, cov_succ, gx_get hxx, ← ht, ← HY.out, md_add]
                  simp [all, sg, show k < i by omega]
                  congr 1; omega
                clear hxx ht HY
                go_wp2_with fail
                refine km.mono ?_
                rintro e1 w1 ⟨rfl, hw1⟩
                have hwy := hw1.symm
                subst hwy
                clear km hw1
                go_wp2
                go_roundw
                case rel => exact ⟨i + 1, t, by go_num, rfl, by omega, h4, ht0, ht1, HY2, by first | rfl | trivial⟩
                case measure => simp [intOf]; omega
              · obtain rfl : i = xs.length := by omega
                have z3 : ¬ (xs.length : Int) < (xs.length : Int) := by omega
                obtain rfl : y = r := by rw [← HY.out, HR2.out]
                go_wp2
                go_ret2
                exact ⟨rfl, rfl⟩
end Go.Proofs.Ytgmhhfipniiboaa

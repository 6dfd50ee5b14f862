import Derived.Test.YtgmhhfipniiboaaCov
namespace Go.Proofs.Ytgmhhfipniiboaa
open Go.RowKit

theorem tmE_cases (m n : Int) : tmE m n = 3 ∨ tmE m n = 5 ∨ tmE m n = 0 := by
  unfold tmE
  split
  · exact .inl rfl
  · split
    · exact .inr (.inl rfl)
    · exact .inr (.inr rfl)
theorem cov_mod_in (m s : Int) (hm : 2 ≤ m) : 0 ≤ s % m ∧ s % m < m := ⟨Int.emod_nonneg _ (by omega), Int.emod_lt_of_pos _ (by omega)⟩
set_option maxRecDepth 100000 in
set_option maxHeartbeats 1000000 in
theorem mask_any (m me x : Int) (B : Nat) (v : Value) (xs : List Int) (W : World) (hx : Num W B v xs) (er r : Int) (he : mkE m me x xs = er) (hr : mkN m me x xs = r) :
    Calls Try.prog 6 #[.int .i64 m, .int .i64 me, .int .i64 x, v] W fun e W' => e = .returned (.tuple #[.int .i64 r, .int .i64 er]) ∧ W' = W := by
  have HN : Hid (Num W B v xs) := hx
  have HE : Hid (mkE m me x xs = er) := he
  have HR : Hid (mkN m me x xs = r) := hr
  obtain ⟨t, ht⟩ : ∃ t, tmE m xs.length = t := ⟨_, rfl⟩
  have kt := wrong_any m xs.length t ht W
  obtain ⟨a, c, rfl, hc, hl, _⟩ := hx
  rw [mkN, he] at hr
  rw [mkE, ht] at he
  have h3 := tmE_cases m xs.length
  rw [ht] at h3
  have HT : Hid (tmE m xs.length = t) := ht
  clear ht
  rcases h3 with rfl | rfl | rfl
  · obtain rfl : 3 = er := he
    obtain rfl : 0 = r := hr
    go_enter Try.func6, Try.ntmps6
    go_wp2_with fail
    refine kt.mono ?_
    rintro e1 w1 ⟨rfl, rfl⟩
    clear kt
    go_wp2
    go_ret2
    exact ⟨rfl, rfl⟩
  · obtain rfl : 5 = er := he
    obtain rfl : 0 = r := hr
    go_enter Try.func6, Try.ntmps6
    go_wp2_with fail
    refine kt.mono ?_
    rintro e1 w1 ⟨rfl, rfl⟩
    clear kt
    go_wp2
    go_ret2
    exact ⟨rfl, rfl⟩
  · obtain ⟨hm, hm2, hn, hn2⟩ := tmE_ok HT.out
    rw [if_pos rfl] at he
    obtain ⟨b1, hb1⟩ : ∃ b, inM (xs.length : Int) me = b := ⟨_, rfl⟩
    have k1 := below_any me xs.length b1 hb1 W
    cases b1 with
    | false =>
      have h9 : ¬ (0 ≤ me ∧ me < (xs.length : Int)) := by simpa [inM] using hb1
      rw [if_neg (by omega)] at he
      obtain rfl : 3 = er := he
      obtain rfl : 0 = r := hr
      clear h9 hb1
      go_enter Try.func6, Try.ntmps6
      go_wp2_with fail
      refine kt.mono ?_
      rintro e1 w1 ⟨rfl, rfl⟩
      clear kt
      go_wp2_with fail
      refine k1.mono ?_
      rintro e1 w1 ⟨rfl, rfl⟩
      clear k1
      go_wp2
      go_ret2
      exact ⟨rfl, rfl⟩
    | true =>
      obtain ⟨g1, g2⟩ := inM_iff.1 hb1
      clear hb1
      obtain ⟨b2, hb2⟩ : ∃ b, inM m x = b := ⟨_, rfl⟩
      have k2 := below_any x m b2 hb2 W
      cases b2 with
      | false =>
        have h9 : ¬ (0 ≤ x ∧ x < m) := by simpa [inM] using hb2
        rw [if_neg (by omega)] at he
        obtain rfl : 3 = er := he
        obtain rfl : 0 = r := hr
        clear h9 hb2
        go_enter Try.func6, Try.ntmps6
        go_wp2_with fail
        refine kt.mono ?_
        rintro e1 w1 ⟨rfl, rfl⟩
        clear kt
        go_wp2_with fail
        refine k1.mono ?_
        rintro e1 w1 ⟨rfl, rfl⟩
        clear k1
        go_wp2_with fail
        refine k2.mono ?_
        rintro e1 w1 ⟨rfl, rfl⟩
        clear k2
        go_wp2
        go_ret2
        exact ⟨rfl, rfl⟩
      | true =>
        obtain ⟨g3, g4⟩ := inM_iff.1 hb2
        clear hb2
        rw [if_pos ⟨g1, g2, g3, g4⟩] at he
        obtain ⟨j, rfl⟩ : ∃ j : Nat, me = (j : Int) := ⟨me.toNat, by omega⟩
        rw [Int.toNat_natCast] at hr
        obtain ⟨q, hq⟩ : ∃ q, bad m all xs xs.length = q := ⟨_, rfl⟩
        obtain ⟨s, hs⟩ : ∃ s, (if q = true then 0 else cov j all xs xs.length % m) = s := ⟨_, rfl⟩
        have kc := covAll_any m j B (.slice a xs.length c) xs hm hm2 (by omega) (by omega) W HN.out q hq s hs _ rfl
        rw [hq] at he
        cases q with
        | true =>
          obtain rfl : 3 = er := he
          obtain rfl : 0 = r := hr
          obtain rfl : 0 = s := hs
          rw [if_pos rfl] at kc
          clear hq
          go_enter Try.func6, Try.ntmps6
          go_wp2_with fail
          refine kt.mono ?_
          rintro e1 w1 ⟨rfl, rfl⟩
          clear kt
          go_wp2_with fail
          refine k1.mono ?_
          rintro e1 w1 ⟨rfl, rfl⟩
          clear k1
          go_wp2_with fail
          refine k2.mono ?_
          rintro e1 w1 ⟨rfl, rfl⟩
          clear k2
          go_wp2_with fail
          refine kc.mono ?_
          rintro e1 w1 ⟨rfl, rfl⟩
          clear kc
          go_wp2
          go_ret2
          exact ⟨rfl, rfl⟩
        | false =>
          obtain rfl : 0 = er := he
          rw [if_neg (by decide)] at kc hs
          rw [if_pos rfl, ← md_add', hs] at hr
          have hsb := cov_mod_in m (cov j all xs xs.length) hm
          rw [hs] at hsb
          obtain ⟨hs0, hs1⟩ := hsb
          have kp := plus_any m x s hm hm2 g3 g4 hs0 hs1 r hr W
          clear hq hs hr
          go_enter Try.func6, Try.ntmps6
          go_wp2_with fail
          refine kt.mono ?_
          rintro e1 w1 ⟨rfl, rfl⟩
          clear kt
          go_wp2_with fail
          refine k1.mono ?_
          rintro e1 w1 ⟨rfl, rfl⟩
          clear k1
          go_wp2_with fail
          refine k2.mono ?_
          rintro e1 w1 ⟨rfl, rfl⟩
          clear k2
          go_wp2_with fail
          refine kc.mono ?_
          rintro e1 w1 ⟨rfl, rfl⟩
          clear kc
          go_wp2_with fail
          refine kp.mono ?_
          rintro e1 w1 ⟨rfl, rfl⟩
          clear kp
          go_wp2
          go_ret2
          exact ⟨rfl, rfl⟩
end Go.Proofs.Ytgmhhfipniiboaa

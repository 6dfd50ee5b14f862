import Derived.Test.YtgmhhfipniiboaaSml
namespace Go.Proofs.Ytgmhhfipniiboaa
open Go.RowKit

set_option maxRecDepth 100000 in
set_option maxHeartbeats 1000000 in
theorem covAll_any (m : Int) (me B : Nat) (v : Value) (xs : List Int) (hm : 2 ≤ m) (hm2 : m ≤ 1073741824) (hl : xs.length ≤ 16) (hme : me ≤ 16) (W : World) (hx : Num W B v xs) (q : Bool) (hq : bad m all xs xs.length = q) (s : Int) (hs : (if q = true then 0 else cov me all xs xs.length % m) = s) (er : Int) (he : (if q = true then 3 else 0) = er) :
    Calls Try.prog 17 #[.int .i64 m, .int .i64 (me : Int), v, .func (.func 18) #[] #[]] W fun e W' => e = .returned (.tuple #[.int .i64 s, .int .i64 er]) ∧ W' = W := by
  have HN : Hid (Num W B v xs) := hx
  have HQ : Hid (bad m all xs xs.length = q ∧ (if q = true then 0 else cov me all xs xs.length % m) = s ∧ (if q = true then (3 : Int) else 0) = er) := ⟨hq, hs, he⟩
  have KW : Hid (∀ k, k < xs.length → ∀ r, all k = r → Calls Try.prog 18 #[.int .i64 (k : Int)] W fun e W' => e = .returned (.bool r) ∧ W' = W) := fun k _ r hr => by subst hr; exact yes_any _ _
  obtain ⟨a, c, rfl, hc, _, _⟩ := hx
  clear hq hs he
  go_enter Try.func17, Try.ntmps17
  go_wp2
  go_loopw [10, 15] (fun cv iv wr => ∃ (k : Nat) (c : Int), iv = .int .i64 (k : Int) ∧ cv = .int .i64 c ∧ k ≤ xs.length ∧ 0 ≤ c ∧ c < m ∧ Hid (bad m all xs k = false) ∧ Hid (cov me all xs k % m = c) ∧ wr = W) (fun _ iv _ => xs.length - (intOf iv).toNat)
  case atStart => exact ⟨0, 0, rfl, rfl, Nat.zero_le _, by omega, by omega, rfl, by rw [Hid]; exact Int.zero_emod m, rfl⟩
  case round =>
    obtain ⟨k, cc, rfl, rfl, hk, hc0, hc1, HB, HC, hwr⟩ := hrel
    have hwy := hwr.symm
    subst hwy
    clear hwr
    by_cases h1 : k < xs.length
    · obtain ⟨b', o, c', x, he, _, _, hxx, hcx⟩ := HN.out.get h1
      simp only [Value.slice.injEq] at he
      obtain ⟨rfl, -, rfl⟩ := he
      have z1 : (k : Int) < (xs.length : Int) := by omega
      obtain ⟨r, hr⟩ : ∃ r, all k = r := ⟨_, rfl⟩
      have kw := KW.out k h1 r hr
      have HX : Hid (gx xs k = x) := gx_get hxx
      have HR : Hid (all k = r) := hr
      clear hxx hr
      cases r with
      | false =>
        have HB2 : Hid (bad m all xs (k + 1) = false) := by rw [Hid, bad, HB.out, HR.out]; rfl
        have HC2 : Hid (cov me all xs (k + 1) % m = cc) := by rw [Hid, cov_succ, HR.out]; simpa using HC.out
        go_wp2_with fail
        refine kw.mono ?_
        rintro e1 w1 ⟨rfl, hw1⟩
        have hwy := hw1.symm
        subst hwy
        clear kw hw1
        go_wp2
        go_roundw
        case rel => exact ⟨k + 1, cc, by go_num, rfl, h1, hc0, hc1, HB2, HC2, by first | rfl | trivial⟩
        case measure => simp [intOf]; omega
      | true =>
        obtain ⟨i, hi⟩ : ∃ i, inM m x = i := ⟨_, rfl⟩
        have kb := below_any x m i hi W
        have HI : Hid (inM m x = i) := hi
        clear hi
        cases i with
        | false =>
          have HF : Hid (bad m all xs xs.length = true) := bad_hit h1 HR.out (by rw [HX.out]; exact HI.out)
          have HQ2 : Hid (0 = s ∧ 3 = er) := by
            have h := HQ.out
            have hq : q = true := by rw [← h.1, HF.out]
            rw [hq] at h
            exact h.2
          obtain ⟨rfl, rfl⟩ := HQ2.out
          go_wp2_with fail
          refine kw.mono ?_
          rintro e1 w1 ⟨rfl, hw1⟩
          have hwy := hw1.symm
          subst hwy
          clear kw hw1
          go_wp2_with fail
          refine kb.mono ?_
          rintro e2 w2 ⟨rfl, hw2⟩
          have hwy := hw2.symm
          subst hwy
          clear kb hw2
          go_wp2
          go_ret2
          exact ⟨rfl, rfl⟩
        | true =>
          have hx01 := inM_iff.1 HI.out
          obtain ⟨hx0, hx1⟩ := hx01
          have HB2 : Hid (bad m all xs (k + 1) = false) := by rw [Hid, bad, HB.out, HR.out, HX.out, HI.out]; rfl
          by_cases c1 : me < k
          · obtain ⟨t, ht⟩ : ∃ t, (cc + x) % m = t := ⟨_, rfl⟩
            have kp := plus_any m cc x hm hm2 hc0 hc1 hx0 hx1 t ht W
            have ht0 : 0 ≤ t := by rw [← ht]; exact Int.emod_nonneg _ (by omega)
            have ht1 : t < m := by rw [← ht]; exact Int.emod_lt_of_pos _ (by omega)
            have HC2 : Hid (cov me all xs (k + 1) % m = t) := by
              rw [Hid, cov_succ, HR.out, HX.out, ← ht, ← HC.out, md_add]
              simp [sg, c1]
            have z2 : (k : Int) > (me : Int) := by omega
            clear ht HB HC
            go_wp2_with fail
            refine kw.mono ?_
            rintro e1 w1 ⟨rfl, hw1⟩
            have hwy := hw1.symm
            subst hwy
            clear kw hw1
            go_wp2_with fail
            refine kb.mono ?_
            rintro e2 w2 ⟨rfl, hw2⟩
            have hwy := hw2.symm
            subst hwy
            clear kb hw2
            go_wp2_with fail
            refine kp.mono ?_
            rintro e2 w2 ⟨rfl, hw2⟩
            have hwy := hw2.symm
            subst hwy
            clear kp hw2
            go_wp2
            go_roundw
            case rel => exact ⟨k + 1, t, by go_num, rfl, h1, ht0, ht1, HB2, HC2, by first | rfl | trivial⟩
            case measure => simp [intOf]; omega
          · have z2 : ¬ (k : Int) > (me : Int) := by omega
            by_cases c2 : k < me
            · obtain ⟨t, ht⟩ : ∃ t, (cc - x) % m = t := ⟨_, rfl⟩
              have kp := minus_any m cc x hm hm2 hc0 hc1 hx0 hx1 t ht W
              have ht0 : 0 ≤ t := by rw [← ht]; exact Int.emod_nonneg _ (by omega)
              have ht1 : t < m := by rw [← ht]; exact Int.emod_lt_of_pos _ (by omega)
              have HC2 : Hid (cov me all xs (k + 1) % m = t) := by
                rw [Hid, cov_succ, HR.out, HX.out, ← ht, ← HC.out, md_sub]
                simp [sg, c1, c2, Int.sub_eq_add_neg]
              have z3 : (k : Int) < (me : Int) := by omega
              clear ht HB HC
              go_wp2_with fail
              refine kw.mono ?_
              rintro e1 w1 ⟨rfl, hw1⟩
              have hwy := hw1.symm
              subst hwy
              clear kw hw1
              go_wp2_with fail
              refine kb.mono ?_
              rintro e2 w2 ⟨rfl, hw2⟩
              have hwy := hw2.symm
              subst hwy
              clear kb hw2
              go_wp2_with fail
              refine kp.mono ?_
              rintro e2 w2 ⟨rfl, hw2⟩
              have hwy := hw2.symm
              subst hwy
              clear kp hw2
              go_wp2
              go_roundw
              case rel => exact ⟨k + 1, t, by go_num, rfl, h1, ht0, ht1, HB2, HC2, by first | rfl | trivial⟩
              case measure => simp [intOf]; omega
            · have z3 : ¬ (k : Int) < (me : Int) := by omega
              have HC2 : Hid (cov me all xs (k + 1) % m = cc) := by
                rw [Hid, cov_succ, HR.out]
                simpa [sg, c1, c2] using HC.out
              clear HB HC
              go_wp2_with fail
              refine kw.mono ?_
              rintro e1 w1 ⟨rfl, hw1⟩
              have hwy := hw1.symm
              subst hwy
              clear kw hw1
              go_wp2_with fail
              refine kb.mono ?_
              rintro e2 w2 ⟨rfl, hw2⟩
              have hwy := hw2.symm
              subst hwy
              clear kb hw2
              go_wp2
              go_roundw
              case rel => exact ⟨k + 1, cc, by go_num, rfl, h1, hc0, hc1, HB2, HC2, by first | rfl | trivial⟩
              case measure => simp [intOf]; omega
    · obtain rfl : k = xs.length := by omega
      have z1 : ¬ (xs.length : Int) < (xs.length : Int) := by omega
      have HQ2 : Hid (cc = s ∧ 0 = er) := by
        have h := HQ.out
        have hq : q = false := by rw [← h.1, HB.out]
        rw [hq] at h
        exact ⟨by rw [← HC.out]; exact h.2.1, h.2.2⟩
      obtain ⟨rfl, rfl⟩ := HQ2.out
      go_wp2
      go_ret2
      exact ⟨rfl, rfl⟩

set_option maxRecDepth 100000 in
set_option maxHeartbeats 1000000 in
theorem covAway_any (m : Int) (me B : Nat) (v : Value) (xs : List Int) (hm : 2 ≤ m) (hm2 : m ≤ 1073741824) (hl : xs.length ≤ 16) (hme : me ≤ 16) (W : World) (hx : Num W B v xs) (bx : Nat) (tv : Value) (ts : List Bool) (hth : Thr W B bx tv ts) (htl : ts.length = xs.length) (q : Bool) (hq : bad m (away ts) xs xs.length = q) (s : Int) (hs : (if q = true then 0 else cov me (away ts) xs xs.length % m) = s) (er : Int) (he : (if q = true then 3 else 0) = er) :
    Calls Try.prog 17 #[.int .i64 m, .int .i64 (me : Int), v, .func (.func 22) #[] #[.pointer (some ⟨bx, 0, none⟩)]] W fun e W' => e = .returned (.tuple #[.int .i64 s, .int .i64 er]) ∧ W' = W := by
  have HN : Hid (Num W B v xs) := hx
  have HQ : Hid (bad m (away ts) xs xs.length = q ∧ (if q = true then 0 else cov me (away ts) xs xs.length % m) = s ∧ (if q = true then (3 : Int) else 0) = er) := ⟨hq, hs, he⟩
  have KW : Hid (∀ k, k < xs.length → ∀ r, (away ts) k = r → Calls Try.prog 22 #[.int .i64 (k : Int), .pointer (some ⟨bx, 0, none⟩)] W fun e W' => e = .returned (.bool r) ∧ W' = W) := fun k hk r hr => away_any B bx tv ts W hth k (by omega) r hr
  obtain ⟨a, c, rfl, hc, _, _⟩ := hx
  clear hq hs he hth htl
  go_enter Try.func17, Try.ntmps17
  go_wp2
  go_loopw [10, 15] (fun cv iv wr => ∃ (k : Nat) (c : Int), iv = .int .i64 (k : Int) ∧ cv = .int .i64 c ∧ k ≤ xs.length ∧ 0 ≤ c ∧ c < m ∧ Hid (bad m (away ts) xs k = false) ∧ Hid (cov me (away ts) xs k % m = c) ∧ wr = W) (fun _ iv _ => xs.length - (intOf iv).toNat)
  case atStart => exact ⟨0, 0, rfl, rfl, Nat.zero_le _, by omega, by omega, rfl, by rw [Hid]; exact Int.zero_emod m, rfl⟩
  case round =>
    obtain ⟨k, cc, rfl, rfl, hk, hc0, hc1, HB, HC, hwr⟩ := hrel
    have hwy := hwr.symm
    subst hwy
    clear hwr
    by_cases h1 : k < xs.length
    · obtain ⟨b', o, c', x, he, _, _, hxx, hcx⟩ := HN.out.get h1
      simp only [Value.slice.injEq] at he
      obtain ⟨rfl, -, rfl⟩ := he
      have z1 : (k : Int) < (xs.length : Int) := by omega
      obtain ⟨r, hr⟩ : ∃ r, (away ts) k = r := ⟨_, rfl⟩
      have kw := KW.out k h1 r hr
      have HX : Hid (gx xs k = x) := gx_get hxx
      have HR : Hid ((away ts) k = r) := hr
      clear hxx hr
      cases r with
      | false =>
        have HB2 : Hid (bad m (away ts) xs (k + 1) = false) := by rw [Hid, bad, HB.out, HR.out]; rfl
        have HC2 : Hid (cov me (away ts) xs (k + 1) % m = cc) := by rw [Hid, cov_succ, HR.out]; simpa using HC.out
        go_wp2_with fail
        refine kw.mono ?_
        rintro e1 w1 ⟨rfl, hw1⟩
        have hwy := hw1.symm
        subst hwy
        clear kw hw1
        go_wp2
        go_roundw
        case rel => exact ⟨k + 1, cc, by go_num, rfl, h1, hc0, hc1, HB2, HC2, by first | rfl | trivial⟩
        case measure => simp [intOf]; omega
      | true =>
        obtain ⟨i, hi⟩ : ∃ i, inM m x = i := ⟨_, rfl⟩
        have kb := below_any x m i hi W
        have HI : Hid (inM m x = i) := hi
        clear hi
        cases i with
        | false =>
          have HF : Hid (bad m (away ts) xs xs.length = true) := bad_hit h1 HR.out (by rw [HX.out]; exact HI.out)
          have HQ2 : Hid (0 = s ∧ 3 = er) := by
            have h := HQ.out
            have hq : q = true := by rw [← h.1, HF.out]
            rw [hq] at h
            exact h.2
          obtain ⟨rfl, rfl⟩ := HQ2.out
          go_wp2_with fail
          refine kw.mono ?_
          rintro e1 w1 ⟨rfl, hw1⟩
          have hwy := hw1.symm
          subst hwy
          clear kw hw1
          go_wp2_with fail
          refine kb.mono ?_
          rintro e2 w2 ⟨rfl, hw2⟩
          have hwy := hw2.symm
          subst hwy
          clear kb hw2
          go_wp2
          go_ret2
          exact ⟨rfl, rfl⟩
        | true =>
          have hx01 := inM_iff.1 HI.out
          obtain ⟨hx0, hx1⟩ := hx01
          have HB2 : Hid (bad m (away ts) xs (k + 1) = false) := by rw [Hid, bad, HB.out, HR.out, HX.out, HI.out]; rfl
          by_cases c1 : me < k
          · obtain ⟨t, ht⟩ : ∃ t, (cc + x) % m = t := ⟨_, rfl⟩
            have kp := plus_any m cc x hm hm2 hc0 hc1 hx0 hx1 t ht W
            have ht0 : 0 ≤ t := by rw [← ht]; exact Int.emod_nonneg _ (by omega)
            have ht1 : t < m := by rw [← ht]; exact Int.emod_lt_of_pos _ (by omega)
            have HC2 : Hid (cov me (away ts) xs (k + 1) % m = t) := by
              rw [Hid, cov_succ, HR.out, HX.out, ← ht, ← HC.out, md_add]
              simp [sg, c1]
            have z2 : (k : Int) > (me : Int) := by omega
            clear ht HB HC
            go_wp2_with fail
            refine kw.mono ?_
            rintro e1 w1 ⟨rfl, hw1⟩
            have hwy := hw1.symm
            subst hwy
            clear kw hw1
            go_wp2_with fail
            refine kb.mono ?_
            rintro e2 w2 ⟨rfl, hw2⟩
            have hwy := hw2.symm
            subst hwy
            clear kb hw2
            go_wp2_with fail
            refine kp.mono ?_
            rintro e2 w2 ⟨rfl, hw2⟩
            have hwy := hw2.symm
            subst hwy
            clear kp hw2
            go_wp2
            go_roundw
            case rel => exact ⟨k + 1, t, by go_num, rfl, h1, ht0, ht1, HB2, HC2, by first | rfl | trivial⟩
            case measure => simp [intOf]; omega
          · have z2 : ¬ (k : Int) > (me : Int) := by omega
            by_cases c2 : k < me
            · obtain ⟨t, ht⟩ : ∃ t, (cc - x) % m = t := ⟨_, rfl⟩
              have kp := minus_any m cc x hm hm2 hc0 hc1 hx0 hx1 t ht W
              have ht0 : 0 ≤ t := by rw [← ht]; exact Int.emod_nonneg _ (by omega)
              have ht1 : t < m := by rw [← ht]; exact Int.emod_lt_of_pos _ (by omega)
              have HC2 : Hid (cov me (away ts) xs (k + 1) % m = t) := by
                rw [Hid, cov_succ, HR.out, HX.out, ← ht, ← HC.out, md_sub]
                simp [sg, c1, c2, Int.sub_eq_add_neg]
              have z3 : (k : Int) < (me : Int) := by omega
              clear ht HB HC
              go_wp2_with fail
              refine kw.mono ?_
              rintro e1 w1 ⟨rfl, hw1⟩
              have hwy := hw1.symm
              subst hwy
              clear kw hw1
              go_wp2_with fail
              refine kb.mono ?_
              rintro e2 w2 ⟨rfl, hw2⟩
              have hwy := hw2.symm
              subst hwy
              clear kb hw2
              go_wp2_with fail
              refine kp.mono ?_
              rintro e2 w2 ⟨rfl, hw2⟩
              have hwy := hw2.symm
              subst hwy
              clear kp hw2
              go_wp2
              go_roundw
              case rel => exact ⟨k + 1, t, by go_num, rfl, h1, ht0, ht1, HB2, HC2, by first | rfl | trivial⟩
              case measure => simp [intOf]; omega
            · have z3 : ¬ (k : Int) < (me : Int) := by omega
              have HC2 : Hid (cov me (away ts) xs (k + 1) % m = cc) := by
                rw [Hid, cov_succ, HR.out]
                simpa [sg, c1, c2] using HC.out
              clear HB HC
              go_wp2_with fail
              refine kw.mono ?_
              rintro e1 w1 ⟨rfl, hw1⟩
              have hwy := hw1.symm
              subst hwy
              clear kw hw1
              go_wp2_with fail
              refine kb.mono ?_
              rintro e2 w2 ⟨rfl, hw2⟩
              have hwy := hw2.symm
              subst hwy
              clear kb hw2
              go_wp2
              go_roundw
              case rel => exact ⟨k + 1, cc, by go_num, rfl, h1, hc0, hc1, HB2, HC2, by first | rfl | trivial⟩
              case measure => simp [intOf]; omega
    · obtain rfl : k = xs.length := by omega
      have z1 : ¬ (xs.length : Int) < (xs.length : Int) := by omega
      have HQ2 : Hid (cc = s ∧ 0 = er) := by
        have h := HQ.out
        have hq : q = false := by rw [← h.1, HB.out]
        rw [hq] at h
        exact ⟨by rw [← HC.out]; exact h.2.1, h.2.2⟩
      obtain ⟨rfl, rfl⟩ := HQ2.out
      go_wp2
      go_ret2
      exact ⟨rfl, rfl⟩
end Go.Proofs.Ytgmhhfipniiboaa

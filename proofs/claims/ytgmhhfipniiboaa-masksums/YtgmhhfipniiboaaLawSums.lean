import Derived.Test.YtgmhhfipniiboaaSme
import Derived.Test.YtgmhhfipniiboaaShs
import Derived.Test.YtgmhhfipniiboaaMsu
namespace Go.Proofs.Ytgmhhfipniiboaa
open Go.RowKit

theorem Bls.mono {w : World} {B B' : Nat} {v : Value} {xs : List Bool} (h : Bls w B v xs) (hB : B ≤ B') : Bls w B' v xs := by
  obtain ⟨a, c, hv, hc, hl, hx⟩ := h
  refine ⟨a, c, hv, hc, hl, fun hne => ?_⟩
  obtain ⟨b, o, ha, hb, hcell⟩ := hx hne
  exact ⟨b, o, ha, by omega, hcell⟩
theorem wa_succ (m : Int) (xs : List Int) (ts : List Bool) (k : Nat) : wa m xs ts (k + 1) = wa m xs ts k + (if gb ts k then gx xs k % m else 0) := rfl
set_option maxRecDepth 100000 in
set_option maxHeartbeats 2000000 in
theorem maskSums_walk (B : Nat) (m : Int) (nv pv tv : Value) (xs ps : List Int) (ts : List Bool) (W : World) (hB : B ≤ W.heap.size) (hx : Num W B nv xs) (hp : Num W B pv ps) (ht : Bls W B tv ts) :
    Calls Try.prog 4 #[.int .i64 m, nv, pv, tv] W fun e W' => e = .returned (.bool true) ∧ Below W.heap.size W W' := by
  have HN : Hid (Num W B nv xs) := hx
  have HP : Hid (Num W B pv ps) := hp
  have HT : Hid (Bls W B tv ts) := ht
  have ka := alive_any W
  obtain ⟨a, c, rfl, hac, hal⟩ := hx.slice
  obtain ⟨pa, pc, rfl, _, _⟩ := hp.slice
  obtain ⟨ta, tc, rfl, _, htl⟩ := ht.slice
  clear hx hp ht
  by_cases c1 : m < 2
  · go_enter Try.func4, Try.ntmps4
    go_wp2_with fail
    refine ka.mono ?_
    rintro e1 w1 ⟨rfl, hb1⟩
    clear ka
    go_wp2
    go_ret
    exact ⟨rfl, hb1⟩
  by_cases c2 : m > 1073741824
  · go_enter Try.func4, Try.ntmps4
    go_wp2_with fail
    refine ka.mono ?_
    rintro e1 w1 ⟨rfl, hb1⟩
    clear ka
    go_wp2
    go_ret
    exact ⟨rfl, hb1⟩
  by_cases c3 : (xs.length : Int) < 1
  · go_enter Try.func4, Try.ntmps4
    go_wp2_with fail
    refine ka.mono ?_
    rintro e1 w1 ⟨rfl, hb1⟩
    clear ka
    go_wp2
    go_ret
    exact ⟨rfl, hb1⟩
  by_cases c4 : (xs.length : Int) > 16
  · go_enter Try.func4, Try.ntmps4
    go_wp2_with fail
    refine ka.mono ?_
    rintro e1 w1 ⟨rfl, hb1⟩
    clear ka
    go_wp2
    go_ret
    exact ⟨rfl, hb1⟩
  by_cases c5 : ts.length = xs.length
  · have hm : 2 ≤ m := by omega
    have hm2 : m ≤ 1073741824 := by omega
    have hn : 1 ≤ xs.length := by omega
    have hn2 : xs.length ≤ 16 := by omega
    obtain ⟨n, hxn⟩ : ∃ n, xs.length = n := ⟨_, rfl⟩
    have HL : Hid (xs.length = n ∧ ts.length = n) := ⟨hxn, by omega⟩
    rw [c5] at HT htl ⊢
    rw [hxn] at HN HT hac hal htl c3 c4 hn hn2 ⊢
    obtain ⟨sh, hsh⟩ : ∃ sh, shr m n ps = sh := ⟨_, rfl⟩
    have HIN : Hid ((∀ i k, i < n → k < n → 0 ≤ sh i k ∧ sh i k < m) ∧ (∀ i k, sh i k = sh k i)) := by rw [← hsh]; exact ⟨fun i k _ _ => shr_in m hm n ps i k, shr_sym m n ps⟩
    have KS : Hid (∀ V, Below W.heap.size W V → Calls Try.prog 11 #[.int .i64 m, .int .i64 (n : Int), .slice pa ps.length pc] V fun e W' => e = .returned (.slice (some ⟨V.heap.size, 0, none⟩) n n) ∧ Mat W' V.heap.size n n sh ∧ Below V.heap.size V W') := fun V hV => by rw [← hsh]; exact shares_any m n hm hm2 hn hn2 B _ ps V (Nat.le_trans hB hV.size) (HP.out.at hB hV)
    have KM : Hid (∀ V R, Below W.heap.size W V → Mat V R n n sh → Calls Try.prog 12 #[.int .i64 m, .slice a n c, .slice (some ⟨R, 0, none⟩) n n] V fun e W' => ∃ a c, e = .returned (.tuple #[.slice a n c, .bool true]) ∧ Num W' W'.heap.size (.slice a n c) (rowF n (msk m n xs sh)) ∧ Below V.heap.size V W') := fun V R hV hM => masks_any m n R sh hm hm2 hn hn2 HIN.out.1 B _ xs V (Nat.le_trans hB hV.size) (HN.out.at hB hV) HL.out.1 hM
    have hmain := sums_main (xs := xs) hm hm2 hn hn2 HL.out.2 HIN.out.1 HIN.out.2
    have HMAIN : Hid (smE m (rowF n (msk m n xs sh)) ts (mat n sh) = 0 ∧ smN m (rowF n (msk m n xs sh)) ts (mat n sh) = wa m xs ts n % m) := hmain
    have z5 : ((n : Int) != (n : Int)) = false := by simp
    clear c5 hxn hsh hmain
    go_enter Try.func4, Try.ntmps4
    go_wp2_with fail
    refine ka.mono ?_
    rintro e1 w1 ⟨rfl, hb1⟩
    have ks := KS.out w1 hb1
    clear ka KS
    go_wp2_with fail
    refine ks.mono ?_
    rintro e2 w2 ⟨rfl, hM, hb2⟩
    have bW2 : Below W.heap.size W w2 := bt hb1 hb2
    have HM : Hid (Mat w2 w1.heap.size n n sh) := hM
    have km := KM.out w2 w1.heap.size bW2 hM
    clear ks KM hM
    go_wp2_with fail
    refine km.mono ?_
    rintro e3 w3 ⟨ma, mc, rfl, hms, hb3⟩
    have bW3 : Below W.heap.size W w3 := bt bW2 hb3
    have HMS : Hid (Num w3 w3.heap.size (.slice ma n mc) (rowF n (msk m n xs sh))) := hms
    have HM3 : Hid (Mat w3 w1.heap.size n n sh) := HM.out.at hb3
    clear km hms HM
    go_wp2_with fail
    go_loopw [12, 58] (fun sv iv wr => ∃ (k : Nat) (s : Int), iv = .int .i64 (k : Int) ∧ sv = .int .i64 s ∧ k ≤ n ∧ 0 ≤ s ∧ s < m ∧ Hid (wa m xs ts k % m = s) ∧ wr = w3) (fun _ iv _ => n - (intOf iv).toNat)
    case atStart => exact ⟨0, 0, rfl, rfl, Nat.zero_le _, by omega, by omega, by rw [Hid]; exact Int.zero_emod m, rfl⟩
    case round =>
      obtain ⟨k, s, rfl, rfl, hk, hs0, hs1, HS, hwr⟩ := hrel
      have hwy := hwr.symm
      subst hwy
      clear hwr
      by_cases h1 : k < n
      · obtain ⟨b', o, c', x, e1, _, _, hxx, hcx⟩ := (HN.out.at hB bW3).get (i := k) (by rw [HL.out.1]; exact h1)
        rw [HL.out.1] at e1
        simp only [Value.slice.injEq] at e1
        obtain ⟨rfl, -, rfl⟩ := e1
        obtain ⟨b2, o2, c2', th, e1, _, _, htt, hct⟩ := (HT.out.at hB bW3).get (i := k) (by rw [HL.out.2]; exact h1)
        rw [HL.out.2] at e1
        simp only [Value.slice.injEq] at e1
        obtain ⟨rfl, -, rfl⟩ := e1
        have z1 : (k : Int) < (n : Int) := by omega
        have HX : Hid (gx xs k = x) := gx_get hxx
        have HTK : Hid (gb ts k = th) := gb_get htt
        clear hxx htt
        cases th with
        | false =>
          have HS2 : Hid (wa m xs ts (k + 1) % m = s) := by rw [Hid, wa_succ, HTK.out, ← HS.out]; simp
          go_wp2
          go_roundw
          case rel => exact ⟨k + 1, s, by go_num, rfl, h1, hs0, hs1, HS2, by first | rfl | trivial⟩
          case measure => simp [intOf]; omega
        | true =>
          obtain ⟨u, hu⟩ : ∃ u, x % m = u := ⟨_, rfl⟩
          have k1 := mod_any x m hm hm2 u hu w3
          have hu0 : 0 ≤ u := by rw [← hu]; exact Int.emod_nonneg _ (by omega)
          have hu1 : u < m := by rw [← hu]; exact Int.emod_lt_of_pos _ (by omega)
          obtain ⟨t, htt⟩ : ∃ t, (s + u) % m = t := ⟨_, rfl⟩
          have k2 := mod_any (s + u) m hm hm2 t htt w3
          have ht0 : 0 ≤ t := by rw [← htt]; exact Int.emod_nonneg _ (by omega)
          have ht1 : t < m := by rw [← htt]; exact Int.emod_lt_of_pos _ (by omega)
          have HS2 : Hid (wa m xs ts (k + 1) % m = t) := by rw [Hid, wa_succ, HTK.out, if_pos rfl, HX.out, hu, ← htt, ← HS.out, md_add]
          clear hu htt HS
          go_wp2_with fail
          refine k1.mono ?_
          rintro e4 w4 ⟨rfl, hw4⟩
          have hwy := hw4.symm
          subst hwy
          clear k1 hw4
          go_wp2_with fail
          refine k2.mono ?_
          rintro e4 w4 ⟨rfl, hw4⟩
          have hwy := hw4.symm
          subst hwy
          clear k2 hw4
          go_wp2
          go_roundw
          case rel => exact ⟨k + 1, t, by go_num, rfl, h1, ht0, ht1, HS2, by first | rfl | trivial⟩
          case measure => simp [intOf]; omega
      · obtain rfl : k = n := by omega
        have z1 : ¬ (k : Int) < (k : Int) := by omega
        obtain ⟨rsx, hrs, hrr, hrl⟩ := HM3.out.rws hn2
        have hM2 := HMAIN.out
        rw [← hrr, HS.out] at hM2
        have hbs : B ≤ w3.heap.size := Nat.le_trans hB bW3.size
        have kf := sum_any m w3.heap.size _ _ _ (rowF k (msk m k xs sh)) ts rsx w3 (Nat.le_refl _) HMS.out ((HT.out.at hB bW3).mono hbs) hrs 0 s hM2.1 hM2.2
        clear hrs hrr hrl hM2 HS
        go_wp2_with fail
        refine kf.mono ?_
        rintro e4 w4 ⟨rfl, hb4⟩
        clear kf
        go_wp2
        go_ret
        exact ⟨rfl, bt bW3 hb4⟩
  · have z5 : ((ts.length : Int) != (xs.length : Int)) = true := by simp; omega
    have z6 : ¬ (ts.length : Int) = (xs.length : Int) := by omega
    clear c5
    go_enter Try.func4, Try.ntmps4
    go_wp2_with fail
    refine ka.mono ?_
    rintro e1 w1 ⟨rfl, hb1⟩
    clear ka
    go_wp2
    go_ret
    exact ⟨rfl, hb1⟩
end Go.Proofs.Ytgmhhfipniiboaa

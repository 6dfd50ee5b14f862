import Derived.Test.YtgfndaiilhbkmaaCmp
namespace Go.Proofs.Ytgfndaiilhbkmaa
open Go.RowKit Go.Proofs.Ytgfndaiilhbkmaa.Ds

set_option maxRecDepth 100000 in
set_option maxHeartbeats 8000000 in
theorem pyramidSums_walk (B : Nat) (a b : Int) (v1 v2 : Value) (xs ys : List Int) (W : World) (hB : B ≤ W.heap.size) (h1 : Num W B v1 xs) (h2 : Num W B v2 ys) :
    Calls Try.prog 4 #[.int .i64 a, .int .i64 b, v1, v2] W fun e W' => e = .returned (.bool true) ∧ Below W.heap.size W W' := by
  have kal := fun V => alive_any V
  have HX : Hid (Num W B v1 xs) := h1
  have HY : Hid (Num W B v2 ys) := h2
  obtain ⟨a1, c1, rfl, hc1, hl1⟩ := h1.slice
  obtain ⟨a2, c2, rfl, hc2, hl2⟩ := h2.slice
  clear h1 h2
  by_cases h0 : agE a b xs = 0
  · obtain ⟨w, H, rfl, rfl, hw, hw2, hH, hn2, hwx, hlx⟩ := agE_zero h0
    obtain ⟨n, hn⟩ : ∃ n, nds w H = n := ⟨_, rfl⟩
    obtain ⟨q, hq⟩ : ∃ q, w ^ H = q := ⟨_, rfl⟩
    obtain ⟨ln, hln⟩ : ∃ ln, lin w H = ln := ⟨_, rfl⟩
    obtain ⟨G, hG⟩ : ∃ G, gdv w H xs = G := ⟨_, rfl⟩
    obtain ⟨r, hr⟩ : ∃ r, ln / G = r := ⟨_, rfl⟩
    have hr1 : 1 ≤ r := by
      have h3 := gl_le (lin_pos hw H) (out w H xs) (nds w H)
      have h4 := gl_pos (lin_pos hw H) (out w H xs) (nds w H)
      rw [← gdv, hG] at h3 h4
      rw [hln] at h3
      rw [← hr]
      exact Nat.div_pos h3 h4
    have hrb : r ≤ 1073741824 := by rw [← hr, ← hln]; exact Nat.le_trans (Nat.div_le_self _ _) hlx
    have hxl := (wrE_zero hwx).1
    have HS : Hid (∀ i, i < inr w H → sumN (fun j => (out w H xs j).tdiv (G : Int)) (w * i + 1) w = (out w H xs i).tdiv (G : Int)) := fun i hi => up_adds xs hw hG hi
    have HU : Hid (∀ i, i < n → ((out w H xs i).tdiv (G : Int)).natAbs ≤ 4 * 774056185954304) := fun i hi => up_abs hw hH hlx (wrE_zero hwx).2 (by rw [hn]; exact hi)
    obtain ⟨inn, hin⟩ : ∃ inn, inr w H = inn := ⟨_, rfl⟩
    have hni := nds_inr w H
    rw [hin, hn] at hni
    have HNI : Hid (n = w * inn + 1) := hni
    rw [hn] at hn2 hwx hxl
    rw [hln] at hlx
    rw [hin] at HS
    have ka := fun V hV hN => pagree_ok w H n q ln G r B (.slice a1 xs.length c1) xs hw hw2 hH hn hn2 hq hln hlx hG hr V hV hN hwx
    rw [hxl] at ka ⊢
    have KA : Hid (∀ V, B ≤ V.heap.size → Num V B (.slice a1 n c1) xs → _) := ka
    rw [hxl] at HX hl1 hc1
    have hnl : ¬ ((n : Int) != (n : Int)) = true := by simp
    have z4 : ¬ (r : Int) < 1 := by omega
    have z5 : ¬ r < 1 := by omega
    have z6 : decide ((r : Int) < 1) = false := decide_eq_false (by omega)
    clear h0 hn hq hln hG hr hin hwx hlx ka hni
    obtain ⟨f, hf⟩ : ∃ f : Nat → Int, (fun i => (out w H xs i).tdiv (G : Int)) = f := ⟨_, rfl⟩
    have HS2 : Hid (∀ i, i < inn → sumN f (w * i + 1) w = f i) := by rw [← hf]; exact HS.out
    have HU2 : Hid (∀ i, i < n → (f i).natAbs ≤ 4 * 774056185954304) := by rw [← hf]; exact HU.out
    rw [hf] at KA
    clear HS HU hf hxl
    go_enter Try.func4, Try.ntmps4
    go_wp2_with fail
    refine (kal _).mono ?_
    rintro e1 w1 ⟨rfl, hb1⟩
    have ka := KA.out w1 (Nat.le_trans hB hb1.size) (HX.out.at hB hb1)
    clear kal KA
    go_wp2_with fail
    refine ka.mono ?_
    rintro e2 w2 ⟨g2, rfl, hg2, hA2, hb2⟩
    have HA2 : Hid (Arr w2 g2 n f) := hA2
    have b2 : Below W.heap.size W w2 := bt hb1 hb2
    clear ka hA2
    go_wp2_with fail
    go_loopw [40] (fun s wr => ∃ i : Nat, s = .int .i64 (i : Int) ∧ i ≤ n ∧ Below w2.heap.size w2 wr) (fun s _ => n - (intOf s).toNat)
    case atStart => exact ⟨0, rfl, Nat.zero_le _, Below.refl _ _⟩
    case round => as_aux_lemma =>
      obtain ⟨i, rfl, hi, hbl⟩ := hrel
      by_cases c3 : i < n
      · obtain ⟨p, hp⟩ : ∃ p, w * i = p := ⟨_, rfl⟩
        have hpi : (w : Int) * (i : Int) = (p : Int) := by rw [← hp]; simp
        have hpb : p ≤ 16384 := by rw [← hp]; exact Nat.le_trans (Nat.mul_le_mul hw2 (show i ≤ 1024 by omega)) (by decide)
        have hwp : IntKind.i64.wrap ((w : Int) * (i : Int)) = (p : Int) := by rw [hpi, IntKind.wrap_i64]; omega
        have z1 : (i : Int) < (n : Int) := by omega
        by_cases c4 : i < inn
        · have hlt : p + w ≤ w * inn := by
            have : w * (i + 1) ≤ w * inn := Nat.mul_le_mul_left _ (by omega)
            rw [Nat.mul_add, hp] at this; omega
          have hpn : p + w + 1 ≤ n := by rw [HNI.out]; omega
          have z2 : ¬ (p : Int) + 1 ≥ (n : Int) := by omega
          have z3 : ¬ p + 1 ≥ n := by omega
          clear hlt
          have hsm := HS2.out i c4
          rw [hp] at hsm
          obtain ⟨y, hy⟩ : ∃ y, f i = y := ⟨_, rfl⟩
          rw [hy] at hsm
          have HSM : Hid (sumN f (p + 1) w = y) := hsm
          have cY := (HA2.out.at hbl).cells i c3
          rw [hy] at cY
          obtain ⟨w3, hw3⟩ : ∃ w3, w3 = wr := ⟨_, rfl⟩
          subst hw3
          clear hp hpi hsm hy
          go_wp2_with fail
          go_loopw [14, 15] (fun nv s wx => ∃ (j : Nat) (t : Int), s = .int .i64 (j : Int) ∧ nv = .int .i64 t ∧ j ≤ w ∧ Hid (sumN f (p + 1) j = t) ∧ wx = w3) (fun _ s _ => w - (intOf s).toNat)
          case atStart => exact ⟨0, 0, rfl, rfl, Nat.zero_le _, rfl, rfl⟩
          case round =>
            obtain ⟨j, t, rfl, rfl, hj, HT, hwx⟩ := hrel
            have hwy := hwx.symm
            subst hwy
            clear hwx
            by_cases c5 : j < w
            · have hkn : p + 1 + j < n := by omega
              obtain ⟨x, hx⟩ : ∃ x, f (p + 1 + j) = x := ⟨_, rfl⟩
              have cX := (HA2.out.at hbl).cells (p + 1 + j) hkn
              rw [hx] at cX
              have hxb := HU2.out (p + 1 + j) hkn
              rw [hx] at hxb
              have htb : t.natAbs ≤ j * (4 * 774056185954304) := by rw [← HT.out]; exact sumN_abs fun k hk => HU2.out _ (by omega)
              have htb2 : j * (4 * 774056185954304) ≤ 16 * (4 * 774056185954304) := Nat.mul_le_mul_right _ (by omega)
              have HT2 : Hid (sumN f (p + 1) (j + 1) = t + x) := by rw [Hid, sumN, HT.out, hx]
              have tb : -49539595901075456 ≤ t ∧ t ≤ 49539595901075456 := by omega
              have xb : -3096224743817216 ≤ x ∧ x ≤ 3096224743817216 := by omega
              have y1 : (j : Int) < (w : Int) := by omega
              have y2 : ¬ (p : Int) + 1 + (j : Int) ≥ (n : Int) := by omega
              have y3 : (p : Int) + 1 + (j : Int) < (n : Int) := by omega
              have y5 : (((p : Int) + 1 + (j : Int)).toNat) = p + 1 + j := by omega
              clear hx htb htb2 hxb
              go_wp2
              go_roundw
              case rel => exact ⟨j + 1, t + x, by go_num, by first | rfl | go_num, by omega, HT2, by first | rfl | trivial⟩
              case measure => simp [intOf]; omega
            · obtain rfl : j = w := by omega
              obtain rfl : t = y := by rw [← HT.out, HSM.out]
              have y1 : ¬ (j : Int) < (j : Int) := by omega
              go_wp2
              go_roundw
              case rel => exact ⟨i + 1, by go_num, by omega, hbl⟩
              case measure => simp [intOf]; omega
        · have hge : w * inn ≤ p := by rw [← hp]; exact Nat.mul_le_mul_left _ (by omega)
          have z2 : (p : Int) + 1 ≥ (n : Int) := by have := HNI.out; omega
          clear hp hpi
          go_wp2
          go_roundw
          case rel => exact ⟨i + 1, by go_num, by omega, hbl⟩
          case measure => simp [intOf]; omega
      · obtain rfl : i = n := by omega
        have z1 : ¬ (i : Int) < (i : Int) := by omega
        have b3 : Below W.heap.size W wr := bt b2 hbl
        obtain ⟨w3, hw3⟩ : ∃ w3, w3 = wr := ⟨_, rfl⟩
        subst hw3
        obtain ⟨a, ha⟩ : ∃ a : Int, a = (w : Int) := ⟨_, rfl⟩
        obtain ⟨b, hbb⟩ : ∃ b : Int, b = (H : Int) := ⟨_, rfl⟩
        rw [← ha, ← hbb]
        clear HA2 HS2 HU2 HNI hw hw2 hH hn2 ha hbb c3
        by_cases hs : smE a b ys = 0
        · obtain ⟨w, H, rfl, rfl, hw, hw2, hH, hn2, hwr⟩ := smE_zero hs
          obtain ⟨n, hn⟩ : ∃ n, nds w H = n := ⟨_, rfl⟩
          obtain ⟨q, hq⟩ : ∃ q, w ^ H = q := ⟨_, rfl⟩
          rw [hn] at hn2
          rw [hq] at hwr
          have HN : Hid (nds w H = n ∧ w ^ H = q) := ⟨hn, hq⟩
          have ks := psums_ok w H n q B (.slice a2 ys.length c2) ys hw hw2 hH hn hn2 hq w3 (Nat.le_trans hB b3.size) (HY.out.at hB b3) hwr
          clear hs hwr hn hq
          go_wp2_with fail
          refine ks.mono ?_
          rintro e7 w7 ⟨g7, rfl, hg7, hA7, hb7⟩
          clear ks
          have b7 : Below W.heap.size W w7 := bt b3 hb7
          have HA7 : Hid (Arr w7 g7 n (sumF w H ys)) := hA7
          obtain ⟨zs, hzs⟩ : ∃ zs, (List.range n).map (sumF w H ys) = zs := ⟨_, rfl⟩
          have hzl : zs.length = n := by rw [← hzs]; simp
          have hnum : Num w7 w7.heap.size (.slice (some ⟨g7, 0, none⟩) n n) zs := by rw [← hzs]; exact hA7.num (Nat.le_refl _) (by omega)
          have HZ : Hid (∀ i, i < nds w H → zs.getD i 0 = sumF w H ys i) := fun i hi => by rw [← hzs]; exact range_getD _ (by rw [← HN.out.1]; exact hi)
          have HF : Hid (∀ i, i < inr w H → sumN (sumF w H ys) (w * i + 1) w = sumF w H ys i) := fun i hi => sumF_adds (by omega) hi
          by_cases h9 : agE w H zs = 0
          · obtain ⟨w', H', hw', hH', _, _, _, _, hwz, hlz⟩ := agE_zero h9
            obtain rfl : w = w' := by omega
            obtain rfl : H = H' := by omega
            obtain ⟨ln, hln⟩ : ∃ ln, lin w H = ln := ⟨_, rfl⟩
            have hlp := lin_pos hw H
            have hg := stay_gdv hw HZ.out HF.out
            rw [hln] at hg hlz hlp
            rw [HN.out.1] at hwz
            have ka := pagree_ok w H n q ln ln 1 w7.heap.size (.slice (some ⟨g7, 0, none⟩) n n) zs hw hw2 hH HN.out.1 hn2 HN.out.2 hln hlz hg (Nat.div_self (by omega)) w7 (Nat.le_refl _) hnum hwz
            have HL : Hid (lin w H = ln) := hln
            clear h9 hw' hH' hwz hlz hg hln hnum hA7 hzs
            go_wp2_with fail
            refine ka.mono ?_
            rintro e8 w8 ⟨g8, rfl, hg8, hA8, hb8⟩
            clear ka
            have A8 : Arr w8 g8 n (sumF w H ys) := hA8.congr fun i hi => by
              have := stay_up hw HZ.out HF.out (i := i) (by rw [HN.out.1]; exact hi)
              rw [HL.out] at this
              exact this
            have kc := same_list g8 n g7 n n hn2 (sumF w H ys) w8 A8 (HA7.out.at hb8)
            clear hA8 A8
            go_wp2_with fail
            refine kc.mono ?_
            rintro e9 w9 ⟨rfl, hb9⟩
            clear kc
            go_wp2
            go_ret
            exact ⟨rfl, bt (bt b7 hb8) hb9⟩
          · obtain ⟨er, her⟩ : ∃ er, agE w H zs = er := ⟨_, rfl⟩
            have h34 := agE_fit hw hw2 hH (by rw [HN.out.1]; exact hn2) (by rw [hzl, HN.out.1]) h9
            rw [her] at h9 h34
            have ka := pagree_bad w H w7.heap.size (.slice (some ⟨g7, 0, none⟩) n n) zs w7 (Nat.le_refl _) hnum er her h9
            clear h9 her hnum hA7 hzs
            rcases h34 with rfl | rfl
            · go_wp2_with fail
              refine ka.mono ?_
              rintro e8 w8 ⟨rfl, hb8⟩
              clear ka
              go_wp2
              go_ret
              exact ⟨rfl, bt b7 hb8⟩
            · go_wp2_with fail
              refine ka.mono ?_
              rintro e8 w8 ⟨rfl, hb8⟩
              clear ka
              go_wp2
              go_ret
              exact ⟨rfl, bt b7 hb8⟩
        · obtain ⟨es, hes⟩ : ∃ es, smE a b ys = es := ⟨_, rfl⟩
          rw [hes] at hs
          have ks := psums_bad a b B (.slice a2 ys.length c2) ys w3 (Nat.le_trans hB b3.size) (HY.out.at hB b3) es hes hs
          have n1 : (es == 0) = false := by simpa using hs
          have n2 : (es != 0) = true := by simpa using hs
          clear hes
          go_wp2_with fail
          refine ks.mono ?_
          rintro e7 w7 ⟨rfl, hb7⟩
          clear ks
          go_wp2
          go_ret
          exact ⟨rfl, bt b3 hb7⟩
  · obtain ⟨er, her⟩ : ∃ er, agE a b xs = er := ⟨_, rfl⟩
    rw [her] at h0
    have ka := fun V hV hN => pagree_bad a b B (.slice a1 xs.length c1) xs V hV hN er her h0
    have n1' : (er == 0) = false := by simpa using h0
    have n2' : (er != 0) = true := by simpa using h0
    clear her
    go_enter Try.func4, Try.ntmps4
    go_wp2_with fail
    refine (kal _).mono ?_
    rintro e1 w1 ⟨rfl, hb1⟩
    have ka1 := ka w1 (Nat.le_trans hB hb1.size) (HX.out.at hB hb1)
    clear kal ka
    go_wp2_with fail
    refine ka1.mono ?_
    rintro e2 w2 ⟨rfl, hb2⟩
    have b2 : Below W.heap.size W w2 := bt hb1 hb2
    clear ka1
    by_cases hs : smE a b ys = 0
    · obtain ⟨w, H, rfl, rfl, hw, hw2, hH, hn2, hwr⟩ := smE_zero hs
      obtain ⟨n, hn⟩ : ∃ n, nds w H = n := ⟨_, rfl⟩
      obtain ⟨q, hq⟩ : ∃ q, w ^ H = q := ⟨_, rfl⟩
      rw [hn] at hn2
      rw [hq] at hwr
      have HN : Hid (nds w H = n ∧ w ^ H = q) := ⟨hn, hq⟩
      have ks := psums_ok w H n q B (.slice a2 ys.length c2) ys hw hw2 hH hn hn2 hq w2 (Nat.le_trans hB b2.size) (HY.out.at hB b2) hwr
      clear hs hwr hn hq
      go_wp2_with fail
      refine ks.mono ?_
      rintro e7 w7 ⟨g7, rfl, hg7, hA7, hb7⟩
      clear ks
      have b7 : Below W.heap.size W w7 := bt b2 hb7
      have HA7 : Hid (Arr w7 g7 n (sumF w H ys)) := hA7
      obtain ⟨zs, hzs⟩ : ∃ zs, (List.range n).map (sumF w H ys) = zs := ⟨_, rfl⟩
      have hzl : zs.length = n := by rw [← hzs]; simp
      have hnum : Num w7 w7.heap.size (.slice (some ⟨g7, 0, none⟩) n n) zs := by rw [← hzs]; exact hA7.num (Nat.le_refl _) (by omega)
      have HZ : Hid (∀ i, i < nds w H → zs.getD i 0 = sumF w H ys i) := fun i hi => by rw [← hzs]; exact range_getD _ (by rw [← HN.out.1]; exact hi)
      have HF : Hid (∀ i, i < inr w H → sumN (sumF w H ys) (w * i + 1) w = sumF w H ys i) := fun i hi => sumF_adds (by omega) hi
      by_cases h9 : agE w H zs = 0
      · obtain ⟨w', H', hw', hH', _, _, _, _, hwz, hlz⟩ := agE_zero h9
        obtain rfl : w = w' := by omega
        obtain rfl : H = H' := by omega
        obtain ⟨ln, hln⟩ : ∃ ln, lin w H = ln := ⟨_, rfl⟩
        have hlp := lin_pos hw H
        have hg := stay_gdv hw HZ.out HF.out
        rw [hln] at hg hlz hlp
        rw [HN.out.1] at hwz
        have ka := pagree_ok w H n q ln ln 1 w7.heap.size (.slice (some ⟨g7, 0, none⟩) n n) zs hw hw2 hH HN.out.1 hn2 HN.out.2 hln hlz hg (Nat.div_self (by omega)) w7 (Nat.le_refl _) hnum hwz
        have HL : Hid (lin w H = ln) := hln
        clear h9 hw' hH' hwz hlz hg hln hnum hA7 hzs
        go_wp2_with fail
        refine ka.mono ?_
        rintro e8 w8 ⟨g8, rfl, hg8, hA8, hb8⟩
        clear ka
        have A8 : Arr w8 g8 n (sumF w H ys) := hA8.congr fun i hi => by
          have := stay_up hw HZ.out HF.out (i := i) (by rw [HN.out.1]; exact hi)
          rw [HL.out] at this
          exact this
        have kc := same_list g8 n g7 n n hn2 (sumF w H ys) w8 A8 (HA7.out.at hb8)
        clear hA8 A8
        go_wp2_with fail
        refine kc.mono ?_
        rintro e9 w9 ⟨rfl, hb9⟩
        clear kc
        go_wp2
        go_ret
        exact ⟨rfl, bt (bt b7 hb8) hb9⟩
      · obtain ⟨er, her⟩ : ∃ er, agE w H zs = er := ⟨_, rfl⟩
        have h34 := agE_fit hw hw2 hH (by rw [HN.out.1]; exact hn2) (by rw [hzl, HN.out.1]) h9
        rw [her] at h9 h34
        have ka := pagree_bad w H w7.heap.size (.slice (some ⟨g7, 0, none⟩) n n) zs w7 (Nat.le_refl _) hnum er her h9
        clear h9 her hnum hA7 hzs
        rcases h34 with rfl | rfl
        · go_wp2_with fail
          refine ka.mono ?_
          rintro e8 w8 ⟨rfl, hb8⟩
          clear ka
          go_wp2
          go_ret
          exact ⟨rfl, bt b7 hb8⟩
        · go_wp2_with fail
          refine ka.mono ?_
          rintro e8 w8 ⟨rfl, hb8⟩
          clear ka
          go_wp2
          go_ret
          exact ⟨rfl, bt b7 hb8⟩
    · obtain ⟨es, hes⟩ : ∃ es, smE a b ys = es := ⟨_, rfl⟩
      rw [hes] at hs
      have ks := psums_bad a b B (.slice a2 ys.length c2) ys w2 (Nat.le_trans hB b2.size) (HY.out.at hB b2) es hes hs
      have n1 : (es == 0) = false := by simpa using hs
      have n2 : (es != 0) = true := by simpa using hs
      clear hes
      go_wp2_with fail
      refine ks.mono ?_
      rintro e7 w7 ⟨rfl, hb7⟩
      clear ks
      go_wp2
      go_ret
      exact ⟨rfl, bt b2 hb7⟩
end Go.Proofs.Ytgfndaiilhbkmaa

import Derived.Test.YtdcdjjemndadaaaPrm
namespace Go.Proofs.Ytdcdjjemndadaaa
open Go.RowKit Go.Proofs.Ytdcdjjemndadaaa.Ds

/-- a fraction's cell that nothing was put in yet -/
def Zc (b : Nat) (W : World) : Prop :=
  W.cell? ⟨b, 0, none⟩ = some (.int .i64 0) ∧ W.cell? ⟨b, 1, none⟩ = some (.int .i64 0) ∧ W.frozen? ⟨b, 0, none⟩ = false ∧ W.frozen? ⟨b, 1, none⟩ = false
theorem zc_new (w : World) : Zc w.heap.size (w.alloc (.cells #[.int .i64 0, .int .i64 0] 34)) := by
  refine ⟨?_, ?_, ?_, ?_⟩ <;> simp [go_sem]
theorem Zc.at {b : Nat} {W W' : World} (h : Zc b W) (hb : Below W.heap.size W W') (hl : b < W.heap.size) : Zc b W' := by
  obtain ⟨h1, h2, h3, h4⟩ := h
  obtain ⟨hc, hf⟩ := bcell hb
  exact ⟨(hc _ 0 hl).trans h1, (hc _ 1 hl).trans h2, (hf _ 0 hl).trans h3, (hf _ 1 hl).trans h4⟩

/-- the sum of what has come -/
def apO (Ta Tb : Int) (l m : List Pt) (os : List (List Int)) : Int := apW Ta Tb (os.map (ow l m))
theorem apO_snoc {Ta Tb : Int} {l m : List Pt} {os : List (List Int)} {i : Nat} {o : List Int} (h : os[i]? = some o) : apO Ta Tb l m (os.take (i + 1)) = apO Ta Tb l m (os.take i) + max 0 (wt l o * Tb - wt m o * Ta) := by
  rw [apO, take_snoc h, List.map_append, List.map_cons, List.map_nil, apW_snoc]; rfl
theorem apO_take (Ta Tb : Int) (l m : List Pt) (os : List (List Int)) (i : Nat) : 0 ≤ apO Ta Tb l m (os.take i) ∧ apO Ta Tb l m (os.take i) ≤ apO Ta Tb l m os := by
  refine ⟨apW_nn _ _ _, ?_⟩
  rw [apO, List.map_take]; exact apW_take _ _ _ _

set_option maxHeartbeats 2000000 in
set_option maxRecDepth 100000 in
theorem apartR_any (B : Nat) (u v : Value) (ts us : List Tr) (w : World) (hB : B ≤ w.heap.size) (hp : Parts w B u ts) (hq : Parts w B v us) (n m er : Int) (hr : apartT (rd ts) (rd us) = (n, m, er)) :
    Calls Try.prog 30 #[u, v] w fun e w' => e = .returned (.tuple #[rv n m, .int .i64 er]) ∧ Below w.heap.size w w' := by
  have HP : Hid (Parts w B u ts) := hp
  have HQ : Hid (Parts w B v us) := hq
  obtain ⟨a, c, rfl, _⟩ := hp
  obtain ⟨a', c', rfl, _⟩ := hq
  obtain ⟨⟨l, e1⟩, ho⟩ : ∃ x, ownT (rd ts) = x := ⟨_, rfl⟩
  obtain ⟨⟨m2, e2⟩, ho2⟩ : ∃ x, ownT (rd us) = x := ⟨_, rfl⟩
  rw [apartT, twoE, ho, ho2] at hr
  simp only at hr
  have HR : Hid ((if (if e1 = 0 then e2 else e1) = 0 then Rt.mkT (apS (tot (rd ts)) (tot (rd us)) (mrgP (rd ts) (rd us))) (tot (rd ts) * tot (rd us)) else (0, 0, if e1 = 0 then e2 else e1)) = (n, m, er) ∧ ownT (rd ts) = (l, e1) ∧ ownT (rd us) = (m2, e2)) := ⟨hr, ho, ho2⟩
  clear hr ho ho2
  obtain ⟨W, hW⟩ : ∃ W, w.alloc (.cells #[.int .i64 0, .int .i64 0] 34) = W := ⟨_, rfl⟩
  have HW : Hid (Below w.heap.size w W) := hW ▸ ba w _
  have hWs : W.heap.size = w.heap.size + 1 := by rw [← hW]; simp
  have HZ : Hid (Zc w.heap.size W) := hW ▸ zc_new w
  have kc := wrongR_any B _ ts W (by omega) (HP.out.at hB HW.out) e1 (by rw [HR.out.2.1])
  go_enter Try.func30, Try.ntmps30
  go_wp2_with fail
  clear hW
  refine kc.mono ?_
  rintro e w1 ⟨rfl, hb1⟩
  have HZ1 : Hid (Zc w.heap.size w1) := HZ.out.at hb1 (by omega)
  have hbw : Below w.heap.size w w1 := bt HW.out hb1
  have hs1 := hb1.size
  clear kc hb1 HZ
  by_cases h1 : e1 = 0
  · subst h1
    have kc := wrongR_any B _ us w1 (by omega) (HQ.out.at hB hbw) e2 (by rw [HR.out.2.2])
    go_wp2_with fail
    refine kc.mono ?_
    rintro e w2 ⟨rfl, hb2⟩
    have HZ2 : Hid (Zc w.heap.size w2) := HZ1.out.at hb2 (by omega)
    have hbw2 : Below w.heap.size w w2 := bt hbw hb2
    have hs2 := hb2.size
    clear kc hb2 HZ1 hbw
    by_cases h2 : e2 = 0
    · subst h2
      obtain ⟨hle1, hd1⟩ := ownT_ok HR.out.2.1
      obtain ⟨hle2, hd2⟩ := ownT_ok HR.out.2.2
      have hmk := HR.out.1
      simp only [if_true] at hmk
      obtain ⟨Ta, hTa⟩ : ∃ T, tot (rd ts) = T := ⟨_, rfl⟩
      obtain ⟨Tb, hTb⟩ : ∃ T, tot (rd us) = T := ⟨_, rfl⟩
      have hTa1 : Ta ≤ 1073741824 := by rw [← hTa]; exact hd1.le
      have hTb1 : Tb ≤ 1073741824 := by rw [← hTb]; exact hd2.le
      have hTa0 : 0 < Ta := by rw [← hTa]; exact tot_pos2 hd1.pos hd1.ne
      have hTb0 : 0 < Tb := by rw [← hTb]; exact tot_pos2 hd2.pos hd2.ne
      obtain ⟨os, hos⟩ : ∃ os, outsT (rd ts) (rd us) = os := ⟨_, rfl⟩
      rw [ap_outs hd1 hd2, hTa, hTb, hos] at hmk
      have hU1 : apO Ta Tb (rd ts) (rd us) os ≤ 1152921504606846976 := by
        have h1 := apS_le (az := rd ts) (bz := rd us) (Ta := Ta) (Tb := Tb) (Nn.of_pos hd1.pos) (Nn.of_pos hd2.pos) (by omega) (by omega)
        rw [ap_outs hd1 hd2, hos, hTa] at h1
        have h2 := (Rt.mul_bd (a := Ta) (b := Tb) (by omega) hTa1 (by omega) hTb1).2
        exact Int.le_trans h1 h2
      have HU : Hid (apO Ta Tb (rd ts) (rd us) os ≤ Ta * Tb) := by
        have h1 := apS_le (az := rd ts) (bz := rd us) (Ta := Ta) (Tb := Tb) (Nn.of_pos hd1.pos) (Nn.of_pos hd2.pos) (by omega) (by omega)
        rw [ap_outs hd1 hd2, hos, hTa] at h1
        exact h1
      have HU1 : Hid (apO Ta Tb (rd ts) (rd us) os ≤ 1152921504606846976) := hU1
      clear hU1
      have HM : Hid (Rt.mkT (apO Ta Tb (rd ts) (rd us) os) (Ta * Tb) = (n, m, er) ∧ Dis (rd ts) ∧ Dis (rd us) ∧ tot (rd ts) = Ta ∧ tot (rd us) = Tb ∧ outsT (rd ts) (rd us) = os) := ⟨hmk, hd1, hd2, hTa, hTb, hos⟩
      have ko := outs_any B _ _ ts us w2 (by omega) (HP.out.at hB hbw2) (HQ.out.at hB hbw2) (Nn.of_pos hd1.pos) (by have := hd1.le; omega) os hos
      clear hle1 hle2 hd1 hd2 hmk hTa hTb hos HR
      go_wp2_with fail
      refine ko.mono ?_
      rintro e w3 ⟨v3, zs, rfl, hzs, hL, hb3⟩
      have HL : Hid (Lsts w3 w3.heap.size v3 zs) := hL
      obtain ⟨za, zc, rfl, hzc, hzl, _⟩ := hL
      have HS : Hid (zs.map (·.2) = os) := hzs
      have HZ3 : Hid (Zc w.heap.size w3) := HZ2.out.at hb3 (by omega)
      have hbw3 : Below w.heap.size w w3 := bt hbw2 hb3
      have hs3 := hb3.size
      have lw3 : w.heap.size < w3.heap.size := by omega
      clear ko hb3 hzs HZ2 hbw2
      go_wp2
      go_loopw [8, 30] (fun s t wr => ∃ (i : Nat) (z : Int), s = .int .i64 z ∧ t = .int .i64 (i : Int) ∧ i ≤ zs.length ∧ Hid (apO Ta Tb (rd ts) (rd us) (os.take i) = z) ∧ Below w3.heap.size w3 wr) (fun _ t _ => zs.length - (intOf t).toNat)
      case atStart => exact ⟨0, 0, rfl, rfl, Nat.zero_le _, by simp [Hid, apO, apW], Below.refl _ _⟩
      case round =>
        obtain ⟨i, z, rfl, rfl, hit, HA, hbl⟩ := hrel
        have hzb : 0 ≤ z ∧ z ≤ 1152921504606846976 := by have := apO_take Ta Tb (rd ts) (rd us) os i; rw [HA.out] at this; have := HU1.out; omega
        by_cases h1 : i < zs.length
        · obtain ⟨b, o, sa, sc, xs, rfl, hb, hs, d1, hI⟩ := HL.out.get (Nat.le_refl _) hbl h1
          have HI : Hid (Ints wr w3.heap.size w3.heap.size (.slice sa xs.length sc) xs) := hI
          have hbw : Below w.heap.size w wr := bt hbw3 hbl
          have hsl := hbl.size
          have HO : Hid (os[i]? = some xs) := by rw [Hid, ← HS.out, List.getElem?_map, hs]; rfl
          have HP1 : Hid (Parts wr w3.heap.size (.slice a ts.length c) ts) := (HP.out.at hB hbw).mono (by omega)
          have HQ1 : Hid (Parts wr w3.heap.size (.slice a' us.length c') us) := (HQ.out.at hB hbw).mono (by omega)
          obtain ⟨K1, hK1⟩ : ∃ K, wt (rd ts) xs = K := ⟨_, rfl⟩
          obtain ⟨K2, hK2⟩ : ∃ K, wt (rd us) xs = K := ⟨_, rfl⟩
          have bk1 : 0 ≤ K1 ∧ K1 ≤ 1073741824 := by have := (Nn.of_pos HM.out.2.1.pos).wt_le xs; have := HM.out.2.1.le; omega
          have bk2 : 0 ≤ K2 ∧ K2 ≤ 1073741824 := by have := (Nn.of_pos HM.out.2.2.1.pos).wt_le xs; have := HM.out.2.2.1.le; omega
          have b1 : 0 ≤ K1 * Tb ∧ K1 * Tb ≤ 1152921504606846976 := Rt.mul_bd bk1.1 bk1.2 (by omega) hTb1
          have b2 : 0 ≤ K2 * Ta ∧ K2 * Ta ≤ 1152921504606846976 := Rt.mul_bd bk2.1 bk2.2 (by omega) hTa1
          have HK : Hid (wt (rd ts) xs = K1 ∧ wt (rd us) xs = K2) := ⟨hK1, hK2⟩
          have hn1 := Nn.of_pos HM.out.2.1.pos
          have hn2 := Nn.of_pos HM.out.2.2.1.pos
          have ht1 : tot (rd ts) ≤ 4611686018427387904 := by have := HM.out.2.1.le; omega
          have ht2 : tot (rd us) ≤ 4611686018427387904 := by have := HM.out.2.2.1.le; omega
          have HN : Hid (Nn (rd ts) ∧ Nn (rd us) ∧ tot (rd ts) ≤ 4611686018427387904 ∧ tot (rd us) ≤ 4611686018427387904) := ⟨hn1, hn2, ht1, ht2⟩
          clear hs hI hK1 hK2 hn1 hn2 ht1 ht2
          obtain ⟨P1, hP1⟩ : ∃ P, K1 * Tb = P := ⟨_, rfl⟩
          obtain ⟨P2, hP2⟩ : ∃ P, K2 * Ta = P := ⟨_, rfl⟩
          have HP2 : Hid (apO Ta Tb (rd ts) (rd us) (os.take (i + 1)) = z + max 0 (P1 - P2)) := by rw [Hid, apO_snoc HO.out, HA.out, HK.out.1, HK.out.2, hP1, hP2]
          have hzn : z + max 0 (P1 - P2) ≤ 1152921504606846976 := by have := apO_take Ta Tb (rd ts) (rd us) os (i + 1); rw [HP2.out] at this; have := HU1.out; omega
          rw [hP1] at b1
          rw [hP2] at b2
          go_wp2_with fail
          refine (weight_any w3.heap.size w3.heap.size _ _ ts xs wr hsl HP1.out HI.out HN.out.1 HN.out.2.2.1 K1 HK.out.1).mono ?_
          rintro e w4 ⟨rfl, hb4⟩
          go_wp2_with fail
          refine (refTotal_any w3.heap.size _ us w4 (Nat.le_trans hsl hb4.size) (HQ1.out.at hsl hb4) HN.out.2.1 HN.out.2.2.2 Tb HM.out.2.2.2.2.1).mono ?_
          rintro e w5 ⟨rfl, hb5⟩
          have hb45 := bt hb4 hb5
          clear hb4 hb5
          go_wp2_with fail
          refine (weight_any w3.heap.size w3.heap.size _ _ us xs w5 (Nat.le_trans hsl hb45.size) (HQ1.out.at hsl hb45) (HI.out.at hsl hb45) HN.out.2.1 HN.out.2.2.2 K2 HK.out.2).mono ?_
          rintro e w6 ⟨rfl, hb6⟩
          have hb46 := bt hb45 hb6
          clear hb45 hb6
          go_wp2_with fail
          refine (refTotal_any w3.heap.size _ ts w6 (Nat.le_trans hsl hb46.size) (HP1.out.at hsl hb46) HN.out.1 HN.out.2.2.1 Ta HM.out.2.2.2.1).mono ?_
          rintro e w7 ⟨rfl, hb7⟩
          have hb47 : Below w3.heap.size w3 w7 := bt hbl (bt hb46 hb7)
          clear hb46 hb7
          by_cases hd : 0 < P1 - P2
          · go_wp2
            go_roundw
            case rel => exact ⟨i + 1, z + (P1 - P2), by go_num, by go_num, h1, by rw [Hid, HP2.out]; omega, hb47⟩
            case measure => simp [intOf]; omega
          · go_wp2
            go_roundw
            case rel => exact ⟨i + 1, z, rfl, by go_num, h1, by rw [Hid, HP2.out]; omega, hb47⟩
            case measure => simp [intOf]; omega
        · have hii : i = zs.length := by omega
          have hz2 : apO Ta Tb (rd ts) (rd us) os = z := by
            rw [← HA.out, hii, ← HS.out, List.take_of_length_le (by simp)]
          have hbw : Below w.heap.size w wr := bt hbw3 hbl
          have hsl := hbl.size
          have hmk := HM.out.1
          have hzT := HU.out
          have bT : 0 ≤ Ta * Tb ∧ Ta * Tb ≤ 1152921504606846976 := Rt.mul_bd (by omega) hTa1 (by omega) hTb1
          have cT : 0 < Ta * Tb := Int.mul_pos hTa0 hTb0
          obtain ⟨P, hP⟩ : ∃ P, Ta * Tb = P := ⟨_, rfl⟩
          rw [hz2, hP] at hmk
          rw [hz2, hP] at hzT
          rw [hP] at bT cT
          have hm := Rt.mkT_of z P n m er (by omega) (by omega) hmk
          have HZr : Hid (Zc w.heap.size wr) := HZ3.out.at hbl lw3
          obtain ⟨x, rfl⟩ := Int.eq_ofNat_of_zero_le hzb.1
          obtain ⟨y, rfl⟩ := Int.eq_ofNat_of_zero_le bT.1
          rw [show Int.gcd (x : Int) (y : Int) = Nat.gcd x y from rfl] at hm
          have hg1 : 1 ≤ Nat.gcd x y := Nat.gcd_pos_of_pos_right _ (by omega)
          have hg2 : Nat.gcd x y ≤ y := Nat.gcd_le_right _ (by omega)
          have hxy : (x : Int) / (Nat.gcd x y : Nat) ≤ (y : Int) / (Nat.gcd x y : Nat) := Int.ediv_le_ediv (by omega) hzT
          have y1 : 0 ≤ (x : Int) / (Nat.gcd x y : Nat) := Int.ediv_nonneg (by omega) (by omega)
          have y2 : 0 ≤ (y : Int) / (Nat.gcd x y : Nat) := Int.ediv_nonneg (by omega) (by omega)
          have y3 : (x : Int) / (Nat.gcd x y : Nat) ≤ 1152921504606846976 := Int.le_trans (Int.ediv_le_self _ (by omega)) hzb.2
          have y4 : (y : Int) / (Nat.gcd x y : Nat) ≤ 1152921504606846976 := Int.le_trans (Int.ediv_le_self _ (by omega)) bT.2
          have HN : Hid (Nn (rd ts) ∧ Nn (rd us) ∧ tot (rd ts) ≤ 4611686018427387904 ∧ tot (rd us) ≤ 4611686018427387904) := ⟨Nn.of_pos HM.out.2.1.pos, Nn.of_pos HM.out.2.2.1.pos, by have := HM.out.2.1.le; omega, by have := HM.out.2.2.1.le; omega⟩
          have HX : Hid (((1073741824 < (x : Int) / (Nat.gcd x y : Nat) ∨ 1073741824 < (y : Int) / (Nat.gcd x y : Nat)) ∧ 0 = n ∧ 0 = m ∧ 4 = er) ∨ ((x : Int) / (Nat.gcd x y : Nat) ≤ 1073741824 ∧ (y : Int) / (Nat.gcd x y : Nat) ≤ 1073741824 ∧ (x : Int) / (Nat.gcd x y : Nat) = n ∧ (y : Int) / (Nat.gcd x y : Nat) = m ∧ 0 = er)) := hm
          have kd := fun W => refDivisor_any x y (by omega) (by omega) (by omega) W
          obtain ⟨g, hg⟩ : ∃ g, Nat.gcd x y = g := ⟨_, rfl⟩
          rw [hg] at hg1 hg2 hxy y1 y2 y3 y4 HX
          simp only [hg] at kd
          clear hz2 hmk hm hzT hii hg HU HU1 HA
          go_wp2_with fail
          refine (refTotal_any B _ ts wr (by omega) (HP.out.at hB hbw) HN.out.1 HN.out.2.2.1 Ta HM.out.2.2.2.1).mono ?_
          rintro e w4 ⟨rfl, hb4⟩
          go_wp2_with fail
          refine (refTotal_any B _ us w4 (by have := hb4.size; omega) (HQ.out.at hB (bt hbw hb4)) HN.out.2.1 HN.out.2.2.2 Tb HM.out.2.2.2.2.1).mono ?_
          rintro e w5 ⟨rfl, hb5⟩
          have HZ5 : Zc w.heap.size w5 := HZr.out.at (bt hb4 hb5) (by omega)
          have hbw5 : Below w.heap.size w w5 := bt hbw (bt hb4 hb5)
          obtain ⟨q1, q2, q3, q4⟩ := HZ5
          clear hb4 hb5
          have y5 : ¬ (g : Int) = 0 := by omega
          rcases HX.out with ⟨hc, rfl, rfl, rfl⟩ | ⟨hc1, hc2, rfl, rfl, rfl⟩
          · have hc' : 1073741824 < (y : Int) / (g : Int) := by omega
            clear hc
            go_wp2_with (go_at_call 54; refine (kd _).mono ?_; rintro e w6 ⟨rfl, rfl⟩)
            exact bodyPost_ret (v := .tuple #[rv 0 0, .int .i64 4]) (by simp [results, Try.results30, go_sem, q1, q2]) rfl ⟨rfl, bs (bs hbw5 (Nat.le_refl _) _) (Nat.le_refl _) _⟩
          · go_wp2_with (go_at_call 54; refine (kd _).mono ?_; rintro e w6 ⟨rfl, rfl⟩)
            go_region
            all_goals go_wp2
            exact bodyPost_ret (v := .tuple #[rv (x / g) (y / g), .int .i64 0]) (by simp [results, Try.results30, go_sem, q1, q2]) rfl ⟨rfl, (bs (bs hbw5 (Nat.le_refl _) _) (Nat.le_refl _) _).drew⟩
    · have h3 := HR.out.1
      simp only [if_true] at h3
      rw [if_neg h2] at h3
      simp only [Prod.mk.injEq] at h3
      obtain ⟨rfl, rfl, rfl⟩ := h3
      obtain ⟨q1, q2, q3, q4⟩ := HZ2.out
      have h0' : (e2 == 0) = false := by simpa using h2
      have h0'' : (e2 != 0) = true := by simpa using h2
      go_wp2
      exact bodyPost_ret (v := .tuple #[rv 0 0, .int .i64 e2]) (by simp [results, Try.results30, go_sem, q1, q2]) rfl ⟨rfl, bs (bs hbw2 (Nat.le_refl _) _) (Nat.le_refl _) _⟩
  · have h3 := HR.out.1
    rw [if_neg h1, if_neg h1] at h3
    simp only [Prod.mk.injEq] at h3
    obtain ⟨rfl, rfl, rfl⟩ := h3
    obtain ⟨q1, q2, q3, q4⟩ := HZ1.out
    have h0' : (e1 == 0) = false := by simpa using h1
    have h0'' : (e1 != 0) = true := by simpa using h1
    go_wp2
    exact bodyPost_ret (v := .tuple #[rv 0 0, .int .i64 e1]) (by simp [results, Try.results30, go_sem, q1, q2]) rfl ⟨rfl, bs (bs hbw (Nat.le_refl _) _) (Nat.le_refl _) _⟩
end Go.Proofs.Ytdcdjjemndadaaa

import Derived.Test.YtdcdjjemndadaaaRfa
namespace Go.Proofs.Ytdcdjjemndadaaa
open Go.RowKit Go.Proofs.Ytdcdjjemndadaaa.Ds

/-- the greatest of what has come -/
def farO (Ta Tb : Int) (l m : List Pt) (os : List (List Int)) : Int × Int := farR Ta Tb (os.map (ow l m))
/-- one has something that the other has not -/
def lonO (l m : List Pt) (os : List (List Int)) : Bool := (os.map (ow l m)).any lonW
def PslO (l m : List Pt) (os : List (List Int)) : Prop := Psl (os.map (ow l m))

theorem farO_snoc {Ta Tb : Int} {l m : List Pt} {os : List (List Int)} {i : Nat} {o : List Int} (h : os[i]? = some o) : farO Ta Tb l m (os.take (i + 1)) = farStepR Ta Tb (farO Ta Tb l m (os.take i)) (wt l o, wt m o) := by
  rw [farO, take_snoc h, List.map_append, List.map_cons, List.map_nil, farR_snoc]; rfl
theorem pslO_snoc {l m : List Pt} {os : List (List Int)} {i : Nat} {o : List Int} (h : os[i]? = some o) (hp : PslO l m (os.take i)) (h1 : 0 < wt l o) (h2 : 0 < wt m o) : PslO l m (os.take (i + 1)) := by
  rw [PslO, take_snoc h, List.map_append, List.map_cons, List.map_nil]
  intro q hq
  rcases List.mem_append.1 hq with hq | hq
  · exact hp q hq
  · obtain rfl : q = ow l m o := by simpa using hq
    exact ⟨h1, h2⟩
theorem lonO_yes {l m : List Pt} {os : List (List Int)} {i : Nat} {o : List Int} (h : os[i]? = some o) (h0 : wt l o = 0 ∨ wt m o = 0) : lonO l m os = true := by
  rw [lonO, List.any_map, List.any_eq_true]
  exact ⟨o, List.mem_of_getElem? h, by rcases h0 with h0 | h0 <;> simp [lonW, ow, h0]⟩
theorem lonO_no {l m : List Pt} {os : List (List Int)} (h : PslO l m os) : lonO l m os = false := by
  rw [lonO, List.any_eq_false]
  intro q hq
  have := h q hq
  simp only [lonW, Bool.or_eq_true, beq_iff_eq]
  omega
theorem far_o {l m : List Pt} (hl : Dis l) (hm : Dis m) : (if (mrgP l m).any lone = true then ((0, 0, 6) : Int × Int × Int) else Rt.mkT (farF (tot l) (tot m) (mrgP l m)).1 (farF (tot l) (tot m) (mrgP l m)).2) =
    if lonO l m (outsT l m) = true then (0, 0, 6) else Rt.mkT (farO (tot l) (tot m) l m (outsT l m)).1 (farO (tot l) (tot m) l m (outsT l m)).2 := by
  rw [lonO, ← lone_outs hl hm]
  by_cases h : (mrgP l m).any lone = true
  · rw [if_pos h, if_pos h]
  · rw [if_neg h, if_neg h]; exact far_outs hl hm (by simpa using h)

theorem stepR1 {Ta Tb U D K1 K2 P1 P2 : Int} (h1 : K1 * Tb = P1) (h2 : K2 * Ta = P2) (c1 : 0 < P1 * D - U * P2) (c2 : 0 < P2 * P2 - P1 * P1) : farStepR Ta Tb (U, D) (K1, K2) = (P2, P1) := by
  simp only [farStepR, h1, h2]; rw [if_pos (show U * P2 < P1 * D by omega)]; simp only; rw [if_pos (by omega)]
theorem stepR2 {Ta Tb U D K1 K2 P1 P2 : Int} (h1 : K1 * Tb = P1) (h2 : K2 * Ta = P2) (c1 : 0 < P1 * D - U * P2) (c2 : ¬ 0 < P2 * P2 - P1 * P1) : farStepR Ta Tb (U, D) (K1, K2) = (P1, P2) := by
  simp only [farStepR, h1, h2]; rw [if_pos (show U * P2 < P1 * D by omega)]; simp only; rw [if_neg (by omega)]
theorem stepR3 {Ta Tb U D K1 K2 P1 P2 : Int} (h1 : K1 * Tb = P1) (h2 : K2 * Ta = P2) (c1 : ¬ 0 < P1 * D - U * P2) (c2 : 0 < P2 * D - U * P1) : farStepR Ta Tb (U, D) (K1, K2) = (P2, P1) := by
  simp only [farStepR, h1, h2]; rw [if_neg (show ¬ U * P2 < P1 * D by omega)]; simp only; rw [if_pos (by omega)]
theorem stepR4 {Ta Tb U D K1 K2 P1 P2 : Int} (h1 : K1 * Tb = P1) (h2 : K2 * Ta = P2) (c1 : ¬ 0 < P1 * D - U * P2) (c2 : ¬ 0 < P2 * D - U * P1) : farStepR Ta Tb (U, D) (K1, K2) = (U, D) := by
  simp only [farStepR, h1, h2]; rw [if_neg (show ¬ U * P2 < P1 * D by omega)]; simp only; rw [if_neg (by omega)]

set_option maxHeartbeats 2000000 in
set_option maxRecDepth 100000 in
theorem farR_any (B : Nat) (u v : Value) (ts us : List Tr) (w : World) (hB : B ≤ w.heap.size) (hp : Parts w B u ts) (hq : Parts w B v us) (n m er : Int) (hr : farT (rd ts) (rd us) = (n, m, er)) :
    Calls Try.prog 28 #[u, v] w fun e w' => e = .returned (.tuple #[rv n m, .int .i64 er]) ∧ Below w.heap.size w w' := by
  have HP : Hid (Parts w B u ts) := hp
  have HQ : Hid (Parts w B v us) := hq
  obtain ⟨a, c, rfl, _⟩ := hp
  obtain ⟨a', c', rfl, _⟩ := hq
  obtain ⟨⟨l, e1⟩, ho⟩ : ∃ x, ownT (rd ts) = x := ⟨_, rfl⟩
  obtain ⟨⟨m2, e2⟩, ho2⟩ : ∃ x, ownT (rd us) = x := ⟨_, rfl⟩
  rw [farT, twoE, ho, ho2] at hr
  simp only at hr
  have HR : Hid ((if (if e1 = 0 then e2 else e1) = 0 then if (mrgP (rd ts) (rd us)).any lone then (0, 0, 6) else Rt.mkT (farF (tot (rd ts)) (tot (rd us)) (mrgP (rd ts) (rd us))).1 (farF (tot (rd ts)) (tot (rd us)) (mrgP (rd ts) (rd us))).2 else (0, 0, if e1 = 0 then e2 else e1)) = (n, m, er) ∧ ownT (rd ts) = (l, e1) ∧ ownT (rd us) = (m2, e2)) := ⟨hr, ho, ho2⟩
  clear hr ho ho2
  obtain ⟨W, hW⟩ : ∃ W, w.alloc (.cells #[.int .i64 0, .int .i64 0] 34) = W := ⟨_, rfl⟩
  have HW : Hid (Below w.heap.size w W) := hW ▸ ba w _
  have hWs : W.heap.size = w.heap.size + 1 := by rw [← hW]; simp
  have HZ : Hid (Zc w.heap.size W) := hW ▸ zc_new w
  have kc := wrongR_any B _ ts W (by omega) (HP.out.at hB HW.out) e1 (by rw [HR.out.2.1])
  go_enter Try.func28, Try.ntmps28
  go_wp2_with fail
  clear hW
  refine kc.mono ?_
  rintro e w1 ⟨rfl, hb1⟩
  have HZ1 : Hid (Zc w.heap.size w1) := HZ.out.at hb1 (by omega)
  have hbw : Below w.heap.size w w1 := bt HW.out hb1
  have hs1 := hb1.size
  clear kc hb1 HZ
  by_cases h1 : e1 = 0
  · subst h1
    have kc := wrongR_any B _ us w1 (by omega) (HQ.out.at hB hbw) e2 (by rw [HR.out.2.2])
    go_wp2_with fail
    refine kc.mono ?_
    rintro e w2 ⟨rfl, hb2⟩
    have HZ2 : Hid (Zc w.heap.size w2) := HZ1.out.at hb2 (by omega)
    have hbw2 : Below w.heap.size w w2 := bt hbw hb2
    have hs2 := hb2.size
    clear kc hb2 HZ1 hbw
    by_cases h2 : e2 = 0
    · subst h2
      obtain ⟨hle1, hd1⟩ := ownT_ok HR.out.2.1
      obtain ⟨hle2, hd2⟩ := ownT_ok HR.out.2.2
      have hmk := HR.out.1
      simp only [if_true] at hmk
      obtain ⟨Ta, hTa⟩ : ∃ T, tot (rd ts) = T := ⟨_, rfl⟩
      obtain ⟨Tb, hTb⟩ : ∃ T, tot (rd us) = T := ⟨_, rfl⟩
      have hTa1 : Ta ≤ 1073741824 := by rw [← hTa]; exact hd1.le
      have hTb1 : Tb ≤ 1073741824 := by rw [← hTb]; exact hd2.le
      have hTa0 : 0 < Ta := by rw [← hTa]; exact tot_pos2 hd1.pos hd1.ne
      have hTb0 : 0 < Tb := by rw [← hTb]; exact tot_pos2 hd2.pos hd2.ne
      obtain ⟨os, hos⟩ : ∃ os, outsT (rd ts) (rd us) = os := ⟨_, rfl⟩
      rw [far_o hd1 hd2, hTa, hTb, hos] at hmk
      have HM : Hid ((if lonO (rd ts) (rd us) os = true then (0, 0, 6) else Rt.mkT (farO Ta Tb (rd ts) (rd us) os).1 (farO Ta Tb (rd ts) (rd us) os).2) = (n, m, er) ∧ Dis (rd ts) ∧ Dis (rd us) ∧ tot (rd ts) = Ta ∧ tot (rd us) = Tb ∧ outsT (rd ts) (rd us) = os) := ⟨hmk, hd1, hd2, hTa, hTb, hos⟩
      have ko := outs_any B _ _ ts us w2 (by omega) (HP.out.at hB hbw2) (HQ.out.at hB hbw2) (Nn.of_pos hd1.pos) (by have := hd1.le; omega) os hos
      clear hle1 hle2 hd1 hd2 hmk hTa hTb hos HR
      go_wp2_with fail
      refine ko.mono ?_
      rintro e w3 ⟨v3, zs, rfl, hzs, hL, hb3⟩
      have HL : Hid (Lsts w3 w3.heap.size v3 zs) := hL
      obtain ⟨za, zc, rfl, hzc, hzl, _⟩ := hL
      have HS : Hid (zs.map (·.2) = os) := hzs
      have HZ3 : Hid (Zc w.heap.size w3) := HZ2.out.at hb3 (by omega)
      have hbw3 : Below w.heap.size w w3 := bt hbw2 hb3
      have hs3 := hb3.size
      have lw3 : w.heap.size < w3.heap.size := by omega
      clear ko hb3 hzs HZ2 hbw2
      go_wp2
      go_loopw [8, 9, 31] (fun s r t wr => ∃ (i : Nat) (U D : Int), s = .int .i64 U ∧ r = .int .i64 D ∧ t = .int .i64 (i : Int) ∧ i ≤ zs.length ∧ 1 ≤ U ∧ U ≤ 1152921504606846976 ∧ 1 ≤ D ∧ D ≤ 1152921504606846976 ∧ Hid (farO Ta Tb (rd ts) (rd us) (os.take i) = (U, D) ∧ PslO (rd ts) (rd us) (os.take i)) ∧ Below w3.heap.size w3 wr) (fun _ _ t _ => zs.length - (intOf t).toNat)
      case atStart => exact ⟨0, 1, 1, rfl, rfl, rfl, Nat.zero_le _, by omega, by omega, by omega, by omega, ⟨by simp [farO, farR], by intro q hq; simp at hq⟩, Below.refl _ _⟩
      case round =>
        obtain ⟨i, U, D, rfl, rfl, rfl, hit, hU0, hU1, hD0, hD1, HA, hbl⟩ := hrel
        by_cases h1 : i < zs.length
        · obtain ⟨b, o, sa, sc, xs, rfl, hb, hs, d1, hI⟩ := HL.out.get (Nat.le_refl _) hbl h1
          have HI : Hid (Ints wr w3.heap.size w3.heap.size (.slice sa xs.length sc) xs) := hI
          have hbw : Below w.heap.size w wr := bt hbw3 hbl
          have hsl := hbl.size
          have HO : Hid (os[i]? = some xs) := by rw [Hid, ← HS.out, List.getElem?_map, hs]; rfl
          have HP1 : Hid (Parts wr w3.heap.size (.slice a ts.length c) ts) := (HP.out.at hB hbw).mono (by omega)
          have HQ1 : Hid (Parts wr w3.heap.size (.slice a' us.length c') us) := (HQ.out.at hB hbw).mono (by omega)
          obtain ⟨K1, hK1⟩ : ∃ K, wt (rd ts) xs = K := ⟨_, rfl⟩
          obtain ⟨K2, hK2⟩ : ∃ K, wt (rd us) xs = K := ⟨_, rfl⟩
          have bk1 : 0 ≤ K1 ∧ K1 ≤ 1073741824 := by have := (Nn.of_pos HM.out.2.1.pos).wt_le xs; have := HM.out.2.1.le; omega
          have bk2 : 0 ≤ K2 ∧ K2 ≤ 1073741824 := by have := (Nn.of_pos HM.out.2.2.1.pos).wt_le xs; have := HM.out.2.2.1.le; omega
          have b1 : 0 ≤ K1 * Tb ∧ K1 * Tb ≤ 1152921504606846976 := Rt.mul_bd bk1.1 bk1.2 (by omega) hTb1
          have b2 : 0 ≤ K2 * Ta ∧ K2 * Ta ≤ 1152921504606846976 := Rt.mul_bd bk2.1 bk2.2 (by omega) hTa1
          have HK : Hid (wt (rd ts) xs = K1 ∧ wt (rd us) xs = K2) := ⟨hK1, hK2⟩
          have hn1 := Nn.of_pos HM.out.2.1.pos
          have hn2 := Nn.of_pos HM.out.2.2.1.pos
          have ht1 : tot (rd ts) ≤ 4611686018427387904 := by have := HM.out.2.1.le; omega
          have ht2 : tot (rd us) ≤ 4611686018427387904 := by have := HM.out.2.2.1.le; omega
          have HN : Hid (Nn (rd ts) ∧ Nn (rd us) ∧ tot (rd ts) ≤ 4611686018427387904 ∧ tot (rd us) ≤ 4611686018427387904) := ⟨hn1, hn2, ht1, ht2⟩
          clear hs hI hK1 hK2 hn1 hn2 ht1 ht2
          obtain ⟨P1, hP1⟩ : ∃ P, K1 * Tb = P := ⟨_, rfl⟩
          obtain ⟨P2, hP2⟩ : ∃ P, K2 * Ta = P := ⟨_, rfl⟩
          have HPP : Hid (K1 * Tb = P1 ∧ K2 * Ta = P2) := ⟨hP1, hP2⟩
          rw [hP1] at b1
          rw [hP2] at b2
          go_wp2_with fail
          refine (weight_any w3.heap.size w3.heap.size _ _ ts xs wr hsl HP1.out HI.out HN.out.1 HN.out.2.2.1 K1 HK.out.1).mono ?_
          rintro e w4 ⟨rfl, hb4⟩
          go_wp2_with fail
          refine (refTotal_any w3.heap.size _ us w4 (Nat.le_trans hsl hb4.size) (HQ1.out.at hsl hb4) HN.out.2.1 HN.out.2.2.2 Tb HM.out.2.2.2.2.1).mono ?_
          rintro e w5 ⟨rfl, hb5⟩
          have hb45 := bt hb4 hb5
          clear hb4 hb5
          go_wp2_with fail
          refine (weight_any w3.heap.size w3.heap.size _ _ us xs w5 (Nat.le_trans hsl hb45.size) (HQ1.out.at hsl hb45) (HI.out.at hsl hb45) HN.out.2.1 HN.out.2.2.2 K2 HK.out.2).mono ?_
          rintro e w6 ⟨rfl, hb6⟩
          have hb46 := bt hb45 hb6
          clear hb45 hb6
          go_wp2_with fail
          refine (refTotal_any w3.heap.size _ ts w6 (Nat.le_trans hsl hb46.size) (HP1.out.at hsl hb46) HN.out.1 HN.out.2.2.1 Ta HM.out.2.2.2.1).mono ?_
          rintro e w7 ⟨rfl, hb7⟩
          have hb47 : Below w3.heap.size w3 w7 := bt hbl (bt hb46 hb7)
          clear hb46 hb7

          by_cases hk0 : K1 = 0
          · obtain rfl : P1 = 0 := by rw [← HPP.out.1, hk0, Int.zero_mul]
            have h3 := HM.out.1
            rw [if_pos (lonO_yes HO.out (.inl (by rw [HK.out.1]; exact hk0)))] at h3
            simp only [Prod.mk.injEq] at h3
            obtain ⟨rfl, rfl, rfl⟩ := h3
            have HZ7 : Zc w.heap.size w7 := HZ3.out.at hb47 lw3
            obtain ⟨q1, q2, q3, q4⟩ := HZ7
            go_wp2
            exact bodyPost_ret (v := .tuple #[rv 0 0, .int .i64 6]) (by simp [results, Try.results28, go_sem, q1, q2]) rfl ⟨rfl, bs (bs (bt hbw3 hb47) (Nat.le_refl _) _) (Nat.le_refl _) _⟩
          · have c3 : 0 < P1 := by rw [← HPP.out.1]; exact Int.mul_pos (by omega) hTb0
            have c3' : (P1 == 0) = false := by simp; omega
            by_cases hk0 : K2 = 0
            · obtain rfl : P2 = 0 := by rw [← HPP.out.2, hk0, Int.zero_mul]
              have h3 := HM.out.1
              rw [if_pos (lonO_yes HO.out (.inr (by rw [HK.out.2]; exact hk0)))] at h3
              simp only [Prod.mk.injEq] at h3
              obtain ⟨rfl, rfl, rfl⟩ := h3
              have HZ7 : Zc w.heap.size w7 := HZ3.out.at hb47 lw3
              obtain ⟨q1, q2, q3, q4⟩ := HZ7
              go_wp2
              exact bodyPost_ret (v := .tuple #[rv 0 0, .int .i64 6]) (by simp [results, Try.results28, go_sem, q1, q2]) rfl ⟨rfl, bs (bs (bt hbw3 hb47) (Nat.le_refl _) _) (Nat.le_refl _) _⟩
            · have c4 : 0 < P2 := by rw [← HPP.out.2]; exact Int.mul_pos (by omega) hTa0
              have c4' : (P2 == 0) = false := by simp; omega
              have HPS : Hid (PslO (rd ts) (rd us) (os.take (i + 1))) := pslO_snoc HO.out HA.out.2 (by rw [HK.out.1]; omega) (by rw [HK.out.2]; omega)
              by_cases c1 : 0 < P1 * D - U * P2
              · have k1 := fun W => more_any P1 P2 U D (by omega) (by omega) (by omega) (by omega) (by omega) (by omega) (by omega) (by omega) true (decide_eq_true c1) W
                by_cases c2 : 0 < P2 * P2 - P1 * P1
                · have k2 := fun W => more_any P2 P1 P1 P2 (by omega) (by omega) (by omega) (by omega) (by omega) (by omega) (by omega) (by omega) true (decide_eq_true c2) W
                  have HN2 : Hid (farO Ta Tb (rd ts) (rd us) (os.take (i + 1)) = (P2, P1)) := by
                    rw [Hid, farO_snoc HO.out, HA.out.1, HK.out.1, HK.out.2]; exact stepR1 HPP.out.1 HPP.out.2 c1 c2
                  clear c1 c2
                  go_wp2_with fail
                  refine (k1 _).mono ?_
                  rintro e w8 ⟨rfl, hb8⟩
                  go_wp2_with fail
                  refine (k2 _).mono ?_
                  rintro e w9 ⟨rfl, hb9⟩
                  have hb49 : Below w3.heap.size w3 w9 := bt hb47 (bt hb8 hb9)
                  clear k1 k2 hb8 hb9
                  go_wp2
                  go_roundw
                  case rel => exact ⟨i + 1, P2, P1, rfl, rfl, by go_num, h1, by omega, by omega, by omega, by omega, ⟨HN2.out, HPS.out⟩, hb49⟩
                  case measure => simp [intOf]; omega
                · have k2 := fun W => more_any P2 P1 P1 P2 (by omega) (by omega) (by omega) (by omega) (by omega) (by omega) (by omega) (by omega) false (decide_eq_false c2) W
                  have HN2 : Hid (farO Ta Tb (rd ts) (rd us) (os.take (i + 1)) = (P1, P2)) := by
                    rw [Hid, farO_snoc HO.out, HA.out.1, HK.out.1, HK.out.2]; exact stepR2 HPP.out.1 HPP.out.2 c1 c2
                  clear c1 c2
                  go_wp2_with fail
                  refine (k1 _).mono ?_
                  rintro e w8 ⟨rfl, hb8⟩
                  go_wp2_with fail
                  refine (k2 _).mono ?_
                  rintro e w9 ⟨rfl, hb9⟩
                  have hb49 : Below w3.heap.size w3 w9 := bt hb47 (bt hb8 hb9)
                  clear k1 k2 hb8 hb9
                  go_wp2
                  go_roundw
                  case rel => exact ⟨i + 1, P1, P2, rfl, rfl, by go_num, h1, by omega, by omega, by omega, by omega, ⟨HN2.out, HPS.out⟩, hb49⟩
                  case measure => simp [intOf]; omega
              · have k1 := fun W => more_any P1 P2 U D (by omega) (by omega) (by omega) (by omega) (by omega) (by omega) (by omega) (by omega) false (decide_eq_false c1) W
                by_cases c2 : 0 < P2 * D - U * P1
                · have k2 := fun W => more_any P2 P1 U D (by omega) (by omega) (by omega) (by omega) (by omega) (by omega) (by omega) (by omega) true (decide_eq_true c2) W
                  have HN2 : Hid (farO Ta Tb (rd ts) (rd us) (os.take (i + 1)) = (P2, P1)) := by
                    rw [Hid, farO_snoc HO.out, HA.out.1, HK.out.1, HK.out.2]; exact stepR3 HPP.out.1 HPP.out.2 c1 c2
                  clear c1 c2
                  go_wp2_with fail
                  refine (k1 _).mono ?_
                  rintro e w8 ⟨rfl, hb8⟩
                  go_wp2_with fail
                  refine (k2 _).mono ?_
                  rintro e w9 ⟨rfl, hb9⟩
                  have hb49 : Below w3.heap.size w3 w9 := bt hb47 (bt hb8 hb9)
                  clear k1 k2 hb8 hb9
                  go_wp2
                  go_roundw
                  case rel => exact ⟨i + 1, P2, P1, rfl, rfl, by go_num, h1, by omega, by omega, by omega, by omega, ⟨HN2.out, HPS.out⟩, hb49⟩
                  case measure => simp [intOf]; omega
                · have k2 := fun W => more_any P2 P1 U D (by omega) (by omega) (by omega) (by omega) (by omega) (by omega) (by omega) (by omega) false (decide_eq_false c2) W
                  have HN2 : Hid (farO Ta Tb (rd ts) (rd us) (os.take (i + 1)) = (U, D)) := by
                    rw [Hid, farO_snoc HO.out, HA.out.1, HK.out.1, HK.out.2]; exact stepR4 HPP.out.1 HPP.out.2 c1 c2
                  clear c1 c2
                  go_wp2_with fail
                  refine (k1 _).mono ?_
                  rintro e w8 ⟨rfl, hb8⟩
                  go_wp2_with fail
                  refine (k2 _).mono ?_
                  rintro e w9 ⟨rfl, hb9⟩
                  have hb49 : Below w3.heap.size w3 w9 := bt hb47 (bt hb8 hb9)
                  clear k1 k2 hb8 hb9
                  go_wp2
                  go_roundw
                  case rel => exact ⟨i + 1, U, D, rfl, rfl, by go_num, h1, by omega, by omega, by omega, by omega, ⟨HN2.out, HPS.out⟩, hb49⟩
                  case measure => simp [intOf]; omega
        · have hii : i = zs.length := by omega
          have hz2 : os.take i = os := by
            rw [hii, ← HS.out, List.take_of_length_le (by simp)]
          have hbw : Below w.heap.size w wr := bt hbw3 hbl
          have hsl := hbl.size
          have hmk := HM.out.1
          have hA := HA.out
          rw [hz2] at hA
          rw [lonO_no hA.2, hA.1] at hmk
          simp only [Bool.false_eq_true, if_false] at hmk
          have hm := Rt.mkT_of U D n m er (by omega) (by omega) hmk
          have HZr : Zc w.heap.size wr := HZ3.out.at hbl lw3
          obtain ⟨q1, q2, q3, q4⟩ := HZr
          obtain ⟨x, rfl⟩ := Int.eq_ofNat_of_zero_le (show 0 ≤ U by omega)
          obtain ⟨y, rfl⟩ := Int.eq_ofNat_of_zero_le (show 0 ≤ D by omega)
          rw [show Int.gcd (x : Int) (y : Int) = Nat.gcd x y from rfl] at hm
          have hg1 : 1 ≤ Nat.gcd x y := Nat.gcd_pos_of_pos_right _ (by omega)
          have hg2 : Nat.gcd x y ≤ y := Nat.gcd_le_right _ (by omega)
          have y1 : 0 ≤ (x : Int) / (Nat.gcd x y : Nat) := Int.ediv_nonneg (by omega) (by omega)
          have y2 : 0 ≤ (y : Int) / (Nat.gcd x y : Nat) := Int.ediv_nonneg (by omega) (by omega)
          have y3 : (x : Int) / (Nat.gcd x y : Nat) ≤ 1152921504606846976 := Int.le_trans (Int.ediv_le_self _ (by omega)) hU1
          have y4 : (y : Int) / (Nat.gcd x y : Nat) ≤ 1152921504606846976 := Int.le_trans (Int.ediv_le_self _ (by omega)) hD1
          have HX : Hid (((1073741824 < (x : Int) / (Nat.gcd x y : Nat) ∨ 1073741824 < (y : Int) / (Nat.gcd x y : Nat)) ∧ 0 = n ∧ 0 = m ∧ 4 = er) ∨ ((x : Int) / (Nat.gcd x y : Nat) ≤ 1073741824 ∧ (y : Int) / (Nat.gcd x y : Nat) ≤ 1073741824 ∧ (x : Int) / (Nat.gcd x y : Nat) = n ∧ (y : Int) / (Nat.gcd x y : Nat) = m ∧ 0 = er)) := hm
          have kd := fun W => refDivisor_any x y (by omega) (by omega) (by omega) W
          obtain ⟨g, hg⟩ : ∃ g, Nat.gcd x y = g := ⟨_, rfl⟩
          rw [hg] at hg1 hg2 y1 y2 y3 y4 HX
          simp only [hg] at kd
          clear hz2 hmk hm hii hg HA hA
          have y5 : ¬ (g : Int) = 0 := by omega
          rcases HX.out with ⟨hc, rfl, rfl, rfl⟩ | ⟨hc1, hc2, rfl, rfl, rfl⟩
          · have hc' : 1073741824 < (x : Int) / (g : Int) ∨ ((x : Int) / (g : Int) ≤ 1073741824 ∧ 1073741824 < (y : Int) / (g : Int)) := by omega
            clear hc
            rcases hc' with hc1 | ⟨hc1, hc2⟩
            all_goals
              go_wp2_with (go_at_call 54; refine (kd _).mono ?_; rintro e w6 ⟨rfl, rfl⟩)
              exact bodyPost_ret (v := .tuple #[rv 0 0, .int .i64 4]) (by simp [results, Try.results28, go_sem, q1, q2]) rfl ⟨rfl, bs (bs hbw (Nat.le_refl _) _) (Nat.le_refl _) _⟩
          · go_wp2_with (go_at_call 54; refine (kd _).mono ?_; rintro e w6 ⟨rfl, rfl⟩)
            go_region
            all_goals go_wp2
            exact bodyPost_ret (v := .tuple #[rv (x / g) (y / g), .int .i64 0]) (by simp [results, Try.results28, go_sem, q1, q2]) rfl ⟨rfl, (bs (bs hbw (Nat.le_refl _) _) (Nat.le_refl _) _).drew⟩
    · have h3 := HR.out.1
      simp only [if_true] at h3
      rw [if_neg h2] at h3
      simp only [Prod.mk.injEq] at h3
      obtain ⟨rfl, rfl, rfl⟩ := h3
      obtain ⟨q1, q2, q3, q4⟩ := HZ2.out
      have h0' : (e2 == 0) = false := by simpa using h2
      have h0'' : (e2 != 0) = true := by simpa using h2
      go_wp2
      exact bodyPost_ret (v := .tuple #[rv 0 0, .int .i64 e2]) (by simp [results, Try.results28, go_sem, q1, q2]) rfl ⟨rfl, bs (bs hbw2 (Nat.le_refl _) _) (Nat.le_refl _) _⟩
  · have h3 := HR.out.1
    rw [if_neg h1, if_neg h1] at h3
    simp only [Prod.mk.injEq] at h3
    obtain ⟨rfl, rfl, rfl⟩ := h3
    obtain ⟨q1, q2, q3, q4⟩ := HZ1.out
    have h0' : (e1 == 0) = false := by simpa using h1
    have h0'' : (e1 != 0) = true := by simpa using h1
    go_wp2
    exact bodyPost_ret (v := .tuple #[rv 0 0, .int .i64 e1]) (by simp [results, Try.results28, go_sem, q1, q2]) rfl ⟨rfl, bs (bs hbw (Nat.le_refl _) _) (Nat.le_refl _) _⟩
end Go.Proofs.Ytdcdjjemndadaaa

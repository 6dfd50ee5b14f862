import Derived.Test.YtkpjjiomfgkobaaApa
namespace Go.Proofs.Ytkpjjiomfgkobaa
open Go.RowKit Go.Proofs.Ytkpjjiomfgkobaa.Ds

set_option maxHeartbeats 4000000 in
set_option maxRecDepth 100000 in
theorem rapart_any (B : Nat) (cu ru cv rv : Value) (l m : List Col) (ts us : List Rw) (w : World) (hB : B ≤ w.heap.size) (hp : Cols w B cu l) (hq : Rws w B ru ts) (hp2 : Cols w B cv m) (hq2 : Rws w B rv us) (n er : Int) (hn : apaT l m (rr ts) (rr us) = n) (hr : apaE l m (rr ts) (rr us) = er) :
    Calls Try.prog 17 #[.agg #[cu, ru], .agg #[cv, rv]] w fun e w' => e = .returned (.tuple #[.int .i64 n, .int .i64 er]) ∧ Below w.heap.size w w' := by
  have HP : Hid (Cols w B cu l) := hp
  have HQ : Hid (Rws w B ru ts) := hq
  have HP2 : Hid (Cols w B cv m) := hp2
  have HQ2 : Hid (Rws w B rv us) := hq2
  have HN : Hid (apaT l m (rr ts) (rr us) = n) := hn
  have HR : Hid (apaE l m (rr ts) (rr us) = er) := hr
  obtain ⟨a, c, rfl, hc, hl⟩ := hp.slice
  obtain ⟨a2, c2, rfl, hc2, hl2⟩ := hq.slice
  obtain ⟨a3, c3, rfl, hc3, hl3⟩ := hp2.slice
  obtain ⟨a4, c4, rfl, hc4, hl4⟩ := hq2.slice
  clear hn hr
  obtain ⟨W, hW⟩ : ∃ W, (w.alloc (.cells #[.slice a l.length c, .slice a2 ts.length c2] 25)).alloc (.cells #[.slice a3 m.length c3, .slice a4 us.length c4] 25) = W := ⟨_, rfl⟩
  have hbW : Below w.heap.size w W := by rw [← hW]; exact bal (ba _ _) _
  have hsW : W.heap.size = w.heap.size + 2 := by rw [← hW]; simp
  have p0 : W.cell? ⟨w.heap.size, 0, none⟩ = some (.slice a l.length c) := by rw [← hW]; simp [go_sem]
  have p1 : W.cell? ⟨w.heap.size, 1, none⟩ = some (.slice a2 ts.length c2) := by rw [← hW]; simp [go_sem]
  have p2 : W.cell? ⟨w.heap.size + 1, 0, none⟩ = some (.slice a3 m.length c3) := by rw [← hW]; simp [go_sem]
  have p3 : W.cell? ⟨w.heap.size + 1, 1, none⟩ = some (.slice a4 us.length c4) := by rw [← hW]; simp [go_sem]
  obtain ⟨ea, hra⟩ : ∃ ea, Hid (wroE l (rr ts) = ea) := ⟨_, rfl⟩
  have kc := rwrong_any B _ _ l ts W (by omega) (HP.out.at hB hbW) (HQ.out.at hB hbW) ea hra.out
  go_enter Try.func17, Try.ntmps17
  go_wp2_with fail
  clear hW
  refine kc.mono ?_
  rintro e w1 ⟨rfl, hb1⟩
  have hbw : Below w.heap.size w w1 := bt hbW hb1
  obtain ⟨h1c, h1f⟩ := bcell hb1
  have q0 := (h1c w.heap.size 0 (by omega)).trans p0
  have q1 := (h1c w.heap.size 1 (by omega)).trans p1
  have q2 := (h1c (w.heap.size + 1) 0 (by omega)).trans p2
  have q3 := (h1c (w.heap.size + 1) 1 (by omega)).trans p3
  have hz1 : w.heap.size + 2 ≤ w1.heap.size := by have := hb1.size; omega
  clear kc h1c h1f p0 p1 p2 p3 hb1
  by_cases he0 : ea = 0
  · subst he0
    obtain ⟨eb, hrb⟩ : ∃ eb, Hid (wroE m (rr us) = eb) := ⟨_, rfl⟩
    have kc := rwrong_any B _ _ m us w1 (by omega) (HP2.out.at hB hbw) (HQ2.out.at hB hbw) eb hrb.out
    go_wp2_with fail
    refine kc.mono ?_
    rintro e w2 ⟨rfl, hb2⟩
    have hbw2 : Below w.heap.size w w2 := bt hbw hb2
    obtain ⟨h1c, h1f⟩ := bcell hb2
    have r0 := (h1c w.heap.size 0 (by omega)).trans q0
    have r1 := (h1c w.heap.size 1 (by omega)).trans q1
    have r2 := (h1c (w.heap.size + 1) 0 (by omega)).trans q2
    have r3 := (h1c (w.heap.size + 1) 1 (by omega)).trans q3
    have hz2 : w1.heap.size ≤ w2.heap.size := hb2.size
    clear kc h1c h1f q0 q1 q2 q3 hb2
    by_cases he1 : eb = 0
    · subst he1
      obtain ⟨rc, hrc⟩ : ∃ rc, Hid (decide (l = m) = rc) := ⟨_, rfl⟩
      have kc := sameC_any B _ _ l m w2 (by omega) (HP.out.at hB hbw2) (HP2.out.at hB hbw2) rc hrc.out
      go_wp2_with fail
      refine kc.mono ?_
      rintro e w3 ⟨rfl, hb3⟩
      have hbw3 : Below w.heap.size w w3 := bt hbw2 hb3
      have hz3 := hb3.size
      obtain ⟨h1c, h1f⟩ := bcell hb3
      have s0 := (h1c w.heap.size 0 (by omega)).trans r0
      have s1 := (h1c w.heap.size 1 (by omega)).trans r1
      have s2 := (h1c (w.heap.size + 1) 0 (by omega)).trans r2
      have s3 := (h1c (w.heap.size + 1) 1 (by omega)).trans r3
      clear kc r0 r1 r2 r3 h1c h1f
      cases rc with
      | false =>
        have hne : l ≠ m := of_decide_eq_false hrc.out
        obtain rfl : 8 = er := by rw [← HR.out, apaE, if_pos hra.out, if_pos hrb.out, if_neg hne]
        obtain rfl : 0 = n := by rw [← HN.out, apaT, HR.out, if_neg (by decide)]
        clear hne
        go_wp2
        go_ret2
        exact ⟨rfl, hbw3⟩
      | true =>
        have hlm : l = m := of_decide_eq_true hrc.out
        obtain rfl : 0 = er := by rw [← HR.out, apaE, if_pos hra.out, if_pos hrb.out, if_pos hlm]
        obtain ⟨xs, hxs⟩ : ∃ xs, Hid (celT l (rr ts) = xs) := ⟨_, rfl⟩
        obtain ⟨ys, hys⟩ : ∃ ys, Hid (celT l (rr us) = ys) := ⟨_, rfl⟩
        have HNN : Hid (apaS xs ys = n) := by rw [Hid, ← HN.out, apaT, HR.out, if_pos rfl, hxs.out, ← hlm, hys.out]
        have hx4 : prd l ≤ 4096 := (colE_ok (wroE_ok hra.out).1).2.2.2.1
        have HBX : Hid (∀ x ∈ xs, 0 ≤ x ∧ x ≤ (4096 : Int)) := by
          intro x hx
          rw [← hxs.out] at hx
          have h1 := celT_bd hx
          have h2 := (wroE_ok hra.out).2.1
          omega
        have HBY : Hid (∀ x ∈ ys, 0 ≤ x ∧ x ≤ (4096 : Int)) := by
          intro x hx
          rw [← hys.out] at hx
          have h1 := celT_bd hx
          have h2 := (wroE_ok hrb.out).2.1
          omega
        have HCO := colE_ok (wroE_ok hra.out).1
        have kc := all_any B _ l w3 (by omega) (HP.out.at hB hbw3) HCO.2.1 HCO.2.2.1 HCO.2.2.2.1 _ rfl
        clear hlm HCO
        go_wp2_with fail
        refine kc.mono ?_
        rintro e w4 ⟨av, as', rfl, hrr, hrw, hb4, _, _⟩
        have HRR : Hid (rr as' = allT l) := hrr
        have HRW : Hid (Rws w4 w4.heap.size av as') := hrw
        have hal : Hid (as'.length = prd l) := by rw [Hid, ← rr_len, hrr, allT_len]
        have hal4 : as'.length ≤ 4096 := by rw [hal.out]; exact hx4
        obtain ⟨aa, ac, rfl, _⟩ := hrw.slice
        have hbw4 : Below w.heap.size w w4 := bt hbw3 hb4
        have hz4 := hb4.size
        obtain ⟨h1c, h1f⟩ := bcell hb4
        have t0 := (h1c w.heap.size 0 (by omega)).trans s0
        have t1 := (h1c w.heap.size 1 (by omega)).trans s1
        have t2 := (h1c (w.heap.size + 1) 0 (by omega)).trans s2
        have t3 := (h1c (w.heap.size + 1) 1 (by omega)).trans s3
        clear kc s0 s1 s2 s3 h1c h1f hrr hrw hb4 hb3
        go_wp2
        go_loopw [8, 32] (fun nv s wr => ∃ (i : Nat) (k : Int), nv = .int .i64 k ∧ s = .int .i64 (i : Int) ∧ i ≤ as'.length ∧ 0 ≤ k ∧ k ≤ 4096 * (i : Int) ∧ Hid (k + apaS (xs.drop i) (ys.drop i) = n) ∧ Below w4.heap.size w4 wr) (fun _ s _ => as'.length - (intOf s).toNat)
        case atStart => exact ⟨0, 0, rfl, rfl, Nat.zero_le _, by omega, by omega, by show _ = _; simpa using HNN.out, Below.refl _ _⟩
        case round =>
          obtain ⟨i, k, rfl, rfl, hi, hk0, hk1, HI, hbl⟩ := hrel
          have hbr : Below w.heap.size w wr := bt hbw4 hbl
          have hzr := hbl.size
          by_cases h1 : i < as'.length
          · obtain ⟨b, o, sa, sc, r, rfl, hb, hg, c1, hI⟩ := HRW.out.get (Nat.le_refl _) hbl h1
            have HII : Hid (Ints wr w4.heap.size w4.heap.size (.slice sa r.length sc) r) := hI
            have hir : i < prd l := by rw [← hal.out]; exact h1
            have hr' : r = cel l i := by
              have := rr_get hg
              rw [HRR.out, allT_get hir] at this
              exact (Option.some.inj this).symm
            obtain ⟨x, hx⟩ : ∃ x, Hid (cntT (rr ts) r = x) := ⟨_, rfl⟩
            obtain ⟨y, hy⟩ : ∃ y, Hid (cntT (rr us) r = y) := ⟨_, rfl⟩
            have hgx : xs[i]? = some x := by rw [← hxs.out, celT_get hir, ← hr', hx.out]
            have hgy : ys[i]? = some y := by rw [← hys.out, celT_get hir, ← hr', hy.out]
            have hxb := HBX.out _ (List.mem_of_getElem? hgx)
            have hyb := HBY.out _ (List.mem_of_getElem? hgy)
            have ST : Hid (k + max (x - y) (y - x) + apaS (xs.drop (i + 1)) (ys.drop (i + 1)) = n) := by
              have := HI.out
              rw [apaS_step hgx hgy] at this
              show _ = _
              omega
            obtain ⟨h1c, h1f⟩ := bcell hbl
            have u0 := (h1c w.heap.size 0 (by omega)).trans t0
            have u1 := (h1c w.heap.size 1 (by omega)).trans t1
            have u2 := (h1c (w.heap.size + 1) 0 (by omega)).trans t2
            have u3 := (h1c (w.heap.size + 1) 1 (by omega)).trans t3
            have HQr : Hid (Rws wr B (.slice a2 ts.length c2) ts) := HQ.out.at hB hbr
            have HQ2r : Hid (Rws wr B (.slice a4 us.length c4) us) := HQ2.out.at hB hbr
            have lB : B ≤ wr.heap.size := by omega
            have l0 : w.heap.size < wr.heap.size := by omega
            have l1 : w.heap.size + 1 < wr.heap.size := by omega
            clear hg hgx hgy HI hI hr' h1c h1f t0 t1 t2 t3
            go_wp2_with fail
            go_region_held3 (fun w' => w'.cell? ⟨w.heap.size, 0, none⟩ = some (.slice a l.length c) ∧ w'.cell? ⟨w.heap.size, 1, none⟩ = some (.slice a2 ts.length c2) ∧ w'.cell? ⟨w.heap.size + 1, 0, none⟩ = some (.slice a3 m.length c3) ∧ w'.cell? ⟨w.heap.size + 1, 1, none⟩ = some (.slice a4 us.length c4))
              ((go_split_ands; refine ⟨?_, ?_, ?_, ?_⟩ <;> first | assumption | (simp [go_sem, *]; done)))
              (first
                | (have hmark := hb5; clear hmark; go_at_call 30; refine (count_any B w4.heap.size w4.heap.size (.slice a3 m.length c3) (.slice a4 us.length c4) _ us r _ ?_ ⟨_, _, _, rfl⟩ ?_ ?_ ?_ y hy.out).mono ?_; (exact Nat.le_trans lB hs5); (exact HQ2r.out.at lB (bt (Below.refl _ _).drew hb5)); (exact Nat.le_trans hzr hs5); (exact HII.out.at hzr (bt (Below.refl _ _).drew hb5)); rintro x6 w6 ⟨rfl, hb6⟩; obtain ⟨hc6, hf6⟩ := bcell hb6; have k0 : w6.cell? ⟨w.heap.size, 0, none⟩ = some (.slice a l.length c) := (hc6 _ _ (Nat.lt_of_lt_of_le l0 hs5)).trans g0; have k1 : w6.cell? ⟨w.heap.size, 1, none⟩ = some (.slice a2 ts.length c2) := (hc6 _ _ (Nat.lt_of_lt_of_le l0 hs5)).trans g1; have k2 : w6.cell? ⟨w.heap.size + 1, 0, none⟩ = some (.slice a3 m.length c3) := (hc6 _ _ (Nat.lt_of_lt_of_le l1 hs5)).trans g2; have k3 : w6.cell? ⟨w.heap.size + 1, 1, none⟩ = some (.slice a4 us.length c4) := (hc6 _ _ (Nat.lt_of_lt_of_le l1 hs5)).trans g3; clear hc6 hf6)
                | (go_at_call 30; refine (count_any B w4.heap.size w4.heap.size (.slice a l.length c) (.slice a2 ts.length c2) _ ts r _ ?_ ⟨_, _, _, rfl⟩ ?_ ?_ ?_ x hx.out).mono ?_; (show B ≤ wr.heap.size; exact lB); (exact HQr.out.at lB (Below.refl _ _).drew); (show w4.heap.size ≤ wr.heap.size; exact hzr); (exact HII.out.at hzr (Below.refl _ _).drew); rintro x5 w5 ⟨rfl, hb5⟩; obtain ⟨hc5, hf5⟩ := bcell hb5; have g0 : w5.cell? ⟨w.heap.size, 0, none⟩ = some (.slice a l.length c) := (hc5 _ _ l0).trans u0; have g1 : w5.cell? ⟨w.heap.size, 1, none⟩ = some (.slice a2 ts.length c2) := (hc5 _ _ l0).trans u1; have g2 : w5.cell? ⟨w.heap.size + 1, 0, none⟩ = some (.slice a3 m.length c3) := (hc5 _ _ l1).trans u2; have g3 : w5.cell? ⟨w.heap.size + 1, 1, none⟩ = some (.slice a4 us.length c4) := (hc5 _ _ l1).trans u3; have hs5 : wr.heap.size ≤ w5.heap.size := hb5.size; clear hc5 hf5))
            have hb7 : Below w4.heap.size w4 w6 := bt hbl (bt (bt (Below.refl _ _).drew hb5) hb6)
            have hwr : IntKind.i64.wrap (x - y) = x - y := by rw [IntKind.wrap_i64]; omega
            rw [hwr]
            clear hwr u0 u1 u2 u3 g0 g1 g2 g3 k0 k1 k2 k3 hb5 hb6
            try clear hHeld
            by_cases hd : x - y < 0
            · have hmx : max (x - y) (y - x) = -(x - y) := by omega
              rw [hmx] at ST
              go_wp2
              go_roundw
              case rel => exact ⟨i + 1, k + -(x - y), by go_num, by go_num, h1, by omega, by omega, ST, hb7⟩
              case measure => simp [intOf]; omega
            · have hmx : max (x - y) (y - x) = x - y := by omega
              rw [hmx] at ST
              go_wp2
              go_roundw
              case rel => exact ⟨i + 1, k + (x - y), by go_num, by go_num, h1, by omega, by omega, ST, hb7⟩
              case measure => simp [intOf]; omega
          · obtain rfl : k = n := by
              have h0 := HI.out
              have e1 : xs.length = prd l := by rw [← hxs.out, celT_len]
              have e2 : ys.length = prd l := by rw [← hys.out, celT_len]
              have := hal.out
              rw [List.drop_eq_nil_of_le (by omega), List.drop_eq_nil_of_le (by omega)] at h0
              simpa [apaS] using h0
            go_wp2
            go_ret2
            exact ⟨rfl, hbr⟩
    · have hne : (eb != 0) = true := by simpa using he1
      obtain rfl : eb = er := by rw [← HR.out, apaE, if_pos hra.out, hrb.out, if_neg he1]
      obtain rfl : 0 = n := by rw [← HN.out, apaT, HR.out, if_neg he1]
      go_wp2
      go_ret2
      exact ⟨rfl, hbw2⟩
  · have hne : (ea != 0) = true := by simpa using he0
    obtain rfl : ea = er := by rw [← HR.out, apaE, hra.out, if_neg he0]
    obtain rfl : 0 = n := by rw [← HN.out, apaT, HR.out, if_neg he0]
    go_wp2
    go_ret2
    exact ⟨rfl, hbw⟩
end Go.Proofs.Ytkpjjiomfgkobaa

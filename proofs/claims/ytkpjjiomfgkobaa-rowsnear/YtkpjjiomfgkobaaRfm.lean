import Derived.Test.YtkpjjiomfgkobaaRfr
namespace Go.Proofs.Ytkpjjiomfgkobaa
open Go.RowKit Go.Proofs.Ytkpjjiomfgkobaa.Ds

set_option maxHeartbeats 4000000 in
set_option maxRecDepth 100000 in
theorem rfrom_any (B Bi nb : Nat) (cv u : Value) (l : List Col) (xs : List Int) (w : World) (hB : B ≤ w.heap.size) (hp : Cols w B cv l) (hBi : Bi ≤ w.heap.size) (hu : Ints w Bi nb u xs) (lc : List Col) (rs : List (List Int)) (er : Int) (h1 : froC l xs = lc) (h2 : froT l xs = rs) (h3 : froE l xs = er) :
    Calls Try.prog 14 #[cv, u] w (FromP lc rs er w) := by
  have HP : Hid (Cols w B cv l) := hp
  have HU : Hid (Ints w Bi nb u xs) := hu
  have H1 : Hid (froC l xs = lc) := h1
  have H2 : Hid (froT l xs = rs) := h2
  have H3 : Hid (froE l xs = er) := h3
  obtain ⟨a, c, rfl, hc, hl⟩ := hp.slice
  obtain ⟨a2, c2, rfl, hc2, hl2⟩ := hu.slice
  obtain ⟨i26, hi26, hz0, hz1, hz2⟩ := info_parts info26
  clear h1 h2 h3
  obtain ⟨W, hW⟩ : ∃ W, w.alloc (.cells #[.slice none 0 0, .slice none 0 0] 25) = W := ⟨_, rfl⟩
  have hbW : Below w.heap.size w W := by rw [← hW]; exact ba _ _
  have hsW : W.heap.size = w.heap.size + 1 := by rw [← hW]; simp
  have HR0 : Hid (TwoB W w.heap.size (.slice none 0 0) (.slice none 0 0)) := by rw [← hW]; exact TwoB.new _ _ _ _ _ rfl
  obtain ⟨ec, hec⟩ : ∃ ec, Hid (colE l = ec) := ⟨_, rfl⟩
  have kc := rcolumns_any B _ l W (by omega) (HP.out.at hB hbW) ec hec.out
  go_enter Try.func14, Try.ntmps14
  go_wp2_with fail
  clear hW
  refine kc.mono ?_
  rintro e w1 ⟨rfl, hb1⟩
  have HR1 : Hid (TwoB w1 w.heap.size (.slice none 0 0) (.slice none 0 0)) := HR0.out.below hb1
  have hbw1 : Below w.heap.size w w1 := bt hbW hb1
  have hs1 : w.heap.size < w1.heap.size := by have := hb1.size; omega
  clear kc hb1 HR0
  by_cases he0 : ec = 0
  · subst he0
    have HC := colE_ok hec.out
    have HO : Hid (l.length ≤ 6 ∧ Szs l ∧ prd l ≤ 4096) := ⟨HC.2.1, HC.2.2.1, HC.2.2.2.1⟩
    obtain ⟨n, hn⟩ : ∃ n, Hid (prd l = n) := ⟨_, rfl⟩
    have kc := rcells_any B _ l w1 (by omega) (HP.out.at hB hbw1) HO.out.2.1 HO.out.2.2 n hn.out
    clear HC
    go_wp2_with fail
    refine kc.mono ?_
    rintro e w2 ⟨rfl, hb2⟩
    have HR2 : Hid (TwoB w2 w.heap.size (.slice none 0 0) (.slice none 0 0)) := HR1.out.below hb2
    have hbw2 : Below w.heap.size w w2 := bt hbw1 hb2
    have hs2 : w.heap.size < w2.heap.size := by have := hb2.size; omega
    clear kc hb2 HR1
    by_cases hlen : xs.length = n
    · have hle : ((xs.length : Int) != (n : Int)) = false := by simp [hlen]
      have HLN : Hid (xs.length = n) := hlen
      have HE : Hid (togE 0 xs = er) := by rw [Hid, ← H3.out, froE, if_pos hec.out, if_pos (hlen.trans hn.out.symm)]
      have hn4 : n ≤ 4096 := by rw [← hn.out]; exact HO.out.2.2
      clear hlen
      obtain ⟨W3, hW3⟩ : ∃ W3, w2.alloc (.cells #[.slice a l.length c, .slice none 0 0] 25) = W3 := ⟨_, rfl⟩
      have hb23 : Below w2.heap.size w2 W3 := by rw [← hW3]; exact ba _ _
      have hbw3 : Below w.heap.size w W3 := bt hbw2 hb23
      have hs3 : W3.heap.size = w2.heap.size + 1 := by rw [← hW3]; simp
      have HT3 : Hid (TwoB W3 w2.heap.size (.slice a l.length c) (.slice none 0 0)) := by rw [← hW3]; exact TwoB.new _ _ _ _ _ rfl
      have HR3 : Hid (TwoB W3 w.heap.size (.slice none 0 0) (.slice none 0 0)) := HR2.out.below hb23
      have kc := all_any B _ l W3 (by omega) (HP.out.at hB hbw3) HO.out.1 HO.out.2.1 HO.out.2.2 _ rfl
      have HW3 : Hid (w2.alloc (.cells #[.slice a l.length c, .slice none 0 0] 25) = W3) := hW3
      clear HR2 hb23 hW3
      go_wp2_with fail
      rw [HW3.out]
      clear HW3
      refine kc.mono ?_
      rintro e w4 ⟨av, as', rfl, hrr, hrw, hb4, hsom, hown⟩
      have HRR : Hid (rr as' = allT l) := hrr
      have HRW : Hid (Rws w4 w4.heap.size av as') := hrw
      have HSM : Hid (Som W3.heap.size as') := hsom
      have hal : Hid (as'.length = n) := by rw [Hid, ← rr_len, hrr, allT_len]; exact hn.out
      have hal4 : as'.length ≤ 4096 := by rw [hal.out]; exact hn4
      obtain ⟨aa, ac, rfl, _⟩ := hrw.slice
      have HOW : Hid (∀ g, (Value.slice aa as'.length ac).ownBlock = some g → W3.heap.size ≤ g) := hown
      have hbw4 : Below w.heap.size w w4 := bt hbw3 hb4
      have hs4 : W3.heap.size ≤ w4.heap.size := hb4.size
      have HT4 : Hid (TwoB w4 w2.heap.size (.slice a l.length c) (.slice none 0 0)) := HT3.out.below hb4
      have HR4 : Hid (TwoB w4 w.heap.size (.slice none 0 0) (.slice none 0 0)) := HR3.out.below hb4
      clear kc hrr hrw hsom hb4 HT3 HR3 hown
      go_wp2
      go_loopw [28] (fun s wr => ∃ (i : Nat) (ms : List Rw) (rv : Value), s = .int .i64 (i : Int) ∧ i ≤ as'.length ∧ ms.length ≤ 4096 ∧ Hid (TwoB wr w2.heap.size (.slice a l.length c) rv) ∧ Hid (Rwr wr w4.heap.size rv ms) ∧ Hid (Som W3.heap.size ms) ∧ Hid (rr ms = froR ((allT l).take i) (xs.take i)) ∧ Hid (togE (ms.length : Int) (xs.drop i) = er) ∧ Hid (w4.grownBy wr (some w2.heap.size))) (fun s _ => as'.length - (intOf s).toNat)
      case atStart => exact ⟨0, [], .slice none 0 0, rfl, Nat.zero_le _, by simp, HT4, Rwr.nil _ _, Som.nil _, rfl, by simpa [Hid] using HE.out, gb_refl _ _⟩
      case round =>
        obtain ⟨i, ms, rv, rfl, hi, hm4, HT, HW, HM, HF, HG, HB⟩ := hrel
        obtain ⟨ra, rc, rfl⟩ := HW.out.slice
        have hzr := HB.out.size
        have t1 := HT.out.c1
        have hbr : Below w2.heap.size w4 wr := below_gb HB.out (Nat.le_refl _) (by omega)
        have hbwr : Below w.heap.size w wr := hbw4.trans (hbr.mono (by omega))
        by_cases hi1 : i < as'.length
        · obtain ⟨b, o, sa, sc, r, rfl, hb, hg, c1, hI⟩ := HRW.out.get (Nat.le_refl _) (Below.refl _ _) hi1
          have HII : Hid (Ints w4 w4.heap.size w4.heap.size (.slice sa r.length sc) r) := HRW.out.elem (List.mem_of_getElem? hg)
          have HSR : Hid (∃ b o n c, Value.slice sa r.length sc = .slice (some ⟨b, o, none⟩) n c ∧ W3.heap.size ≤ b) := HSM.out _ (List.mem_of_getElem? hg)
          have HGA : Hid ((allT l)[i]? = some r) := by rw [Hid, ← HRR.out]; exact rr_get hg
          have c2' : wr.cell? ⟨b, o + i, none⟩ = some (.slice sa r.length sc) := HB.out.cell c1 (by have := HOW.out b rfl; simp; omega)
          obtain ⟨b2, o2, x, rfl, hb2, _, hg2, e1⟩ := HU.out.get hBi hbwr (i := i) (by have := HLN.out; have := hal.out; omega)
          have z1 : (i : Int) < (xs.length : Int) := by have := HLN.out; have := hal.out; omega
          have ST : Hid (er = if x < 0 then 3 else if 4096 - (ms.length : Int) < x then 4 else togE ((ms.length : Int) + x) (xs.drop (i + 1))) := HG.out.symm.trans (togE_step hg2)
          have HGX : Hid (xs[i]? = some x) := hg2
          clear hg hI hg2 HG c1
          have HRr : Hid (TwoB wr w.heap.size (.slice none 0 0) (.slice none 0 0)) := HR4.out.gb HB.out (by simp; omega)
          have v0 := HRr.out.c0
          have v1 := HRr.out.c1
          have v2 := HRr.out.f0
          have v3 := HRr.out.f1
          by_cases hx0 : x < 0
          · obtain rfl : er = 3 := by rw [ST.out, if_pos hx0]
            obtain ⟨rfl, rfl⟩ : [] = lc ∧ [] = rs := by rw [← H1.out, ← H2.out]; have := froE_no H3.out (by decide); exact ⟨this.1.symm, this.2.symm⟩
            go_wp2
            obtain ⟨W7, hW7⟩ : ∃ W7, (wr.setCell ⟨w.heap.size, 0, none⟩ (.slice none 0 0)).setCell ⟨w.heap.size, 1, none⟩ (.slice none 0 0) = W7 := ⟨_, rfl⟩
            have HZ := HRr.out.put (.slice none 0 0) (.slice none 0 0)
            rw [hW7] at HZ
            have hb7 : Below w.heap.size w W7 := by rw [← hW7]; exact bs (bs hbwr (Nat.le_refl _) _) (Nat.le_refl _) _
            rw [hW7]
            exact bodyPost_ret (v := .tuple #[.agg #[.slice none 0 0, .slice none 0 0], .int .i64 3]) (by simp [results, Try.results14, go_sem, HZ.c0, HZ.c1]) rfl ⟨_, _, [], rfl, cols_nil _ _, rws_nil _ _, rfl, hb7⟩
          · by_cases hx1 : 4096 - (ms.length : Int) < x
            · obtain rfl : er = 4 := by rw [ST.out, if_neg hx0, if_pos hx1]
              obtain ⟨rfl, rfl⟩ : [] = lc ∧ [] = rs := by rw [← H1.out, ← H2.out]; have := froE_no H3.out (by decide); exact ⟨this.1.symm, this.2.symm⟩
              go_wp2
              go_quiet (fail)
              go_wp2
              obtain ⟨W7, hW7⟩ : ∃ W7, ((wr.drewN nq).setCell ⟨w.heap.size, 0, none⟩ (.slice none 0 0)).setCell ⟨w.heap.size, 1, none⟩ (.slice none 0 0) = W7 := ⟨_, rfl⟩
              have HZ := (HRr.out.below (bdr _ nq)).put (.slice none 0 0) (.slice none 0 0)
              rw [hW7] at HZ
              have hb7 : Below w.heap.size w W7 := by rw [← hW7]; exact bs (bs (below_drewN hbwr nq) (Nat.le_refl _) _) (Nat.le_refl _) _
              rw [hW7]
              exact bodyPost_ret (v := .tuple #[.agg #[.slice none 0 0, .slice none 0 0], .int .i64 4]) (by simp [results, Try.results14, go_sem, HZ.c0, HZ.c1]) rfl ⟨_, _, [], rfl, cols_nil _ _, rws_nil _ _, rfl, hb7⟩
            · obtain ⟨q, rfl⟩ := Int.eq_ofNat_of_zero_le (show 0 ≤ x by omega)
              have HGN : Hid (togE ((ms.length : Int) + (q : Int)) (xs.drop (i + 1)) = er) := by rw [Hid, ST.out, if_neg hx0, if_neg hx1]
              have HFN : Hid (froR ((allT l).take (i + 1)) (xs.take (i + 1)) = rr ms ++ List.replicate q r) := by rw [Hid, froR_step HGX.out HGA.out, HF.out]; simp
              clear ST HF v0 v1 v2 v3
              go_wp2
              go_quiet (fail)
              go_wp2
              obtain ⟨wq, hwq⟩ : ∃ wq : World, wq = wr := ⟨_, rfl⟩
              subst hwq
              go_loopw [10] (fun s wr => ∃ (k : Nat) (ns : List Rw) (rv : Value), s = .int .i64 (k : Int) ∧ k ≤ q ∧ Hid (ns.length = ms.length + k) ∧ Hid (TwoB wr w2.heap.size (.slice a l.length c) rv) ∧ Hid (Rwr wr w4.heap.size rv ns) ∧ Hid (Som W3.heap.size ns) ∧ Hid (rr ns = rr ms ++ List.replicate k r) ∧ Hid (w4.grownBy wr (some w2.heap.size))) (fun s _ => q - (intOf s).toNat)
              case atStart => exact ⟨0, ms, _, rfl, Nat.zero_le _, rfl, HT.out.below (bdr _ _), HW.out.keep (bdr _ _), HM, by simp [Hid], gb_trans HB.out (gb_below (bdr _ _))⟩
              case round =>
                obtain ⟨k, ns, rv, rfl, hk, hnl, HT2, HW2, HM2, HF2, HB2⟩ := hrel
                obtain ⟨na, ncp, rfl⟩ := HW2.out.slice
                have hzr2 := HB2.out.size
                have hn5 : ns.length ≤ 4096 := by have := hnl.out; omega
                have t1 := HT2.out.c1
                have t3 := HT2.out.f1
                have hbr2 : Below w2.heap.size w4 wr := below_gb HB2.out (Nat.le_refl _) (by omega)
                have e2 : wr.cell? ⟨b2, o2 + i, none⟩ = some (.int .i64 (q : Int)) := by
                  obtain ⟨b3, o3, x3, he3, hb3, _, hg3, e3⟩ := HU.out.get hBi (hbw4.trans (hbr2.mono (by omega))) (i := i) (by have := HLN.out; have := hal.out; omega)
                  simp only [Option.some.injEq, Addr.mk.injEq] at he3
                  obtain ⟨rfl, rfl, _⟩ := he3
                  rw [HGX.out] at hg3
                  rw [e3, ← Option.some.inj hg3]
                by_cases hk1 : k < q
                · have HO2 : Hid (Rwr (wr.alloc (.cells #[.slice sa r.length sc] 26)) w4.heap.size (.slice na ns.length ncp) ns) := HW2.out.keep (ba _ _)
                  obtain ⟨mo, hmo, hmg⟩ : ∃ mo, w4.heap.size ≤ mo ∧ ∀ g, (Value.slice na ns.length ncp).ownBlock = some g → mo = g := by
                    cases e : (Value.slice na ns.length ncp).ownBlock with
                    | none => exact ⟨w4.heap.size, Nat.le_refl _, fun g e => by cases e⟩
                    | some g => exact ⟨g, (HW2.out.lt g e).1, fun g' e => by simpa using e⟩
                  have HIr : Hid (Ints (wr.alloc (.cells #[.slice sa r.length sc] 26)) (wr.alloc (.cells #[.slice sa r.length sc] 26)).heap.size mo (.slice sa r.length sc) r) :=
                    (((HII.out.not HSR.out (m := w2.heap.size) (by omega)).grow HB2.out (Nat.le_refl _) (fun g e => by simpa using e) (.inr hmo : mo = _ ∨ _)).at2 (ba _ _))
                  have HMG : Hid (∀ g, (Value.slice na ns.length ncp).ownBlock = some g → mo = g) := hmg
                  clear hmg
                  go_wp2_with (at_builtin; refine wpList_append_own_at _ rfl _ _ 23 rfl w4.heap.size 26 i26 (.slice none 0 0) 1 24 Try.underlying23 hi26 hz0 hz1 hz2 rfl (by decide) _ _ _ rfl HO2.out.1 ⟨wr.heap.size, 0, none⟩ 1 1 [.slice sa r.length sc] rfl ?q1 ?q2 ?q3 ?q4 ?q5 ?q6 ?_)
                  case q1 => rfl
                  case q2 => exact cell_one_new _ _ _
                  case q3 => intro u hu; simp at hu; subst hu; rfl
                  case q4 => simp [maxLen]; omega
                  case q5 => omega
                  case q6 => simp; omega
                  intro v3 w5 hown3 hgrow3 hnil3 hat3
                  have HW5 : Hid (Rwr w5 w4.heap.size v3 (ns ++ [(.slice sa r.length sc, r)])) := HO2.out.app hown3 hgrow3 (by simpa using hat3) HIr.out HMG.out
                  have HB5 : Hid (w4.grownBy w5 (some w2.heap.size)) := gb_grow (gb_alloc HB2.out _) hgrow3 (owns_block HO2.out.1)
                  have HM5 : Hid (Som W3.heap.size (ns ++ [(.slice sa r.length sc, r)])) := HM2.out.add HSR.out
                  have HT5 : Hid (TwoB w5 w2.heap.size (.slice a l.length c) (.slice na ns.length ncp)) := (HT2.out.below (ba _ _)).gb hgrow3 (fun e => by have := (HW2.out.lt _ e).1; omega)
                  have HF5 : Hid (rr (ns ++ [(.slice sa r.length sc, r)]) = rr ms ++ List.replicate (k + 1) r) := by
                    rw [Hid, rr_snoc, HF2.out, List.append_assoc, ← List.replicate_succ']
                  obtain ⟨a3, c3, rfl⟩ := HW5.out.slice
                  have HW6 : Hid (Rwr (w5.setCell ⟨w2.heap.size, 1, none⟩ (.slice a3 (ns.length + 1) c3)) w4.heap.size (.slice a3 (ns.length + 1) c3) (ns ++ [(.slice sa r.length sc, r)])) := by
                    have h := HW5.out.set (T := w2.heap.size) (k := 1) (by omega) (HM5.out.mono (by omega)) (.slice a3 (ns.length + 1) c3)
                    rw [show (ns ++ [((.slice sa r.length sc, r) : Rw)]).length = ns.length + 1 by simp] at h
                    exact h
                  have y1 := HT5.out.c1
                  have y3 := HT5.out.f1
                  clear hown3 hgrow3 hnil3 hat3 HO2 HIr t1 t3
                  go_wp2
                  go_roundw
                  case rel => exact ⟨k + 1, ns ++ [(.slice sa r.length sc, r)], _, by go_num, hk1, by show _ = _; have := hnl.out; simp; omega, HT5.out.set1 _, HW6, HM5, HF5, gb_set HB5.out 1 _⟩
                  case measure => simp [intOf]; omega
                · obtain rfl : k = q := by omega
                  go_wp2
                  go_roundw
                  case rel => exact ⟨i + 1, ns, _, by go_num, hi1, hn5, HT2, HW2, HM2, by rw [Hid, HFN.out, HF2.out], by rw [Hid, hnl.out]; simpa using HGN.out, HB2⟩
                  case measure => simp [intOf]; omega
        · obtain rfl : 0 = er := by
            have := HG.out
            rw [List.drop_eq_nil_of_le (by have := HLN.out; have := hal.out; omega)] at this
            exact this
          have HFF : Hid (rr ms = rs) := by
            rw [Hid, ← H2.out, froT, H3.out, if_pos rfl, HF.out, List.take_of_length_le (by rw [allT_len, hn.out]; have := hal.out; omega), List.take_of_length_le (by have := HLN.out; have := hal.out; omega)]
          obtain rfl : l = lc := by rw [← H1.out, froC, H3.out, if_pos rfl]
          have t0 := HT.out.c0
          have HRr : Hid (TwoB wr w.heap.size (.slice none 0 0) (.slice none 0 0)) := HR4.out.gb HB.out (by simp; omega)
          have v0 := HRr.out.c0
          have v1 := HRr.out.c1
          have v2 := HRr.out.f0
          have v3 := HRr.out.f1
          have HRV : Hid (Rwr ((wr.setCell ⟨w.heap.size, 0, none⟩ (.slice a l.length c)).setCell ⟨w.heap.size, 1, none⟩ (.slice ra ms.length rc)) w4.heap.size (.slice ra ms.length rc) ms) := (HW.out.set (by omega) (HM.out.mono (by omega)) _).set (by omega) (HM.out.mono (by omega)) _
          go_wp2
          obtain ⟨W7, hW7⟩ : ∃ W7, (wr.setCell ⟨w.heap.size, 0, none⟩ (.slice a l.length c)).setCell ⟨w.heap.size, 1, none⟩ (.slice ra ms.length rc) = W7 := ⟨_, rfl⟩
          have HZ := HRr.out.put (.slice a l.length c) (.slice ra ms.length rc)
          rw [hW7] at HZ HRV
          have hb7 : Below w.heap.size w W7 := by rw [← hW7]; exact bs (bs hbwr (Nat.le_refl _) _) (Nat.le_refl _) _
          rw [hW7]
          exact bodyPost_ret (v := .tuple #[.agg #[.slice a l.length c, .slice ra ms.length rc], .int .i64 0]) (by simp [results, Try.results14, go_sem, HZ.c0, HZ.c1]) rfl ⟨_, _, ms, rfl, (HP.out.at hB hb7).mono (Nat.le_trans hB hb7.size), HRV.out.rws (by omega), HFF.out, hb7⟩
    · have hle : ((xs.length : Int) != (n : Int)) = true := by simp; omega
      obtain rfl : 8 = er := by rw [← H3.out, froE, if_pos hec.out, if_neg (by rw [hn.out]; exact hlen)]
      obtain ⟨rfl, rfl⟩ : [] = lc ∧ [] = rs := by rw [← H1.out, ← H2.out]; have := froE_no H3.out (by decide); exact ⟨this.1.symm, this.2.symm⟩
      have t0 := HR2.out.c0
      have t1 := HR2.out.c1
      have t2 := HR2.out.f0
      have t3 := HR2.out.f1
      go_wp2
      obtain ⟨W7, hW7⟩ : ∃ W7, (w2.setCell ⟨w.heap.size, 0, none⟩ (.slice none 0 0)).setCell ⟨w.heap.size, 1, none⟩ (.slice none 0 0) = W7 := ⟨_, rfl⟩
      have HZ := HR2.out.put (.slice none 0 0) (.slice none 0 0)
      rw [hW7] at HZ
      have hb7 : Below w.heap.size w W7 := by rw [← hW7]; exact bs (bs hbw2 (Nat.le_refl _) _) (Nat.le_refl _) _
      rw [hW7]
      exact bodyPost_ret (v := .tuple #[.agg #[.slice none 0 0, .slice none 0 0], .int .i64 8]) (by simp [results, Try.results14, go_sem, HZ.c0, HZ.c1]) rfl ⟨_, _, [], rfl, cols_nil _ _, rws_nil _ _, rfl, hb7⟩
  · have hne : (ec != 0) = true := by simpa using he0
    obtain rfl : ec = er := by rw [← H3.out, froE, hec.out, if_neg he0]
    obtain ⟨rfl, rfl⟩ : [] = lc ∧ [] = rs := by rw [← H1.out, ← H2.out]; have := froE_no H3.out he0; exact ⟨this.1.symm, this.2.symm⟩
    have t0 := HR1.out.c0
    have t1 := HR1.out.c1
    have t2 := HR1.out.f0
    have t3 := HR1.out.f1
    go_wp2
    obtain ⟨W7, hW7⟩ : ∃ W7, (w1.setCell ⟨w.heap.size, 0, none⟩ (.slice none 0 0)).setCell ⟨w.heap.size, 1, none⟩ (.slice none 0 0) = W7 := ⟨_, rfl⟩
    have HZ := HR1.out.put (.slice none 0 0) (.slice none 0 0)
    rw [hW7] at HZ
    have hb7 : Below w.heap.size w W7 := by rw [← hW7]; exact bs (bs hbw1 (Nat.le_refl _) _) (Nat.le_refl _) _
    rw [hW7]
    exact bodyPost_ret (v := .tuple #[.agg #[.slice none 0 0, .slice none 0 0], .int .i64 ec]) (by simp [results, Try.results14, go_sem, HZ.c0, HZ.c1]) rfl ⟨_, _, [], rfl, cols_nil _ _, rws_nil _ _, rfl, hb7⟩
end Go.Proofs.Ytkpjjiomfgkobaa

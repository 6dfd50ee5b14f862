import Derived.Test.YtjnclbhpdaonhaaAlv
import Derived.Test.YtjnclbhpdaonhaaSmd
import Derived.Test.YtjnclbhpdaonhaaDmf
namespace Go.Proofs.Ytjnclbhpdaonhaa
open Go.RowKit Go.Proofs.Ytjnclbhpdaonhaa.Ds

theorem pow9' {L : Nat} (h : L ≤ 9) : 1 ≤ 2 ^ L ∧ 2 ^ L ≤ 512 := by
  refine ⟨Nat.pow_pos (by decide), ?_⟩
  have := Nat.pow_le_pow_right (n := 2) (by decide) h
  simpa using this

/-- one draw in new memory -/
theorem Parts.oneN {w : World} {lo : Nat} {v : Value} {ds : List Tr} {x : List Int} {k : Int} (h : Parts w w.heap.size v ds) (hN : NewAt lo v ds) (hd : rd ds = [(x, k)]) :
    ∃ b o c sa sc, v = .slice (some ⟨b, o, none⟩) 1 c ∧ 1 ≤ c ∧ lo ≤ b ∧ b < w.heap.size ∧ w.cell? ⟨b, o, none⟩ = some (.slice sa x.length sc) ∧ w.cell? ⟨b, o + 1, none⟩ = some (.int .i64 k) ∧ ∀ m, m < lo → Ints w w.heap.size m (.slice sa x.length sc) x := by
  obtain ⟨b, o, c, sa, sc, rfl, hc, hb, h1, h2, hI⟩ := h.one hd
  have hl : ds.length = 1 := by rw [← rd_len, hd]; rfl
  refine ⟨b, o, c, sa, sc, rfl, hc, hN.1 b rfl, hb, h1, h2, fun m hm => ?_⟩
  obtain ⟨t, ht⟩ := get_lt (l := ds) (i := 0) (by omega)
  have ht2 := rd_get ht
  rw [hd] at ht2
  simp at ht2
  obtain ⟨a', c', hv, _, _, _, hx⟩ := h
  simp only [Value.slice.injEq] at hv
  obtain ⟨rfl, _, rfl⟩ := hv
  obtain ⟨b', o', he, _, hcell⟩ := hx (ne_of_lt (i := 0) (by omega))
  simp only [Option.some.injEq, Addr.mk.injEq] at he
  obtain ⟨rfl, rfl, _⟩ := he
  have hc0 := (hcell 0 t ht).1
  simp only [Nat.zero_mul, Nat.add_zero] at hc0
  rw [h1] at hc0
  simp only [Option.some.injEq] at hc0
  obtain ⟨a2, c2, hv2, r1, r2, hx2⟩ := hI
  refine ⟨a2, c2, hv2, r1, r2, fun hne => ?_⟩
  obtain ⟨b2, o2, ha2, hb2, _, hcx⟩ := hx2 hne
  have := hN.2 t (List.mem_of_getElem? ht) (by rw [← ht2]; exact hne) b2 o2 none x.length c2 (by rw [← hc0, hv2, ha2])
  exact ⟨b2, o2, ha2, hb2, by omega, hcx⟩

theorem RowI.gb {w w' : World} {g E : Nat} {xs : List Int} (h : RowI w g xs) (hg : w.grownBy w' (some E)) (hne : g ≠ E) : RowI w' g xs :=
  have hn : some g ≠ some E := by simpa using hne
  ⟨fun i x hi => hg.cell (a := ⟨g, i, none⟩) (h.cells i x hi) hn, fun i hi => (World.frozen?_of_block (w := w) (a := ⟨g, i, none⟩) (hg.block g h.lt hn)).trans (h.thaw i hi), Nat.lt_of_lt_of_le h.lt hg.size⟩

theorem gb_drewN {a b : World} {r : Option Nat} (h : a.grownBy b r) (n : Nat) : a.grownBy (b.drewN n) r := by
  induction n with
  | zero => exact h
  | succ n ih => exact gb_trans ih ⟨rfl, rfl, rfl, Nat.le_refl _, fun _ _ _ => rfl⟩
theorem RowI.drewN {w : World} {g n : Nat} {xs : List Int} (h : RowI w g xs) : RowI (w.drewN n) g xs := h.keep (below_drewN (Below.refl w.heap.size w) n) h.lt

set_option maxHeartbeats 4000000 in
set_option maxRecDepth 100000 in
theorem law_fair (B : Nat) (v : Value) (ts : List Tr) (L : Int) (w : World) (hB : B ≤ w.heap.size) (hp : Parts w B v ts) (hL : -9223372036854775808 ≤ L ∧ L ≤ 9223372036854775807) :
    Calls Try.prog 5 #[v, .int .i64 L] w fun e w' => e = .returned (.bool true) ∧ Below w.heap.size w w' := by
  have ka := alive_any w
  have HP : Hid (Parts w B v ts) := hp
  obtain ⟨⟨l0, er⟩, ho⟩ : ∃ x, ownT (rd ts) = x := ⟨_, rfl⟩
  have HO : Hid (ownT (rd ts) = (l0, er)) := ho
  obtain ⟨a, c, rfl, hc, hl, _⟩ := hp
  clear ho
  go_enter Try.func5, Try.ntmps5
  go_wp2_with fail
  refine ka.mono ?_
  rintro e w0 ⟨rfl, hb0⟩
  clear ka
  have hs0 := hb0.size
  have kw := wrongR_any B _ ts w0 (by omega) (HP.out.at hB hb0) er (by rw [HO.out])
  go_wp2_with fail
  refine kw.mono ?_
  rintro e wa ⟨rfl, hba⟩
  have hbw : Below w.heap.size w wa := bt hb0 hba
  clear kw hba hb0 hs0
  by_cases h0 : ¬ er = 0
  · have h0' : (er == 0) = false := by simpa using h0
    go_wp2
    go_ret
    exact ⟨rfl, hbw⟩
  obtain rfl : er = 0 := by omega
  clear h0
  by_cases h3 : L < 0
  · go_wp2
    go_ret
    exact ⟨rfl, hbw⟩
  by_cases h4 : 9 < L
  · go_wp2
    go_ret
    exact ⟨rfl, hbw⟩
  obtain ⟨L, rfl⟩ := Int.eq_ofNat_of_zero_le (show 0 ≤ L by omega)
  have hL1 : L ≤ 9 := by omega
  have HD : Hid (Dis (rd ts)) := (ownT_ok HO.out).2
  have hfw : ts.length ≤ 4096 := by have := HD.out.few; rwa [rd_len] at this
  have HO2 : Hid ((ownT (rd ts)).2 = 0) := by rw [Hid, HO.out]
  have hmk := make_ints ts.length (by omega)
  obtain ⟨A, hA0⟩ : ∃ A, 2 ^ L = A := ⟨_, rfl⟩
  have HA : Hid (2 ^ L = A) := hA0
  clear hA0
  have hA : 1 ≤ A ∧ A ≤ 512 := by rw [← HA.out]; exact pow9' hL1
  go_wp2
  go_loop [5, 6] (fun av iv => ∃ i a : Nat, av = .int .i64 (a : Int) ∧ iv = .int .i64 (i : Int) ∧ i ≤ L ∧ a ≤ 512 ∧ Hid (a = 2 ^ i)) (fun _ iv => L - (intOf iv).toNat)
  case atStart => exact ⟨0, 1, rfl, rfl, Nat.zero_le _, by omega, rfl⟩
  case round =>
    obtain ⟨i, q, rfl, rfl, hi, ha, HI⟩ := hrel
    by_cases h5 : i < L
    · have ha2 : 2 * q ≤ 512 := by
        have := (pow9' (L := i + 1) (by omega)).2
        rw [Nat.pow_succ, ← HI.out] at this; omega
      go_wp2
      go_round
      case rel => exact ⟨i + 1, 2 * q, by go_num, by go_num, h5, ha2, by rw [Hid, HI.out, Nat.pow_succ]; omega⟩
      case measure => simp [intOf]; omega
    · obtain rfl : q = A := by rw [HI.out, ← HA.out, show i = L by omega]
      clear HI ha
      go_wp2
      go_loopw [8] (fun kv wr => ∃ (k : Nat) (xs : List Int), kv = .int .i64 (k : Int) ∧ k ≤ q ∧ Hid (Cnf (rd ts) L k xs) ∧ Hid (RowI wr wa.heap.size xs) ∧ Below w.heap.size w wr) (fun kv _ => q - (intOf kv).toNat)
      case atStart => exact ⟨0, List.replicate ts.length 0, rfl, Nat.zero_le _, by have := Cnf.start (rd ts) L; rwa [rd_len] at this, RowI.made _ _, bal hbw _⟩
      case round =>
        obtain ⟨k, xs, rfl, hk, HC, HR, hbl⟩ := hrel
        have hwa := hbw.size
        have hrl := HR.out.lt
        by_cases h6 : k < q
        · have kd := digits2_any k L wr hL1 (by omega)
          go_wp2_with fail
          refine kd.mono ?_
          rintro e w1 ⟨rfl, hI1, hb1⟩
          have HE := rolls_one HO2.out (dg_bits k L) (by rw [dg_len]; exact hL1)
          have HI1 : Hid (Ints w1 w1.heap.size 0 (.slice (some ⟨wr.heap.size, 0, none⟩) L L) (dg k L)) := hI1 0 (by omega)
          clear kd hI1
          have hs1 := hb1.size
          have hbs := hbl.size
          cases hN : roN (rd ts) (dg k L) with
          | none =>
            have kc := rolls_any w1.heap.size 0 (.slice a ts.length c) (.slice (some ⟨wr.heap.size, 0, none⟩) L L) ts (dg k L) 1 w1 (Nat.le_refl _) (((HP.out.at hB (bt hbl hb1))).mono (by omega)) HI1.out (by omega) [] 0 (by rw [HE, drT_none hN])
            go_wp2_with fail
            refine kc.mono ?_
            rintro e w2 ⟨v2, ds, rfl, k1, k2, hb2, _⟩
            have hl0 : ds.length = 0 := by rw [← rd_len, k1]; rfl
            obtain ⟨a2, c2, rfl, _⟩ := id k2
            rw [hl0]
            have HC2 : Hid (Cnf (rd ts) L (k + 1) xs) := HC.out.none (by rw [roOut, hN]; rfl)
            have HB2 : Below wr.heap.size wr w2 := bt hb1 hb2
            have HR2 : Hid (RowI w2 wa.heap.size xs) := HR.out.keep HB2 hrl
            clear kc k1 k2 hl0 hN HE
            go_wp2
            go_roundw
            case rel => exact ⟨k + 1, xs, by go_num, h6, HC2, HR2, bt hbl HB2⟩
            case measure => simp [intOf]; omega
          | some t =>
            obtain ⟨o, u, r⟩ := t
            have kc := rolls_any w1.heap.size 0 (.slice a ts.length c) (.slice (some ⟨wr.heap.size, 0, none⟩) L L) ts (dg k L) 1 w1 (Nat.le_refl _) (((HP.out.at hB (bt hbl hb1))).mono (by omega)) HI1.out (by omega) [(o, u)] 0 (by rw [HE, drT_some hN]; rfl)
            obtain ⟨j, rfl, hj, r', hN2⟩ := roN_take hN
            rw [dg_len] at hj
            have HE2 : Hid (rollsT (rd ts) ((dg k L).take j) 1 = ([(o, (j : Int))], 0)) := by
              rw [Hid, rolls_one HO2.out (show badB ((dg k L).take j) = false from List.any_eq_false.2 fun b hb => (List.any_eq_false.1 (dg_bits k L)) b (List.mem_of_mem_take hb)) (by rw [List.length_take, dg_len]; omega), drT_some hN2]; rfl
            have HOut : Hid (roOut (rd ts) (dg k L) = some o) := by rw [Hid, roOut, hN]; rfl
            clear hN hN2 HE
            go_wp2_with fail
            refine kc.mono ?_
            rintro e w2 ⟨v2, ds, rfl, k1, k2, hb2, k3⟩
            obtain ⟨b1, o1, c1, sa, sc, hv2, hc1, hlo, hbw2, d1, d2, hI2⟩ := k2.oneN k3 k1
            subst hv2
            have HP2 : Hid (Parts w2 w2.heap.size (.slice (some ⟨b1, o1, none⟩) 1 c1) ds ∧ rd ds = [(o, (j : Int))]) := ⟨k2, k1⟩
            have HB2 : Below wr.heap.size wr w2 := bt hb1 hb2
            have hs2 := hb2.size
            have HI2 : Hid (∀ m, m < w1.heap.size → Ints w2 w2.heap.size m (.slice sa o.length sc) o) := hI2
            have kc2 := rolls_any w2.heap.size 0 (.slice a ts.length c) (.slice (some ⟨wr.heap.size, 0, none⟩) j L) ts ((dg k L).take j) 1 w2 (Nat.le_refl _) (((HP.out.at hB (bt hbl HB2))).mono (by omega)) (((HI1.out.at2 hb2)).take j (by rw [dg_len]; exact hj)) (by omega) [(o, (j : Int))] 0 HE2.out
            clear kc k1 k2 k3 hI2 HE2
            go_wp2_with fail
            refine kc2.mono ?_
            rintro e w3 ⟨v3, ds3, rfl, m1, m2, hb3, _⟩
            have hs3 := hb3.size
            have hl3 : ds3.length = 1 := by rw [← rd_len, m1]; rfl
            have ks := sameD_any w3.heap.size v3 (.slice (some ⟨b1, o1, none⟩) 1 c1) ds3 ds w3 (Nat.le_refl _) m2 ((HP2.out.1.keep hb3).mono hs3) true (decide_eq_true (by rw [m1, HP2.out.2]))
            obtain ⟨a3, c3, rfl, _⟩ := id m2
            rw [hl3] at ks ⊢
            clear kc2 m1 m2 hl3
            go_wp2_with fail
            refine ks.mono ?_
            rintro e w4 ⟨rfl, hb4⟩
            have hs4 := hb4.size
            have HB4 : Below wr.heap.size wr w4 := bt (bt HB2 hb3) hb4
            have hb24 : Below w2.heap.size w2 w4 := bt hb3 hb4
            have HR4 : Hid (RowI w4 wa.heap.size xs) := HR.out.keep HB4 hrl
            have HD4 : Hid (w4.cell? ⟨b1, o1, none⟩ = some (.slice sa o.length sc)) := (hb24.cell (p := ⟨b1, o1, none⟩) hbw2).trans d1
            have HI4 : Hid (∀ m, m < w1.heap.size → Ints w4 w4.heap.size m (.slice sa o.length sc) o) := fun m hm => (HI2.out m hm).at2 hb24
            have HW4 : Hid (Below w.heap.size w w4) := bt hbl HB4
            clear ks hb3 hb4 hb24 HB4 hb2 hb1 HB2 d1 d2 HI1 HI2 HP2 HR
            obtain ⟨wo, hwo⟩ : ∃ wo : World, wo = wr := ⟨_, rfl⟩
            subst hwo
            go_wp2
            go_loopw [98] (fun iv wq => ∃ (i : Nat) (ys : List Int), iv = .int .i64 (i : Int) ∧ i ≤ ts.length ∧ Hid (Bmp (rd ts) o xs ys i) ∧ Hid (RowI wq wa.heap.size ys) ∧ Hid (w4.grownBy wq (some wa.heap.size))) (fun iv _ => ts.length - (intOf iv).toNat)
            case atStart => exact ⟨0, xs, rfl, Nat.zero_le _, Bmp.start _ _ _, HR4, gb_refl _ _⟩
            case round =>
              obtain ⟨i2, ys, rfl, hi2, HBm, HRq, HGq⟩ := hrel
              have hzq := HGq.out.size
              have HBq : Hid (Below w.heap.size w wr) := HW4.out.trans (below_gb HGq.out hwa HW4.out.size)
              by_cases h7 : i2 < ts.length
              · obtain ⟨bb, bo, sa2, sc2, xs2, kk, rfl, hbb, hs, c1', c2', hIx⟩ := HP.out.get hB HBq.out h7
                have HS : Hid ((rd ts)[i2]? = some (xs2, kk)) := rd_get hs
                have g1 : wr.cell? ⟨b1, o1, none⟩ = some (.slice sa o.length sc) := HGq.out.cell HD4.out (by simp; omega)
                obtain ⟨qq, hqq, hqk⟩ := HBm.out.le HC.out (j := i2) (by rw [rd_len]; exact h7)
                have HQQ : Hid (ys[i2]? = some (qq : Int)) := hqq
                have r1 := HRq.out.cells i2 qq hqq
                have r2 := HRq.out.thaw i2 ((List.getElem?_eq_some_iff.1 hqq).1)
                have hcl := HRq.out.lt
                have hbl1 : b1 < wr.heap.size := by omega
                have HIo : Hid (Ints wr wr.heap.size wa.heap.size (.slice sa o.length sc) o) := ((HI4.out wa.heap.size (by omega)).gb HGq.out).mono hzq (.inl rfl)
                have HIx : Hid (Ints wr wr.heap.size wr.heap.size (.slice sa2 xs2.length sc2) xs2) := hIx.mono (by have := HBq.out.size; omega) (.inr (by have := HBq.out.size; omega))
                generalize hO : Obj.cells #[Value.slice sa2 xs2.length sc2, Value.int IntKind.i64 kk] 40 = O
                have f1 : (wr.alloc O).cell? ⟨b1, o1, none⟩ = some (.slice sa o.length sc) := ((ba wr O).cell (p := ⟨b1, o1, none⟩) hbl1).trans g1
                have f2 : (wr.alloc O).cell? ⟨wr.heap.size, 0, none⟩ = some (.slice sa2 xs2.length sc2) := by rw [← hO]; exact nc _ _ 0 _ rfl rfl
                have f3 : (wr.alloc O).cell? ⟨wa.heap.size, i2, none⟩ = some (.int .i64 (qq : Int)) := ((ba wr O).cell (p := ⟨wa.heap.size, i2, none⟩) hcl).trans r1
                have f4 : (wr.alloc O).frozen? ⟨wa.heap.size, i2, none⟩ = false := ((ba wr O).frozen (p := ⟨wa.heap.size, i2, none⟩) hcl).trans r2
                have HIo2 : Hid (Ints (wr.alloc O) (wr.heap.size + 1) wa.heap.size (.slice sa o.length sc) o) := (HIo.out.keep (ba _ _)).mono (by omega) (.inl rfl)
                have HIx2 : Hid (Ints (wr.alloc O) (wr.heap.size + 1) wr.heap.size (.slice sa2 xs2.length sc2) xs2) := (HIx.out.keep (ba _ _)).mono (by omega) (.inl rfl)
                have HGO : Hid (w4.grownBy (wr.alloc O) (some wa.heap.size)) := gb_alloc HGq.out _
                have HRO : Hid (RowI (wr.alloc O) wa.heap.size ys) := HRq.out.keep (ba _ _) hcl
                subst hO
                obtain ⟨r1', HCm⟩ : ∃ r1, Hid (cmpT xs2 o = r1) := ⟨_, rfl⟩
                clear hqq hs hIx HIo HIx g1
                by_cases he : r1' = 0
                · have HEq : Hid (xs2 = o) := (cmpT_zero _ _).1 (HCm.out.trans he)
                  subst he
                  have HB2 : Hid (Bmp (rd ts) o xs (ys.set i2 ((qq : Int) + 1)) (i2 + 1)) := HBm.out.yes HS.out HEq.out HQQ.out
                  go_wp2_with fail
                  go_quiet ((go_at_call 16; refine Calls.quiet_of (refCompare_any (wr.heap.size + 1) wr.heap.size wa.heap.size _ _ xs2 o _ ?_ ?_ 0 HCm.out); exact HIx2.out.keep (below_drewN (Below.refl _ _) _); exact HIo2.out.keep (below_drewN (Below.refl _ _) _)))
                  go_wp2
                  go_roundw
                  case rel => 
                    refine ⟨i2 + 1, ys.set i2 ((qq : Int) + 1), by go_num, h7, HB2, ?_, ?_⟩
                    · exact HRO.out.drewN.set i2 ((qq : Int) + 1)
                    · exact gb_s (gb_drewN HGO.out _) i2 _
                  case measure => simp [intOf]; omega
                · have he' : (r1' == 0) = false := by simpa using he
                  have HNe : Hid (xs2 ≠ o) := fun h => he (by rw [← HCm.out, h]; exact cmpT_self _)
                  have HB2 : Hid (Bmp (rd ts) o xs ys (i2 + 1)) := HBm.out.no HS.out HNe.out
                  go_wp2_with fail
                  go_quiet ((go_at_call 16; refine Calls.quiet_of (refCompare_any (wr.heap.size + 1) wr.heap.size wa.heap.size _ _ xs2 o _ ?_ ?_ r1' HCm.out); exact HIx2.out.keep (below_drewN (Below.refl _ _) _); exact HIo2.out.keep (below_drewN (Below.refl _ _) _)))
                  go_wp2
                  go_roundw
                  case rel => exact ⟨i2 + 1, ys, by go_num, h7, HB2, HRO.out.drewN, gb_drewN HGO.out _⟩
                  case measure => simp [intOf]; omega
              · have HC2 : Hid (Cnf (rd ts) L (k + 1) ys) := HBm.out.done (by rw [rd_len]; omega) HC.out HOut.out
                have HBq2 := HBq.out
                go_wp2
                go_roundw
                case rel => exact ⟨k + 1, ys, by go_num, h6, HC2, HRq, HBq2⟩
                case measure => simp [intOf]; omega
        · obtain rfl : k = q := by omega
          have hT := HD.out.tpos
          have hT2 := HD.out.le
          have HX : Hid (∀ (i : Nat) (p : Pt), (rd ts)[i]? = some p → xs[i]? = some ((k : Int) * p.2 / tot (rd ts))) := fun i p hp => by
            rw [HC.out.2 i p hp]
            have := knuth_yao HD.out L (List.mem_of_getElem? hp)
            rw [HA.out] at this
            rw [this]
            have e : (2 : Int) ^ L = (k : Int) := by rw [← HA.out]; simp
            rw [e]
          have HX0 : Hid (xs.length = ts.length) := by rw [Hid, HC.out.1, rd_len]
          obtain ⟨T, hTT⟩ : ∃ T, tot (rd ts) = T := ⟨_, rfl⟩
          have HT : Hid (tot (rd ts) = T) := hTT
          rw [hTT] at hT hT2 HX
          clear hTT HC
          obtain ⟨wo, hwo⟩ : ∃ wo : World, wo = wr := ⟨_, rfl⟩
          subst hwo
          go_wp2
          go_loopw [120] (fun iv wq => ∃ (i : Nat), iv = .int .i64 (i : Int) ∧ i ≤ ts.length ∧ Below wo.heap.size wo wq) (fun iv _ => ts.length - (intOf iv).toNat)
          case atStart => exact ⟨0, rfl, Nat.zero_le _, Below.refl _ _⟩
          case round =>
            obtain ⟨i2, rfl, hi2, hbq⟩ := hrel
            have HBq : Hid (Below w.heap.size w wr) := bt hbl hbq
            by_cases h7 : i2 < ts.length
            · obtain ⟨bb, bo, sa2, sc2, xs2, kk, rfl, hbb, hs, c1', c2', hIx⟩ := HP.out.get hB HBq.out h7
              have r0 : xs[i2]? = some ((k : Int) * kk / T) := HX.out i2 _ (rd_get hs)
              have hkk := HD.out.pos (xs2, kk) (List.mem_of_getElem? (rd_get hs))
              have hk2 := Pos.le_tot (Nn.of_pos HD.out.pos) (List.mem_of_getElem? (rd_get hs))
              simp only at hkk hk2
              rw [HT.out] at hk2
              have HRq : Hid (RowI wr wa.heap.size xs) := HR.out.keep hbq hrl
              obtain ⟨P, hP⟩ : ∃ P, (k : Int) * kk = P := ⟨_, rfl⟩
              have hPb : 0 ≤ P ∧ P ≤ 549755813888 := by
                rw [← hP]
                exact ⟨Int.mul_nonneg (by omega) (by omega), Int.le_trans (Int.mul_le_mul (show (k : Int) ≤ 512 by omega) (show kk ≤ 1073741824 by omega) (by omega) (by omega)) (by omega)⟩
              rw [hP] at r0
              obtain ⟨Q, hQ⟩ : ∃ Q, P / T = Q := ⟨_, rfl⟩
              have hQb : 0 ≤ Q ∧ Q ≤ 549755813888 := by
                rw [← hQ]
                exact ⟨Int.ediv_nonneg hPb.1 (by omega), Int.le_trans (Int.ediv_le_self _ hPb.1) hPb.2⟩
              rw [hQ] at r0
              have r1 := HRq.out.cells i2 Q r0
              have hcl := HRq.out.lt
              have hsq := hbq.size
              have hTn : ¬ T = 0 := by omega
              have wP : IntKind.i64.wrap P = P := by rw [IntKind.wrap_i64]; omega
              have wQ : IntKind.i64.wrap Q = Q := by rw [IntKind.wrap_i64]; omega
              have eQ : P.tdiv T = Q := by rw [Int.tdiv_eq_ediv_of_nonneg hPb.1]; exact hQ
              have hml : ∀ u : World, (binOp .mul 3 (.int .i64 (k : Int)) (.int .i64 kk)).run Try.prog u = .ok (.int .i64 P) u := fun u => by simp [go_sem, hP, wP]
              have hdv : ∀ u : World, (binOp .quo 3 (.int .i64 P) (.int .i64 T)).run Try.prog u = .ok (.int .i64 Q) u := fun u => by simp [go_sem, Op.intDiv, hTn, eQ, wQ]
              generalize hO : Obj.cells #[Value.slice sa2 xs2.length sc2, Value.int IntKind.i64 kk] 40 = O
              have f1 : (wr.alloc O).cell? ⟨wr.heap.size, 1, none⟩ = some (.int .i64 kk) := by rw [← hO]; exact nc _ _ 1 _ rfl rfl
              have f2 : (wr.alloc O).cell? ⟨wa.heap.size, i2, none⟩ = some (.int .i64 Q) := ((ba wr O).cell (p := ⟨wa.heap.size, i2, none⟩) hcl).trans r1
              have HPO : Hid (Parts (wr.alloc O) B (.slice (some ⟨bb, bo, none⟩) ts.length c) ts) := HP.out.at hB (bal HBq.out _)
              have hbO : Hid (Below wo.heap.size wo (wr.alloc O)) := bal hbq _
              have hzO : (wr.alloc O).heap.size = wr.heap.size + 1 := by simp
              have hx0 : (i2 : Int) < (ts.length : Int) := by omega
              have hwr : IntKind.i64.wrap ((IntKind.i64.wrap ((k : Int) * kk)).tdiv T) = Q := by rw [hP, wP, eQ, wQ]
              have hqq1 : (Q != Q) = false := by simp
              have hqq2 : (Q == Q) = true := by simp
              subst hO
              have HN : Hid (Nn (rd ts) ∧ tot (rd ts) ≤ 4611686018427387904) := ⟨Nn.of_pos HD.out.pos, by rw [HT.out]; omega⟩
              clear hs hIx r0 hP hQ
              go_wp2_with fail
              obtain ⟨W, hW⟩ : ∃ W, wr.alloc (.cells #[.slice sa2 xs2.length sc2, .int .i64 kk] 40) = W := ⟨_, rfl⟩
              rw [hW] at f1 f2 HPO hbO hzO ⊢
              clear hW
              have lw1 : wr.heap.size < W.heap.size := by omega
              have lw2 : wa.heap.size < W.heap.size := by omega
              have lwB : B ≤ W.heap.size := by have := HBq.out.size; omega
              go_region_held3 (fun w' => w'.cell? ⟨wr.heap.size, 1, none⟩ = some (.int .i64 kk) ∧ w'.cell? ⟨wa.heap.size, i2, none⟩ = some (.int .i64 Q))
                ((go_split_ands; refine ⟨?_, ?_⟩ <;> first | assumption | (simp [go_sem, *]; done)))
                ((go_at_call 17; refine (refTotal_any B _ ts _ ?_ ?_ HN.out.1 HN.out.2 T HT.out).mono ?_; (show B ≤ W.heap.size; exact lwB); (exact HPO.out.at lwB (Below.refl _ _).drew); rintro x5 w5 ⟨rfl, hb5⟩; obtain ⟨hc5, hf5⟩ := bcell hb5; have q1 : w5.cell? ⟨wr.heap.size, 1, none⟩ = some (.int .i64 kk) := (hc5 _ _ lw1).trans f1; have q2 : w5.cell? ⟨wa.heap.size, i2, none⟩ = some (.int .i64 Q) := (hc5 _ _ lw2).trans f2; clear hc5 hf5))
              have hb6 : Below wo.heap.size wo w5 := bt hbO.out ((Below.refl _ W).drew.trans hb5)
              go_wp2
              go_roundw
              case rel => exact ⟨i2 + 1, by go_num, h7, hb6⟩
              case measure => simp [intOf]; omega
            · have HBq2 := HBq.out
              go_wp2
              go_ret
              exact ⟨rfl, HBq2⟩
end Go.Proofs.Ytjnclbhpdaonhaa

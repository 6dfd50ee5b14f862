import Derived.Test.YtidfkencjdjkbaaGreatDoorQn28
/-
  PACKAGE speech, Print: check.
-/
namespace Go.Proofs.YtidfkencjdjkbaaGreatDoor
open Go.RowKit Sp

theorem names_big {w : World} {b : Nat} (h : Wds w b) (x : By) (hx : x.length ≤ 9223372036854775807) (r : Bool) (hr : nmd x = r) : Calls Tryz.prog 34 #[.map (some b), .string (tx x)] w fun e w' => e = .returned (.bool r) ∧ w' = w := by
  obtain ⟨nb, hnb⟩ : ∃ nb, namB x = nb := ⟨_, rfl⟩
  have k := name_any (tx x) (by show x.toArray.size ≤ _; simp; omega) w nb hnb
  have hl := (wds_look h x).2
  obtain ⟨ob, hob⟩ : ∃ ob, decide (x ∈ owns) = ob := ⟨_, rfl⟩
  rw [hob] at hl
  have HR : Hid (r = (nb && !ob)) := by rw [Hid, ← hr, nmd, hnb, hob]
  clear hob hnb hr
  go_enter Tryz.func34, Tryz.ntmps34
  go_wp2_with fail
  refine k.mono ?_
  rintro e w1 ⟨rfl, rfl⟩
  clear k
  cases nb
  · go_wp2
    go_ret
    exact ⟨by rw [HR.out]; rfl, rfl⟩
  · go_wp2
    go_ret
    exact ⟨by rw [HR.out]; rfl, rfl⟩
/-- may a test be said? -/
def tsB (t : Tst) : Bool := nmd t.1 && (decide (0 < t.2.1) && decide (t.2.1 < 7)) && (decide (-1048576 ≤ t.2.2) && decide (t.2.2 ≤ 1048576))
/-- may a question be said? -/
def ckB : Qu → Bool
  | .none => false
  | .node k c lo hi wh n x y => match shpT k with
    | none => false
    | some s => decide ((n : Int) = s.1) && (decide (s.2.2.1 ≤ lo) && decide (lo ≤ s.2.2.2.1)) && (decide (-s.2.2.2.2.1 ≤ hi) && decide (hi ≤ s.2.2.2.2.1)) && decide ((wh.length : Int) ≤ s.2.2.2.2.2) && (if s.2.1 then nmd c else decide (c = [])) && wh.all tsB && (if 1 ≤ n then ckB x else true) && (if 2 ≤ n then ckB y else true)
def CkP (w : World) (r : Bool) (e : Ending) (w' : World) : Prop := (if r then e = .returned (.tuple #[]) else e = .panicked (chn 2 0)) ∧ Below w.heap.size w w'
theorem shp_bd {k : Int} {s : Shp} (h : shpT k = some s) : (0 ≤ s.1 ∧ s.1 ≤ 2) ∧ (0 ≤ s.2.2.2.2.1 ∧ s.2.2.2.2.1 ≤ 1048576) ∧ (0 ≤ s.2.2.2.2.2 ∧ s.2.2.2.2.2 ≤ 64) := by
  unfold shpT at h
  repeat' split at h
  all_goals (first | (cases h; done) | (injection h with h; subst h; decide))
set_option maxHeartbeats 4000000 in
set_option maxRecDepth 100000 in
theorem check_step {b : Nat} (kd : Int) (c : By) (lo hi : Int) (wh : List Tst) (n : Nat) (x y : Qu) (ihx : ∀ (w : World) (B : Nat) (cs : List Value), B ≤ w.heap.size → QI w B x cs → Wds w b → Calls Tryz.prog 14 #[.map (some b), .agg cs.toArray] w (CkP w (ckB x))) (ihy : ∀ (w : World) (B : Nat) (cs : List Value), B ≤ w.heap.size → QI w B y cs → Wds w b → Calls Tryz.prog 14 #[.map (some b), .agg cs.toArray] w (CkP w (ckB y))) (w : World) (B : Nat) (cs : List Value) (hB : B ≤ w.heap.size) (h : QI w B (.node kd c lo hi wh n x y) cs) (hW : Wds w b) : Calls Tryz.prog 14 #[.map (some b), .agg cs.toArray] w (CkP w (ckB (.node kd c lo hi wh n x y))) := by
    have HQI : Hid (QI w B (.node kd c lo hi wh n x y) cs) := h
    obtain ⟨wv, ka, kc, rfl, hTI, hnk, hn63, hc60, hk64, hl64, hh64, hx0, hy0, hkids⟩ := h
    have HTI : Hid (TI w B wh wv) := hTI
    obtain ⟨wa, wc, rfl, hwc, hw63, _, _⟩ := hTI
    have HKI : Hid (1 ≤ n → n ≤ 2 → ∃ b o, ka = some ⟨b, o, none⟩ ∧ b < B ∧ (∃ xs, QI w B x xs ∧ ∀ (j : Nat) u, xs[j]? = some u → w.cell? ⟨b, o + j, none⟩ = some u) ∧ (2 ≤ n → ∃ ys, QI w B y ys ∧ ∀ (j : Nat) u, ys[j]? = some u → w.cell? ⟨b, o + 6 + j, none⟩ = some u)) := hkids
    have HIX : Hid (∀ (w : World) (cs : List Value), B ≤ w.heap.size → QI w B x cs → Wds w b → Calls Tryz.prog 14 #[.map (some b), .agg cs.toArray] w (CkP w (ckB x))) := fun w cs => ihx w B cs
    have HIY : Hid (∀ (w : World) (cs : List Value), B ≤ w.heap.size → QI w B y cs → Wds w b → Calls Tryz.prog 14 #[.map (some b), .agg cs.toArray] w (CkP w (ckB y))) := fun w cs => ihy w B cs
    clear ihx ihy
    have HWD : Hid (Wds w b) := hW
    obtain ⟨W0, hW0⟩ : ∃ W0, w.alloc (.cells #[.int .i64 kd, .string (tx c), .int .i64 lo, .int .i64 hi, .slice wa wh.length wc, .slice ka n kc] 25) = W0 := ⟨_, rfl⟩
    have hb0 : Below w.heap.size w W0 := hW0 ▸ ba _ _
    have HB0 : Hid (Bx W0 w.heap.size [.int .i64 kd, .string (tx c), .int .i64 lo, .int .i64 hi, .slice wa wh.length wc, .slice ka n kc]) := hW0 ▸ Bx.new w [.int .i64 kd, .string (tx c), .int .i64 lo, .int .i64 hi, .slice wa wh.length wc, .slice ka n kc] 25 rfl
    have g0 := (HB0.out 0 _ rfl).c
    obtain ⟨rs, hrs⟩ : ∃ rs, shpT kd = rs := ⟨_, rfl⟩
    have k1 := shaped_any kd W0 rs hrs
    have HSH : Hid (shpT kd = rs) := hrs
    have HBL0 : Hid (Below w.heap.size w W0) := hb0
    clear hkids hx0 hy0 hrs hb0 hW
    go_enter Tryz.func14, Tryz.ntmps14
    go_wp2_with fail
    clear hW0
    refine k1.mono ?_
    rintro e w2 ⟨he, hb2⟩
    have HBL2 : Hid (Below w.heap.size w w2) := bt HBL0.out hb2
    have HB2 : Hid (Bx w2 w.heap.size [.int .i64 kd, .string (tx c), .int .i64 lo, .int .i64 hi, .slice wa wh.length wc, .slice ka n kc]) := HB0.out.at hb2
    clear k1 hb2 g0 HB0
    cases rs with
    | none =>
      obtain rfl : e = .panicked (chn 2 0) := he
      have hck : ckB (.node kd c lo hi wh n x y) = false := by rw [ckB, HSH.out]
      go_wp2
      exact ⟨rfl, by simp, HBL2.out⟩
    | some s =>
      obtain ⟨s1, s2, s3, s4, s5, s6⟩ := s
      obtain rfl : e = .returned (.agg #[.int .i64 s1, .bool s2, .int .i64 s3, .int .i64 s4, .int .i64 s5, .int .i64 s6]) := he
      obtain ⟨⟨s1a, s1b⟩, ⟨s5a, s5b⟩, ⟨s6a, s6b⟩⟩ := shp_bd HSH.out
      simp only at s1a s1b s5a s5b s6a s6b
      obtain ⟨w3, hW3⟩ : ∃ w3, w2.alloc (.cells #[.int .i64 s1, .bool s2, .int .i64 s3, .int .i64 s4, .int .i64 s5, .int .i64 s6] 77) = w3 := ⟨_, rfl⟩
      have hb3 : Below w2.heap.size w2 w3 := hW3 ▸ ba _ _
      have HS3 : Hid (Bx w3 w2.heap.size [.int .i64 s1, .bool s2, .int .i64 s3, .int .i64 s4, .int .i64 s5, .int .i64 s6]) := hW3 ▸ Bx.new w2 [.int .i64 s1, .bool s2, .int .i64 s3, .int .i64 s4, .int .i64 s5, .int .i64 s6] 77 rfl
      have HB3 : Hid (Bx w3 w.heap.size [.int .i64 kd, .string (tx c), .int .i64 lo, .int .i64 hi, .slice wa wh.length wc, .slice ka n kc]) := HB2.out.at hb3
      have HBL : Hid (Below w.heap.size w w3) := bt HBL2.out hb3
      have g0 := (HB3.out 0 _ rfl).c
      have f0 := (HS3.out 0 _ rfl).c
      have g1 := (HB3.out 1 _ rfl).c
      have f1 := (HS3.out 1 _ rfl).c
      have g2 := (HB3.out 2 _ rfl).c
      have f2 := (HS3.out 2 _ rfl).c
      have g3 := (HB3.out 3 _ rfl).c
      have f3 := (HS3.out 3 _ rfl).c
      have g4 := (HB3.out 4 _ rfl).c
      have f4 := (HS3.out 4 _ rfl).c
      have g5 := (HB3.out 5 _ rfl).c
      have f5 := (HS3.out 5 _ rfl).c
      have hneg : IntKind.i64.wrap (-s5) = -s5 := by rw [IntKind.wrap_i64]; omega
      clear hb3 HB2 HBL2
      by_cases c1 : (n : Int) = s1
      · have kf1 := form_ok w3
        have d1 : ((n : Int) == s1) = true := by simpa using c1
        have C1 : Hid ((n : Int) = s1) := c1
        clear c1
        go_wp2_with fail
        clear hW3
        refine kf1.mono ?_
        rintro e w3 ⟨rfl, rfl⟩
        clear kf1
        by_cases e2a : s3 ≤ lo
        · have e2c : decide (s3 ≤ lo) = true := by simpa using e2a
          by_cases e2b : lo ≤ s4
          · have e2d : decide (lo ≤ s4) = true := by simpa using e2b
            have kf := form_ok w3
            go_wp2_with fail
            refine kf.mono ?_
            rintro e w3 ⟨rfl, rfl⟩
            clear kf
            by_cases e4a : -s5 ≤ hi
            · have e4c : decide (-s5 ≤ hi) = true := by simpa using e4a
              by_cases e4b : hi ≤ s5
              · have e4d : decide (hi ≤ s5) = true := by simpa using e4b
                have kf := form_ok w3
                go_wp2_with fail
                refine kf.mono ?_
                rintro e w3 ⟨rfl, rfl⟩
                clear kf
                by_cases e6a : (wh.length : Int) ≤ s6
                · have e6c : decide ((wh.length : Int) ≤ s6) = true := by simpa using e6a
                  have kf := form_ok w3
                  go_wp2_with fail
                  refine kf.mono ?_
                  rintro e w3 ⟨rfl, rfl⟩
                  clear kf
                  cases s2 with
                  | true =>
                    obtain ⟨nb, hnb⟩ : ∃ nb, nmd c = nb := ⟨_, rfl⟩
                    have kn := names_big (HWD.out.at HBL.out) c hc60 nb hnb
                    go_wp2_with fail
                    refine kn.mono ?_
                    rintro e w3 ⟨rfl, rfl⟩
                    clear kn
                    cases nb with
                    | false =>
                      have hck : ckB (.node kd c lo hi wh n x y) = false := by
                        rw [ckB, HSH.out]
                        simp [hnb]
                      have kf := form_no w3
                      clear C1
                      go_wp2_with fail
                      refine kf.mono ?_
                      rintro e w4 ⟨rfl, rfl⟩
                      go_wp2
                      exact ⟨rfl, by simp, HBL.out⟩
                    | true =>
                      have kf := form_ok w3
                      go_wp2_with fail
                      refine kf.mono ?_
                      rintro e w3 ⟨rfl, rfl⟩
                      clear kf
                      have C1d : decide ((n : Int) = s1) = true := by simpa using C1.out
                      have HC : Hid (ckB (.node kd c lo hi wh n x y) = (wh.all tsB && (if 1 ≤ n then ckB x else true) && (if 2 ≤ n then ckB y else true))) := by
                        rw [Hid, ckB, HSH.out]
                        simp only [C1d, e2c, e2d, e4c, e4d, e6c, hnb, Bool.true_and, Bool.and_true, if_true]
                      go_wp2
                      go_loopw [67] (fun iv wr => ∃ i : Nat, iv = .int .i64 (i : Int) ∧ i ≤ wh.length ∧ Hid ((wh.take i).all tsB = true) ∧ Below w3.heap.size w3 wr) (fun iv _ => wh.length - (intOf iv).toNat)
                      case atStart => exact ⟨0, rfl, Nat.zero_le _, by simp [Hid], Below.refl _ _⟩
                      case round =>
                        obtain ⟨i, rfl, hil, HA, hbl⟩ := hrel
                        by_cases c9 : i < wh.length
                        · obtain ⟨⟨t1, t2, t3⟩, ht⟩ : ∃ t, wh[i]? = some t := ⟨_, List.getElem?_eq_getElem c9⟩
                          have HT : Hid (wh[i]? = some (t1, t2, t3)) := ht
                          obtain ⟨wa', wc', hv, _, _, hbd, hcel⟩ := HTI.out
                          simp only [Value.slice.injEq] at hv
                          obtain ⟨rfl, -, rfl⟩ := hv
                          obtain ⟨tb, tf, rfl, htb, hcl⟩ := hcel (by intro e; rw [e] at c9; simp at c9)
                          have hbd1 := hbd _ (List.mem_of_getElem? ht)
                          have hBW : Below w.heap.size w wr := bt HBL.out hbl
                          have p0 : wr.cell? ⟨tb, tf + i * 3, none⟩ = some (.string (tx t1)) := (hBW.cell (p := ⟨tb, tf + i * 3, none⟩) (by dsimp only; omega)).trans (hcl i _ ht 0 _ rfl)
                          have p1 : wr.cell? ⟨tb, tf + i * 3 + 1, none⟩ = some (.int .i64 t2) := (hBW.cell (p := ⟨tb, tf + i * 3 + 1, none⟩) (by dsimp only; omega)).trans (hcl i _ ht 1 _ rfl)
                          have p2 : wr.cell? ⟨tb, tf + i * 3 + 2, none⟩ = some (.int .i64 t3) := (hBW.cell (p := ⟨tb, tf + i * 3 + 2, none⟩) (by dsimp only; omega)).trans (hcl i _ ht 2 _ rfl)
                          have c9i : (i : Int) < (wh.length : Int) := by omega
                          obtain ⟨W5, hW5⟩ : ∃ W5, wr.alloc (.cells #[.string (tx t1), .int .i64 t2, .int .i64 t3] 81) = W5 := ⟨_, rfl⟩
                          have HB5 : Hid (Below wr.heap.size wr W5) := hW5 ▸ ba _ _
                          have HX5 : Hid (Bx W5 wr.heap.size [.string (tx t1), .int .i64 t2, .int .i64 t3]) := hW5 ▸ Bx.new wr [.string (tx t1), .int .i64 t2, .int .i64 t3] 81 rfl
                          have HBW : Hid (Below w.heap.size w W5) := bt hBW HB5.out
                          have m0 := (HX5.out 0 _ rfl).c
                          have m1 := (HX5.out 1 _ rfl).c
                          have m2 := (HX5.out 2 _ rfl).c
                          obtain ⟨nb, hnb⟩ : ∃ nb, nmd t1 = nb := ⟨_, rfl⟩
                          have kn := names_big (HWD.out.at HBW.out) t1 hbd1.1 nb hnb
                          clear ht hcl hcel hbd
                          go_wp2_with fail
                          clear hW5
                          refine kn.mono ?_
                          rintro e w6 ⟨rfl, rfl⟩
                          clear kn
                          cases nb with
                          | false =>
                            have hck : ckB (.node kd c lo hi wh n x y) = false := by
                              rw [ckB, HSH.out]
                              have : wh.all tsB = false := by
                                rw [List.all_eq_false]
                                exact ⟨(t1, t2, t3), List.mem_of_getElem? HT.out, by simp [tsB, hnb]⟩
                              simp [this]
                            have kf := form_no w6
                            go_wp2_with fail
                            refine kf.mono ?_
                            rintro e w6 ⟨rfl, rfl⟩
                            go_wp2
                            exact ⟨rfl, by simp [hck], HBW.out⟩
                          | true =>
                            have tna : nmd t1 = true := hnb
                            have kf := form_ok w6
                            go_wp2_with fail
                            refine kf.mono ?_
                            rintro e W5 ⟨rfl, rfl⟩
                            clear kf
                            by_cases tda : 0 < t2
                            · have tdc : decide (0 < t2) = true := by simpa using tda
                              by_cases tdb : t2 < 7
                              · have tdd : decide (t2 < 7) = true := by simpa using tdb
                                have kf := form_ok W5
                                go_wp2_with fail
                                refine kf.mono ?_
                                rintro e W5 ⟨rfl, rfl⟩
                                clear kf
                                by_cases tva : -1048576 ≤ t3
                                · have tvc : decide (-1048576 ≤ t3) = true := by simpa using tva
                                  by_cases tvb : t3 ≤ 1048576
                                  · have tvd : decide (t3 ≤ 1048576) = true := by simpa using tvb
                                    have kf := form_ok W5
                                    go_wp2_with fail
                                    refine kf.mono ?_
                                    rintro e W5 ⟨rfl, rfl⟩
                                    clear kf
                                    have HAL : Hid ((wh.take (i + 1)).all tsB = true) := by
                                      rw [Hid, List.take_add_one, HT.out]
                                      simp only [List.all_append, HA.out, Option.toList_some, List.all_cons, List.all_nil, Bool.and_true, Bool.true_and]
                                      simp [tsB, tna, tda, tdb, tva, tvb]
                                    go_wp2
                                    go_roundw
                                    case rel => exact ⟨i + 1, by go_num, c9, HAL, bt hbl HB5.out⟩
                                    case measure => simp [intOf]; omega
                                  · have tvd : decide (t3 ≤ 1048576) = false := by simpa using tvb
                                    have hck : ckB (.node kd c lo hi wh n x y) = false := by
                                      rw [ckB, HSH.out]
                                      have : wh.all tsB = false := by
                                        rw [List.all_eq_false]
                                        exact ⟨(t1, t2, t3), List.mem_of_getElem? HT.out, by simp [tsB, tva, tvb]⟩
                                      simp [this]
                                    have kf := form_no W5
                                    go_wp2_with fail
                                    refine kf.mono ?_
                                    rintro e W5 ⟨rfl, rfl⟩
                                    go_wp2
                                    exact ⟨rfl, by simp [hck], HBW.out⟩
                                · have tvc : decide (-1048576 ≤ t3) = false := by simpa using tva
                                  have hck : ckB (.node kd c lo hi wh n x y) = false := by
                                    rw [ckB, HSH.out]
                                    have : wh.all tsB = false := by
                                      rw [List.all_eq_false]
                                      exact ⟨(t1, t2, t3), List.mem_of_getElem? HT.out, by simp [tsB, tva]⟩
                                    simp [this]
                                  have kf := form_no W5
                                  go_wp2_with fail
                                  refine kf.mono ?_
                                  rintro e W5 ⟨rfl, rfl⟩
                                  go_wp2
                                  exact ⟨rfl, by simp [hck], HBW.out⟩
                              · have tdd : decide (t2 < 7) = false := by simpa using tdb
                                have hck : ckB (.node kd c lo hi wh n x y) = false := by
                                  rw [ckB, HSH.out]
                                  have : wh.all tsB = false := by
                                    rw [List.all_eq_false]
                                    exact ⟨(t1, t2, t3), List.mem_of_getElem? HT.out, by simp [tsB, tda, tdb]⟩
                                  simp [this]
                                have kf := form_no W5
                                go_wp2_with fail
                                refine kf.mono ?_
                                rintro e W5 ⟨rfl, rfl⟩
                                go_wp2
                                exact ⟨rfl, by simp [hck], HBW.out⟩
                            · have tdc : decide (0 < t2) = false := by simpa using tda
                              have hck : ckB (.node kd c lo hi wh n x y) = false := by
                                rw [ckB, HSH.out]
                                have : wh.all tsB = false := by
                                  rw [List.all_eq_false]
                                  exact ⟨(t1, t2, t3), List.mem_of_getElem? HT.out, by simp [tsB, tda]⟩
                                simp [this]
                              have kf := form_no W5
                              go_wp2_with fail
                              refine kf.mono ?_
                              rintro e W5 ⟨rfl, rfl⟩
                              go_wp2
                              exact ⟨rfl, by simp [hck], HBW.out⟩
                        · skip
                          have HAL : Hid (wh.all tsB = true) := by
                            have h2 := HA.out
                            rw [List.take_of_length_le (by omega)] at h2
                            exact h2
                          obtain ⟨wt, hwt⟩ : ∃ wt : World, wt = wr := ⟨_, rfl⟩
                          subst hwt
                          have HBR : Hid (Below w.heap.size w wt) := bt HBL.out hbl
                          have q5 := ((HB3.out.at hbl) 5 _ rfl).c
                          have hn2 : n ≤ 2 := by have := C1.out; omega
                          go_wp2
                          go_loopw [98] (fun jv wr => ∃ j : Nat, jv = .int .i64 (j : Int) ∧ j ≤ n ∧ Hid ((1 ≤ j → ckB x = true) ∧ (2 ≤ j → ckB y = true)) ∧ Below wt.heap.size wt wr) (fun jv _ => n - (intOf jv).toNat)
                          case atStart => exact ⟨0, rfl, Nat.zero_le _, ⟨fun h => by omega, fun h => by omega⟩, Below.refl _ _⟩
                          case round =>
                            obtain ⟨j, rfl, hjn, HJ, hbk⟩ := hrel
                            by_cases c10 : j < n
                            · obtain ⟨kb, ko, rfl, hkb, ⟨xs, hxq, hxc⟩, hyy⟩ := HKI.out (by omega) hn2
                              obtain ⟨q, qs, hq, hqc, hqk, hqf, hqt⟩ : ∃ (q : Qu) (qs : List Value), QI w B q qs ∧ (∀ (k : Nat) u, qs[k]? = some u → w.cell? ⟨kb, ko + j * 6 + k, none⟩ = some u) ∧ (∀ (w : World) (cs : List Value), B ≤ w.heap.size → QI w B q cs → Wds w b → Calls Tryz.prog 14 #[.map (some b), .agg cs.toArray] w (CkP w (ckB q))) ∧ (ckB q = false → ckB (.node kd c lo hi wh n x y) = false) ∧ (ckB q = true → (1 ≤ j + 1 → ckB x = true) ∧ (2 ≤ j + 1 → ckB y = true)) := by
                                by_cases hj : j = 0
                                · subst hj
                                  exact ⟨x, xs, hxq, by intro k u hu; have := hxc k u hu; simpa using this, HIX.out, by intro hf; rw [HC.out, hf]; simp [show 1 ≤ n by omega], fun ht => ⟨fun _ => ht, fun h => by omega⟩⟩
                                · obtain rfl : j = 1 := by omega
                                  obtain ⟨ys, hyq, hyc⟩ := hyy (by omega)
                                  exact ⟨y, ys, hyq, by intro k u hu; have := hyc k u hu; simpa using this, HIY.out, by intro hf; rw [HC.out, hf]; simp [show 2 ≤ n by omega], fun ht => ⟨fun _ => HJ.out.1 (by omega), fun _ => ht⟩⟩
                              have hBK : Below w.heap.size w wr := bt HBR.out hbk
                              have HQ : Hid (QI w B q qs) := hq
                              clear hxq hxc hyy
                              cases q with
                              | none => exact hq.elim
                              | node kd2 c2 lo2 hi2 wh2 n2 x2 y2 =>
                                obtain ⟨wv2, ka2, kc2, rfl, hTI2, -⟩ := hq
                                obtain ⟨wa2, wc2, rfl, -⟩ := hTI2
                                have r0 : wr.cell? ⟨kb, ko + j * 6, none⟩ = some (.int .i64 kd2) := (hBK.cell (p := ⟨kb, ko + j * 6, none⟩) (by dsimp only; omega)).trans (hqc 0 _ rfl)
                                have r1 : wr.cell? ⟨kb, ko + j * 6 + 1, none⟩ = some (.string (tx c2)) := (hBK.cell (p := ⟨kb, ko + j * 6 + 1, none⟩) (by dsimp only; omega)).trans (hqc 1 _ rfl)
                                have r2 : wr.cell? ⟨kb, ko + j * 6 + 2, none⟩ = some (.int .i64 lo2) := (hBK.cell (p := ⟨kb, ko + j * 6 + 2, none⟩) (by dsimp only; omega)).trans (hqc 2 _ rfl)
                                have r3 : wr.cell? ⟨kb, ko + j * 6 + 3, none⟩ = some (.int .i64 hi2) := (hBK.cell (p := ⟨kb, ko + j * 6 + 3, none⟩) (by dsimp only; omega)).trans (hqc 3 _ rfl)
                                have r4 : wr.cell? ⟨kb, ko + j * 6 + 4, none⟩ = some (.slice wa2 wh2.length wc2) := (hBK.cell (p := ⟨kb, ko + j * 6 + 4, none⟩) (by dsimp only; omega)).trans (hqc 4 _ rfl)
                                have r5 : wr.cell? ⟨kb, ko + j * 6 + 5, none⟩ = some (.slice ka2 n2 kc2) := (hBK.cell (p := ⟨kb, ko + j * 6 + 5, none⟩) (by dsimp only; omega)).trans (hqc 5 _ rfl)
                                have c10i : (j : Int) < (n : Int) := by omega
                                obtain ⟨W6, hW6⟩ : ∃ W6, wr.alloc (.cells #[.int .i64 kd2, .string (tx c2), .int .i64 lo2, .int .i64 hi2, .slice wa2 wh2.length wc2, .slice ka2 n2 kc2] 25) = W6 := ⟨_, rfl⟩
                                have HB6 : Hid (Below wr.heap.size wr W6) := hW6 ▸ ba _ _
                                have HX6 : Hid (Bx W6 wr.heap.size [.int .i64 kd2, .string (tx c2), .int .i64 lo2, .int .i64 hi2, .slice wa2 wh2.length wc2, .slice ka2 n2 kc2]) := hW6 ▸ Bx.new wr [.int .i64 kd2, .string (tx c2), .int .i64 lo2, .int .i64 hi2, .slice wa2 wh2.length wc2, .slice ka2 n2 kc2] 25 rfl
                                have HBX : Hid (Below w.heap.size w W6) := bt hBK HB6.out
                                have u0 := (HX6.out 0 _ rfl).c
                                have u1 := (HX6.out 1 _ rfl).c
                                have u2 := (HX6.out 2 _ rfl).c
                                have u3 := (HX6.out 3 _ rfl).c
                                have u4 := (HX6.out 4 _ rfl).c
                                have u5 := (HX6.out 5 _ rfl).c
                                obtain ⟨rq, hrq⟩ : ∃ rq, ckB (.node kd2 c2 lo2 hi2 wh2 n2 x2 y2) = rq := ⟨_, rfl⟩
                                have kq := hqk W6 _ (Nat.le_trans hB HBX.out.size) (QI.keep (HBX.out.mono hB) _ HQ.out) (HWD.out.at HBX.out)
                                rw [hrq] at kq hqf hqt
                                have HQF : Hid (rq = false → ckB (.node kd c lo hi wh n x y) = false) := hqf
                                have HQT : Hid (rq = true → (1 ≤ j + 1 → ckB x = true) ∧ (2 ≤ j + 1 → ckB y = true)) := hqt
                                clear hqc hqk hrq hqf hqt
                                go_wp2_with fail
                                clear hW6
                                refine kq.mono ?_
                                rintro e W7 ⟨he, hb7⟩
                                have HB7 : Hid (Below w.heap.size w W7) := bt HBX.out hb7
                                have HB8 : Hid (Below wt.heap.size wt W7) := bt (bt hbk HB6.out) hb7
                                clear kq
                                cases rq with
                                | false =>
                                  obtain rfl : e = .panicked (chn 2 0) := he
                                  have hck := HQF.out rfl
                                  go_wp2
                                  exact ⟨rfl, by simp [hck], HB7.out⟩
                                | true =>
                                  obtain rfl : e = .returned (.tuple #[]) := he
                                  go_wp2
                                  go_roundw
                                  case rel => exact ⟨j + 1, by go_num, c10, by first | exact HQT.out trivial | exact HQT.out rfl | (have h5 := HQT.out; simpa [Hid] using h5), HB8.out⟩
                                  case measure => simp [intOf]; omega
                            · have hck : ckB (.node kd c lo hi wh n x y) = true := by
                                have h3 := HJ.out
                                rw [show j = n by omega] at h3
                                have v1 : (if 1 ≤ n then ckB x else true) = true := by
                                  by_cases a : 1 ≤ n
                                  · rw [if_pos a]; exact h3.1 a
                                  · rw [if_neg a]
                                have v2 : (if 2 ≤ n then ckB y else true) = true := by
                                  by_cases a : 2 ≤ n
                                  · rw [if_pos a]; exact h3.2 a
                                  · rw [if_neg a]
                                rw [HC.out, HAL.out, v1, v2]; rfl
                              have HBZ : Hid (Below w.heap.size w wr) := bt HBR.out hbk
                              go_wp2
                              go_end0
                              exact ⟨by simp [hck], HBZ.out⟩
                  | false =>
                    by_cases hce : c = []
                    · have q1 := eqs c [] true (by simpa using hce)
                      have q2 : (c == ([] : By)) = true := by rw [by_beq]; simpa using hce
                      have kf := form_ok w3
                      go_wp2_with fail
                      refine kf.mono ?_
                      rintro e w3 ⟨rfl, rfl⟩
                      clear kf
                      have C1d : decide ((n : Int) = s1) = true := by simpa using C1.out
                      have HC : Hid (ckB (.node kd c lo hi wh n x y) = (wh.all tsB && (if 1 ≤ n then ckB x else true) && (if 2 ≤ n then ckB y else true))) := by
                        rw [Hid, ckB, HSH.out]
                        simp only [C1d, e2c, e2d, e4c, e4d, e6c, hce, Bool.true_and, Bool.and_true, decide_true, reduceIte, Bool.false_eq_true]
                      go_wp2
                      go_loopw [67] (fun iv wr => ∃ i : Nat, iv = .int .i64 (i : Int) ∧ i ≤ wh.length ∧ Hid ((wh.take i).all tsB = true) ∧ Below w3.heap.size w3 wr) (fun iv _ => wh.length - (intOf iv).toNat)
                      case atStart => exact ⟨0, rfl, Nat.zero_le _, by simp [Hid], Below.refl _ _⟩
                      case round =>
                        obtain ⟨i, rfl, hil, HA, hbl⟩ := hrel
                        by_cases c9 : i < wh.length
                        · obtain ⟨⟨t1, t2, t3⟩, ht⟩ : ∃ t, wh[i]? = some t := ⟨_, List.getElem?_eq_getElem c9⟩
                          have HT : Hid (wh[i]? = some (t1, t2, t3)) := ht
                          obtain ⟨wa', wc', hv, _, _, hbd, hcel⟩ := HTI.out
                          simp only [Value.slice.injEq] at hv
                          obtain ⟨rfl, -, rfl⟩ := hv
                          obtain ⟨tb, tf, rfl, htb, hcl⟩ := hcel (by intro e; rw [e] at c9; simp at c9)
                          have hbd1 := hbd _ (List.mem_of_getElem? ht)
                          have hBW : Below w.heap.size w wr := bt HBL.out hbl
                          have p0 : wr.cell? ⟨tb, tf + i * 3, none⟩ = some (.string (tx t1)) := (hBW.cell (p := ⟨tb, tf + i * 3, none⟩) (by dsimp only; omega)).trans (hcl i _ ht 0 _ rfl)
                          have p1 : wr.cell? ⟨tb, tf + i * 3 + 1, none⟩ = some (.int .i64 t2) := (hBW.cell (p := ⟨tb, tf + i * 3 + 1, none⟩) (by dsimp only; omega)).trans (hcl i _ ht 1 _ rfl)
                          have p2 : wr.cell? ⟨tb, tf + i * 3 + 2, none⟩ = some (.int .i64 t3) := (hBW.cell (p := ⟨tb, tf + i * 3 + 2, none⟩) (by dsimp only; omega)).trans (hcl i _ ht 2 _ rfl)
                          have c9i : (i : Int) < (wh.length : Int) := by omega
                          obtain ⟨W5, hW5⟩ : ∃ W5, wr.alloc (.cells #[.string (tx t1), .int .i64 t2, .int .i64 t3] 81) = W5 := ⟨_, rfl⟩
                          have HB5 : Hid (Below wr.heap.size wr W5) := hW5 ▸ ba _ _
                          have HX5 : Hid (Bx W5 wr.heap.size [.string (tx t1), .int .i64 t2, .int .i64 t3]) := hW5 ▸ Bx.new wr [.string (tx t1), .int .i64 t2, .int .i64 t3] 81 rfl
                          have HBW : Hid (Below w.heap.size w W5) := bt hBW HB5.out
                          have m0 := (HX5.out 0 _ rfl).c
                          have m1 := (HX5.out 1 _ rfl).c
                          have m2 := (HX5.out 2 _ rfl).c
                          obtain ⟨nb, hnb⟩ : ∃ nb, nmd t1 = nb := ⟨_, rfl⟩
                          have kn := names_big (HWD.out.at HBW.out) t1 hbd1.1 nb hnb
                          clear ht hcl hcel hbd
                          go_wp2_with fail
                          clear hW5
                          refine kn.mono ?_
                          rintro e w6 ⟨rfl, rfl⟩
                          clear kn
                          cases nb with
                          | false =>
                            have hck : ckB (.node kd c lo hi wh n x y) = false := by
                              rw [ckB, HSH.out]
                              have : wh.all tsB = false := by
                                rw [List.all_eq_false]
                                exact ⟨(t1, t2, t3), List.mem_of_getElem? HT.out, by simp [tsB, hnb]⟩
                              simp [this]
                            have kf := form_no w6
                            go_wp2_with fail
                            refine kf.mono ?_
                            rintro e w6 ⟨rfl, rfl⟩
                            go_wp2
                            exact ⟨rfl, by simp [hck], HBW.out⟩
                          | true =>
                            have tna : nmd t1 = true := hnb
                            have kf := form_ok w6
                            go_wp2_with fail
                            refine kf.mono ?_
                            rintro e W5 ⟨rfl, rfl⟩
                            clear kf
                            by_cases tda : 0 < t2
                            · have tdc : decide (0 < t2) = true := by simpa using tda
                              by_cases tdb : t2 < 7
                              · have tdd : decide (t2 < 7) = true := by simpa using tdb
                                have kf := form_ok W5
                                go_wp2_with fail
                                refine kf.mono ?_
                                rintro e W5 ⟨rfl, rfl⟩
                                clear kf
                                by_cases tva : -1048576 ≤ t3
                                · have tvc : decide (-1048576 ≤ t3) = true := by simpa using tva
                                  by_cases tvb : t3 ≤ 1048576
                                  · have tvd : decide (t3 ≤ 1048576) = true := by simpa using tvb
                                    have kf := form_ok W5
                                    go_wp2_with fail
                                    refine kf.mono ?_
                                    rintro e W5 ⟨rfl, rfl⟩
                                    clear kf
                                    have HAL : Hid ((wh.take (i + 1)).all tsB = true) := by
                                      rw [Hid, List.take_add_one, HT.out]
                                      simp only [List.all_append, HA.out, Option.toList_some, List.all_cons, List.all_nil, Bool.and_true, Bool.true_and]
                                      simp [tsB, tna, tda, tdb, tva, tvb]
                                    go_wp2
                                    go_roundw
                                    case rel => exact ⟨i + 1, by go_num, c9, HAL, bt hbl HB5.out⟩
                                    case measure => simp [intOf]; omega
                                  · have tvd : decide (t3 ≤ 1048576) = false := by simpa using tvb
                                    have hck : ckB (.node kd c lo hi wh n x y) = false := by
                                      rw [ckB, HSH.out]
                                      have : wh.all tsB = false := by
                                        rw [List.all_eq_false]
                                        exact ⟨(t1, t2, t3), List.mem_of_getElem? HT.out, by simp [tsB, tva, tvb]⟩
                                      simp [this]
                                    have kf := form_no W5
                                    go_wp2_with fail
                                    refine kf.mono ?_
                                    rintro e W5 ⟨rfl, rfl⟩
                                    go_wp2
                                    exact ⟨rfl, by simp [hck], HBW.out⟩
                                · have tvc : decide (-1048576 ≤ t3) = false := by simpa using tva
                                  have hck : ckB (.node kd c lo hi wh n x y) = false := by
                                    rw [ckB, HSH.out]
                                    have : wh.all tsB = false := by
                                      rw [List.all_eq_false]
                                      exact ⟨(t1, t2, t3), List.mem_of_getElem? HT.out, by simp [tsB, tva]⟩
                                    simp [this]
                                  have kf := form_no W5
                                  go_wp2_with fail
                                  refine kf.mono ?_
                                  rintro e W5 ⟨rfl, rfl⟩
                                  go_wp2
                                  exact ⟨rfl, by simp [hck], HBW.out⟩
                              · have tdd : decide (t2 < 7) = false := by simpa using tdb
                                have hck : ckB (.node kd c lo hi wh n x y) = false := by
                                  rw [ckB, HSH.out]
                                  have : wh.all tsB = false := by
                                    rw [List.all_eq_false]
                                    exact ⟨(t1, t2, t3), List.mem_of_getElem? HT.out, by simp [tsB, tda, tdb]⟩
                                  simp [this]
                                have kf := form_no W5
                                go_wp2_with fail
                                refine kf.mono ?_
                                rintro e W5 ⟨rfl, rfl⟩
                                go_wp2
                                exact ⟨rfl, by simp [hck], HBW.out⟩
                            · have tdc : decide (0 < t2) = false := by simpa using tda
                              have hck : ckB (.node kd c lo hi wh n x y) = false := by
                                rw [ckB, HSH.out]
                                have : wh.all tsB = false := by
                                  rw [List.all_eq_false]
                                  exact ⟨(t1, t2, t3), List.mem_of_getElem? HT.out, by simp [tsB, tda]⟩
                                simp [this]
                              have kf := form_no W5
                              go_wp2_with fail
                              refine kf.mono ?_
                              rintro e W5 ⟨rfl, rfl⟩
                              go_wp2
                              exact ⟨rfl, by simp [hck], HBW.out⟩
                        · skip
                          have HAL : Hid (wh.all tsB = true) := by
                            have h2 := HA.out
                            rw [List.take_of_length_le (by omega)] at h2
                            exact h2
                          obtain ⟨wt, hwt⟩ : ∃ wt : World, wt = wr := ⟨_, rfl⟩
                          subst hwt
                          have HBR : Hid (Below w.heap.size w wt) := bt HBL.out hbl
                          have q5 := ((HB3.out.at hbl) 5 _ rfl).c
                          have hn2 : n ≤ 2 := by have := C1.out; omega
                          go_wp2
                          go_loopw [98] (fun jv wr => ∃ j : Nat, jv = .int .i64 (j : Int) ∧ j ≤ n ∧ Hid ((1 ≤ j → ckB x = true) ∧ (2 ≤ j → ckB y = true)) ∧ Below wt.heap.size wt wr) (fun jv _ => n - (intOf jv).toNat)
                          case atStart => exact ⟨0, rfl, Nat.zero_le _, ⟨fun h => by omega, fun h => by omega⟩, Below.refl _ _⟩
                          case round =>
                            obtain ⟨j, rfl, hjn, HJ, hbk⟩ := hrel
                            by_cases c10 : j < n
                            · obtain ⟨kb, ko, rfl, hkb, ⟨xs, hxq, hxc⟩, hyy⟩ := HKI.out (by omega) hn2
                              obtain ⟨q, qs, hq, hqc, hqk, hqf, hqt⟩ : ∃ (q : Qu) (qs : List Value), QI w B q qs ∧ (∀ (k : Nat) u, qs[k]? = some u → w.cell? ⟨kb, ko + j * 6 + k, none⟩ = some u) ∧ (∀ (w : World) (cs : List Value), B ≤ w.heap.size → QI w B q cs → Wds w b → Calls Tryz.prog 14 #[.map (some b), .agg cs.toArray] w (CkP w (ckB q))) ∧ (ckB q = false → ckB (.node kd c lo hi wh n x y) = false) ∧ (ckB q = true → (1 ≤ j + 1 → ckB x = true) ∧ (2 ≤ j + 1 → ckB y = true)) := by
                                by_cases hj : j = 0
                                · subst hj
                                  exact ⟨x, xs, hxq, by intro k u hu; have := hxc k u hu; simpa using this, HIX.out, by intro hf; rw [HC.out, hf]; simp [show 1 ≤ n by omega], fun ht => ⟨fun _ => ht, fun h => by omega⟩⟩
                                · obtain rfl : j = 1 := by omega
                                  obtain ⟨ys, hyq, hyc⟩ := hyy (by omega)
                                  exact ⟨y, ys, hyq, by intro k u hu; have := hyc k u hu; simpa using this, HIY.out, by intro hf; rw [HC.out, hf]; simp [show 2 ≤ n by omega], fun ht => ⟨fun _ => HJ.out.1 (by omega), fun _ => ht⟩⟩
                              have hBK : Below w.heap.size w wr := bt HBR.out hbk
                              have HQ : Hid (QI w B q qs) := hq
                              clear hxq hxc hyy
                              cases q with
                              | none => exact hq.elim
                              | node kd2 c2 lo2 hi2 wh2 n2 x2 y2 =>
                                obtain ⟨wv2, ka2, kc2, rfl, hTI2, -⟩ := hq
                                obtain ⟨wa2, wc2, rfl, -⟩ := hTI2
                                have r0 : wr.cell? ⟨kb, ko + j * 6, none⟩ = some (.int .i64 kd2) := (hBK.cell (p := ⟨kb, ko + j * 6, none⟩) (by dsimp only; omega)).trans (hqc 0 _ rfl)
                                have r1 : wr.cell? ⟨kb, ko + j * 6 + 1, none⟩ = some (.string (tx c2)) := (hBK.cell (p := ⟨kb, ko + j * 6 + 1, none⟩) (by dsimp only; omega)).trans (hqc 1 _ rfl)
                                have r2 : wr.cell? ⟨kb, ko + j * 6 + 2, none⟩ = some (.int .i64 lo2) := (hBK.cell (p := ⟨kb, ko + j * 6 + 2, none⟩) (by dsimp only; omega)).trans (hqc 2 _ rfl)
                                have r3 : wr.cell? ⟨kb, ko + j * 6 + 3, none⟩ = some (.int .i64 hi2) := (hBK.cell (p := ⟨kb, ko + j * 6 + 3, none⟩) (by dsimp only; omega)).trans (hqc 3 _ rfl)
                                have r4 : wr.cell? ⟨kb, ko + j * 6 + 4, none⟩ = some (.slice wa2 wh2.length wc2) := (hBK.cell (p := ⟨kb, ko + j * 6 + 4, none⟩) (by dsimp only; omega)).trans (hqc 4 _ rfl)
                                have r5 : wr.cell? ⟨kb, ko + j * 6 + 5, none⟩ = some (.slice ka2 n2 kc2) := (hBK.cell (p := ⟨kb, ko + j * 6 + 5, none⟩) (by dsimp only; omega)).trans (hqc 5 _ rfl)
                                have c10i : (j : Int) < (n : Int) := by omega
                                obtain ⟨W6, hW6⟩ : ∃ W6, wr.alloc (.cells #[.int .i64 kd2, .string (tx c2), .int .i64 lo2, .int .i64 hi2, .slice wa2 wh2.length wc2, .slice ka2 n2 kc2] 25) = W6 := ⟨_, rfl⟩
                                have HB6 : Hid (Below wr.heap.size wr W6) := hW6 ▸ ba _ _
                                have HX6 : Hid (Bx W6 wr.heap.size [.int .i64 kd2, .string (tx c2), .int .i64 lo2, .int .i64 hi2, .slice wa2 wh2.length wc2, .slice ka2 n2 kc2]) := hW6 ▸ Bx.new wr [.int .i64 kd2, .string (tx c2), .int .i64 lo2, .int .i64 hi2, .slice wa2 wh2.length wc2, .slice ka2 n2 kc2] 25 rfl
                                have HBX : Hid (Below w.heap.size w W6) := bt hBK HB6.out
                                have u0 := (HX6.out 0 _ rfl).c
                                have u1 := (HX6.out 1 _ rfl).c
                                have u2 := (HX6.out 2 _ rfl).c
                                have u3 := (HX6.out 3 _ rfl).c
                                have u4 := (HX6.out 4 _ rfl).c
                                have u5 := (HX6.out 5 _ rfl).c
                                obtain ⟨rq, hrq⟩ : ∃ rq, ckB (.node kd2 c2 lo2 hi2 wh2 n2 x2 y2) = rq := ⟨_, rfl⟩
                                have kq := hqk W6 _ (Nat.le_trans hB HBX.out.size) (QI.keep (HBX.out.mono hB) _ HQ.out) (HWD.out.at HBX.out)
                                rw [hrq] at kq hqf hqt
                                have HQF : Hid (rq = false → ckB (.node kd c lo hi wh n x y) = false) := hqf
                                have HQT : Hid (rq = true → (1 ≤ j + 1 → ckB x = true) ∧ (2 ≤ j + 1 → ckB y = true)) := hqt
                                clear hqc hqk hrq hqf hqt
                                go_wp2_with fail
                                clear hW6
                                refine kq.mono ?_
                                rintro e W7 ⟨he, hb7⟩
                                have HB7 : Hid (Below w.heap.size w W7) := bt HBX.out hb7
                                have HB8 : Hid (Below wt.heap.size wt W7) := bt (bt hbk HB6.out) hb7
                                clear kq
                                cases rq with
                                | false =>
                                  obtain rfl : e = .panicked (chn 2 0) := he
                                  have hck := HQF.out rfl
                                  go_wp2
                                  exact ⟨rfl, by simp [hck], HB7.out⟩
                                | true =>
                                  obtain rfl : e = .returned (.tuple #[]) := he
                                  go_wp2
                                  go_roundw
                                  case rel => exact ⟨j + 1, by go_num, c10, by first | exact HQT.out trivial | exact HQT.out rfl | (have h5 := HQT.out; simpa [Hid] using h5), HB8.out⟩
                                  case measure => simp [intOf]; omega
                            · have hck : ckB (.node kd c lo hi wh n x y) = true := by
                                have h3 := HJ.out
                                rw [show j = n by omega] at h3
                                have v1 : (if 1 ≤ n then ckB x else true) = true := by
                                  by_cases a : 1 ≤ n
                                  · rw [if_pos a]; exact h3.1 a
                                  · rw [if_neg a]
                                have v2 : (if 2 ≤ n then ckB y else true) = true := by
                                  by_cases a : 2 ≤ n
                                  · rw [if_pos a]; exact h3.2 a
                                  · rw [if_neg a]
                                rw [HC.out, HAL.out, v1, v2]; rfl
                              have HBZ : Hid (Below w.heap.size w wr) := bt HBR.out hbk
                              go_wp2
                              go_end0
                              exact ⟨by simp [hck], HBZ.out⟩
                    · have q1 := eqs c [] false (by simpa using hce)
                      have q2 : (c == ([] : By)) = false := by rw [by_beq]; simpa using hce
                      have hck : ckB (.node kd c lo hi wh n x y) = false := by
                        rw [ckB, HSH.out]
                        simp [hce]
                      have kf := form_no w3
                      clear C1
                      go_wp2_with fail
                      refine kf.mono ?_
                      rintro e w4 ⟨rfl, rfl⟩
                      go_wp2
                      exact ⟨rfl, by simp, HBL.out⟩
                · have e6c : decide ((wh.length : Int) ≤ s6) = false := by simpa using e6a
                  have hck : ckB (.node kd c lo hi wh n x y) = false := by
                    rw [ckB, HSH.out]
                    simp [C1.out, e6a]
                  have kf := form_no w3
                  clear C1
                  go_wp2_with fail
                  refine kf.mono ?_
                  rintro e w4 ⟨rfl, rfl⟩
                  go_wp2
                  exact ⟨rfl, by simp, HBL.out⟩
              · have e4d : decide (hi ≤ s5) = false := by simpa using e4b
                have hck : ckB (.node kd c lo hi wh n x y) = false := by
                  rw [ckB, HSH.out]
                  simp [C1.out, e4a, e4b]
                have kf := form_no w3
                clear C1
                go_wp2_with fail
                refine kf.mono ?_
                rintro e w4 ⟨rfl, rfl⟩
                go_wp2
                exact ⟨rfl, by simp, HBL.out⟩
            · have e4c : decide (-s5 ≤ hi) = false := by simpa using e4a
              have hck : ckB (.node kd c lo hi wh n x y) = false := by
                rw [ckB, HSH.out]
                simp [C1.out, e4a]
              have kf := form_no w3
              clear C1
              go_wp2_with fail
              refine kf.mono ?_
              rintro e w4 ⟨rfl, rfl⟩
              go_wp2
              exact ⟨rfl, by simp, HBL.out⟩
          · have e2d : decide (lo ≤ s4) = false := by simpa using e2b
            have hck : ckB (.node kd c lo hi wh n x y) = false := by
              rw [ckB, HSH.out]
              simp [C1.out, e2a, e2b]
            have kf := form_no w3
            clear C1
            go_wp2_with fail
            refine kf.mono ?_
            rintro e w4 ⟨rfl, rfl⟩
            go_wp2
            exact ⟨rfl, by simp, HBL.out⟩
        · have e2c : decide (s3 ≤ lo) = false := by simpa using e2a
          have hck : ckB (.node kd c lo hi wh n x y) = false := by
            rw [ckB, HSH.out]
            simp [C1.out, e2a]
          have kf := form_no w3
          clear C1
          go_wp2_with fail
          refine kf.mono ?_
          rintro e w4 ⟨rfl, rfl⟩
          go_wp2
          exact ⟨rfl, by simp, HBL.out⟩
      · have d1 : ((n : Int) == s1) = false := by simpa using c1
        have kf := form_no w3
        have hck : ckB (.node kd c lo hi wh n x y) = false := by
          rw [ckB, HSH.out]
          simp [c1]
        clear c1
        go_wp2_with fail
        clear hW3
        refine kf.mono ?_
        rintro e w4 ⟨rfl, rfl⟩
        go_wp2
        exact ⟨rfl, by simp, HBL.out⟩
theorem check_any {b : Nat} : ∀ (q : Qu) (w : World) (B : Nat) (cs : List Value), B ≤ w.heap.size → QI w B q cs → Wds w b → Calls Tryz.prog 14 #[.map (some b), .agg cs.toArray] w (CkP w (ckB q))
  | .none, _, _, _, _, h, _ => h.elim
  | .node kd c lo hi wh n x y, w, B, cs, hB, h, hW => check_step kd c lo hi wh n x y (check_any x) (check_any y) w B cs hB h hW
end Go.Proofs.YtidfkencjdjkbaaGreatDoor

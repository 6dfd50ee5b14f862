import Derived.Test.YtkpjjiomfgkobaaFro
namespace Go.Proofs.Ytkpjjiomfgkobaa
open Go.RowKit Go.Proofs.Ytkpjjiomfgkobaa.Ds

set_option maxHeartbeats 4000000 in
set_option maxRecDepth 100000 in
theorem rowsCount_walk (B : Nat) (cu ru cv rv u : Value) (l m : List Col) (ts us : List Rw) (xs : List Int) (w : World) (hB : B ≤ w.heap.size) (hp : Cols w B cu l) (hq : Rws w B ru ts) (hp2 : Cols w B cv m) (hq2 : Rws w B rv us) (hu : Ints w B B u xs) :
    Calls Try.prog 3 #[.agg #[cu, ru], .agg #[cv, rv], u] w fun e w' => e = .returned (.bool true) ∧ Below w.heap.size w w' := by
  have HP : Hid (Cols w B cu l) := hp
  have HQ : Hid (Rws w B ru ts) := hq
  have HP2 : Hid (Cols w B cv m) := hp2
  have HQ2 : Hid (Rws w B rv us) := hq2
  have HU : Hid (Ints w B B u xs) := hu
  obtain ⟨a, c, rfl, hc, hl⟩ := hp.slice
  obtain ⟨a2, c2, rfl, hc2, hl2⟩ := hq.slice
  obtain ⟨a3, c3, rfl, hc3, hl3⟩ := hp2.slice
  obtain ⟨a4, c4, rfl, hc4, hl4⟩ := hq2.slice
  obtain ⟨a5, c5, rfl, hc5, hl5⟩ := hu.slice
  obtain ⟨ec, hec⟩ : ∃ ec, Hid (colE l = ec) := ⟨_, rfl⟩
  obtain ⟨ew, hew⟩ : ∃ ew, Hid (wroE l (rr ts) = ew) := ⟨_, rfl⟩
  obtain ⟨⟨ys, ey⟩, hys⟩ : ∃ q, Hid (cellsR l (rr ts) = q) := ⟨_, rfl⟩
  obtain ⟨lc, hlc⟩ : ∃ q, Hid (froC l xs = q) := ⟨_, rfl⟩
  obtain ⟨rs, hrs⟩ : ∃ q, Hid (froT l xs = q) := ⟨_, rfl⟩
  obtain ⟨ef, hef⟩ : ∃ q, Hid (froE l xs = q) := ⟨_, rfl⟩
  obtain ⟨n, hn⟩ : ∃ q, Hid (apaT l m (rr ts) (rr us) = q) := ⟨_, rfl⟩
  obtain ⟨ea, hea⟩ : ∃ q, Hid (apaE l m (rr ts) (rr us) = q) := ⟨_, rfl⟩
  have K6 := fun (W : World) (h : Below w.heap.size w W) => columns_any B _ l W (Nat.le_trans hB h.size) (HP.out.at hB h) ec hec.out
  have K7 := fun (W : World) (h : Below w.heap.size w W) => rcolumns_any B _ l W (Nat.le_trans hB h.size) (HP.out.at hB h) ec hec.out
  have K8 := fun (W : World) (h : Below w.heap.size w W) => wrong_any B _ _ l ts W (Nat.le_trans hB h.size) (HP.out.at hB h) (HQ.out.at hB h) ew hew.out
  have K9 := fun (W : World) (h : Below w.heap.size w W) => rwrong_any B _ _ l ts W (Nat.le_trans hB h.size) (HP.out.at hB h) (HQ.out.at hB h) ew hew.out
  obtain ⟨W, hW⟩ : ∃ W, (w.alloc (.cells #[.slice a l.length c, .slice a2 ts.length c2] 25)).alloc (.cells #[.slice a3 m.length c3, .slice a4 us.length c4] 25) = W := ⟨_, rfl⟩
  have hbW : Below w.heap.size w W := by rw [← hW]; exact bal (ba _ _) _
  have hsW : W.heap.size = w.heap.size + 2 := by rw [← hW]; simp
  have p0 : W.cell? ⟨w.heap.size, 0, none⟩ = some (.slice a l.length c) := by rw [← hW]; simp [go_sem]
  have p1 : W.cell? ⟨w.heap.size, 1, none⟩ = some (.slice a2 ts.length c2) := by rw [← hW]; simp [go_sem]
  have p2 : W.cell? ⟨w.heap.size + 1, 0, none⟩ = some (.slice a3 m.length c3) := by rw [← hW]; simp [go_sem]
  have p3 : W.cell? ⟨w.heap.size + 1, 1, none⟩ = some (.slice a4 us.length c4) := by rw [← hW]; simp [go_sem]
  have l0 : w.heap.size < W.heap.size := by omega
  have l1 : w.heap.size + 1 < W.heap.size := by omega
  go_enter Try.func3, Try.ntmps3
  go_wp2_with fail
  clear hW
  go_cut [28] (fun b wx => b = .bool false ∧ Below W.heap.size W wx)
  case first =>
    go_region_held3 (fun w' => w'.cell? ⟨w.heap.size, 0, none⟩ = some (.slice a l.length c) ∧ w'.cell? ⟨w.heap.size, 1, none⟩ = some (.slice a2 ts.length c2))
      ((go_split_ands; refine ⟨?_, ?_⟩ <;> first | assumption | (simp [go_sem, *]; done)))
      (first
        | (go_at_call 9; have hmark := hb3; refine (K9 _ (bt hbW hb3)).mono ?_; rintro x w4 ⟨rfl, hb4'⟩; have hb4 : Below W.heap.size W w4 := (bt hb3 hb4'); have g0 : w4.cell? ⟨w.heap.size, 0, none⟩ = some (.slice a l.length c) := (hb4.cell (p := ⟨w.heap.size, 0, none⟩) l0).trans p0; have g1 : w4.cell? ⟨w.heap.size, 1, none⟩ = some (.slice a2 ts.length c2) := (hb4.cell (p := ⟨w.heap.size, 1, none⟩) l0).trans p1)
        | (go_at_call 8; have hmark := hb2; refine (K8 _ (bt hbW hb2)).mono ?_; rintro x w3 ⟨rfl, hb3'⟩; have hb3 : Below W.heap.size W w3 := (bt hb2 hb3'); have f0 : w3.cell? ⟨w.heap.size, 0, none⟩ = some (.slice a l.length c) := (hb3.cell (p := ⟨w.heap.size, 0, none⟩) l0).trans p0; have f1 : w3.cell? ⟨w.heap.size, 1, none⟩ = some (.slice a2 ts.length c2) := (hb3.cell (p := ⟨w.heap.size, 1, none⟩) l0).trans p1)
        | (go_at_call 7; have hmark := hb1; refine (K7 _ (bt hbW hb1)).mono ?_; rintro x w2 ⟨rfl, hb2'⟩; have hb2 : Below W.heap.size W w2 := (bt hb1 hb2'); have e0 : w2.cell? ⟨w.heap.size, 0, none⟩ = some (.slice a l.length c) := (hb2.cell (p := ⟨w.heap.size, 0, none⟩) l0).trans p0; have e1 : w2.cell? ⟨w.heap.size, 1, none⟩ = some (.slice a2 ts.length c2) := (hb2.cell (p := ⟨w.heap.size, 1, none⟩) l0).trans p1)
        | (go_at_call 6; refine (K6 _ (bt hbW (Below.refl W.heap.size W).drew)).mono ?_; rintro x w1 ⟨rfl, hb1'⟩; have hb1 : Below W.heap.size W w1 := (bt (Below.refl W.heap.size W).drew hb1'); have d0 : w1.cell? ⟨w.heap.size, 0, none⟩ = some (.slice a l.length c) := (hb1.cell (p := ⟨w.heap.size, 0, none⟩) l0).trans p0; have d1 : w1.cell? ⟨w.heap.size, 1, none⟩ = some (.slice a2 ts.length c2) := (hb1.cell (p := ⟨w.heap.size, 1, none⟩) l0).trans p1))
    all_goals
      go_wp2
      go_meet
      exact ⟨rfl, hb4⟩
  case rest =>
    obtain ⟨rfl, hbc⟩ := hcut
    have hbwc : Below w.heap.size w wc := bt hbW hbc
    have hsc := hbc.size
    have q0 := (hbc.cell (p := ⟨w.heap.size, 0, none⟩) l0).trans p0
    have q1 := (hbc.cell (p := ⟨w.heap.size, 1, none⟩) l0).trans p1
    have kc := cells_any B _ _ l ts wc (Nat.le_trans hB hbwc.size) (HP.out.at hB hbwc) (HQ.out.at hB hbwc) ys ey hys.out
    clear K6 K7 K8 K9
    go_wp2_with fail
    refine kc.mono ?_
    rintro e w1 ⟨v1, rfl, hI1, hb1⟩
    have hbw1 : Below w.heap.size w w1 := bt hbwc hb1
    have G1 : Below W.heap.size W w1 := bt hbc hb1
    have hs1 := hb1.size
    have HI1 : Hid (Ints w1 w1.heap.size w.heap.size v1 ys) := hI1 w.heap.size (by omega)
    obtain ⟨b1, d1, rfl, _, _⟩ := HI1.out.slice
    have r0 := (hb1.cell (p := ⟨w.heap.size, 0, none⟩) (show w.heap.size < wc.heap.size by omega)).trans q0
    have r1 := (hb1.cell (p := ⟨w.heap.size, 1, none⟩) (show w.heap.size < wc.heap.size by omega)).trans q1
    have kc2 := counts_any B _ _ l ts w1 (Nat.le_trans hB hbw1.size) (HP.out.at hB hbw1) (HQ.out.at hB hbw1) ys ey hys.out
    clear kc hI1 q0 q1
    go_wp2_with fail
    refine kc2.mono ?_
    rintro e w2 ⟨v2, rfl, hI2, hb2⟩
    have hbw2 : Below w.heap.size w w2 := bt hbw1 hb2
    have G2 : Below W.heap.size W w2 := bt G1 hb2
    have hs2 := hb2.size
    have HI1' : Hid (Ints w2 w2.heap.size w.heap.size (.slice b1 ys.length d1) ys) := HI1.out.at2 hb2
    have HI2 : Hid (Ints w2 w2.heap.size w.heap.size v2 ys) := hI2 w.heap.size (by omega)
    obtain ⟨b2, d2, rfl, _, _⟩ := HI2.out.slice
    have s0 := (hb2.cell (p := ⟨w.heap.size, 0, none⟩) (show w.heap.size < w1.heap.size by omega)).trans r0
    have s1 := (hb2.cell (p := ⟨w.heap.size, 1, none⟩) (show w.heap.size < w1.heap.size by omega)).trans r1
    have kc3 := fun W => refCompare_any w2.heap.size w.heap.size w.heap.size (.slice b1 ys.length d1) (.slice b2 ys.length d2) ys ys W
    clear kc2 hI2 r0 r1
    go_wp2_with fail
    refine (kc3 w2 HI1'.out HI2.out 0 (cmpT_self ys)).mono ?_
    rintro e w3 ⟨rfl, q, rfl⟩
    have hb3 : Below w2.heap.size w2 (w2.drewN q) := bdr _ _
    have hbw3 : Below w.heap.size w (w2.drewN q) := bt hbw2 hb3
    have kc4 := from_any B B B (.slice a l.length c) (.slice a5 xs.length c5) l xs (w2.drewN q) (Nat.le_trans hB hbw3.size) (HP.out.at hB hbw3) (Nat.le_trans hB hbw3.size) (HU.out.at hB hbw3) lc rs ef hlc.out hrs.out hef.out
    clear kc3
    go_wp2_with fail
    refine kc4.mono ?_
    rintro e w4 ⟨cv4, rv4, t4, rfl, hC4, hR4, hr4, hA4, hAR4, hb4⟩
    have hbw4 : Below w.heap.size w w4 := bt hbw3 hb4
    have G4 : Below W.heap.size W w4 := bt (bt G2 hb3) hb4
    have hs4 := hb4.size
    have hs3 : w2.heap.size ≤ w4.heap.size := hs4
    have HC4 : Hid (Cols w4 w4.heap.size cv4 lc) := hC4
    have HR4 : Hid (Rws w4 w4.heap.size rv4 t4) := hR4
    have HT4 : Hid (rr t4 = rs) := hr4
    obtain ⟨b4, d4, rfl, _, _⟩ := hC4.slice
    obtain ⟨b5, d5, rfl, _, _⟩ := hR4.slice
    have hb24 : Below w2.heap.size w2 w4 := bt hb3 hb4
    have t0 := (hb24.cell (p := ⟨w.heap.size, 0, none⟩) (show w.heap.size < w2.heap.size by omega)).trans s0
    have t1 := (hb24.cell (p := ⟨w.heap.size, 1, none⟩) (show w.heap.size < w2.heap.size by omega)).trans s1
    clear kc4 hC4 hR4 hr4 hA4 hAR4 s0 s1 hb4 hb24 hb3 hb2 hb1 HI1 HI1' HI2 hbw3 hs4
    obtain ⟨W4, hW4⟩ : ∃ W4, w4.alloc (.cells #[.slice b4 lc.length d4, .slice b5 t4.length d5] 25) = W4 := ⟨_, rfl⟩
    have hbW4 : Below w4.heap.size w4 W4 := by rw [← hW4]; exact ba _ _
    have hsW4 : W4.heap.size = w4.heap.size + 1 := by rw [← hW4]; simp
    have HX4 : Hid (TwoB W4 w4.heap.size (.slice b4 lc.length d4) (.slice b5 t4.length d5)) := by rw [← hW4]; exact TwoB.new _ _ _ _ _ rfl
    have hbwW4 : Below w.heap.size w W4 := bt hbw4 hbW4
    have GW4 : Below W.heap.size W W4 := bt G4 hbW4
    have t0' := (hbW4.cell (p := ⟨w.heap.size, 0, none⟩) (show w.heap.size < w4.heap.size by omega)).trans t0
    have t1' := (hbW4.cell (p := ⟨w.heap.size, 1, none⟩) (show w.heap.size < w4.heap.size by omega)).trans t1
    have kc5 := rfrom_any B B B (.slice a l.length c) (.slice a5 xs.length c5) l xs W4 (Nat.le_trans hB hbwW4.size) (HP.out.at hB hbwW4) (Nat.le_trans hB hbwW4.size) (HU.out.at hB hbwW4) lc rs ef hlc.out hrs.out hef.out
    go_wp2_with fail
    clear hW4
    refine kc5.mono ?_
    rintro e w5 ⟨cv5, rv5, t5, rfl, hC5, hR5, hr5, hb5⟩
    have hbw5 : Below w.heap.size w w5 := bt hbwW4 hb5
    have G5 : Below W.heap.size W w5 := bt GW4 hb5
    have hs5 := hb5.size
    have HC4' : Hid (Cols w5 w5.heap.size (.slice b4 lc.length d4) lc) := (HC4.out.at (Nat.le_refl _) (bt hbW4 hb5)).mono (by omega)
    have HR4' : Hid (Rws w5 w5.heap.size (.slice b5 t4.length d5) t4) := (HR4.out.at (Nat.le_refl _) (bt hbW4 hb5)).mono (by omega)
    have HC5 : Hid (Cols w5 w5.heap.size cv5 lc) := hC5
    have HR5 : Hid (Rws w5 w5.heap.size rv5 t5) := hR5
    have HT5 : Hid (rr t5 = rs) := hr5
    obtain ⟨b6, d6, rfl, _, _⟩ := hC5.slice
    obtain ⟨b7, d7, rfl, _, _⟩ := hR5.slice
    have u0 := (hb5.cell (p := ⟨w.heap.size, 0, none⟩) (show w.heap.size < W4.heap.size by omega)).trans t0'
    have u1 := (hb5.cell (p := ⟨w.heap.size, 1, none⟩) (show w.heap.size < W4.heap.size by omega)).trans t1'
    have HX4' : Hid (TwoB w5 w4.heap.size (.slice b4 lc.length d4) (.slice b5 t4.length d5)) := HX4.out.below hb5
    clear kc5 hC5 hR5 hr5 HC4 HR4 HX4 t0 t1 t0' t1' hb5
    obtain ⟨W5, hW5⟩ : ∃ W5, w5.alloc (.cells #[.slice b6 lc.length d6, .slice b7 t5.length d7] 25) = W5 := ⟨_, rfl⟩
    have hbW5 : Below w5.heap.size w5 W5 := by rw [← hW5]; exact ba _ _
    have hsW5 : W5.heap.size = w5.heap.size + 1 := by rw [← hW5]; simp
    have HX5 : Hid (TwoB W5 w5.heap.size (.slice b6 lc.length d6) (.slice b7 t5.length d7)) := by rw [← hW5]; exact TwoB.new _ _ _ _ _ rfl
    have HX4'' : Hid (TwoB W5 w4.heap.size (.slice b4 lc.length d4) (.slice b5 t4.length d5)) := HX4'.out.below hbW5
    have hbwW5 : Below w.heap.size w W5 := bt hbw5 hbW5
    have GW5 : Below W.heap.size W W5 := bt G5 hbW5
    have u0' := (hbW5.cell (p := ⟨w.heap.size, 0, none⟩) (show w.heap.size < w5.heap.size by omega)).trans u0
    have u1' := (hbW5.cell (p := ⟨w.heap.size, 1, none⟩) (show w.heap.size < w5.heap.size by omega)).trans u1
    have x0 := HX5.out.c0
    have x1 := HX5.out.c1
    have x2 := HX4''.out.c0
    have x3 := HX4''.out.c1
    have kc6 := sameT_any W5.heap.size (.slice b4 lc.length d4) (.slice b5 t4.length d5) (.slice b6 lc.length d6) (.slice b7 t5.length d7) lc lc t4 t5 W5 (Nat.le_refl _) ((HC4'.out.at (Nat.le_refl _) hbW5).mono (by omega)) ((HR4'.out.at (Nat.le_refl _) hbW5).mono (by omega)) ((HC5.out.at (Nat.le_refl _) hbW5).mono (by omega)) ((HR5.out.at (Nat.le_refl _) hbW5).mono (by omega)) true (decide_eq_true ⟨rfl, by rw [HT4.out, HT5.out]⟩)
    go_wp2_with fail
    clear hW5
    refine kc6.mono ?_
    rintro e w6 ⟨rfl, hb6⟩
    have hbw6 : Below w.heap.size w w6 := bt hbwW5 hb6
    have G6 : Below W.heap.size W w6 := bt GW5 hb6
    have y0 := (G6.cell (p := ⟨w.heap.size, 0, none⟩) l0).trans p0
    have y1 := (G6.cell (p := ⟨w.heap.size, 1, none⟩) l0).trans p1
    have y2 := (G6.cell (p := ⟨w.heap.size + 1, 0, none⟩) l1).trans p2
    have y3 := (G6.cell (p := ⟨w.heap.size + 1, 1, none⟩) l1).trans p3
    have kc7 := apart_any B _ _ _ _ l m ts us w6 (Nat.le_trans hB hbw6.size) (HP.out.at hB hbw6) (HQ.out.at hB hbw6) (HP2.out.at hB hbw6) (HQ2.out.at hB hbw6) n ea hn.out hea.out
    clear kc6 u0 u1 u0' u1' x0 x1 x2 x3 HX5 HX4'' HX4' hb6
    go_wp2_with fail
    refine kc7.mono ?_
    rintro e w7 ⟨rfl, hb7⟩
    have G7 : Below W.heap.size W w7 := bt G6 hb7
    have hbw7 : Below w.heap.size w w7 := bt hbw6 hb7
    have z0 := (G7.cell (p := ⟨w.heap.size, 0, none⟩) l0).trans p0
    have z1 := (G7.cell (p := ⟨w.heap.size, 1, none⟩) l0).trans p1
    have z2 := (G7.cell (p := ⟨w.heap.size + 1, 0, none⟩) l1).trans p2
    have z3 := (G7.cell (p := ⟨w.heap.size + 1, 1, none⟩) l1).trans p3
    have kc8 := rapart_any B _ _ _ _ l m ts us w7 (Nat.le_trans hB hbw7.size) (HP.out.at hB hbw7) (HQ.out.at hB hbw7) (HP2.out.at hB hbw7) (HQ2.out.at hB hbw7) n ea hn.out hea.out
    clear kc7 y0 y1 y2 y3 hb7
    go_wp2_with fail
    refine kc8.mono ?_
    rintro e w8 ⟨rfl, hb8⟩
    have hbw8 : Below w.heap.size w w8 := bt hbw7 hb8
    clear kc8
    go_wp2
    go_ret
    exact ⟨rfl, hbw8⟩
end Go.Proofs.Ytkpjjiomfgkobaa

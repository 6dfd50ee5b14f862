import Derived.Test.YtidfkencjdjkbaaGreatDoorQo12
/-
  PACKAGE speech: a thing.
-/
namespace Go.Proofs.YtidfkencjdjkbaaGreatDoor
open Go.RowKit Sp

theorem VB.kp {lo : Nat} {w w' : World} {p : Qu × Qu} {v : Value} (hk : Kp lo w w') (h : VB lo w p v) : VB lo w' p v := by
  obtain ⟨g, xs, ys, h1, h2, h3, h4, h5, h6⟩ := h
  exact ⟨g, xs, ys, h1, h2, Nat.lt_of_lt_of_le h3 hk.1, QV.kp hk _ h4, QV.kp hk _ h5, fun j u hu => (hk.cell h2 h3).trans (h6 j u hu)⟩
theorem VB.mono {lo lo' : Nat} {w : World} {p : Qu × Qu} {v : Value} (h : VB lo w p v) (hl : lo' ≤ lo) : VB lo' w p v := by
  obtain ⟨g, xs, ys, h1, h2, h3, h4, h5, h6⟩ := h
  exact ⟨g, xs, ys, h1, by omega, h3, QV.mono hl _ h4, QV.mono hl _ h5, h6⟩
theorem knd_zero {x : By} (h : kndN x = 0) : x ≠ wCount ∧ x ≠ wBins ∧ x ≠ wSum ∧ x ≠ wTotal ∧ x ≠ wClamp ∧ x ≠ wJoin := by
  refine ⟨?_, ?_, ?_, ?_, ?_, ?_⟩ <;> (rintro rfl; exact absurd h (by decide))
theorem knd_pos {x : By} (h : kndN x ≠ 0) : x = wCount ∨ x = wBins ∨ x = wSum ∨ x = wTotal ∨ x = wClamp ∨ x = wJoin := by
  by_cases h1 : x = wCount
  · exact .inl h1
  by_cases h2 : x = wBins
  · exact .inr (.inl h2)
  by_cases h3 : x = wSum
  · exact .inr (.inr (.inl h3))
  by_cases h4 : x = wTotal
  · exact .inr (.inr (.inr (.inl h4)))
  by_cases h5 : x = wClamp
  · exact .inr (.inr (.inr (.inr (.inl h5))))
  by_cases h6 : x = wJoin
  · exact .inr (.inr (.inr (.inr (.inr h6))))
  exact absurd (by simp [kndN, h1, h2, h3, h4, h5, h6]) h
set_option maxHeartbeats 2000000 in
set_option maxRecDepth 100000 in
theorem thg_of {lv : Int} {q : List Pc → PR Qu} (hbk : Qc 112 lv (brkP q)) (hbt : ∀ (w : World) (R b P0 : Nat) (ps : List Pc) (r : PR (Qu × Qu)), Rdr w R P0 ps (.map (some b)) → Cx w R b → bthP q ps = r → Calls Tryz.prog 116 #[ptR R, .int .i64 lv] w (RdP w R P0 (.map (some b)) (VB w.heap.size) r)) : Qc 103 lv (thgP q) := by
  intro w R b P0 ps r h hX hr
  have hpl := h.pl
  obtain ⟨W0, hW0⟩ : ∃ W0, w.alloc (.cells #[.int .i64 0, .string ⟨#[]⟩, .int .i64 0, .int .i64 0, .slice none 0 0, .slice none 0 0] 25) = W0 := ⟨_, rfl⟩
  have hb0 : Below w.heap.size w W0 := hW0 ▸ ba _ _
  have HB0 : Hid (Bx W0 w.heap.size z6) := hW0 ▸ Bx.new w z6 25 rfl
  have hz0 : w.heap.size < W0.heap.size := (HB0.out 0 _ rfl).lt
  have HG0 : Hid (w.grownBy W0 (some R)) := gb_below hb0
  have hRl : w.heap.size ≠ R := by omega
  have hPl : w.heap.size ≠ P0 := by omega
  have H0 : Hid (Rdr W0 R P0 ps (.map (some b))) := h.at hb0
  have HX : Hid (Cx w R b) := hX
  have HX0 : Hid (Cx W0 R b) := hX.at hb0
  have hm0 := H0.out.m.c
  have hRz : R < W0.heap.size := by omega
  unfold thgP at hr
  clear h hX hb0
  by_cases c0 : hd ps = sOpen
  · have k0 := is_any H0.out sOpen true (by simpa using c0)
    rw [if_pos c0] at hr
    have k1 := hbk W0 R b P0 ps r H0.out HX0.out hr
    clear c0 hr
    go_enter Tryz.func103, Tryz.ntmps103
    go_wp2_with fail
    clear hW0
    refine k0.mono ?_
    rintro e w1 ⟨rfl, rfl⟩
    go_wp2_with fail
    refine k1.mono ?_
    rintro e w2 ⟨he, hg2⟩
    have HG2 : Hid (w.grownBy w2 (some R)) := gb_trans HG0.out hg2
    have HB2 : Hid (Bx w2 w.heap.size z6) := HB0.out.gb hg2 hRl
    clear k0 k1 hg2
    cases r with
    | error x =>
      obtain ⟨c, a⟩ := x
      obtain rfl : e = .panicked (chn c a) := he
      go_wp2
      exact ⟨rfl, rfl, HG2.out⟩
    | ok x =>
      obtain ⟨a1, q1⟩ := x
      obtain ⟨⟨v, rfl, cs, rfl, hqv⟩, h2⟩ := he
      obtain ⟨xk, xc, xl, xh, xa4, xn4, xc4, xa5, xn5, xc5, rfl⟩ := hqv.six
      have HQV : Hid (QV w1.heap.size w2 a1 [.int .i64 xk, .string (tx xc), .int .i64 xl, .int .i64 xh, .slice xa4 xn4 xc4, .slice xa5 xn5 xc5]) := hqv
      have H2 : Hid (Rdr w2 R P0 q1 (.map (some b))) := h2
      clear hqv h2
      have z0 := (HB2.out 0 _ rfl).c
      have z1 := (HB2.out 1 _ rfl).c
      have z2 := (HB2.out 2 _ rfl).c
      have z3 := (HB2.out 3 _ rfl).c
      have z4 := (HB2.out 4 _ rfl).c
      have z5 := (HB2.out 5 _ rfl).c
      have y0 := (HB2.out 0 _ rfl).f
      have y1 := (HB2.out 1 _ rfl).f
      have y2 := (HB2.out 2 _ rfl).f
      have y3 := (HB2.out 3 _ rfl).f
      have y4 := (HB2.out 4 _ rfl).f
      have y5 := (HB2.out 5 _ rfl).f
      obtain ⟨W7, hW7⟩ : ∃ W7, set6 w2 w.heap.size (.int .i64 xk) (.string (tx xc)) (.int .i64 xl) (.int .i64 xh) (.slice xa4 xn4 xc4) (.slice xa5 xn5 xc5) = W7 := ⟨_, rfl⟩
      have HB7 : Hid (Bx W7 w.heap.size [.int .i64 xk, .string (tx xc), .int .i64 xl, .int .i64 xh, .slice xa4 xn4 xc4, .slice xa5 xn5 xc5]) := hW7 ▸ set6_bx HB2.out _ _ _ _ _ _
      have HR7 : Hid (Rdr W7 R P0 q1 (.map (some b))) := hW7 ▸ set6_rd H2.out hRl hPl _ _ _ _ _ _
      have HG7 : Hid (w.grownBy W7 (some R)) := hW7 ▸ set6_gb HG2.out (Nat.le_refl _) _ _ _ _ _ _
      have HQ7 : Hid (QV w.heap.size W7 a1 [.int .i64 xk, .string (tx xc), .int .i64 xl, .int .i64 xh, .slice xa4 xn4 xc4, .slice xa5 xn5 xc5]) := hW7 ▸ QV.mono (by omega) a1 (QV.kp (set6_kp hz0 _ _ _ _ _ _) a1 HQV.out)
      unfold set6 at hW7
      go_wp2
      have x0 := (HB7.out 0 _ rfl).c
      have x1 := (HB7.out 1 _ rfl).c
      have x2 := (HB7.out 2 _ rfl).c
      have x3 := (HB7.out 3 _ rfl).c
      have x4 := (HB7.out 4 _ rfl).c
      have x5 := (HB7.out 5 _ rfl).c
      exact bodyPost_ret (v := .agg #[.int .i64 xk, .string (tx xc), .int .i64 xl, .int .i64 xh, .slice xa4 xn4 xc4, .slice xa5 xn5 xc5]) (by simp [results, Tryz.results103, go_sem, x0, x1, x2, x3, x4, x5]) rfl ⟨⟨⟨_, rfl, _, rfl, HQ7.out⟩, HR7.out⟩, HG7.out⟩
  · have k0 := is_any H0.out sOpen false (by simpa using c0)
    rw [if_neg c0] at hr
    obtain ⟨x, hx⟩ : ∃ x, hd ps = x := ⟨_, rfl⟩
    obtain ⟨kd, hkd⟩ : ∃ kd, kndN x = kd := ⟨_, rfl⟩
    have HXX : Hid (hd ps = x) := hx
    have HKD : Hid (kndN x = kd) := hkd
    rw [hx] at hr
    have HRR0 : Hid _ := hr
    clear c0 hr hkd hx
    go_enter Tryz.func103, Tryz.ntmps103
    go_wp2_with fail
    clear hW0
    refine k0.mono ?_
    rintro e w1 ⟨rfl, rfl⟩
    clear k0
    go_upto_region 3 with fail
    refine thg3 (fun _ _ d _ _ h => by cases d <;> exact h) _ _ _ _ _ _ _ _ _ _ _ _ _ _ _ _ _ _ _ _ _ _ _ _ _ _ _ _ _ _ _ _ _ _ _ _ _ _ _ _ _ _ _ _ _ _ _ _ _ _ _ _ _ _ _ _ _ _ _ _ _ _ _ _ _ _ _ _ _ _ _ _ _ _ _ _ _ _ _ _ _ _ _ _ _ _ _ _ _ _ _ _ _ _ _ w1 R b x kd (fun W hW => (hW.cell (p := ⟨R, 1, none⟩) hRz).trans hm0) (fun W hW => by have := (wds_look (HX0.out.at hW).d x).1; rw [HKD.out] at this; exact this) (fun W hW => next_any (H0.out.at hW) x HXX.out) ?_
    intro u13 u14 u15 u16 u17 u18 u19 u20 u21 u22 b5 w2 hb2 hC2 h5b
    have HG2 : Hid (w.grownBy w2 (some R)) := gb_trans HG0.out (gb_below hb2)
    have HB2 : Hid (Bx w2 w.heap.size z6) := HB0.out.at hb2
    have H2 : Hid (Rdr w2 R P0 ps (.map (some b))) := H0.out.at hb2
    have HC2 : Hid (Bx w2 b5 [.int .i64 (kd : Int), .string ⟨#[]⟩, .int .i64 0, .int .i64 0, .slice none 0 0, .slice none 0 0]) := hC2
    have hR5 : b5 ≠ R := by omega
    have hP5 : b5 ≠ P0 := by omega
    have h5w : w.heap.size ≤ b5 := by omega
    have h5n : b5 ≠ w.heap.size := by omega
    have h5l : b5 < w2.heap.size := (hC2 0 _ rfl).lt
    have d0 := (hC2 0 _ rfl).c
    clear hb2 hC2 H0 HB0 HG0 HX0 hm0
    by_cases c4 : kd = 0
    · subst c4
      have hne := knd_zero HKD.out
      have hq := HRR0.out
      rw [if_neg hne.1, if_neg hne.2.1, if_neg hne.2.2.1, if_neg hne.2.2.2.1, if_neg hne.2.2.2.2.1, if_neg hne.2.2.2.2.2] at hq
      obtain rfl : .error (2, hat ps) = r := hq
      go_upto_region 4 with fail
      exact thg4 (fun _ _ d _ _ h => by cases d <;> exact h) _ _ _ _ _ _ _ _ _ _ _ _ _ _ _ _ _ _ _ _ _ _ _ _ _ _ _ _ _ _ _ _ _ _ _ _ _ _ _ _ _ _ _ _ _ _ _ _ _ _ _ _ _ _ _ _ _ _ _ _ _ _ _ _ _ _ _ _ _ _ _ _ _ _ _ _ _ _ _ _ _ _ _ _ _ _ _ _ _ _ _ _ _ _ w2 R b5 (hat ps) (fun W hW => (hW.cell (p := ⟨b5, 0, none⟩) h5l).trans d0) (fun W hW => pmust_no (H2.out.at hW) 2) (fun a W hd hb => ⟨hd, rfl, gb_trans HG2.out (gb_below hb)⟩)
    have HNE : Hid (hd ps ≠ []) := by
      rw [Hid, HXX.out]
      rintro rfl
      exact c4 (HKD.out.symm.trans (by decide))
    have c5 : ¬ (kd : Int) = 0 := by omega
    have c6 : ((kd : Int) == 0) = false := by simpa using c5
    have c7 : ((kd : Int) != 0) = true := by simpa using c5
    go_wp2_with fail
    go_quiet ((go_at_call 23; refine Calls.quiet_of_same (pmust_ok (H2.out.at (below_drewN (Below.refl _ _) _)) 2)))
    have HBD : Hid (Below w2.heap.size w2 (w2.drewN nq)) := below_drewN (Below.refl _ _) _
    generalize w2.drewN nq = w3 at HBD ⊢
    have k4 := step_any (H2.out.at HBD.out) HNE.out
    go_wp2_with fail
    refine k4.mono ?_
    rintro e w5 ⟨rfl, h5, hg5⟩
    have HG5 : Hid (w.grownBy w5 (some R)) := gb_trans HG2.out (gb_trans (gb_below HBD.out) hg5)
    have HB5 : Hid (Bx w5 w.heap.size z6) := (HB2.out.at HBD.out).gb hg5 hRl
    have HC5 : Hid (Bx w5 b5 [.int .i64 (kd : Int), .string ⟨#[]⟩, .int .i64 0, .int .i64 0, .slice none 0 0, .slice none 0 0]) := (HC2.out.at HBD.out).gb hg5 hR5
    have H5 : Hid (Rdr w5 R P0 ps.tail (.map (some b))) := h5
    have hz5 : b5 < w5.heap.size := Nat.lt_of_lt_of_le h5l (Nat.le_trans HBD.out.size hg5.size)
    have e0 := (HC5.out 0 _ rfl).c
    have hwo := knd_pos (x := x) (by rw [HKD.out]; exact c4)
    clear k4 hg5 h5 HG2 HB2 HC2 H2 HBD d0 h5l HNE c4 c5 c6 c7 h5b
    rcases hwo with rfl | rfl | rfl | rfl | rfl | rfl
    · obtain rfl : kd = 1 := HKD.out.symm
      have hq := HRR0.out
      rw [if_pos rfl] at hq
      have HRR : Hid _ := hq
      clear hq HRR0 HKD
      have hq11 := HRR.out
      obtain ⟨r11, hr11⟩ : ∃ x, whrP ps.tail = x := ⟨_, rfl⟩
      simp only [hr11] at hq11
      have HRR11 : Hid _ := hq11
      have k11 := tests_any H5.out (HX.out.gb HG5.out) r11 hr11
      clear hq11 hr11 HRR
      go_wp2_with fail
      refine k11.mono ?_
      rintro e w11 ⟨he, hg11⟩
      have HG12 : Hid (w.grownBy w11 (some R)) := gb_trans HG5.out hg11
      have HB12 : Hid (Bx w11 w.heap.size z6) := HB5.out.gb hg11 hRl
      have HC12 : Hid (Bx w11 b5 [.int .i64 1, .string ⟨#[]⟩, .int .i64 0, .int .i64 0, .slice none 0 0, .slice none 0 0]) := HC5.out.gb hg11 hR5
      have hz12 : w5.heap.size ≤ w11.heap.size := hg11.size
      clear k11 hg11
      cases r11 with
      | error x =>
        obtain ⟨c, a⟩ := x
        obtain rfl : .error (c, a) = r := HRR11.out
        obtain rfl : e = .panicked (chn c a) := he
        go_wp2
        exact ⟨rfl, rfl, HG12.out⟩
      | ok x =>
        obtain ⟨l, q11⟩ := x
        obtain ⟨⟨v, rfl, ht⟩, h11⟩ := he
        have H11 : Hid (Rdr w11 R P0 q11 (.map (some b))) := h11
        clear h11
        obtain ⟨ta, tn, tc, rfl⟩ := ht.one
        have HT : Hid (TsV w5.heap.size w11 l (.slice ta tn tc)) := ht
        clear ht
        have z134 := (HC12.out 4 _ rfl).c
        have y134 := (HC12.out 4 _ rfl).f
        obtain ⟨WP13, hWP13⟩ : ∃ W, (w11).setCell ⟨b5, 4, none⟩ (.slice ta tn tc) = W := ⟨_, rfl⟩
        have HG13 : Hid (w.grownBy WP13 (some R)) := hWP13 ▸ gb_new (HG12.out) (p := ⟨b5, 4, none⟩) h5w _
        have HB13 : Hid (Bx WP13 w.heap.size z6) := hWP13 ▸ (HB12.out).oth h5n _
        have HC13 : Hid (Bx WP13 b5 [.int .i64 1, .string ⟨#[]⟩, .int .i64 0, .int .i64 0, .slice ta tn tc, .slice none 0 0]) := hWP13 ▸ (HC12.out).set (i := 4) (by simp) (.slice ta tn tc)
        have H13 : Hid (Rdr WP13 R P0 q11 (.map (some b))) := hWP13 ▸ (H11.out).put hR5 hP5 4 _
        have hz13 : w11.heap.size ≤ WP13.heap.size := by rw [← hWP13]; simp [World.setCell]
        have HE130 : Hid (TsV w5.heap.size WP13 l (.slice ta tn tc)) := hWP13 ▸ HT.out.kp (Kp.put (by omega) 4 _)
        obtain rfl : .ok (.node 1 [] 0 0 l 0 .none .none, q11) = r := HRR11.out
        have s0 := (HC13.out 0 _ rfl).c
        have z0 := (HB13.out 0 _ rfl).c
        have y0 := (HB13.out 0 _ rfl).f
        have s1 := (HC13.out 1 _ rfl).c
        have z1 := (HB13.out 1 _ rfl).c
        have y1 := (HB13.out 1 _ rfl).f
        have s2 := (HC13.out 2 _ rfl).c
        have z2 := (HB13.out 2 _ rfl).c
        have y2 := (HB13.out 2 _ rfl).f
        have s3 := (HC13.out 3 _ rfl).c
        have z3 := (HB13.out 3 _ rfl).c
        have y3 := (HB13.out 3 _ rfl).f
        have s4 := (HC13.out 4 _ rfl).c
        have z4 := (HB13.out 4 _ rfl).c
        have y4 := (HB13.out 4 _ rfl).f
        have s5 := (HC13.out 5 _ rfl).c
        have z5 := (HB13.out 5 _ rfl).c
        have y5 := (HB13.out 5 _ rfl).f
        obtain ⟨W7, hW7⟩ : ∃ W7, set6 WP13 w.heap.size (.int .i64 1) (.string ⟨#[]⟩) (.int .i64 0) (.int .i64 0) (.slice ta tn tc) (.slice none 0 0) = W7 := ⟨_, rfl⟩
        have HB7 : Hid (Bx W7 w.heap.size [.int .i64 1, .string ⟨#[]⟩, .int .i64 0, .int .i64 0, .slice ta tn tc, .slice none 0 0]) := hW7 ▸ set6_bx HB13.out _ _ _ _ _ _
        have HR7 : Hid (Rdr W7 R P0 q11 (.map (some b))) := hW7 ▸ set6_rd H13.out hRl hPl _ _ _ _ _ _
        have HG7 : Hid (w.grownBy W7 (some R)) := hW7 ▸ set6_gb HG13.out (Nat.le_refl _) _ _ _ _ _ _
        have hz7 : WP13.heap.size ≤ W7.heap.size := hW7 ▸ (set6_kp (lo := w.heap.size + 1) (by omega) _ _ _ _ _ _).1
        have HE70 : Hid (TsV w5.heap.size W7 l (.slice ta tn tc)) := hW7 ▸ HE130.out.kp (set6_kp (by omega) _ _ _ _ _ _)
        have HQ7 : Hid (QV w.heap.size W7 (.node 1 [] 0 0 l 0 .none .none) [.int .i64 1, .string ⟨#[]⟩, .int .i64 0, .int .i64 0, .slice ta tn tc, .slice none 0 0]) := ⟨_, _, rfl, HE70.out.mono (by omega), .inl ⟨rfl, rfl⟩⟩
        unfold set6 at hW7
        go_wp2
        have x0 := (HB7.out 0 _ rfl).c
        have x1 := (HB7.out 1 _ rfl).c
        have x2 := (HB7.out 2 _ rfl).c
        have x3 := (HB7.out 3 _ rfl).c
        have x4 := (HB7.out 4 _ rfl).c
        have x5 := (HB7.out 5 _ rfl).c
        exact bodyPost_ret (v := .agg #[.int .i64 1, .string ⟨#[]⟩, .int .i64 0, .int .i64 0, .slice ta tn tc, .slice none 0 0]) (by simp [results, Tryz.results103, go_sem, x0, x1, x2, x3, x4, x5]) rfl ⟨⟨⟨_, rfl, _, rfl, HQ7.out⟩, HR7.out⟩, HG7.out⟩
    · obtain rfl : kd = 3 := HKD.out.symm
      have hq := HRR0.out
      rw [if_neg (show ¬ (wBins : By) = wCount by decide), if_pos rfl] at hq
      have HRR : Hid _ := hq
      clear hq HRR0 HKD
      have hq11 := HRR.out
      obtain ⟨r11, hr11⟩ : ∃ x, nmP ps.tail = x := ⟨_, rfl⟩
      simp only [hr11] at hq11
      have HRR11 : Hid _ := hq11
      have k11 := rname_any H5.out (HX.out.gb HG5.out) r11 hr11
      clear hq11 hr11 HRR
      go_wp2_with fail
      refine k11.mono ?_
      rintro e w11 ⟨he, hg11⟩
      have HG12 : Hid (w.grownBy w11 (some R)) := gb_trans HG5.out hg11
      have HB12 : Hid (Bx w11 w.heap.size z6) := HB5.out.gb hg11 hRl
      have HC12 : Hid (Bx w11 b5 [.int .i64 3, .string ⟨#[]⟩, .int .i64 0, .int .i64 0, .slice none 0 0, .slice none 0 0]) := HC5.out.gb hg11 hR5
      have hz12 : w5.heap.size ≤ w11.heap.size := hg11.size
      clear k11 hg11
      cases r11 with
      | error x =>
        obtain ⟨c, a⟩ := x
        obtain rfl : .error (c, a) = r := HRR11.out
        obtain rfl : e = .panicked (chn c a) := he
        go_wp2
        exact ⟨rfl, rfl, HG12.out⟩
      | ok x =>
        obtain ⟨c1, q11⟩ := x
        obtain ⟨⟨v, rfl, rfl⟩, h11⟩ := he
        have H11 : Hid (Rdr w11 R P0 q11 (.map (some b))) := h11
        clear h11
        have z131 := (HC12.out 1 _ rfl).c
        have y131 := (HC12.out 1 _ rfl).f
        obtain ⟨WP13, hWP13⟩ : ∃ W, (w11).setCell ⟨b5, 1, none⟩ (.string (tx c1)) = W := ⟨_, rfl⟩
        have HG13 : Hid (w.grownBy WP13 (some R)) := hWP13 ▸ gb_new (HG12.out) (p := ⟨b5, 1, none⟩) h5w _
        have HB13 : Hid (Bx WP13 w.heap.size z6) := hWP13 ▸ (HB12.out).oth h5n _
        have HC13 : Hid (Bx WP13 b5 [.int .i64 3, .string (tx c1), .int .i64 0, .int .i64 0, .slice none 0 0, .slice none 0 0]) := hWP13 ▸ (HC12.out).set (i := 1) (by simp) (.string (tx c1))
        have H13 : Hid (Rdr WP13 R P0 q11 (.map (some b))) := hWP13 ▸ (H11.out).put hR5 hP5 1 _
        have hz13 : w11.heap.size ≤ WP13.heap.size := by rw [← hWP13]; simp [World.setCell]
        have hq14 := HRR11.out
        obtain ⟨r14, hr14⟩ : ∃ x, whrP q11 = x := ⟨_, rfl⟩
        simp only [hr14] at hq14
        have HRR14 : Hid _ := hq14
        have k14 := tests_any H13.out (HX.out.gb HG13.out) r14 hr14
        clear hq14 hr14 HRR11
        go_wp2_with fail
        clear hWP13
        refine k14.mono ?_
        rintro e w14 ⟨he, hg14⟩
        have HG15 : Hid (w.grownBy w14 (some R)) := gb_trans HG13.out hg14
        have HB15 : Hid (Bx w14 w.heap.size z6) := HB13.out.gb hg14 hRl
        have HC15 : Hid (Bx w14 b5 [.int .i64 3, .string (tx c1), .int .i64 0, .int .i64 0, .slice none 0 0, .slice none 0 0]) := HC13.out.gb hg14 hR5
        have hz15 : WP13.heap.size ≤ w14.heap.size := hg14.size
        clear k14 hg14
        cases r14 with
        | error x =>
          obtain ⟨c, a⟩ := x
          obtain rfl : .error (c, a) = r := HRR14.out
          obtain rfl : e = .panicked (chn c a) := he
          go_wp2
          exact ⟨rfl, rfl, HG15.out⟩
        | ok x =>
          obtain ⟨l, q14⟩ := x
          obtain ⟨⟨v, rfl, ht⟩, h14⟩ := he
          have H14 : Hid (Rdr w14 R P0 q14 (.map (some b))) := h14
          clear h14
          obtain ⟨ta, tn, tc, rfl⟩ := ht.one
          have HT : Hid (TsV WP13.heap.size w14 l (.slice ta tn tc)) := ht
          clear ht
          have z164 := (HC15.out 4 _ rfl).c
          have y164 := (HC15.out 4 _ rfl).f
          obtain ⟨WP16, hWP16⟩ : ∃ W, (w14).setCell ⟨b5, 4, none⟩ (.slice ta tn tc) = W := ⟨_, rfl⟩
          have HG16 : Hid (w.grownBy WP16 (some R)) := hWP16 ▸ gb_new (HG15.out) (p := ⟨b5, 4, none⟩) h5w _
          have HB16 : Hid (Bx WP16 w.heap.size z6) := hWP16 ▸ (HB15.out).oth h5n _
          have HC16 : Hid (Bx WP16 b5 [.int .i64 3, .string (tx c1), .int .i64 0, .int .i64 0, .slice ta tn tc, .slice none 0 0]) := hWP16 ▸ (HC15.out).set (i := 4) (by simp) (.slice ta tn tc)
          have H16 : Hid (Rdr WP16 R P0 q14 (.map (some b))) := hWP16 ▸ (H14.out).put hR5 hP5 4 _
          have hz16 : w14.heap.size ≤ WP16.heap.size := by rw [← hWP16]; simp [World.setCell]
          have HE160 : Hid (TsV WP13.heap.size WP16 l (.slice ta tn tc)) := hWP16 ▸ HT.out.kp (Kp.put (by omega) 4 _)
          obtain rfl : .ok (.node 3 c1 0 0 l 0 .none .none, q14) = r := HRR14.out
          have s0 := (HC16.out 0 _ rfl).c
          have z0 := (HB16.out 0 _ rfl).c
          have y0 := (HB16.out 0 _ rfl).f
          have s1 := (HC16.out 1 _ rfl).c
          have z1 := (HB16.out 1 _ rfl).c
          have y1 := (HB16.out 1 _ rfl).f
          have s2 := (HC16.out 2 _ rfl).c
          have z2 := (HB16.out 2 _ rfl).c
          have y2 := (HB16.out 2 _ rfl).f
          have s3 := (HC16.out 3 _ rfl).c
          have z3 := (HB16.out 3 _ rfl).c
          have y3 := (HB16.out 3 _ rfl).f
          have s4 := (HC16.out 4 _ rfl).c
          have z4 := (HB16.out 4 _ rfl).c
          have y4 := (HB16.out 4 _ rfl).f
          have s5 := (HC16.out 5 _ rfl).c
          have z5 := (HB16.out 5 _ rfl).c
          have y5 := (HB16.out 5 _ rfl).f
          obtain ⟨W7, hW7⟩ : ∃ W7, set6 WP16 w.heap.size (.int .i64 3) (.string (tx c1)) (.int .i64 0) (.int .i64 0) (.slice ta tn tc) (.slice none 0 0) = W7 := ⟨_, rfl⟩
          have HB7 : Hid (Bx W7 w.heap.size [.int .i64 3, .string (tx c1), .int .i64 0, .int .i64 0, .slice ta tn tc, .slice none 0 0]) := hW7 ▸ set6_bx HB16.out _ _ _ _ _ _
          have HR7 : Hid (Rdr W7 R P0 q14 (.map (some b))) := hW7 ▸ set6_rd H16.out hRl hPl _ _ _ _ _ _
          have HG7 : Hid (w.grownBy W7 (some R)) := hW7 ▸ set6_gb HG16.out (Nat.le_refl _) _ _ _ _ _ _
          have hz7 : WP16.heap.size ≤ W7.heap.size := hW7 ▸ (set6_kp (lo := w.heap.size + 1) (by omega) _ _ _ _ _ _).1
          have HE70 : Hid (TsV WP13.heap.size W7 l (.slice ta tn tc)) := hW7 ▸ HE160.out.kp (set6_kp (by omega) _ _ _ _ _ _)
          have HQ7 : Hid (QV w.heap.size W7 (.node 3 c1 0 0 l 0 .none .none) [.int .i64 3, .string (tx c1), .int .i64 0, .int .i64 0, .slice ta tn tc, .slice none 0 0]) := ⟨_, _, rfl, HE70.out.mono (by omega), .inl ⟨rfl, rfl⟩⟩
          unfold set6 at hW7
          go_wp2
          have x0 := (HB7.out 0 _ rfl).c
          have x1 := (HB7.out 1 _ rfl).c
          have x2 := (HB7.out 2 _ rfl).c
          have x3 := (HB7.out 3 _ rfl).c
          have x4 := (HB7.out 4 _ rfl).c
          have x5 := (HB7.out 5 _ rfl).c
          exact bodyPost_ret (v := .agg #[.int .i64 3, .string (tx c1), .int .i64 0, .int .i64 0, .slice ta tn tc, .slice none 0 0]) (by simp [results, Tryz.results103, go_sem, x0, x1, x2, x3, x4, x5]) rfl ⟨⟨⟨_, rfl, _, rfl, HQ7.out⟩, HR7.out⟩, HG7.out⟩
    · obtain rfl : kd = 2 := HKD.out.symm
      have hq := HRR0.out
      rw [if_neg (show ¬ (wSum : By) = wCount by decide), if_neg (show ¬ (wSum : By) = wBins by decide), if_pos rfl] at hq
      have HRR : Hid _ := hq
      clear hq HRR0 HKD
      have hq11 := HRR.out
      obtain ⟨r11, hr11⟩ : ∃ x, nmP ps.tail = x := ⟨_, rfl⟩
      simp only [hr11] at hq11
      have HRR11 : Hid _ := hq11
      have k11 := rname_any H5.out (HX.out.gb HG5.out) r11 hr11
      clear hq11 hr11 HRR
      go_wp2_with fail
      refine k11.mono ?_
      rintro e w11 ⟨he, hg11⟩
      have HG12 : Hid (w.grownBy w11 (some R)) := gb_trans HG5.out hg11
      have HB12 : Hid (Bx w11 w.heap.size z6) := HB5.out.gb hg11 hRl
      have HC12 : Hid (Bx w11 b5 [.int .i64 2, .string ⟨#[]⟩, .int .i64 0, .int .i64 0, .slice none 0 0, .slice none 0 0]) := HC5.out.gb hg11 hR5
      have hz12 : w5.heap.size ≤ w11.heap.size := hg11.size
      clear k11 hg11
      cases r11 with
      | error x =>
        obtain ⟨c, a⟩ := x
        obtain rfl : .error (c, a) = r := HRR11.out
        obtain rfl : e = .panicked (chn c a) := he
        go_wp2
        exact ⟨rfl, rfl, HG12.out⟩
      | ok x =>
        obtain ⟨c1, q11⟩ := x
        obtain ⟨⟨v, rfl, rfl⟩, h11⟩ := he
        have H11 : Hid (Rdr w11 R P0 q11 (.map (some b))) := h11
        clear h11
        have z131 := (HC12.out 1 _ rfl).c
        have y131 := (HC12.out 1 _ rfl).f
        obtain ⟨WP13, hWP13⟩ : ∃ W, (w11).setCell ⟨b5, 1, none⟩ (.string (tx c1)) = W := ⟨_, rfl⟩
        have HG13 : Hid (w.grownBy WP13 (some R)) := hWP13 ▸ gb_new (HG12.out) (p := ⟨b5, 1, none⟩) h5w _
        have HB13 : Hid (Bx WP13 w.heap.size z6) := hWP13 ▸ (HB12.out).oth h5n _
        have HC13 : Hid (Bx WP13 b5 [.int .i64 2, .string (tx c1), .int .i64 0, .int .i64 0, .slice none 0 0, .slice none 0 0]) := hWP13 ▸ (HC12.out).set (i := 1) (by simp) (.string (tx c1))
        have H13 : Hid (Rdr WP13 R P0 q11 (.map (some b))) := hWP13 ▸ (H11.out).put hR5 hP5 1 _
        have hz13 : w11.heap.size ≤ WP13.heap.size := by rw [← hWP13]; simp [World.setCell]
        by_cases c14 : hd q11 = wIn
        · have k14 := take_yes H13.out wIn (by decide) c14
          have hq14 := HRR11.out
          simp only [tk, if_pos c14] at hq14
          have HRR14 : Hid _ := hq14
          clear hq14 c14 HRR11
          go_wp2_with fail
          clear hWP13
          refine k14.mono ?_
          rintro e w14 ⟨rfl, h14, hg14⟩
          have HG15 : Hid (w.grownBy w14 (some R)) := gb_trans HG13.out hg14
          have HB15 : Hid (Bx w14 w.heap.size z6) := HB13.out.gb hg14 hRl
          have HC15 : Hid (Bx w14 b5 [.int .i64 2, .string (tx c1), .int .i64 0, .int .i64 0, .slice none 0 0, .slice none 0 0]) := HC13.out.gb hg14 hR5
          have hz15 : WP13.heap.size ≤ w14.heap.size := hg14.size
          have H14 : Hid (Rdr w14 R P0 q11.tail (.map (some b))) := h14
          clear k14 hg14 h14
          have hq16 := HRR14.out
          obtain ⟨r16, hr16⟩ : ∃ x, spnP q11.tail = x := ⟨_, rfl⟩
          simp only [hr16] at hq16
          have HRR16 : Hid _ := hq16
          have k16 := span_any H14.out (HX.out.gb HG15.out) r16 hr16
          clear hq16 hr16 HRR14
          go_wp2_with fail
          refine k16.mono ?_
          rintro e w16 ⟨he, hg16⟩
          have HG17 : Hid (w.grownBy w16 (some R)) := gb_trans HG15.out hg16
          have HB17 : Hid (Bx w16 w.heap.size z6) := HB15.out.gb hg16 hRl
          have HC17 : Hid (Bx w16 b5 [.int .i64 2, .string (tx c1), .int .i64 0, .int .i64 0, .slice none 0 0, .slice none 0 0]) := HC15.out.gb hg16 hR5
          have hz17 : w14.heap.size ≤ w16.heap.size := hg16.size
          clear k16 hg16
          cases r16 with
          | error x =>
            obtain ⟨c, a⟩ := x
            obtain rfl : .error (c, a) = r := HRR16.out
            obtain rfl : e = .panicked (chn c a) := he
            go_wp2
            exact ⟨rfl, rfl, HG17.out⟩
          | ok x =>
            obtain ⟨⟨lo, hi⟩, q16⟩ := x
            obtain ⟨⟨v, rfl, rfl⟩, h16⟩ := he
            have H16 : Hid (Rdr w16 R P0 q16 (.map (some b))) := h16
            clear h16
            have z182 := (HC17.out 2 _ rfl).c
            have y182 := (HC17.out 2 _ rfl).f
            have z183 := (HC17.out 3 _ rfl).c
            have y183 := (HC17.out 3 _ rfl).f
            obtain ⟨WP18, hWP18⟩ : ∃ W, ((w16).setCell ⟨b5, 2, none⟩ (.int .i64 lo)).setCell ⟨b5, 3, none⟩ (.int .i64 hi) = W := ⟨_, rfl⟩
            have HG18 : Hid (w.grownBy WP18 (some R)) := hWP18 ▸ gb_new (gb_new (HG17.out) (p := ⟨b5, 2, none⟩) h5w _) (p := ⟨b5, 3, none⟩) h5w _
            have HB18 : Hid (Bx WP18 w.heap.size z6) := hWP18 ▸ ((HB17.out).oth h5n _).oth h5n _
            have HC18 : Hid (Bx WP18 b5 [.int .i64 2, .string (tx c1), .int .i64 lo, .int .i64 hi, .slice none 0 0, .slice none 0 0]) := hWP18 ▸ ((HC17.out).set (i := 2) (by simp) (.int .i64 lo)).set (i := 3) (by simp) (.int .i64 hi)
            have H18 : Hid (Rdr WP18 R P0 q16 (.map (some b))) := hWP18 ▸ ((H16.out).put hR5 hP5 2 _).put hR5 hP5 3 _
            have hz18 : w16.heap.size ≤ WP18.heap.size := by rw [← hWP18]; simp [World.setCell]
            have hq19 := HRR16.out
            obtain ⟨r19, hr19⟩ : ∃ x, whrP q16 = x := ⟨_, rfl⟩
            simp only [hr19] at hq19
            have HRR19 : Hid _ := hq19
            have k19 := tests_any H18.out (HX.out.gb HG18.out) r19 hr19
            clear hq19 hr19 HRR16
            go_wp2_with fail
            clear hWP18
            refine k19.mono ?_
            rintro e w19 ⟨he, hg19⟩
            have HG20 : Hid (w.grownBy w19 (some R)) := gb_trans HG18.out hg19
            have HB20 : Hid (Bx w19 w.heap.size z6) := HB18.out.gb hg19 hRl
            have HC20 : Hid (Bx w19 b5 [.int .i64 2, .string (tx c1), .int .i64 lo, .int .i64 hi, .slice none 0 0, .slice none 0 0]) := HC18.out.gb hg19 hR5
            have hz20 : WP18.heap.size ≤ w19.heap.size := hg19.size
            clear k19 hg19
            cases r19 with
            | error x =>
              obtain ⟨c, a⟩ := x
              obtain rfl : .error (c, a) = r := HRR19.out
              obtain rfl : e = .panicked (chn c a) := he
              go_wp2
              exact ⟨rfl, rfl, HG20.out⟩
            | ok x =>
              obtain ⟨l, q19⟩ := x
              obtain ⟨⟨v, rfl, ht⟩, h19⟩ := he
              have H19 : Hid (Rdr w19 R P0 q19 (.map (some b))) := h19
              clear h19
              obtain ⟨ta, tn, tc, rfl⟩ := ht.one
              have HT : Hid (TsV WP18.heap.size w19 l (.slice ta tn tc)) := ht
              clear ht
              have z214 := (HC20.out 4 _ rfl).c
              have y214 := (HC20.out 4 _ rfl).f
              obtain ⟨WP21, hWP21⟩ : ∃ W, (w19).setCell ⟨b5, 4, none⟩ (.slice ta tn tc) = W := ⟨_, rfl⟩
              have HG21 : Hid (w.grownBy WP21 (some R)) := hWP21 ▸ gb_new (HG20.out) (p := ⟨b5, 4, none⟩) h5w _
              have HB21 : Hid (Bx WP21 w.heap.size z6) := hWP21 ▸ (HB20.out).oth h5n _
              have HC21 : Hid (Bx WP21 b5 [.int .i64 2, .string (tx c1), .int .i64 lo, .int .i64 hi, .slice ta tn tc, .slice none 0 0]) := hWP21 ▸ (HC20.out).set (i := 4) (by simp) (.slice ta tn tc)
              have H21 : Hid (Rdr WP21 R P0 q19 (.map (some b))) := hWP21 ▸ (H19.out).put hR5 hP5 4 _
              have hz21 : w19.heap.size ≤ WP21.heap.size := by rw [← hWP21]; simp [World.setCell]
              have HE210 : Hid (TsV WP18.heap.size WP21 l (.slice ta tn tc)) := hWP21 ▸ HT.out.kp (Kp.put (by omega) 4 _)
              obtain rfl : .ok (.node 2 c1 lo hi l 0 .none .none, q19) = r := HRR19.out
              have s0 := (HC21.out 0 _ rfl).c
              have z0 := (HB21.out 0 _ rfl).c
              have y0 := (HB21.out 0 _ rfl).f
              have s1 := (HC21.out 1 _ rfl).c
              have z1 := (HB21.out 1 _ rfl).c
              have y1 := (HB21.out 1 _ rfl).f
              have s2 := (HC21.out 2 _ rfl).c
              have z2 := (HB21.out 2 _ rfl).c
              have y2 := (HB21.out 2 _ rfl).f
              have s3 := (HC21.out 3 _ rfl).c
              have z3 := (HB21.out 3 _ rfl).c
              have y3 := (HB21.out 3 _ rfl).f
              have s4 := (HC21.out 4 _ rfl).c
              have z4 := (HB21.out 4 _ rfl).c
              have y4 := (HB21.out 4 _ rfl).f
              have s5 := (HC21.out 5 _ rfl).c
              have z5 := (HB21.out 5 _ rfl).c
              have y5 := (HB21.out 5 _ rfl).f
              obtain ⟨W7, hW7⟩ : ∃ W7, set6 WP21 w.heap.size (.int .i64 2) (.string (tx c1)) (.int .i64 lo) (.int .i64 hi) (.slice ta tn tc) (.slice none 0 0) = W7 := ⟨_, rfl⟩
              have HB7 : Hid (Bx W7 w.heap.size [.int .i64 2, .string (tx c1), .int .i64 lo, .int .i64 hi, .slice ta tn tc, .slice none 0 0]) := hW7 ▸ set6_bx HB21.out _ _ _ _ _ _
              have HR7 : Hid (Rdr W7 R P0 q19 (.map (some b))) := hW7 ▸ set6_rd H21.out hRl hPl _ _ _ _ _ _
              have HG7 : Hid (w.grownBy W7 (some R)) := hW7 ▸ set6_gb HG21.out (Nat.le_refl _) _ _ _ _ _ _
              have hz7 : WP21.heap.size ≤ W7.heap.size := hW7 ▸ (set6_kp (lo := w.heap.size + 1) (by omega) _ _ _ _ _ _).1
              have HE70 : Hid (TsV WP18.heap.size W7 l (.slice ta tn tc)) := hW7 ▸ HE210.out.kp (set6_kp (by omega) _ _ _ _ _ _)
              have HQ7 : Hid (QV w.heap.size W7 (.node 2 c1 lo hi l 0 .none .none) [.int .i64 2, .string (tx c1), .int .i64 lo, .int .i64 hi, .slice ta tn tc, .slice none 0 0]) := ⟨_, _, rfl, HE70.out.mono (by omega), .inl ⟨rfl, rfl⟩⟩
              unfold set6 at hW7
              go_wp2
              have x0 := (HB7.out 0 _ rfl).c
              have x1 := (HB7.out 1 _ rfl).c
              have x2 := (HB7.out 2 _ rfl).c
              have x3 := (HB7.out 3 _ rfl).c
              have x4 := (HB7.out 4 _ rfl).c
              have x5 := (HB7.out 5 _ rfl).c
              exact bodyPost_ret (v := .agg #[.int .i64 2, .string (tx c1), .int .i64 lo, .int .i64 hi, .slice ta tn tc, .slice none 0 0]) (by simp [results, Tryz.results103, go_sem, x0, x1, x2, x3, x4, x5]) rfl ⟨⟨⟨_, rfl, _, rfl, HQ7.out⟩, HR7.out⟩, HG7.out⟩
        · have k14 := take_no H13.out wIn c14
          have hq14 := HRR11.out
          simp only [tk, if_neg c14] at hq14
          obtain rfl : .error (2, hat q11) = r := hq14
          go_wp2_with fail
          refine k14.mono ?_
          rintro e wz ⟨rfl, rfl⟩
          go_wp2
          exact ⟨rfl, rfl, HG13.out⟩
    · obtain rfl : kd = 8 := HKD.out.symm
      have hq := HRR0.out
      rw [if_neg (show ¬ (wTotal : By) = wCount by decide), if_neg (show ¬ (wTotal : By) = wBins by decide), if_neg (show ¬ (wTotal : By) = wSum by decide), if_pos rfl] at hq
      have HRR : Hid _ := hq
      clear hq HRR0 HKD
      have hq11 := HRR.out
      obtain ⟨r11, hr11⟩ : ∃ x, brkP q ps.tail = x := ⟨_, rfl⟩
      simp only [hr11] at hq11
      have HRR11 : Hid _ := hq11
      have k11 := hbk _ R b P0 _ r11 H5.out (HX.out.gb HG5.out) hr11
      clear hq11 hr11 HRR
      go_wp2_with fail
      refine k11.mono ?_
      rintro e w11 ⟨he, hg11⟩
      have HG12 : Hid (w.grownBy w11 (some R)) := gb_trans HG5.out hg11
      have HB12 : Hid (Bx w11 w.heap.size z6) := HB5.out.gb hg11 hRl
      have HC12 : Hid (Bx w11 b5 [.int .i64 8, .string ⟨#[]⟩, .int .i64 0, .int .i64 0, .slice none 0 0, .slice none 0 0]) := HC5.out.gb hg11 hR5
      have hz12 : w5.heap.size ≤ w11.heap.size := hg11.size
      clear k11 hg11
      cases r11 with
      | error x =>
        obtain ⟨c, a⟩ := x
        obtain rfl : .error (c, a) = r := HRR11.out
        obtain rfl : e = .panicked (chn c a) := he
        go_wp2
        exact ⟨rfl, rfl, HG12.out⟩
      | ok x =>
        obtain ⟨a1, q11⟩ := x
        obtain ⟨⟨v, rfl, cs, rfl, hqv⟩, h11⟩ := he
        have H11 : Hid (Rdr w11 R P0 q11 (.map (some b))) := h11
        clear h11
        obtain ⟨xk, xc, xl, xh, xa4, xn4, xc4, xa5, xn5, xc5, rfl⟩ := hqv.six
        have HQV : Hid (QV w5.heap.size w11 a1 [.int .i64 xk, .string (tx xc), .int .i64 xl, .int .i64 xh, .slice xa4 xn4 xc4, .slice xa5 xn5 xc5]) := hqv
        clear hqv
        obtain ⟨WA13, hWA13⟩ : ∃ W, w11.alloc (.cells #[.int .i64 xk, .string (tx xc), .int .i64 xl, .int .i64 xh, .slice xa4 xn4 xc4, .slice xa5 xn5 xc5] 25) = W := ⟨_, rfl⟩
        have hb13 : Below w11.heap.size w11 WA13 := hWA13 ▸ ba _ _
        have HG13 : Hid (w.grownBy WA13 (some R)) := gb_trans HG12.out (gb_below hb13)
        have HB13 : Hid (Bx WA13 w.heap.size z6) := HB12.out.at hb13
        have HC13 : Hid (Bx WA13 b5 [.int .i64 8, .string ⟨#[]⟩, .int .i64 0, .int .i64 0, .slice none 0 0, .slice none 0 0]) := HC12.out.at hb13
        have H13 : Hid (Rdr WA13 R P0 q11 (.map (some b))) := H11.out.at hb13
        have hz13 : w11.heap.size < WA13.heap.size := by rw [← hWA13]; simp
        have HK : Hid (Bx WA13 w11.heap.size [.int .i64 xk, .string (tx xc), .int .i64 xl, .int .i64 xh, .slice xa4 xn4 xc4, .slice xa5 xn5 xc5]) := hWA13 ▸ Bx.new w11 [.int .i64 xk, .string (tx xc), .int .i64 xl, .int .i64 xh, .slice xa4 xn4 xc4, .slice xa5 xn5 xc5] 25 rfl
        have HE130 : Hid (QV w5.heap.size WA13 a1 [.int .i64 xk, .string (tx xc), .int .i64 xl, .int .i64 xh, .slice xa4 xn4 xc4, .slice xa5 xn5 xc5]) := QV.kp (Kp.bl hb13) _ HQV.out
        have z155 := (HC13.out 5 _ rfl).c
        have y155 := (HC13.out 5 _ rfl).f
        obtain ⟨WP15, hWP15⟩ : ∃ W, (WA13).setCell ⟨b5, 5, none⟩ (.slice (some ⟨w11.heap.size, 0, none⟩) 1 1) = W := ⟨_, rfl⟩
        have HG15 : Hid (w.grownBy WP15 (some R)) := hWP15 ▸ gb_new (HG13.out) (p := ⟨b5, 5, none⟩) h5w _
        have HB15 : Hid (Bx WP15 w.heap.size z6) := hWP15 ▸ (HB13.out).oth h5n _
        have HC15 : Hid (Bx WP15 b5 [.int .i64 8, .string ⟨#[]⟩, .int .i64 0, .int .i64 0, .slice none 0 0, .slice (some ⟨w11.heap.size, 0, none⟩) 1 1]) := hWP15 ▸ (HC13.out).set (i := 5) (by simp) (.slice (some ⟨w11.heap.size, 0, none⟩) 1 1)
        have H15 : Hid (Rdr WP15 R P0 q11 (.map (some b))) := hWP15 ▸ (H13.out).put hR5 hP5 5 _
        have hz15 : WA13.heap.size ≤ WP15.heap.size := by rw [← hWP15]; simp [World.setCell]
        have HE150 : Hid (QV w5.heap.size WP15 a1 [.int .i64 xk, .string (tx xc), .int .i64 xl, .int .i64 xh, .slice xa4 xn4 xc4, .slice xa5 xn5 xc5]) := hWP15 ▸ QV.kp (Kp.put (by omega) 5 _) _ HE130.out
        have HK2 : Hid (∀ (j : Nat) u, [.int .i64 xk, .string (tx xc), .int .i64 xl, .int .i64 xh, .slice xa4 xn4 xc4, .slice xa5 xn5 xc5][j]? = some u → WP15.cell? ⟨w11.heap.size, j, none⟩ = some u) := fun j u hu => (Kp.cell (lo := w11.heap.size) (hWP15 ▸ Kp.put (by omega) 5 _) (Nat.le_refl _) (by omega)).trans (HK.out j u hu).c
        clear HK
        obtain rfl : .ok (.node 8 [] 0 0 [] 1 a1 .none, q11) = r := HRR11.out
        have s0 := (HC15.out 0 _ rfl).c
        have z0 := (HB15.out 0 _ rfl).c
        have y0 := (HB15.out 0 _ rfl).f
        have s1 := (HC15.out 1 _ rfl).c
        have z1 := (HB15.out 1 _ rfl).c
        have y1 := (HB15.out 1 _ rfl).f
        have s2 := (HC15.out 2 _ rfl).c
        have z2 := (HB15.out 2 _ rfl).c
        have y2 := (HB15.out 2 _ rfl).f
        have s3 := (HC15.out 3 _ rfl).c
        have z3 := (HB15.out 3 _ rfl).c
        have y3 := (HB15.out 3 _ rfl).f
        have s4 := (HC15.out 4 _ rfl).c
        have z4 := (HB15.out 4 _ rfl).c
        have y4 := (HB15.out 4 _ rfl).f
        have s5 := (HC15.out 5 _ rfl).c
        have z5 := (HB15.out 5 _ rfl).c
        have y5 := (HB15.out 5 _ rfl).f
        obtain ⟨W7, hW7⟩ : ∃ W7, set6 WP15 w.heap.size (.int .i64 8) (.string ⟨#[]⟩) (.int .i64 0) (.int .i64 0) (.slice none 0 0) (.slice (some ⟨w11.heap.size, 0, none⟩) 1 1) = W7 := ⟨_, rfl⟩
        have HB7 : Hid (Bx W7 w.heap.size [.int .i64 8, .string ⟨#[]⟩, .int .i64 0, .int .i64 0, .slice none 0 0, .slice (some ⟨w11.heap.size, 0, none⟩) 1 1]) := hW7 ▸ set6_bx HB15.out _ _ _ _ _ _
        have HR7 : Hid (Rdr W7 R P0 q11 (.map (some b))) := hW7 ▸ set6_rd H15.out hRl hPl _ _ _ _ _ _
        have HG7 : Hid (w.grownBy W7 (some R)) := hW7 ▸ set6_gb HG15.out (Nat.le_refl _) _ _ _ _ _ _
        have hz7 : WP15.heap.size ≤ W7.heap.size := hW7 ▸ (set6_kp (lo := w.heap.size + 1) (by omega) _ _ _ _ _ _).1
        have HE70 : Hid (QV w5.heap.size W7 a1 [.int .i64 xk, .string (tx xc), .int .i64 xl, .int .i64 xh, .slice xa4 xn4 xc4, .slice xa5 xn5 xc5]) := hW7 ▸ QV.kp (set6_kp (by omega) _ _ _ _ _ _) _ HE150.out
        have HQ7 : Hid (QV w.heap.size W7 (.node 8 [] 0 0 [] 1 a1 .none) [.int .i64 8, .string ⟨#[]⟩, .int .i64 0, .int .i64 0, .slice none 0 0, .slice (some ⟨w11.heap.size, 0, none⟩) 1 1]) := ⟨_, _, rfl, .inl ⟨rfl, rfl⟩, .inr (.inl ⟨rfl, w11.heap.size, _, rfl, by omega, by omega, QV.mono (by omega) _ HE70.out, fun j u hu => (Kp.cell (lo := w11.heap.size) (hW7 ▸ set6_kp (by omega) _ _ _ _ _ _) (Nat.le_refl _) (by omega)).trans (HK2.out j u hu)⟩)⟩
        unfold set6 at hW7
        go_wp2
        have x0 := (HB7.out 0 _ rfl).c
        have x1 := (HB7.out 1 _ rfl).c
        have x2 := (HB7.out 2 _ rfl).c
        have x3 := (HB7.out 3 _ rfl).c
        have x4 := (HB7.out 4 _ rfl).c
        have x5 := (HB7.out 5 _ rfl).c
        exact bodyPost_ret (v := .agg #[.int .i64 8, .string ⟨#[]⟩, .int .i64 0, .int .i64 0, .slice none 0 0, .slice (some ⟨w11.heap.size, 0, none⟩) 1 1]) (by simp [results, Tryz.results103, go_sem, x0, x1, x2, x3, x4, x5]) rfl ⟨⟨⟨_, rfl, _, rfl, HQ7.out⟩, HR7.out⟩, HG7.out⟩
    · obtain rfl : kd = 10 := HKD.out.symm
      have hq := HRR0.out
      rw [if_neg (show ¬ (wClamp : By) = wCount by decide), if_neg (show ¬ (wClamp : By) = wBins by decide), if_neg (show ¬ (wClamp : By) = wSum by decide), if_neg (show ¬ (wClamp : By) = wTotal by decide), if_pos rfl] at hq
      have HRR : Hid _ := hq
      clear hq HRR0 HKD
      have hq11 := HRR.out
      obtain ⟨r11, hr11⟩ : ∃ x, spnP ps.tail = x := ⟨_, rfl⟩
      simp only [hr11] at hq11
      have HRR11 : Hid _ := hq11
      have k11 := span_any H5.out (HX.out.gb HG5.out) r11 hr11
      clear hq11 hr11 HRR
      go_wp2_with fail
      refine k11.mono ?_
      rintro e w11 ⟨he, hg11⟩
      have HG12 : Hid (w.grownBy w11 (some R)) := gb_trans HG5.out hg11
      have HB12 : Hid (Bx w11 w.heap.size z6) := HB5.out.gb hg11 hRl
      have HC12 : Hid (Bx w11 b5 [.int .i64 10, .string ⟨#[]⟩, .int .i64 0, .int .i64 0, .slice none 0 0, .slice none 0 0]) := HC5.out.gb hg11 hR5
      have hz12 : w5.heap.size ≤ w11.heap.size := hg11.size
      clear k11 hg11
      cases r11 with
      | error x =>
        obtain ⟨c, a⟩ := x
        obtain rfl : .error (c, a) = r := HRR11.out
        obtain rfl : e = .panicked (chn c a) := he
        go_wp2
        exact ⟨rfl, rfl, HG12.out⟩
      | ok x =>
        obtain ⟨⟨lo, hi⟩, q11⟩ := x
        obtain ⟨⟨v, rfl, rfl⟩, h11⟩ := he
        have H11 : Hid (Rdr w11 R P0 q11 (.map (some b))) := h11
        clear h11
        have z132 := (HC12.out 2 _ rfl).c
        have y132 := (HC12.out 2 _ rfl).f
        have z133 := (HC12.out 3 _ rfl).c
        have y133 := (HC12.out 3 _ rfl).f
        obtain ⟨WP13, hWP13⟩ : ∃ W, ((w11).setCell ⟨b5, 2, none⟩ (.int .i64 lo)).setCell ⟨b5, 3, none⟩ (.int .i64 hi) = W := ⟨_, rfl⟩
        have HG13 : Hid (w.grownBy WP13 (some R)) := hWP13 ▸ gb_new (gb_new (HG12.out) (p := ⟨b5, 2, none⟩) h5w _) (p := ⟨b5, 3, none⟩) h5w _
        have HB13 : Hid (Bx WP13 w.heap.size z6) := hWP13 ▸ ((HB12.out).oth h5n _).oth h5n _
        have HC13 : Hid (Bx WP13 b5 [.int .i64 10, .string ⟨#[]⟩, .int .i64 lo, .int .i64 hi, .slice none 0 0, .slice none 0 0]) := hWP13 ▸ ((HC12.out).set (i := 2) (by simp) (.int .i64 lo)).set (i := 3) (by simp) (.int .i64 hi)
        have H13 : Hid (Rdr WP13 R P0 q11 (.map (some b))) := hWP13 ▸ ((H11.out).put hR5 hP5 2 _).put hR5 hP5 3 _
        have hz13 : w11.heap.size ≤ WP13.heap.size := by rw [← hWP13]; simp [World.setCell]
        have hq14 := HRR11.out
        obtain ⟨r14, hr14⟩ : ∃ x, brkP q q11 = x := ⟨_, rfl⟩
        simp only [hr14] at hq14
        have HRR14 : Hid _ := hq14
        have k14 := hbk _ R b P0 _ r14 H13.out (HX.out.gb HG13.out) hr14
        clear hq14 hr14 HRR11
        go_wp2_with fail
        clear hWP13
        refine k14.mono ?_
        rintro e w14 ⟨he, hg14⟩
        have HG15 : Hid (w.grownBy w14 (some R)) := gb_trans HG13.out hg14
        have HB15 : Hid (Bx w14 w.heap.size z6) := HB13.out.gb hg14 hRl
        have HC15 : Hid (Bx w14 b5 [.int .i64 10, .string ⟨#[]⟩, .int .i64 lo, .int .i64 hi, .slice none 0 0, .slice none 0 0]) := HC13.out.gb hg14 hR5
        have hz15 : WP13.heap.size ≤ w14.heap.size := hg14.size
        clear k14 hg14
        cases r14 with
        | error x =>
          obtain ⟨c, a⟩ := x
          obtain rfl : .error (c, a) = r := HRR14.out
          obtain rfl : e = .panicked (chn c a) := he
          go_wp2
          exact ⟨rfl, rfl, HG15.out⟩
        | ok x =>
          obtain ⟨a1, q14⟩ := x
          obtain ⟨⟨v, rfl, cs, rfl, hqv⟩, h14⟩ := he
          have H14 : Hid (Rdr w14 R P0 q14 (.map (some b))) := h14
          clear h14
          obtain ⟨xk, xc, xl, xh, xa4, xn4, xc4, xa5, xn5, xc5, rfl⟩ := hqv.six
          have HQV : Hid (QV WP13.heap.size w14 a1 [.int .i64 xk, .string (tx xc), .int .i64 xl, .int .i64 xh, .slice xa4 xn4 xc4, .slice xa5 xn5 xc5]) := hqv
          clear hqv
          obtain ⟨WA16, hWA16⟩ : ∃ W, w14.alloc (.cells #[.int .i64 xk, .string (tx xc), .int .i64 xl, .int .i64 xh, .slice xa4 xn4 xc4, .slice xa5 xn5 xc5] 25) = W := ⟨_, rfl⟩
          have hb16 : Below w14.heap.size w14 WA16 := hWA16 ▸ ba _ _
          have HG16 : Hid (w.grownBy WA16 (some R)) := gb_trans HG15.out (gb_below hb16)
          have HB16 : Hid (Bx WA16 w.heap.size z6) := HB15.out.at hb16
          have HC16 : Hid (Bx WA16 b5 [.int .i64 10, .string ⟨#[]⟩, .int .i64 lo, .int .i64 hi, .slice none 0 0, .slice none 0 0]) := HC15.out.at hb16
          have H16 : Hid (Rdr WA16 R P0 q14 (.map (some b))) := H14.out.at hb16
          have hz16 : w14.heap.size < WA16.heap.size := by rw [← hWA16]; simp
          have HK : Hid (Bx WA16 w14.heap.size [.int .i64 xk, .string (tx xc), .int .i64 xl, .int .i64 xh, .slice xa4 xn4 xc4, .slice xa5 xn5 xc5]) := hWA16 ▸ Bx.new w14 [.int .i64 xk, .string (tx xc), .int .i64 xl, .int .i64 xh, .slice xa4 xn4 xc4, .slice xa5 xn5 xc5] 25 rfl
          have HE160 : Hid (QV WP13.heap.size WA16 a1 [.int .i64 xk, .string (tx xc), .int .i64 xl, .int .i64 xh, .slice xa4 xn4 xc4, .slice xa5 xn5 xc5]) := QV.kp (Kp.bl hb16) _ HQV.out
          have z185 := (HC16.out 5 _ rfl).c
          have y185 := (HC16.out 5 _ rfl).f
          obtain ⟨WP18, hWP18⟩ : ∃ W, (WA16).setCell ⟨b5, 5, none⟩ (.slice (some ⟨w14.heap.size, 0, none⟩) 1 1) = W := ⟨_, rfl⟩
          have HG18 : Hid (w.grownBy WP18 (some R)) := hWP18 ▸ gb_new (HG16.out) (p := ⟨b5, 5, none⟩) h5w _
          have HB18 : Hid (Bx WP18 w.heap.size z6) := hWP18 ▸ (HB16.out).oth h5n _
          have HC18 : Hid (Bx WP18 b5 [.int .i64 10, .string ⟨#[]⟩, .int .i64 lo, .int .i64 hi, .slice none 0 0, .slice (some ⟨w14.heap.size, 0, none⟩) 1 1]) := hWP18 ▸ (HC16.out).set (i := 5) (by simp) (.slice (some ⟨w14.heap.size, 0, none⟩) 1 1)
          have H18 : Hid (Rdr WP18 R P0 q14 (.map (some b))) := hWP18 ▸ (H16.out).put hR5 hP5 5 _
          have hz18 : WA16.heap.size ≤ WP18.heap.size := by rw [← hWP18]; simp [World.setCell]
          have HE180 : Hid (QV WP13.heap.size WP18 a1 [.int .i64 xk, .string (tx xc), .int .i64 xl, .int .i64 xh, .slice xa4 xn4 xc4, .slice xa5 xn5 xc5]) := hWP18 ▸ QV.kp (Kp.put (by omega) 5 _) _ HE160.out
          have HK2 : Hid (∀ (j : Nat) u, [.int .i64 xk, .string (tx xc), .int .i64 xl, .int .i64 xh, .slice xa4 xn4 xc4, .slice xa5 xn5 xc5][j]? = some u → WP18.cell? ⟨w14.heap.size, j, none⟩ = some u) := fun j u hu => (Kp.cell (lo := w14.heap.size) (hWP18 ▸ Kp.put (by omega) 5 _) (Nat.le_refl _) (by omega)).trans (HK.out j u hu).c
          clear HK
          obtain rfl : .ok (.node 10 [] lo hi [] 1 a1 .none, q14) = r := HRR14.out
          have s0 := (HC18.out 0 _ rfl).c
          have z0 := (HB18.out 0 _ rfl).c
          have y0 := (HB18.out 0 _ rfl).f
          have s1 := (HC18.out 1 _ rfl).c
          have z1 := (HB18.out 1 _ rfl).c
          have y1 := (HB18.out 1 _ rfl).f
          have s2 := (HC18.out 2 _ rfl).c
          have z2 := (HB18.out 2 _ rfl).c
          have y2 := (HB18.out 2 _ rfl).f
          have s3 := (HC18.out 3 _ rfl).c
          have z3 := (HB18.out 3 _ rfl).c
          have y3 := (HB18.out 3 _ rfl).f
          have s4 := (HC18.out 4 _ rfl).c
          have z4 := (HB18.out 4 _ rfl).c
          have y4 := (HB18.out 4 _ rfl).f
          have s5 := (HC18.out 5 _ rfl).c
          have z5 := (HB18.out 5 _ rfl).c
          have y5 := (HB18.out 5 _ rfl).f
          obtain ⟨W7, hW7⟩ : ∃ W7, set6 WP18 w.heap.size (.int .i64 10) (.string ⟨#[]⟩) (.int .i64 lo) (.int .i64 hi) (.slice none 0 0) (.slice (some ⟨w14.heap.size, 0, none⟩) 1 1) = W7 := ⟨_, rfl⟩
          have HB7 : Hid (Bx W7 w.heap.size [.int .i64 10, .string ⟨#[]⟩, .int .i64 lo, .int .i64 hi, .slice none 0 0, .slice (some ⟨w14.heap.size, 0, none⟩) 1 1]) := hW7 ▸ set6_bx HB18.out _ _ _ _ _ _
          have HR7 : Hid (Rdr W7 R P0 q14 (.map (some b))) := hW7 ▸ set6_rd H18.out hRl hPl _ _ _ _ _ _
          have HG7 : Hid (w.grownBy W7 (some R)) := hW7 ▸ set6_gb HG18.out (Nat.le_refl _) _ _ _ _ _ _
          have hz7 : WP18.heap.size ≤ W7.heap.size := hW7 ▸ (set6_kp (lo := w.heap.size + 1) (by omega) _ _ _ _ _ _).1
          have HE70 : Hid (QV WP13.heap.size W7 a1 [.int .i64 xk, .string (tx xc), .int .i64 xl, .int .i64 xh, .slice xa4 xn4 xc4, .slice xa5 xn5 xc5]) := hW7 ▸ QV.kp (set6_kp (by omega) _ _ _ _ _ _) _ HE180.out
          have HQ7 : Hid (QV w.heap.size W7 (.node 10 [] lo hi [] 1 a1 .none) [.int .i64 10, .string ⟨#[]⟩, .int .i64 lo, .int .i64 hi, .slice none 0 0, .slice (some ⟨w14.heap.size, 0, none⟩) 1 1]) := ⟨_, _, rfl, .inl ⟨rfl, rfl⟩, .inr (.inl ⟨rfl, w14.heap.size, _, rfl, by omega, by omega, QV.mono (by omega) _ HE70.out, fun j u hu => (Kp.cell (lo := w14.heap.size) (hW7 ▸ set6_kp (by omega) _ _ _ _ _ _) (Nat.le_refl _) (by omega)).trans (HK2.out j u hu)⟩)⟩
          unfold set6 at hW7
          go_wp2
          have x0 := (HB7.out 0 _ rfl).c
          have x1 := (HB7.out 1 _ rfl).c
          have x2 := (HB7.out 2 _ rfl).c
          have x3 := (HB7.out 3 _ rfl).c
          have x4 := (HB7.out 4 _ rfl).c
          have x5 := (HB7.out 5 _ rfl).c
          exact bodyPost_ret (v := .agg #[.int .i64 10, .string ⟨#[]⟩, .int .i64 lo, .int .i64 hi, .slice none 0 0, .slice (some ⟨w14.heap.size, 0, none⟩) 1 1]) (by simp [results, Tryz.results103, go_sem, x0, x1, x2, x3, x4, x5]) rfl ⟨⟨⟨_, rfl, _, rfl, HQ7.out⟩, HR7.out⟩, HG7.out⟩
    · obtain rfl : kd = 7 := HKD.out.symm
      have hq := HRR0.out
      rw [if_neg (show ¬ (wJoin : By) = wCount by decide), if_neg (show ¬ (wJoin : By) = wBins by decide), if_neg (show ¬ (wJoin : By) = wSum by decide), if_neg (show ¬ (wJoin : By) = wTotal by decide), if_neg (show ¬ (wJoin : By) = wClamp by decide), if_pos rfl] at hq
      have HRR : Hid _ := hq
      clear hq HRR0 HKD
      have hq11 := HRR.out
      obtain ⟨r11, hr11⟩ : ∃ x, bthP q ps.tail = x := ⟨_, rfl⟩
      simp only [hr11] at hq11
      have HRR11 : Hid _ := hq11
      have k11 := hbt _ R b P0 _ r11 H5.out (HX.out.gb HG5.out) hr11
      clear hq11 hr11 HRR
      go_wp2_with fail
      refine k11.mono ?_
      rintro e w11 ⟨he, hg11⟩
      have HG12 : Hid (w.grownBy w11 (some R)) := gb_trans HG5.out hg11
      have HB12 : Hid (Bx w11 w.heap.size z6) := HB5.out.gb hg11 hRl
      have HC12 : Hid (Bx w11 b5 [.int .i64 7, .string ⟨#[]⟩, .int .i64 0, .int .i64 0, .slice none 0 0, .slice none 0 0]) := HC5.out.gb hg11 hR5
      have hz12 : w5.heap.size ≤ w11.heap.size := hg11.size
      clear k11 hg11
      cases r11 with
      | error x =>
        obtain ⟨c, a⟩ := x
        obtain rfl : .error (c, a) = r := HRR11.out
        obtain rfl : e = .panicked (chn c a) := he
        go_wp2
        exact ⟨rfl, rfl, HG12.out⟩
      | ok x =>
        obtain ⟨⟨a1, a2⟩, q11⟩ := x
        obtain ⟨⟨v, rfl, hv⟩, h11⟩ := he
        have H11 : Hid (Rdr w11 R P0 q11 (.map (some b))) := h11
        clear h11
        obtain ⟨g, xs, ys, rfl, hg1, hg2, hg3, hg4, hg5⟩ := hv
        have HV : Hid (VB w5.heap.size w11 (a1, a2) (.slice (some ⟨g, 0, none⟩) 2 2)) := ⟨g, xs, ys, rfl, hg1, hg2, hg3, hg4, hg5⟩
        clear hg1 hg2 hg3 hg4 hg5
        have z135 := (HC12.out 5 _ rfl).c
        have y135 := (HC12.out 5 _ rfl).f
        obtain ⟨WP13, hWP13⟩ : ∃ W, (w11).setCell ⟨b5, 5, none⟩ (.slice (some ⟨g, 0, none⟩) 2 2) = W := ⟨_, rfl⟩
        have HG13 : Hid (w.grownBy WP13 (some R)) := hWP13 ▸ gb_new (HG12.out) (p := ⟨b5, 5, none⟩) h5w _
        have HB13 : Hid (Bx WP13 w.heap.size z6) := hWP13 ▸ (HB12.out).oth h5n _
        have HC13 : Hid (Bx WP13 b5 [.int .i64 7, .string ⟨#[]⟩, .int .i64 0, .int .i64 0, .slice none 0 0, .slice (some ⟨g, 0, none⟩) 2 2]) := hWP13 ▸ (HC12.out).set (i := 5) (by simp) (.slice (some ⟨g, 0, none⟩) 2 2)
        have H13 : Hid (Rdr WP13 R P0 q11 (.map (some b))) := hWP13 ▸ (H11.out).put hR5 hP5 5 _
        have hz13 : w11.heap.size ≤ WP13.heap.size := by rw [← hWP13]; simp [World.setCell]
        have HE130 : Hid (VB w5.heap.size WP13 (a1, a2) (.slice (some ⟨g, 0, none⟩) 2 2)) := hWP13 ▸ VB.kp (Kp.put (by omega) 5 _) HV.out
        obtain rfl : .ok (.node 7 [] 0 0 [] 2 a1 a2, q11) = r := HRR11.out
        have s0 := (HC13.out 0 _ rfl).c
        have z0 := (HB13.out 0 _ rfl).c
        have y0 := (HB13.out 0 _ rfl).f
        have s1 := (HC13.out 1 _ rfl).c
        have z1 := (HB13.out 1 _ rfl).c
        have y1 := (HB13.out 1 _ rfl).f
        have s2 := (HC13.out 2 _ rfl).c
        have z2 := (HB13.out 2 _ rfl).c
        have y2 := (HB13.out 2 _ rfl).f
        have s3 := (HC13.out 3 _ rfl).c
        have z3 := (HB13.out 3 _ rfl).c
        have y3 := (HB13.out 3 _ rfl).f
        have s4 := (HC13.out 4 _ rfl).c
        have z4 := (HB13.out 4 _ rfl).c
        have y4 := (HB13.out 4 _ rfl).f
        have s5 := (HC13.out 5 _ rfl).c
        have z5 := (HB13.out 5 _ rfl).c
        have y5 := (HB13.out 5 _ rfl).f
        obtain ⟨W7, hW7⟩ : ∃ W7, set6 WP13 w.heap.size (.int .i64 7) (.string ⟨#[]⟩) (.int .i64 0) (.int .i64 0) (.slice none 0 0) (.slice (some ⟨g, 0, none⟩) 2 2) = W7 := ⟨_, rfl⟩
        have HB7 : Hid (Bx W7 w.heap.size [.int .i64 7, .string ⟨#[]⟩, .int .i64 0, .int .i64 0, .slice none 0 0, .slice (some ⟨g, 0, none⟩) 2 2]) := hW7 ▸ set6_bx HB13.out _ _ _ _ _ _
        have HR7 : Hid (Rdr W7 R P0 q11 (.map (some b))) := hW7 ▸ set6_rd H13.out hRl hPl _ _ _ _ _ _
        have HG7 : Hid (w.grownBy W7 (some R)) := hW7 ▸ set6_gb HG13.out (Nat.le_refl _) _ _ _ _ _ _
        have hz7 : WP13.heap.size ≤ W7.heap.size := hW7 ▸ (set6_kp (lo := w.heap.size + 1) (by omega) _ _ _ _ _ _).1
        have HE70 : Hid (VB w5.heap.size W7 (a1, a2) (.slice (some ⟨g, 0, none⟩) 2 2)) := hW7 ▸ VB.kp (set6_kp (by omega) _ _ _ _ _ _) HE130.out
        have HQ7 : Hid (QV w.heap.size W7 (.node 7 [] 0 0 [] 2 a1 a2) [.int .i64 7, .string ⟨#[]⟩, .int .i64 0, .int .i64 0, .slice none 0 0, .slice (some ⟨g, 0, none⟩) 2 2]) := by
          obtain ⟨g2, xs2, ys2, e1, e2, e3, e4, e5, e6⟩ := HE70.out.mono (lo' := w.heap.size) (by omega)
          exact ⟨_, _, rfl, .inl ⟨rfl, rfl⟩, .inr (.inr ⟨rfl, g2, xs2, ys2, e1, e2, e3, e4, e5, e6⟩)⟩
        unfold set6 at hW7
        go_wp2
        have x0 := (HB7.out 0 _ rfl).c
        have x1 := (HB7.out 1 _ rfl).c
        have x2 := (HB7.out 2 _ rfl).c
        have x3 := (HB7.out 3 _ rfl).c
        have x4 := (HB7.out 4 _ rfl).c
        have x5 := (HB7.out 5 _ rfl).c
        exact bodyPost_ret (v := .agg #[.int .i64 7, .string ⟨#[]⟩, .int .i64 0, .int .i64 0, .slice none 0 0, .slice (some ⟨g, 0, none⟩) 2 2]) (by simp [results, Tryz.results103, go_sem, x0, x1, x2, x3, x4, x5]) rfl ⟨⟨⟨_, rfl, _, rfl, HQ7.out⟩, HR7.out⟩, HG7.out⟩
end Go.Proofs.YtidfkencjdjkbaaGreatDoor

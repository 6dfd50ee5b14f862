import Derived.Test.YtidfkencjdjkbaaDoorQu42
/-
  LAW SpeechTurns: WHAT IS SAID IS HEARD.
-/
namespace Go.Proofs.YtidfkencjdjkbaaDoor
open Go.RowKit Sp

theorem RdA.ok {t : By} {q a : Qu} {er at' : Int} (h : RdA t q er at') (hr : readT t = .ok a) : q = a ∧ er = 0 ∧ at' = 0 := by rw [RdA, hr] at h; exact h
theorem RdA.cases {t : By} {q : Qu} {er at' : Int} (h : RdA t q er at') : (er = 0 ∧ at' = 0 ∧ readT t = .ok q) ∨ er ≠ 0 := by
  unfold RdA at h
  cases hr : readT t with
  | ok a => rw [hr] at h; obtain ⟨rfl, rfl, rfl⟩ := h; exact .inl ⟨rfl, rfl, rfl⟩
  | error x =>
    obtain ⟨c, x⟩ := x
    rw [hr] at h
    have := read_err hr
    exact .inr (by omega)
/-- what comes behind the first half: the text s -/
theorem mkbx {w1 : World} (a b : List Value) {W2 : World} (hW2 : (w1.alloc (.cells a.toArray 25)).alloc (.cells b.toArray 28) = W2) : Bx W2 w1.heap.size a ∧ Bx W2 (w1.heap.size + 1) b ∧ Below w1.heap.size w1 W2 := by
  subst hW2
  exact ⟨(Bx.new w1 a 25 rfl).at (ba _ _), Bx.new _ b 28 (by simp), bal (ba _ _) _⟩
set_option maxHeartbeats 4000000 in
set_option maxRecDepth 100000 in
theorem speechTurns_walk (q : Qu) (cs : List Value) (s : By) (w : World) (hI : QI w w.heap.size q cs) (hs : s.length ≤ 9223372036854775807) (hG : Glo w) (hpt : PT w.heap.size w) : Calls Tryd.prog 4 #[.agg cs.toArray, .string (tx s)] w fun e w' => e = .returned (.bool true) ∧ Below w.heap.size w w' := by
  have HI : Hid (QI w w.heap.size q cs) := hI
  have HG : Hid (Glo w) := hG
  have HP : Hid (PT w.heap.size w) := hpt
  have h5 : 5 ≤ w.heap.size := hG.sz
  obtain ⟨k0, c0, lo0, hi0, wa0, wn0, wc0, ka0, kn0, kc0, rfl⟩ := hI.six
  obtain ⟨W0, hW0⟩ : ∃ W0, w.alloc (.cells #[.int .i64 k0, .string (tx c0), .int .i64 lo0, .int .i64 hi0, .slice wa0 wn0 wc0, .slice ka0 kn0 kc0] 25) = W0 := ⟨_, rfl⟩
  have hb0 : Below w.heap.size w W0 := hW0 ▸ ba _ _
  have HX0 : Hid (Bx W0 w.heap.size [.int .i64 k0, .string (tx c0), .int .i64 lo0, .int .i64 hi0, .slice wa0 wn0 wc0, .slice ka0 kn0 kc0]) := hW0 ▸ Bx.new w [.int .i64 k0, .string (tx c0), .int .i64 lo0, .int .i64 hi0, .slice wa0 wn0 wc0, .slice ka0 kn0 kc0] 25 rfl
  have HB0 : Hid (Below w.heap.size w W0) := hb0
  have ka := alive_any W0 (HG.out.at hb0)
  clear hI hG hpt hb0
  go_enter Tryd.func4, Tryd.ntmps4
  go_wp2_with fail
  clear hW0
  refine ka.mono ?_
  rintro e w1 ⟨rfl, hb1⟩
  have HB1 : Hid (Below w.heap.size w w1) := bt HB0.out hb1
  have HX1 : Hid (Bx w1 w.heap.size [.int .i64 k0, .string (tx c0), .int .i64 lo0, .int .i64 hi0, .slice wa0 wn0 wc0, .slice ka0 kn0 kc0]) := HX0.out.at hb1
  clear ka hb1 HX0
  have z0 := (HX1.out 0 _ rfl).c
  have z1 := (HX1.out 1 _ rfl).c
  have z2 := (HX1.out 2 _ rfl).c
  have z3 := (HX1.out 3 _ rfl).c
  have z4 := (HX1.out 4 _ rfl).c
  have z5 := (HX1.out 5 _ rfl).c
  obtain ⟨t, er, hp⟩ : ∃ t er, prR q = (t, er) := ⟨_, _, rfl⟩
  have HPR : Hid (prR q = (t, er)) := hp
  have kp := print_any q w1 w.heap.size _ HB1.out.size h5 (QI.keep HB1.out q HI.out) (HG.out.at HB1.out) (HP.out.on HB1.out) t er hp
  clear hp
  go_wp2_with fail
  refine kp.mono ?_
  rintro e w2 ⟨rfl, hb2⟩
  have HB2 : Hid (Below w.heap.size w w2) := bt HB1.out hb2
  have HX2 : Hid (Bx w2 w.heap.size [.int .i64 k0, .string (tx c0), .int .i64 lo0, .int .i64 hi0, .slice wa0 wn0 wc0, .slice ka0 kn0 kc0]) := HX1.out.at hb2
  clear kp hb2 HX1 z0 z1 z2 z3 z4 z5
  have ks : ∀ V, Below w.heap.size w V → Calls Tryd.prog 5 #[.string (tx s)] V _ := fun V hV => read_let s hs V (HG.out.at hV)
  have KS : Hid _ := ks
  clear ks
  by_cases h0 : er = 0
  · subst h0
    obtain ⟨hS, hrt, htl⟩ := prR_ok HI.out HPR.out
    have HS : Hid (Say q) := hS
    have HRT : Hid (readT t = .ok q) := hrt
    have kr := read_let t (by omega) w2 (HG.out.at HB2.out)
    clear hS hrt
    go_wp2_with fail
    refine kr.mono ?_
    rintro e w3 ⟨⟨q1, er1, at1, k1, c1, lo1, hi1, wa1, wn1, wc1, ka1, kn1, kc1, rfl, hrd, hq1⟩, hb3⟩
    obtain ⟨rfl, her1, hat1⟩ := hrd.ok HRT.out
    have d1 : (er1 == 0) = true := by simpa using her1
    have d1n : (er1 != 0) = false := by simpa using her1
    have d2n : (at1 != 0) = false := by simpa using hat1
    have HB3 : Hid (Below w.heap.size w w3) := bt HB2.out hb3
    have HX3 : Hid (Bx w3 w.heap.size [.int .i64 k0, .string (tx c0), .int .i64 lo0, .int .i64 hi0, .slice wa0 wn0 wc0, .slice ka0 kn0 kc0]) := HX2.out.at hb3
    have HQ3 : Hid (QI w3 w3.heap.size q1 [.int .i64 k1, .string (tx c1), .int .i64 lo1, .int .i64 hi1, .slice wa1 wn1 wc1, .slice ka1 kn1 kc1]) := hq1 w3 (Kp.bl (Below.refl _ _))
    clear kr hb3 hq1 hrd her1 hat1 HX2
    obtain ⟨W4, hW4⟩ : ∃ W4, (w3.alloc (.cells #[.int .i64 k1, .string (tx c1), .int .i64 lo1, .int .i64 hi1, .slice wa1 wn1 wc1, .slice ka1 kn1 kc1] 25)).alloc (.cells #[.int .i64 er1, .int .i64 at1] 28) = W4 := ⟨_, rfl⟩
    obtain ⟨xx4, yy4, b4⟩ := mkbx [.int .i64 k1, .string (tx c1), .int .i64 lo1, .int .i64 hi1, .slice wa1 wn1 wc1, .slice ka1 kn1 kc1] [.int .i64 er1, .int .i64 at1] hW4
    have HX4 : Hid (Bx W4 w3.heap.size [.int .i64 k1, .string (tx c1), .int .i64 lo1, .int .i64 hi1, .slice wa1 wn1 wc1, .slice ka1 kn1 kc1]) := xx4
    have HB4 : Hid (Below w.heap.size w W4) := bt HB3.out b4
    have HX0 : Hid (Bx W4 w.heap.size [.int .i64 k0, .string (tx c0), .int .i64 lo0, .int .i64 hi0, .slice wa0 wn0 wc0, .slice ka0 kn0 kc0]) := HX3.out.at b4
    have f0 := (yy4 0 _ rfl).c
    have f1 := (yy4 1 _ rfl).c
    have z0 := (HX4.out 0 _ rfl).c
    have z1 := (HX4.out 1 _ rfl).c
    have z2 := (HX4.out 2 _ rfl).c
    have z3 := (HX4.out 3 _ rfl).c
    have z4 := (HX4.out 4 _ rfl).c
    have z5 := (HX4.out 5 _ rfl).c
    have y0 := (HX0.out 0 _ rfl).c
    have y1 := (HX0.out 1 _ rfl).c
    have y2 := (HX0.out 2 _ rfl).c
    have y3 := (HX0.out 3 _ rfl).c
    have y4 := (HX0.out 4 _ rfl).c
    have y5 := (HX0.out 5 _ rfl).c
    have ksm := same_any q1 W4 W4.heap.size _ _ (Nat.le_refl _) (say_sm q1 HS.out) (QI.mono HB4.out.size q1 (QI.keep HB4.out q1 HI.out)) (QI.mono b4.size q1 (QI.keep b4 q1 HQ3.out))
    clear xx4 yy4 b4 HX3
    go_wp2_with fail
    clear hW4
    refine ksm.mono ?_
    rintro e w5 ⟨rfl, hb5⟩
    have HB5 : Hid (Below w.heap.size w w5) := bt HB4.out hb5
    clear ksm hb5 z0 z1 z2 z3 z4 z5 y0 y1 y2 y3 y4 y5 f0 f1
    have kr := KS.out w5 HB5.out
    go_wp2_with fail
    refine kr.mono ?_
    rintro e w6 ⟨⟨q2, er2, at2, k2, c2, lo2, hi2, wa2, wn2, wc2, ka2, kn2, kc2, rfl, hrd, hq2⟩, hb6⟩
    have HB6 : Hid (Below w.heap.size w w6) := bt HB5.out hb6
    have HQ6 : Hid (QI w6 w6.heap.size q2 [.int .i64 k2, .string (tx c2), .int .i64 lo2, .int .i64 hi2, .slice wa2 wn2 wc2, .slice ka2 kn2 kc2]) := hq2 w6 (Kp.bl (Below.refl _ _))
    have HRD : Hid (RdA s q2 er2 at2) := hrd
    clear kr hb6 hq2 hrd
    obtain ⟨W7, hW7⟩ : ∃ W7, (w6.alloc (.cells #[.int .i64 k2, .string (tx c2), .int .i64 lo2, .int .i64 hi2, .slice wa2 wn2 wc2, .slice ka2 kn2 kc2] 25)).alloc (.cells #[.int .i64 er2, .int .i64 at2] 28) = W7 := ⟨_, rfl⟩
    obtain ⟨x7, y7, b7⟩ := mkbx [.int .i64 k2, .string (tx c2), .int .i64 lo2, .int .i64 hi2, .slice wa2 wn2 wc2, .slice ka2 kn2 kc2] [.int .i64 er2, .int .i64 at2] hW7
    have HX7 : Hid (Bx W7 w6.heap.size [.int .i64 k2, .string (tx c2), .int .i64 lo2, .int .i64 hi2, .slice wa2 wn2 wc2, .slice ka2 kn2 kc2]) := x7
    have HY7 : Hid (Bx W7 (w6.heap.size + 1) [.int .i64 er2, .int .i64 at2]) := y7
    have HB7 : Hid (Below w.heap.size w W7) := bt HB6.out b7
    have HQ7 : Hid (QI W7 W7.heap.size q2 [.int .i64 k2, .string (tx c2), .int .i64 lo2, .int .i64 hi2, .slice wa2 wn2 wc2, .slice ka2 kn2 kc2]) := QI.mono b7.size q2 (QI.keep b7 q2 HQ6.out)
    have f0 := (y7 0 _ rfl).c
    have z0 := (HX7.out 0 _ rfl).c
    have z1 := (HX7.out 1 _ rfl).c
    have z2 := (HX7.out 2 _ rfl).c
    have z3 := (HX7.out 3 _ rfl).c
    have z4 := (HX7.out 4 _ rfl).c
    have z5 := (HX7.out 5 _ rfl).c
    have H67 : Hid (Below w6.heap.size w6 W7) := b7
    clear x7 y7 b7
    rcases HRD.out.cases with ⟨he2, -, hrs⟩ | he2
    · have d2 : (er2 != 0) = false := by simpa using he2
      have HRS : Hid (readT s = .ok q2) := hrs
      have HS2 : Hid (Say q2) := read_say hrs
      obtain ⟨t3, er3, hp3⟩ : ∃ t er, prR q2 = (t, er) := ⟨_, _, rfl⟩
      have HPR3 : Hid (prR q2 = (t3, er3)) := hp3
      have kp := print_any q2 W7 W7.heap.size _ (Nat.le_refl _) (Nat.le_trans h5 HB7.out.size) HQ7.out (HG.out.at HB7.out) ((HP.out.on HB7.out).mono HB7.out.size) t3 er3 hp3
      clear he2 hrs hp3
      go_wp2_with fail
      clear hW7
      refine kp.mono ?_
      rintro e w8 ⟨rfl, hb8⟩
      have HB8 : Hid (Below w.heap.size w w8) := bt HB7.out hb8
      have HX8 : Hid (Bx w8 w6.heap.size [.int .i64 k2, .string (tx c2), .int .i64 lo2, .int .i64 hi2, .slice wa2 wn2 wc2, .slice ka2 kn2 kc2]) := HX7.out.at hb8
      have HY8 : Hid (Bx w8 (w6.heap.size + 1) [.int .i64 er2, .int .i64 at2]) := HY7.out.at hb8
      have HQ8 : Hid (QI w8 w8.heap.size q2 [.int .i64 k2, .string (tx c2), .int .i64 lo2, .int .i64 hi2, .slice wa2 wn2 wc2, .slice ka2 kn2 kc2]) := QI.mono hb8.size q2 (QI.keep hb8 q2 HQ7.out)
      have hz7 : w6.heap.size + 1 < w8.heap.size := (HY8.out 0 _ rfl).lt
      have H68 : Hid (Below w6.heap.size w6 w8) := bt H67.out hb8
      clear kp hb8 HX7 HY7 HQ7 z0 z1 z2 z3 z4 z5 f0
      rcases prR_say HS2.out HPR3.out with rfl | rfl
      · obtain ⟨_, hrt3, htl3⟩ := prR_ok HQ8.out HPR3.out
        have HRT3 : Hid (readT t3 = .ok q2) := hrt3
        have kr := read_let t3 (by omega) w8 (HG.out.at HB8.out)
        clear hrt3
        go_wp2_with fail
        refine kr.mono ?_
        rintro e w9 ⟨⟨q3, er3, at3, k3, c3, lo3, hi3, wa3, wn3, wc3, ka3, kn3, kc3, rfl, hrd, hq3⟩, hb9⟩
        obtain ⟨rfl, her3, hat3⟩ := hrd.ok HRT3.out
        have d3 : (er3 == 0) = true := by simpa using her3
        have HB9 : Hid (Below w.heap.size w w9) := bt HB8.out hb9
        have HX9 : Hid (Bx w9 w6.heap.size [.int .i64 k2, .string (tx c2), .int .i64 lo2, .int .i64 hi2, .slice wa2 wn2 wc2, .slice ka2 kn2 kc2]) := HX8.out.at hb9
        have HY9 : Hid (Bx w9 (w6.heap.size + 1) [.int .i64 er2, .int .i64 at2]) := HY8.out.at hb9
        have HQ9 : Hid (QI w9 w9.heap.size q3 [.int .i64 k2, .string (tx c2), .int .i64 lo2, .int .i64 hi2, .slice wa2 wn2 wc2, .slice ka2 kn2 kc2]) := QI.mono hb9.size q3 (QI.keep hb9 q3 HQ8.out)
        have HR9 : Hid (∀ W, Kp w8.heap.size w9 W → QI W W.heap.size q3 [.int .i64 k3, .string (tx c3), .int .i64 lo3, .int .i64 hi3, .slice wa3 wn3 wc3, .slice ka3 kn3 kc3]) := hq3
        have hz9 := hb9.size
        have H69 : Hid (Below w6.heap.size w6 w9) := bt H68.out hb9
        clear kr hb9 hq3 hrd her3 hat3 HX8 HY8 HQ8
        obtain ⟨Wa, hWa⟩ : ∃ Wa, w9.alloc (.cells #[.int .i64 k3, .string (tx c3), .int .i64 lo3, .int .i64 hi3, .slice wa3 wn3 wc3, .slice ka3 kn3 kc3] 25) = Wa := ⟨_, rfl⟩
        have ba9 : Below w9.heap.size w9 Wa := hWa ▸ ba _ _
        have HXa : Hid (Bx Wa w9.heap.size [.int .i64 k3, .string (tx c3), .int .i64 lo3, .int .i64 hi3, .slice wa3 wn3 wc3, .slice ka3 kn3 kc3]) := hWa ▸ Bx.new w9 [.int .i64 k3, .string (tx c3), .int .i64 lo3, .int .i64 hi3, .slice wa3 wn3 wc3, .slice ka3 kn3 kc3] 25 rfl
        have HYa : Hid (Bx Wa (w6.heap.size + 1) [.int .i64 er2, .int .i64 at2]) := HY9.out.at ba9
        have u0 := (HYa.out 0 _ rfl).c
        have u1 := (HYa.out 1 _ rfl).c
        have v0 := (HYa.out 0 _ rfl).f
        have v1 := (HYa.out 1 _ rfl).f
        obtain ⟨Wb, hWb⟩ : ∃ Wb, (Wa.setCell ⟨w6.heap.size + 1, 0, none⟩ (.int .i64 er3)).setCell ⟨w6.heap.size + 1, 1, none⟩ (.int .i64 at3) = Wb := ⟨_, rfl⟩
        have HYb : Hid (Bx Wb (w6.heap.size + 1) [.int .i64 er3, .int .i64 at3]) := hWb ▸ (HYa.out.set (i := 0) (by simp) _).set (i := 1) (by simp) _
        have HXb : Hid (Bx Wb w9.heap.size [.int .i64 k3, .string (tx c3), .int .i64 lo3, .int .i64 hi3, .slice wa3 wn3 wc3, .slice ka3 kn3 kc3]) := hWb ▸ (HXa.out.oth (by omega) _).oth (by omega) _
        have HXc : Hid (Bx Wb w6.heap.size [.int .i64 k2, .string (tx c2), .int .i64 lo2, .int .i64 hi2, .slice wa2 wn2 wc2, .slice ka2 kn2 kc2]) := hWb ▸ ((HX9.out.at ba9).oth (by omega) _).oth (by omega) _
        have H6b : Hid (Below w6.heap.size w6 Wb) := hWb ▸ bs (bs (bt H69.out ba9) (p := ⟨w6.heap.size + 1, 0, none⟩) (Nat.le_succ _) _) (p := ⟨w6.heap.size + 1, 1, none⟩) (Nat.le_succ _) _
        have hzw := HB6.out.size
        have HBb : Hid (Below w.heap.size w Wb) := hWb ▸ bs (bs (bt HB9.out ba9) (p := ⟨w6.heap.size + 1, 0, none⟩) (by dsimp only; omega) _) (p := ⟨w6.heap.size + 1, 1, none⟩) (by dsimp only; omega) _
        have hk9 : Kp w8.heap.size w9 Wb := hWb ▸ ((Kp.bl ba9).trans (Kp.put (by omega) 0 _)).trans (Kp.put (by omega) 1 _)
        have ksm := same_any q3 Wb Wb.heap.size _ _ (Nat.le_refl _) (say_sm q3 HS2.out) (QI.mono H6b.out.size q3 (QI.keep H6b.out q3 HQ6.out)) (HR9.out Wb hk9)
        have f0 := (HYb.out 0 _ rfl).c
        have z0 := (HXb.out 0 _ rfl).c
        have y0 := (HXc.out 0 _ rfl).c
        have z1 := (HXb.out 1 _ rfl).c
        have y1 := (HXc.out 1 _ rfl).c
        have z2 := (HXb.out 2 _ rfl).c
        have y2 := (HXc.out 2 _ rfl).c
        have z3 := (HXb.out 3 _ rfl).c
        have y3 := (HXc.out 3 _ rfl).c
        have z4 := (HXb.out 4 _ rfl).c
        have y4 := (HXc.out 4 _ rfl).c
        have z5 := (HXb.out 5 _ rfl).c
        have y5 := (HXc.out 5 _ rfl).c
        clear ba9 hk9 HXa HYa HX9 HY9
        go_wp2_with fail
        clear hWa hWb
        refine ksm.mono ?_
        rintro e wc ⟨rfl, hbc⟩
        go_wp2
        go_ret
        exact ⟨rfl, bt HBb.out hbc⟩
      · go_wp2
        go_ret
        exact ⟨rfl, HB8.out⟩
    · have d2 : (er2 != 0) = true := by simpa using he2
      clear he2
      go_wp2
      clear hW7
      go_ret
      exact ⟨rfl, HB7.out⟩
  · have d0 : (er == 0) = false := by simpa using h0
    have kr := KS.out w2 HB2.out
    go_wp2_with fail
    refine kr.mono ?_
    rintro e w6 ⟨⟨q2, er2, at2, k2, c2, lo2, hi2, wa2, wn2, wc2, ka2, kn2, kc2, rfl, hrd, hq2⟩, hb6⟩
    have HB6 : Hid (Below w.heap.size w w6) := bt HB2.out hb6
    have HQ6 : Hid (QI w6 w6.heap.size q2 [.int .i64 k2, .string (tx c2), .int .i64 lo2, .int .i64 hi2, .slice wa2 wn2 wc2, .slice ka2 kn2 kc2]) := hq2 w6 (Kp.bl (Below.refl _ _))
    have HRD : Hid (RdA s q2 er2 at2) := hrd
    clear kr hb6 hq2 hrd
    obtain ⟨W7, hW7⟩ : ∃ W7, (w6.alloc (.cells #[.int .i64 k2, .string (tx c2), .int .i64 lo2, .int .i64 hi2, .slice wa2 wn2 wc2, .slice ka2 kn2 kc2] 25)).alloc (.cells #[.int .i64 er2, .int .i64 at2] 28) = W7 := ⟨_, rfl⟩
    obtain ⟨x7, y7, b7⟩ := mkbx [.int .i64 k2, .string (tx c2), .int .i64 lo2, .int .i64 hi2, .slice wa2 wn2 wc2, .slice ka2 kn2 kc2] [.int .i64 er2, .int .i64 at2] hW7
    have HX7 : Hid (Bx W7 w6.heap.size [.int .i64 k2, .string (tx c2), .int .i64 lo2, .int .i64 hi2, .slice wa2 wn2 wc2, .slice ka2 kn2 kc2]) := x7
    have HY7 : Hid (Bx W7 (w6.heap.size + 1) [.int .i64 er2, .int .i64 at2]) := y7
    have HB7 : Hid (Below w.heap.size w W7) := bt HB6.out b7
    have HQ7 : Hid (QI W7 W7.heap.size q2 [.int .i64 k2, .string (tx c2), .int .i64 lo2, .int .i64 hi2, .slice wa2 wn2 wc2, .slice ka2 kn2 kc2]) := QI.mono b7.size q2 (QI.keep b7 q2 HQ6.out)
    have f0 := (y7 0 _ rfl).c
    have z0 := (HX7.out 0 _ rfl).c
    have z1 := (HX7.out 1 _ rfl).c
    have z2 := (HX7.out 2 _ rfl).c
    have z3 := (HX7.out 3 _ rfl).c
    have z4 := (HX7.out 4 _ rfl).c
    have z5 := (HX7.out 5 _ rfl).c
    have H67 : Hid (Below w6.heap.size w6 W7) := b7
    clear x7 y7 b7
    rcases HRD.out.cases with ⟨he2, -, hrs⟩ | he2
    · have d2 : (er2 != 0) = false := by simpa using he2
      have HRS : Hid (readT s = .ok q2) := hrs
      have HS2 : Hid (Say q2) := read_say hrs
      obtain ⟨t3, er3, hp3⟩ : ∃ t er, prR q2 = (t, er) := ⟨_, _, rfl⟩
      have HPR3 : Hid (prR q2 = (t3, er3)) := hp3
      have kp := print_any q2 W7 W7.heap.size _ (Nat.le_refl _) (Nat.le_trans h5 HB7.out.size) HQ7.out (HG.out.at HB7.out) ((HP.out.on HB7.out).mono HB7.out.size) t3 er3 hp3
      clear he2 hrs hp3
      go_wp2_with fail
      clear hW7
      refine kp.mono ?_
      rintro e w8 ⟨rfl, hb8⟩
      have HB8 : Hid (Below w.heap.size w w8) := bt HB7.out hb8
      have HX8 : Hid (Bx w8 w6.heap.size [.int .i64 k2, .string (tx c2), .int .i64 lo2, .int .i64 hi2, .slice wa2 wn2 wc2, .slice ka2 kn2 kc2]) := HX7.out.at hb8
      have HY8 : Hid (Bx w8 (w6.heap.size + 1) [.int .i64 er2, .int .i64 at2]) := HY7.out.at hb8
      have HQ8 : Hid (QI w8 w8.heap.size q2 [.int .i64 k2, .string (tx c2), .int .i64 lo2, .int .i64 hi2, .slice wa2 wn2 wc2, .slice ka2 kn2 kc2]) := QI.mono hb8.size q2 (QI.keep hb8 q2 HQ7.out)
      have hz7 : w6.heap.size + 1 < w8.heap.size := (HY8.out 0 _ rfl).lt
      have H68 : Hid (Below w6.heap.size w6 w8) := bt H67.out hb8
      clear kp hb8 HX7 HY7 HQ7 z0 z1 z2 z3 z4 z5 f0
      rcases prR_say HS2.out HPR3.out with rfl | rfl
      · obtain ⟨_, hrt3, htl3⟩ := prR_ok HQ8.out HPR3.out
        have HRT3 : Hid (readT t3 = .ok q2) := hrt3
        have kr := read_let t3 (by omega) w8 (HG.out.at HB8.out)
        clear hrt3
        go_wp2_with fail
        refine kr.mono ?_
        rintro e w9 ⟨⟨q3, er3, at3, k3, c3, lo3, hi3, wa3, wn3, wc3, ka3, kn3, kc3, rfl, hrd, hq3⟩, hb9⟩
        obtain ⟨rfl, her3, hat3⟩ := hrd.ok HRT3.out
        have d3 : (er3 == 0) = true := by simpa using her3
        have HB9 : Hid (Below w.heap.size w w9) := bt HB8.out hb9
        have HX9 : Hid (Bx w9 w6.heap.size [.int .i64 k2, .string (tx c2), .int .i64 lo2, .int .i64 hi2, .slice wa2 wn2 wc2, .slice ka2 kn2 kc2]) := HX8.out.at hb9
        have HY9 : Hid (Bx w9 (w6.heap.size + 1) [.int .i64 er2, .int .i64 at2]) := HY8.out.at hb9
        have HQ9 : Hid (QI w9 w9.heap.size q3 [.int .i64 k2, .string (tx c2), .int .i64 lo2, .int .i64 hi2, .slice wa2 wn2 wc2, .slice ka2 kn2 kc2]) := QI.mono hb9.size q3 (QI.keep hb9 q3 HQ8.out)
        have HR9 : Hid (∀ W, Kp w8.heap.size w9 W → QI W W.heap.size q3 [.int .i64 k3, .string (tx c3), .int .i64 lo3, .int .i64 hi3, .slice wa3 wn3 wc3, .slice ka3 kn3 kc3]) := hq3
        have hz9 := hb9.size
        have H69 : Hid (Below w6.heap.size w6 w9) := bt H68.out hb9
        clear kr hb9 hq3 hrd her3 hat3 HX8 HY8 HQ8
        obtain ⟨Wa, hWa⟩ : ∃ Wa, w9.alloc (.cells #[.int .i64 k3, .string (tx c3), .int .i64 lo3, .int .i64 hi3, .slice wa3 wn3 wc3, .slice ka3 kn3 kc3] 25) = Wa := ⟨_, rfl⟩
        have ba9 : Below w9.heap.size w9 Wa := hWa ▸ ba _ _
        have HXa : Hid (Bx Wa w9.heap.size [.int .i64 k3, .string (tx c3), .int .i64 lo3, .int .i64 hi3, .slice wa3 wn3 wc3, .slice ka3 kn3 kc3]) := hWa ▸ Bx.new w9 [.int .i64 k3, .string (tx c3), .int .i64 lo3, .int .i64 hi3, .slice wa3 wn3 wc3, .slice ka3 kn3 kc3] 25 rfl
        have HYa : Hid (Bx Wa (w6.heap.size + 1) [.int .i64 er2, .int .i64 at2]) := HY9.out.at ba9
        have u0 := (HYa.out 0 _ rfl).c
        have u1 := (HYa.out 1 _ rfl).c
        have v0 := (HYa.out 0 _ rfl).f
        have v1 := (HYa.out 1 _ rfl).f
        obtain ⟨Wb, hWb⟩ : ∃ Wb, (Wa.setCell ⟨w6.heap.size + 1, 0, none⟩ (.int .i64 er3)).setCell ⟨w6.heap.size + 1, 1, none⟩ (.int .i64 at3) = Wb := ⟨_, rfl⟩
        have HYb : Hid (Bx Wb (w6.heap.size + 1) [.int .i64 er3, .int .i64 at3]) := hWb ▸ (HYa.out.set (i := 0) (by simp) _).set (i := 1) (by simp) _
        have HXb : Hid (Bx Wb w9.heap.size [.int .i64 k3, .string (tx c3), .int .i64 lo3, .int .i64 hi3, .slice wa3 wn3 wc3, .slice ka3 kn3 kc3]) := hWb ▸ (HXa.out.oth (by omega) _).oth (by omega) _
        have HXc : Hid (Bx Wb w6.heap.size [.int .i64 k2, .string (tx c2), .int .i64 lo2, .int .i64 hi2, .slice wa2 wn2 wc2, .slice ka2 kn2 kc2]) := hWb ▸ ((HX9.out.at ba9).oth (by omega) _).oth (by omega) _
        have H6b : Hid (Below w6.heap.size w6 Wb) := hWb ▸ bs (bs (bt H69.out ba9) (p := ⟨w6.heap.size + 1, 0, none⟩) (Nat.le_succ _) _) (p := ⟨w6.heap.size + 1, 1, none⟩) (Nat.le_succ _) _
        have hzw := HB6.out.size
        have HBb : Hid (Below w.heap.size w Wb) := hWb ▸ bs (bs (bt HB9.out ba9) (p := ⟨w6.heap.size + 1, 0, none⟩) (by dsimp only; omega) _) (p := ⟨w6.heap.size + 1, 1, none⟩) (by dsimp only; omega) _
        have hk9 : Kp w8.heap.size w9 Wb := hWb ▸ ((Kp.bl ba9).trans (Kp.put (by omega) 0 _)).trans (Kp.put (by omega) 1 _)
        have ksm := same_any q3 Wb Wb.heap.size _ _ (Nat.le_refl _) (say_sm q3 HS2.out) (QI.mono H6b.out.size q3 (QI.keep H6b.out q3 HQ6.out)) (HR9.out Wb hk9)
        have f0 := (HYb.out 0 _ rfl).c
        have z0 := (HXb.out 0 _ rfl).c
        have y0 := (HXc.out 0 _ rfl).c
        have z1 := (HXb.out 1 _ rfl).c
        have y1 := (HXc.out 1 _ rfl).c
        have z2 := (HXb.out 2 _ rfl).c
        have y2 := (HXc.out 2 _ rfl).c
        have z3 := (HXb.out 3 _ rfl).c
        have y3 := (HXc.out 3 _ rfl).c
        have z4 := (HXb.out 4 _ rfl).c
        have y4 := (HXc.out 4 _ rfl).c
        have z5 := (HXb.out 5 _ rfl).c
        have y5 := (HXc.out 5 _ rfl).c
        clear ba9 hk9 HXa HYa HX9 HY9
        go_wp2_with fail
        clear hWa hWb
        refine ksm.mono ?_
        rintro e wc ⟨rfl, hbc⟩
        go_wp2
        go_ret
        exact ⟨rfl, bt HBb.out hbc⟩
      · go_wp2
        go_ret
        exact ⟨rfl, HB8.out⟩
    · have d2 : (er2 != 0) = true := by simpa using he2
      clear he2
      go_wp2
      clear hW7
      go_ret
      exact ⟨rfl, HB7.out⟩
end Go.Proofs.YtidfkencjdjkbaaDoor

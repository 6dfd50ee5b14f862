import Derived.Test.YtihgoaceinpkpaaLawOrder
namespace Go.Proofs.Ytihgoaceinpkpaa
open Go.RowKit

set_option maxRecDepth 100000 in
set_option maxHeartbeats 4000000 in
theorem field_walk (a b c d e f : Int) (w : World) :
    Calls Try.prog 5 #[rv a b, rv c d, rv e f] w fun x w' => x = .returned (.bool true) ∧ Below w.heap.size w w' := by
  have X0 : Loc (((w.alloc (.cells #[.int .i64 a, .int .i64 b] 23)).alloc (.cells #[.int .i64 c, .int .i64 d] 23)).alloc (.cells #[.int .i64 e, .int .i64 f] 23)) w.heap.size a b := ((Loc.new w a b).alloc _).alloc _
  have Y0 : Loc (((w.alloc (.cells #[.int .i64 a, .int .i64 b] 23)).alloc (.cells #[.int .i64 c, .int .i64 d] 23)).alloc (.cells #[.int .i64 e, .int .i64 f] 23)) (w.heap.size + 1) c d := by
    have := (Loc.new (w.alloc (.cells #[.int .i64 a, .int .i64 b] 23)) c d).alloc (.cells #[.int .i64 e, .int .i64 f] 23)
    simpa using this
  have Z0 : Loc (((w.alloc (.cells #[.int .i64 a, .int .i64 b] 23)).alloc (.cells #[.int .i64 c, .int .i64 d] 23)).alloc (.cells #[.int .i64 e, .int .i64 f] 23)) (w.heap.size + 1 + 1) e f := by
    have := Loc.new ((w.alloc (.cells #[.int .i64 a, .int .i64 b] 23)).alloc (.cells #[.int .i64 c, .int .i64 d] 23)) e f
    simpa using this
  have G0 : Below w.heap.size w (((w.alloc (.cells #[.int .i64 a, .int .i64 b] 23)).alloc (.cells #[.int .i64 c, .int .i64 d] 23)).alloc (.cells #[.int .i64 e, .int .i64 f] 23)) := bal (bal (ba _ _) _) _
  go_enter Try.func5, Try.ntmps5
  go_wp2_with fail
  refine (alive_any _).mono ?_
  rintro x1 w1 ⟨rfl, hb1⟩
  have X1 := X0.call hb1
  have Y1 := Y0.call hb1
  have Z1 := Z0.call hb1
  have G1 := bt G0 hb1
  clear X0 Y0 Z0 G0 hb1
  have XX := X1.alloc (.cells #[.bool false, .bool true] 4)
  have YY := Y1.alloc (.cells #[.bool false, .bool true] 4)
  have ZZ := Z1.alloc (.cells #[.bool false, .bool true] 4)
  have GG := bal G1 (.cells #[.bool false, .bool true] 4)
  have BB : Bools (w1.alloc (.cells #[.bool false, .bool true] 4)) w1.heap.size := ⟨by simp, by simp [go_sem], by simp [go_sem]⟩
  clear X1 Y1 Z1 G1
  go_wp2_with fail
  go_loopw [39] (fun q wr => ∃ i : Nat, i ≤ 2 ∧ q = .int .i64 (i : Int) ∧ Loc wr w.heap.size a b ∧ Loc wr (w.heap.size + 1) c d ∧ Loc wr (w.heap.size + 1 + 1) e f ∧ Bools wr w1.heap.size ∧ Below w.heap.size w wr) (fun q _ => 2 - (intOf q).toNat)
  case atStart => exact ⟨0, by omega, rfl, XX, YY, ZZ, BB, GG⟩
  case round =>
    clear XX YY ZZ GG BB
    obtain ⟨i, hi, rfl, X, Y, Z, B, G⟩ := hrel
    obtain ⟨lX, cX0, cX1⟩ := id X
    obtain ⟨lY, cY0, cY1⟩ := id Y
    obtain ⟨lZ, cZ0, cZ1⟩ := id Z
    by_cases c0 : i < 2
    · have c0' : (i : Int) < 2 := by omega
      have cb := B.at i c0
      have lb := B.lt
      generalize hp : decide (i = 1) = p at cb
      clear hp
      obtain ⟨n1, m1, o1, t1⟩ : ∃ n m o, Rt.twoT p a b c d = (n, m, o) := ⟨_, _, _, rfl⟩
      obtain ⟨n2, m2, o2, t2⟩ : ∃ n m o, Rt.twoT p c d e f = (n, m, o) := ⟨_, _, _, rfl⟩
      have t1' := (Rt.two_comm p c d a b).trans t1
      have T1 : Hid (Rt.twoT p a b c d = (n1, m1, o1)) := t1
      have T2 : Hid (Rt.twoT p c d e f = (n2, m2, o2)) := t2
      have T3 : Hid (Rt.twoT p c d a b = (n1, m1, o1)) := t1'
      clear t1 t2 t1'
      go_wp2_with fail
      refine (two_any p a b c d n1 m1 o1 T1.out _).mono ?_
      rintro x2 w2 ⟨rfl, hb2⟩
      have X2 := X.call hb2
      have Y2 := Y.call hb2
      have Z2 := Z.call hb2
      have B2 := B.call hb2
      have G2 := bt G hb2
      clear X Y Z B G hb2 lX cX0 cX1 lY cY0 cY1 lZ cZ0 cZ1 cb lb
      obtain ⟨lX, cX0, cX1⟩ := id X2
      obtain ⟨lY, cY0, cY1⟩ := id Y2
      obtain ⟨lZ, cZ0, cZ1⟩ := id Z2
      go_wp2_with fail
      refine (two_any p c d a b n1 m1 o1 T3.out _).mono ?_
      rintro x3 w3 ⟨rfl, hb3⟩
      have X3 := (X2.alloc _).call hb3
      have Y3 := (Y2.alloc _).call hb3
      have Z3 := (Z2.alloc _).call hb3
      have B3 := (B2.alloc _).call hb3
      have P3 := (Loc.new w2 n1 m1).call hb3
      have G3 := bt (bal G2 _) hb3
      clear X2 Y2 Z2 B2 G2 hb3 lX cX0 cX1 lY cY0 cY1 lZ cZ0 cZ1
      obtain ⟨lX, cX0, cX1⟩ := id X3
      obtain ⟨lY, cY0, cY1⟩ := id Y3
      obtain ⟨lZ, cZ0, cZ1⟩ := id Z3
      obtain ⟨lP, cP0, cP1⟩ := id P3
      go_wp2_with fail
      refine (two_any p c d e f n2 m2 o2 T2.out _).mono ?_
      rintro x4 w4 ⟨rfl, hb4⟩
      have X4 := (X3.alloc _).call hb4
      have Y4 := (Y3.alloc _).call hb4
      have Z4 := (Z3.alloc _).call hb4
      have B4 := (B3.alloc _).call hb4
      have P4 := (P3.alloc _).call hb4
      have Q4 := (Loc.new w3 n1 m1).call hb4
      have G4 := bt (bal G3 _) hb4
      clear X3 Y3 Z3 B3 P3 G3 hb4 lX cX0 cX1 lY cY0 cY1 lZ cZ0 cZ1 lP cP0 cP1
      obtain ⟨lX, cX0, cX1⟩ := id X4
      obtain ⟨lY, cY0, cY1⟩ := id Y4
      obtain ⟨lZ, cZ0, cZ1⟩ := id Z4
      obtain ⟨lP, cP0, cP1⟩ := id P4
      have okk : (o1 = false) ∨ (o1 = true ∧ o2 = false) ∨ (o1 = true ∧ o2 = true) := by cases o1 <;> cases o2 <;> simp
      rcases okk with rfl | ⟨rfl, rfl⟩ | ⟨rfl, rfl⟩
      · go_wp2_with fail
        exact ⟨⟨i + 1, by omega, by go_num, X4.alloc _, Y4.alloc _, Z4.alloc _, B4.alloc _, bal G4 _⟩, by simp [intOf]; omega⟩
      · go_wp2_with fail
        exact ⟨⟨i + 1, by omega, by go_num, X4.alloc _, Y4.alloc _, Z4.alloc _, B4.alloc _, bal G4 _⟩, by simp [intOf]; omega⟩
      · obtain ⟨n3, m3, o3, t4⟩ : ∃ n m o, Rt.twoT p n1 m1 e f = (n, m, o) := ⟨_, _, _, rfl⟩
        have t5 := (Rt.two_assoc T1.out T2.out).symm.trans t4
        have T4 : Hid (Rt.twoT p n1 m1 e f = (n3, m3, o3)) := t4
        have T5 : Hid (Rt.twoT p a b n2 m2 = (n3, m3, o3)) := t5
        clear t4 t5
        go_wp2_with fail
        refine (two_any p n1 m1 e f n3 m3 o3 T4.out _).mono ?_
        rintro x5 w5 ⟨rfl, hb5⟩
        have X5 := (X4.alloc _).call hb5
        have Y5 := (Y4.alloc _).call hb5
        have Z5 := (Z4.alloc _).call hb5
        have B5 := (B4.alloc _).call hb5
        have P5 := (P4.alloc _).call hb5
        have Q5 := (Q4.alloc _).call hb5
        have R5 := (Loc.new w4 n2 m2).call hb5
        have G5 := bt (bal G4 _) hb5
        clear X4 Y4 Z4 B4 P4 Q4 G4 hb5 lX cX0 cX1 lY cY0 cY1 lZ cZ0 cZ1 lP cP0 cP1
        obtain ⟨lX, cX0, cX1⟩ := id X5
        obtain ⟨lR, cR0, cR1⟩ := id R5
        go_wp2_with fail
        refine (two_any p a b n2 m2 n3 m3 o3 T5.out _).mono ?_
        rintro x6 w6 ⟨rfl, hb6⟩
        have X6 := (X5.alloc _).call hb6
        have Y6 := (Y5.alloc _).call hb6
        have Z6 := (Z5.alloc _).call hb6
        have B6 := (B5.alloc _).call hb6
        have P6 := (P5.alloc _).call hb6
        have Q6 := (Q5.alloc _).call hb6
        have R6 := (R5.alloc _).call hb6
        have A6 := (Loc.new w5 n3 m3).call hb6
        have G6 := bt (bal G5 _) hb6
        clear X5 Y5 Z5 B5 P5 Q5 R5 G5 hb6 lX cX0 cX1 lR cR0 cR1
        obtain ⟨lA, cA0, cA1⟩ := id A6
        go_wp2_with fail
        exact ⟨⟨i + 1, by omega, by go_num, X6.alloc _, Y6.alloc _, Z6.alloc _, B6.alloc _, bal G6 _⟩, by simp [intOf]; omega⟩
    · have c0' : ¬ ((i : Int) < 2) := by omega
      clear B
      obtain ⟨n1, m1, o1, t1⟩ : ∃ n m o, Rt.twoT true c d e f = (n, m, o) := ⟨_, _, _, rfl⟩
      obtain ⟨n2, m2, o2, t2⟩ : ∃ n m o, Rt.twoT false a b c d = (n, m, o) := ⟨_, _, _, rfl⟩
      obtain ⟨n3, m3, o3, t3⟩ : ∃ n m o, Rt.twoT false a b e f = (n, m, o) := ⟨_, _, _, rfl⟩
      obtain ⟨n5, m5, e5, t6⟩ : ∃ n m o, Rt.overT a b c d = (n, m, o) := ⟨_, _, _, rfl⟩
      obtain ⟨n6, m6, e6, t7⟩ : ∃ n m o, Rt.minusT a b c d = (n, m, o) := ⟨_, _, _, rfl⟩
      have T1 : Hid (Rt.twoT true c d e f = (n1, m1, o1)) := t1
      have T2 : Hid (Rt.twoT false a b c d = (n2, m2, o2)) := t2
      have T3 : Hid (Rt.twoT false a b e f = (n3, m3, o3)) := t3
      have T6 : Hid (Rt.overT a b c d = (n5, m5, e5)) := t6
      have T7 : Hid (Rt.minusT a b c d = (n6, m6, e6)) := t7
      clear t1 t2 t3 t6 t7
      go_wp2_with fail
      refine (two_any true c d e f n1 m1 o1 T1.out _).mono ?_
      rintro x7 w7 ⟨rfl, hb7⟩
      have X7 := X.call hb7
      have Y7 := Y.call hb7
      have Z7 := Z.call hb7
      have G7 := bt G hb7
      clear X Y Z G hb7 lX cX0 cX1 lY cY0 cY1 lZ cZ0 cZ1
      obtain ⟨lX, cX0, cX1⟩ := id X7
      obtain ⟨lY, cY0, cY1⟩ := id Y7
      obtain ⟨lZ, cZ0, cZ1⟩ := id Z7
      go_wp2_with fail
      refine (two_any false a b c d n2 m2 o2 T2.out _).mono ?_
      rintro x8 w8 ⟨rfl, hb8⟩
      have X8 := (X7.alloc _).call hb8
      have Y8 := (Y7.alloc _).call hb8
      have Z8 := (Z7.alloc _).call hb8
      have P8 := (Loc.new w7 n1 m1).call hb8
      have G8 := bt (bal G7 _) hb8
      clear X7 Y7 Z7 G7 hb8 lX cX0 cX1 lY cY0 cY1 lZ cZ0 cZ1
      obtain ⟨lX, cX0, cX1⟩ := id X8
      obtain ⟨lY, cY0, cY1⟩ := id Y8
      obtain ⟨lZ, cZ0, cZ1⟩ := id Z8
      go_wp2_with fail
      refine (two_any false a b e f n3 m3 o3 T3.out _).mono ?_
      rintro x9 w9 ⟨rfl, hb9⟩
      have X9 := (X8.alloc _).call hb9
      have Y9 := (Y8.alloc _).call hb9
      have Z9 := (Z8.alloc _).call hb9
      have P9 := (P8.alloc _).call hb9
      have Q9 := (Loc.new w8 n2 m2).call hb9
      have G9 := bt (bal G8 _) hb9
      clear X8 Y8 Z8 P8 G8 hb9 lX cX0 cX1 lY cY0 cY1 lZ cZ0 cZ1
      obtain ⟨lX, cX0, cX1⟩ := id X9
      obtain ⟨lY, cY0, cY1⟩ := id Y9
      obtain ⟨lP, cP0, cP1⟩ := id P9
      obtain ⟨lQ, cQ0, cQ1⟩ := id Q9
      have okk : (o1 = false) ∨ (o1 = true ∧ o2 = false) ∨ (o1 = true ∧ o2 = true ∧ o3 = false) ∨ (o1 = true ∧ o2 = true ∧ o3 = true) := by cases o1 <;> cases o2 <;> cases o3 <;> simp
      rcases okk with rfl | ⟨rfl, rfl⟩ | ⟨rfl, rfl, rfl⟩ | ⟨rfl, rfl, rfl⟩
      · go_wp2_with fail
        refine (over_any a b c d n5 m5 e5 T6.out _).mono ?_
        rintro x10 w10 ⟨rfl, hb10⟩
        have X10 := (X9.alloc _).call hb10
        have Y10 := (Y9.alloc _).call hb10
        have R10 := (Loc.new w9 n3 m3).call hb10
        have G10 := bt (bal G9 _) hb10
        clear X9 Y9 G9 hb10 lX cX0 cX1 lY cY0 cY1 lP cP0 cP1 lQ cQ0 cQ1
        obtain ⟨lX, cX0, cX1⟩ := id X10
        obtain ⟨lY, cY0, cY1⟩ := id Y10
        by_cases q5 : e5 = 0
        · subst q5
          have t8 := Rt.over_yes T6.out
          have T8 : Hid (Rt.twoT false n5 m5 c d = (a, b, true)) := t8
          clear t8
          go_wp2_with fail
          refine (two_any false n5 m5 c d a b true T8.out _).mono ?_
          rintro x11 w11 ⟨rfl, hb11⟩
          have X11 := (X10.alloc _).call hb11
          have Y11 := (Y10.alloc _).call hb11
          have R11 := (R10.alloc _).call hb11
          have V11 := (Loc.new w10 n5 m5).call hb11
          have G11 := bt (bal G10 _) hb11
          clear X10 Y10 R10 G10 hb11 lX cX0 cX1 lY cY0 cY1
          obtain ⟨lX, cX0, cX1⟩ := id X11
          obtain ⟨lY, cY0, cY1⟩ := id Y11
          go_wp2_with fail
          refine (minus_any a b c d n6 m6 e6 T7.out _).mono ?_
          rintro x12 w12 ⟨rfl, hb12⟩
          have X12 := (X11.alloc _).call hb12
          have Y12 := (Y11.alloc _).call hb12
          have U12 := (Loc.new w11 a b).call hb12
          have G12 := bt (bal G11 _) hb12
          clear X11 Y11 G11 hb12 lX cX0 cX1 lY cY0 cY1
          obtain ⟨lX, cX0, cX1⟩ := id X12
          obtain ⟨lY, cY0, cY1⟩ := id Y12
          by_cases q6 : e6 = 0
          · subst q6
            have t8 := Rt.minus_yes T7.out
            have T8 : Hid (Rt.twoT true n6 m6 c d = (a, b, true)) := t8
            clear t8
            go_wp2_with fail
            refine (two_any true n6 m6 c d a b true T8.out _).mono ?_
            rintro x13 w13 ⟨rfl, hb13⟩
            have X13 := (X12.alloc _).call hb13
            have Y13 := (Y12.alloc _).call hb13
            have U13 := (U12.alloc _).call hb13
            have M13 := (Loc.new w12 n6 m6).call hb13
            have G13 := bt (bal G12 _) hb13
            clear X12 Y12 U12 G12 hb13 lX cX0 cX1 lY cY0 cY1
            obtain ⟨lX, cX0, cX1⟩ := id X13
            go_wp2_with fail
            go_ret
            exact ⟨by simp, bal G13 _⟩
          · have q6' : (e6 == 0) = false := by simp; omega
            go_wp2_with fail
            go_ret
            exact ⟨by simp, bal G12 _⟩
        · have q5' : (e5 == 0) = false := by simp; omega
          go_wp2_with fail
          refine (minus_any a b c d n6 m6 e6 T7.out _).mono ?_
          rintro x14 w14 ⟨rfl, hb14⟩
          have X14 := (X10.alloc _).call hb14
          have Y14 := (Y10.alloc _).call hb14
          have V14 := (Loc.new w10 n5 m5).call hb14
          have G14 := bt (bal G10 _) hb14
          clear X10 Y10 G10 hb14 lX cX0 cX1 lY cY0 cY1
          obtain ⟨lX, cX0, cX1⟩ := id X14
          obtain ⟨lY, cY0, cY1⟩ := id Y14
          by_cases q6 : e6 = 0
          · subst q6
            have t8 := Rt.minus_yes T7.out
            have T8 : Hid (Rt.twoT true n6 m6 c d = (a, b, true)) := t8
            clear t8
            go_wp2_with fail
            refine (two_any true n6 m6 c d a b true T8.out _).mono ?_
            rintro x15 w15 ⟨rfl, hb15⟩
            have X15 := (X14.alloc _).call hb15
            have Y15 := (Y14.alloc _).call hb15
            have V15 := (V14.alloc _).call hb15
            have M15 := (Loc.new w14 n6 m6).call hb15
            have G15 := bt (bal G14 _) hb15
            clear X14 Y14 V14 G14 hb15 lX cX0 cX1 lY cY0 cY1
            obtain ⟨lX, cX0, cX1⟩ := id X15
            go_wp2_with fail
            go_ret
            exact ⟨by simp, bal G15 _⟩
          · have q6' : (e6 == 0) = false := by simp; omega
            go_wp2_with fail
            go_ret
            exact ⟨by simp, bal G14 _⟩
      · go_wp2_with fail
        refine (over_any a b c d n5 m5 e5 T6.out _).mono ?_
        rintro x16 w16 ⟨rfl, hb16⟩
        have X16 := (X9.alloc _).call hb16
        have Y16 := (Y9.alloc _).call hb16
        have R16 := (Loc.new w9 n3 m3).call hb16
        have G16 := bt (bal G9 _) hb16
        clear X9 Y9 G9 hb16 lX cX0 cX1 lY cY0 cY1 lP cP0 cP1 lQ cQ0 cQ1
        obtain ⟨lX, cX0, cX1⟩ := id X16
        obtain ⟨lY, cY0, cY1⟩ := id Y16
        by_cases q5 : e5 = 0
        · subst q5
          have t8 := Rt.over_yes T6.out
          have T8 : Hid (Rt.twoT false n5 m5 c d = (a, b, true)) := t8
          clear t8
          go_wp2_with fail
          refine (two_any false n5 m5 c d a b true T8.out _).mono ?_
          rintro x17 w17 ⟨rfl, hb17⟩
          have X17 := (X16.alloc _).call hb17
          have Y17 := (Y16.alloc _).call hb17
          have R17 := (R16.alloc _).call hb17
          have V17 := (Loc.new w16 n5 m5).call hb17
          have G17 := bt (bal G16 _) hb17
          clear X16 Y16 R16 G16 hb17 lX cX0 cX1 lY cY0 cY1
          obtain ⟨lX, cX0, cX1⟩ := id X17
          obtain ⟨lY, cY0, cY1⟩ := id Y17
          go_wp2_with fail
          refine (minus_any a b c d n6 m6 e6 T7.out _).mono ?_
          rintro x18 w18 ⟨rfl, hb18⟩
          have X18 := (X17.alloc _).call hb18
          have Y18 := (Y17.alloc _).call hb18
          have U18 := (Loc.new w17 a b).call hb18
          have G18 := bt (bal G17 _) hb18
          clear X17 Y17 G17 hb18 lX cX0 cX1 lY cY0 cY1
          obtain ⟨lX, cX0, cX1⟩ := id X18
          obtain ⟨lY, cY0, cY1⟩ := id Y18
          by_cases q6 : e6 = 0
          · subst q6
            have t8 := Rt.minus_yes T7.out
            have T8 : Hid (Rt.twoT true n6 m6 c d = (a, b, true)) := t8
            clear t8
            go_wp2_with fail
            refine (two_any true n6 m6 c d a b true T8.out _).mono ?_
            rintro x19 w19 ⟨rfl, hb19⟩
            have X19 := (X18.alloc _).call hb19
            have Y19 := (Y18.alloc _).call hb19
            have U19 := (U18.alloc _).call hb19
            have M19 := (Loc.new w18 n6 m6).call hb19
            have G19 := bt (bal G18 _) hb19
            clear X18 Y18 U18 G18 hb19 lX cX0 cX1 lY cY0 cY1
            obtain ⟨lX, cX0, cX1⟩ := id X19
            go_wp2_with fail
            go_ret
            exact ⟨by simp, bal G19 _⟩
          · have q6' : (e6 == 0) = false := by simp; omega
            go_wp2_with fail
            go_ret
            exact ⟨by simp, bal G18 _⟩
        · have q5' : (e5 == 0) = false := by simp; omega
          go_wp2_with fail
          refine (minus_any a b c d n6 m6 e6 T7.out _).mono ?_
          rintro x20 w20 ⟨rfl, hb20⟩
          have X20 := (X16.alloc _).call hb20
          have Y20 := (Y16.alloc _).call hb20
          have V20 := (Loc.new w16 n5 m5).call hb20
          have G20 := bt (bal G16 _) hb20
          clear X16 Y16 G16 hb20 lX cX0 cX1 lY cY0 cY1
          obtain ⟨lX, cX0, cX1⟩ := id X20
          obtain ⟨lY, cY0, cY1⟩ := id Y20
          by_cases q6 : e6 = 0
          · subst q6
            have t8 := Rt.minus_yes T7.out
            have T8 : Hid (Rt.twoT true n6 m6 c d = (a, b, true)) := t8
            clear t8
            go_wp2_with fail
            refine (two_any true n6 m6 c d a b true T8.out _).mono ?_
            rintro x21 w21 ⟨rfl, hb21⟩
            have X21 := (X20.alloc _).call hb21
            have Y21 := (Y20.alloc _).call hb21
            have V21 := (V20.alloc _).call hb21
            have M21 := (Loc.new w20 n6 m6).call hb21
            have G21 := bt (bal G20 _) hb21
            clear X20 Y20 V20 G20 hb21 lX cX0 cX1 lY cY0 cY1
            obtain ⟨lX, cX0, cX1⟩ := id X21
            go_wp2_with fail
            go_ret
            exact ⟨by simp, bal G21 _⟩
          · have q6' : (e6 == 0) = false := by simp; omega
            go_wp2_with fail
            go_ret
            exact ⟨by simp, bal G20 _⟩
      · go_wp2_with fail
        refine (over_any a b c d n5 m5 e5 T6.out _).mono ?_
        rintro x22 w22 ⟨rfl, hb22⟩
        have X22 := (X9.alloc _).call hb22
        have Y22 := (Y9.alloc _).call hb22
        have R22 := (Loc.new w9 n3 m3).call hb22
        have G22 := bt (bal G9 _) hb22
        clear X9 Y9 G9 hb22 lX cX0 cX1 lY cY0 cY1 lP cP0 cP1 lQ cQ0 cQ1
        obtain ⟨lX, cX0, cX1⟩ := id X22
        obtain ⟨lY, cY0, cY1⟩ := id Y22
        by_cases q5 : e5 = 0
        · subst q5
          have t8 := Rt.over_yes T6.out
          have T8 : Hid (Rt.twoT false n5 m5 c d = (a, b, true)) := t8
          clear t8
          go_wp2_with fail
          refine (two_any false n5 m5 c d a b true T8.out _).mono ?_
          rintro x23 w23 ⟨rfl, hb23⟩
          have X23 := (X22.alloc _).call hb23
          have Y23 := (Y22.alloc _).call hb23
          have R23 := (R22.alloc _).call hb23
          have V23 := (Loc.new w22 n5 m5).call hb23
          have G23 := bt (bal G22 _) hb23
          clear X22 Y22 R22 G22 hb23 lX cX0 cX1 lY cY0 cY1
          obtain ⟨lX, cX0, cX1⟩ := id X23
          obtain ⟨lY, cY0, cY1⟩ := id Y23
          go_wp2_with fail
          refine (minus_any a b c d n6 m6 e6 T7.out _).mono ?_
          rintro x24 w24 ⟨rfl, hb24⟩
          have X24 := (X23.alloc _).call hb24
          have Y24 := (Y23.alloc _).call hb24
          have U24 := (Loc.new w23 a b).call hb24
          have G24 := bt (bal G23 _) hb24
          clear X23 Y23 G23 hb24 lX cX0 cX1 lY cY0 cY1
          obtain ⟨lX, cX0, cX1⟩ := id X24
          obtain ⟨lY, cY0, cY1⟩ := id Y24
          by_cases q6 : e6 = 0
          · subst q6
            have t8 := Rt.minus_yes T7.out
            have T8 : Hid (Rt.twoT true n6 m6 c d = (a, b, true)) := t8
            clear t8
            go_wp2_with fail
            refine (two_any true n6 m6 c d a b true T8.out _).mono ?_
            rintro x25 w25 ⟨rfl, hb25⟩
            have X25 := (X24.alloc _).call hb25
            have Y25 := (Y24.alloc _).call hb25
            have U25 := (U24.alloc _).call hb25
            have M25 := (Loc.new w24 n6 m6).call hb25
            have G25 := bt (bal G24 _) hb25
            clear X24 Y24 U24 G24 hb25 lX cX0 cX1 lY cY0 cY1
            obtain ⟨lX, cX0, cX1⟩ := id X25
            go_wp2_with fail
            go_ret
            exact ⟨by simp, bal G25 _⟩
          · have q6' : (e6 == 0) = false := by simp; omega
            go_wp2_with fail
            go_ret
            exact ⟨by simp, bal G24 _⟩
        · have q5' : (e5 == 0) = false := by simp; omega
          go_wp2_with fail
          refine (minus_any a b c d n6 m6 e6 T7.out _).mono ?_
          rintro x26 w26 ⟨rfl, hb26⟩
          have X26 := (X22.alloc _).call hb26
          have Y26 := (Y22.alloc _).call hb26
          have V26 := (Loc.new w22 n5 m5).call hb26
          have G26 := bt (bal G22 _) hb26
          clear X22 Y22 G22 hb26 lX cX0 cX1 lY cY0 cY1
          obtain ⟨lX, cX0, cX1⟩ := id X26
          obtain ⟨lY, cY0, cY1⟩ := id Y26
          by_cases q6 : e6 = 0
          · subst q6
            have t8 := Rt.minus_yes T7.out
            have T8 : Hid (Rt.twoT true n6 m6 c d = (a, b, true)) := t8
            clear t8
            go_wp2_with fail
            refine (two_any true n6 m6 c d a b true T8.out _).mono ?_
            rintro x27 w27 ⟨rfl, hb27⟩
            have X27 := (X26.alloc _).call hb27
            have Y27 := (Y26.alloc _).call hb27
            have V27 := (V26.alloc _).call hb27
            have M27 := (Loc.new w26 n6 m6).call hb27
            have G27 := bt (bal G26 _) hb27
            clear X26 Y26 V26 G26 hb27 lX cX0 cX1 lY cY0 cY1
            obtain ⟨lX, cX0, cX1⟩ := id X27
            go_wp2_with fail
            go_ret
            exact ⟨by simp, bal G27 _⟩
          · have q6' : (e6 == 0) = false := by simp; omega
            go_wp2_with fail
            go_ret
            exact ⟨by simp, bal G26 _⟩
      · obtain ⟨n4, m4, o4, t4⟩ : ∃ n m o, Rt.twoT false a b n1 m1 = (n, m, o) := ⟨_, _, _, rfl⟩
        have t5 := (Rt.two_share T1.out T2.out T3.out).symm.trans t4
        have T4 : Hid (Rt.twoT false a b n1 m1 = (n4, m4, o4)) := t4
        have T5 : Hid (Rt.twoT true n2 m2 n3 m3 = (n4, m4, o4)) := t5
        clear t4 t5
        go_wp2_with fail
        refine (two_any false a b n1 m1 n4 m4 o4 T4.out _).mono ?_
        rintro x28 w28 ⟨rfl, hb28⟩
        have X28 := (X9.alloc _).call hb28
        have Y28 := (Y9.alloc _).call hb28
        have Z28 := (Z9.alloc _).call hb28
        have P28 := (P9.alloc _).call hb28
        have Q28 := (Q9.alloc _).call hb28
        have R28 := (Loc.new w9 n3 m3).call hb28
        have G28 := bt (bal G9 _) hb28
        clear X9 Y9 Z9 P9 Q9 G9 hb28 lX cX0 cX1 lY cY0 cY1 lP cP0 cP1 lQ cQ0 cQ1
        obtain ⟨lX, cX0, cX1⟩ := id X28
        obtain ⟨lY, cY0, cY1⟩ := id Y28
        obtain ⟨lQ, cQ0, cQ1⟩ := id Q28
        obtain ⟨lR, cR0, cR1⟩ := id R28
        go_wp2_with fail
        refine (two_any true n2 m2 n3 m3 n4 m4 o4 T5.out _).mono ?_
        rintro x29 w29 ⟨rfl, hb29⟩
        have X29 := (X28.alloc _).call hb29
        have Y29 := (Y28.alloc _).call hb29
        have Z29 := (Z28.alloc _).call hb29
        have P29 := (P28.alloc _).call hb29
        have Q29 := (Q28.alloc _).call hb29
        have R29 := (R28.alloc _).call hb29
        have A29 := (Loc.new w28 n4 m4).call hb29
        have G29 := bt (bal G28 _) hb29
        clear X28 Y28 Z28 P28 Q28 R28 G28 hb29 lX cX0 cX1 lY cY0 cY1 lQ cQ0 cQ1 lR cR0 cR1
        obtain ⟨lX, cX0, cX1⟩ := id X29
        obtain ⟨lY, cY0, cY1⟩ := id Y29
        obtain ⟨lA, cA0, cA1⟩ := id A29
        go_wp2_with fail
        refine (over_any a b c d n5 m5 e5 T6.out _).mono ?_
        rintro x30 w30 ⟨rfl, hb30⟩
        have X30 := (X29.alloc _).call hb30
        have Y30 := (Y29.alloc _).call hb30
        have C30 := (Loc.new w29 n4 m4).call hb30
        have G30 := bt (bal G29 _) hb30
        clear X29 Y29 G29 hb30 lX cX0 cX1 lY cY0 cY1 lA cA0 cA1
        obtain ⟨lX, cX0, cX1⟩ := id X30
        obtain ⟨lY, cY0, cY1⟩ := id Y30
        by_cases q5 : e5 = 0
        · subst q5
          have t8 := Rt.over_yes T6.out
          have T8 : Hid (Rt.twoT false n5 m5 c d = (a, b, true)) := t8
          clear t8
          go_wp2_with fail
          refine (two_any false n5 m5 c d a b true T8.out _).mono ?_
          rintro x31 w31 ⟨rfl, hb31⟩
          have X31 := (X30.alloc _).call hb31
          have Y31 := (Y30.alloc _).call hb31
          have C31 := (C30.alloc _).call hb31
          have V31 := (Loc.new w30 n5 m5).call hb31
          have G31 := bt (bal G30 _) hb31
          clear X30 Y30 C30 G30 hb31 lX cX0 cX1 lY cY0 cY1
          obtain ⟨lX, cX0, cX1⟩ := id X31
          obtain ⟨lY, cY0, cY1⟩ := id Y31
          go_wp2_with fail
          refine (minus_any a b c d n6 m6 e6 T7.out _).mono ?_
          rintro x32 w32 ⟨rfl, hb32⟩
          have X32 := (X31.alloc _).call hb32
          have Y32 := (Y31.alloc _).call hb32
          have U32 := (Loc.new w31 a b).call hb32
          have G32 := bt (bal G31 _) hb32
          clear X31 Y31 G31 hb32 lX cX0 cX1 lY cY0 cY1
          obtain ⟨lX, cX0, cX1⟩ := id X32
          obtain ⟨lY, cY0, cY1⟩ := id Y32
          by_cases q6 : e6 = 0
          · subst q6
            have t8 := Rt.minus_yes T7.out
            have T8 : Hid (Rt.twoT true n6 m6 c d = (a, b, true)) := t8
            clear t8
            go_wp2_with fail
            refine (two_any true n6 m6 c d a b true T8.out _).mono ?_
            rintro x33 w33 ⟨rfl, hb33⟩
            have X33 := (X32.alloc _).call hb33
            have Y33 := (Y32.alloc _).call hb33
            have U33 := (U32.alloc _).call hb33
            have M33 := (Loc.new w32 n6 m6).call hb33
            have G33 := bt (bal G32 _) hb33
            clear X32 Y32 U32 G32 hb33 lX cX0 cX1 lY cY0 cY1
            obtain ⟨lX, cX0, cX1⟩ := id X33
            go_wp2_with fail
            go_ret
            exact ⟨by simp, bal G33 _⟩
          · have q6' : (e6 == 0) = false := by simp; omega
            go_wp2_with fail
            go_ret
            exact ⟨by simp, bal G32 _⟩
        · have q5' : (e5 == 0) = false := by simp; omega
          go_wp2_with fail
          refine (minus_any a b c d n6 m6 e6 T7.out _).mono ?_
          rintro x34 w34 ⟨rfl, hb34⟩
          have X34 := (X30.alloc _).call hb34
          have Y34 := (Y30.alloc _).call hb34
          have V34 := (Loc.new w30 n5 m5).call hb34
          have G34 := bt (bal G30 _) hb34
          clear X30 Y30 G30 hb34 lX cX0 cX1 lY cY0 cY1
          obtain ⟨lX, cX0, cX1⟩ := id X34
          obtain ⟨lY, cY0, cY1⟩ := id Y34
          by_cases q6 : e6 = 0
          · subst q6
            have t8 := Rt.minus_yes T7.out
            have T8 : Hid (Rt.twoT true n6 m6 c d = (a, b, true)) := t8
            clear t8
            go_wp2_with fail
            refine (two_any true n6 m6 c d a b true T8.out _).mono ?_
            rintro x35 w35 ⟨rfl, hb35⟩
            have X35 := (X34.alloc _).call hb35
            have Y35 := (Y34.alloc _).call hb35
            have V35 := (V34.alloc _).call hb35
            have M35 := (Loc.new w34 n6 m6).call hb35
            have G35 := bt (bal G34 _) hb35
            clear X34 Y34 V34 G34 hb35 lX cX0 cX1 lY cY0 cY1
            obtain ⟨lX, cX0, cX1⟩ := id X35
            go_wp2_with fail
            go_ret
            exact ⟨by simp, bal G35 _⟩
          · have q6' : (e6 == 0) = false := by simp; omega
            go_wp2_with fail
            go_ret
            exact ⟨by simp, bal G34 _⟩
end Go.Proofs.Ytihgoaceinpkpaa

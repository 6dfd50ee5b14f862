import Derived.Test.YtihgoaceinpkpaaTwo
namespace Go.Proofs.Ytihgoaceinpkpaa
open Go.RowKit

/-- A variable of type Ratio lies in block B and holds n / m. -/
structure Loc (w' : World) (B : Nat) (n m : Int) : Prop where
  lt : B < w'.heap.size
  c0 : w'.cell? ⟨B, 0, none⟩ = some (.int .i64 n)
  c1 : w'.cell? ⟨B, 1, none⟩ = some (.int .i64 m)
theorem Loc.call {w' w'' : World} {B : Nat} {n m : Int} (h : Loc w' B n m) (k : Below w'.heap.size w' w'') : Loc w'' B n m :=
  ⟨Nat.lt_of_lt_of_le h.lt k.size, by rw [(bcell k).1 _ _ h.lt]; exact h.c0, by rw [(bcell k).1 _ _ h.lt]; exact h.c1⟩
theorem Loc.alloc {w' : World} {B : Nat} {n m : Int} (h : Loc w' B n m) (o : Obj) : Loc (w'.alloc o) B n m := h.call (ba w' o)
theorem Loc.new (w' : World) (n m : Int) : Loc (w'.alloc (.cells #[.int .i64 n, .int .i64 m] 23)) w'.heap.size n m :=
  ⟨by simp, by simp [go_sem], by simp [go_sem]⟩
/-- The two truth values that are ranged over lie in block B. -/
structure Bools (w' : World) (B : Nat) : Prop where
  lt : B < w'.heap.size
  c0 : w'.cell? ⟨B, 0, none⟩ = some (.bool false)
  c1 : w'.cell? ⟨B, 1, none⟩ = some (.bool true)
theorem Bools.call {w' w'' : World} {B : Nat} (h : Bools w' B) (k : Below w'.heap.size w' w'') : Bools w'' B :=
  ⟨Nat.lt_of_lt_of_le h.lt k.size, by rw [(bcell k).1 _ _ h.lt]; exact h.c0, by rw [(bcell k).1 _ _ h.lt]; exact h.c1⟩
theorem Bools.alloc {w' : World} {B : Nat} (h : Bools w' B) (o : Obj) : Bools (w'.alloc o) B := h.call (ba w' o)
theorem Bools.at {w' : World} {B : Nat} (h : Bools w' B) (i : Nat) (hi : i < 2) : w'.cell? ⟨B, i, none⟩ = some (.bool (decide (i = 1))) := by
  rcases (show i = 0 ∨ i = 1 by omega) with rfl | rfl
  · exact h.c0
  · exact h.c1

theorem ord_bd {a b c d k e : Int} (h : Rt.orderT a b c d = (k, e)) : -1 ≤ k ∧ k ≤ 1 ∧ (e = 0 ∨ (e = 2 ∧ k = 0)) := by
  unfold Rt.orderT at h
  split at h
  · simp only [Prod.mk.injEq] at h
    obtain ⟨rfl, rfl⟩ := h
    split
    · omega
    · split <;> omega
  · simp only [Prod.mk.injEq] at h
    omega


set_option maxRecDepth 100000 in
set_option maxHeartbeats 2000000 in
theorem order_same (a b e f : Int)  (H1 : Hid (Rt.orderT a b a b = (0, 0))) (H2 : Hid (Rt.orderT a b a b = (0, 0))) (w : World) :
    Calls Try.prog 6 #[rv a b, rv a b, rv e f] w fun x w' => x = .returned (.bool true) ∧ Below w.heap.size w w' := by
  have X0 : Loc (((w.alloc (.cells #[.int .i64 a, .int .i64 b] 23)).alloc (.cells #[.int .i64 a, .int .i64 b] 23)).alloc (.cells #[.int .i64 e, .int .i64 f] 23)) w.heap.size a b := ((Loc.new w a b).alloc _).alloc _
  have Y0 : Loc (((w.alloc (.cells #[.int .i64 a, .int .i64 b] 23)).alloc (.cells #[.int .i64 a, .int .i64 b] 23)).alloc (.cells #[.int .i64 e, .int .i64 f] 23)) (w.heap.size + 1) a b := by
    have := (Loc.new (w.alloc (.cells #[.int .i64 a, .int .i64 b] 23)) a b).alloc (.cells #[.int .i64 e, .int .i64 f] 23)
    simpa using this
  have Z0 : Loc (((w.alloc (.cells #[.int .i64 a, .int .i64 b] 23)).alloc (.cells #[.int .i64 a, .int .i64 b] 23)).alloc (.cells #[.int .i64 e, .int .i64 f] 23)) (w.heap.size + 1 + 1) e f := by
    have := Loc.new ((w.alloc (.cells #[.int .i64 a, .int .i64 b] 23)).alloc (.cells #[.int .i64 a, .int .i64 b] 23)) e f
    simpa using this
  have G0 : Below w.heap.size w (((w.alloc (.cells #[.int .i64 a, .int .i64 b] 23)).alloc (.cells #[.int .i64 a, .int .i64 b] 23)).alloc (.cells #[.int .i64 e, .int .i64 f] 23)) := bal (bal (ba _ _) _) _
  go_enter Try.func6, Try.ntmps6
  go_wp2_with fail
  refine (alive_any _).mono ?_
  rintro x1 w1 ⟨rfl, hb1⟩
  have X1 := X0.call hb1
  have Y1 := Y0.call hb1
  have Z1 := Z0.call hb1
  have G1 := bt G0 hb1
  clear X0 Y0 Z0 G0 hb1
  obtain ⟨lx, cx0, cx1⟩ := id X1
  obtain ⟨ly, cy0, cy1⟩ := id Y1
  go_wp2_with fail
  refine (order_any a b a b 0 0 H1.out _).mono ?_
  rintro x2 w2 ⟨rfl, hb2⟩
  have X2 := X1.call hb2
  have Y2 := Y1.call hb2
  have Z2 := Z1.call hb2
  have G2 := bt G1 hb2
  clear X1 Y1 Z1 G1 hb2 lx cx0 cx1 ly cy0 cy1
  obtain ⟨lx, cx0, cx1⟩ := id X2
  obtain ⟨ly, cy0, cy1⟩ := id Y2
  go_wp2_with fail
  refine (order_any a b a b 0 0 H2.out _).mono ?_
  rintro x3 w3 ⟨rfl, hb3⟩
  have X3 := X2.call hb3
  have Y3 := Y2.call hb3
  have Z3 := Z2.call hb3
  have G3 := bt G2 hb3
  clear X2 Y2 Z2 G2 hb3 lx cx0 cx1 ly cy0 cy1
  obtain ⟨lx, cx0, cx1⟩ := id X3
  obtain ⟨ly, cy0, cy1⟩ := id Y3
  go_wp2_with fail
  have X4 := X3.alloc (.cells #[.bool false, .bool true] 4)
  have Y4 := Y3.alloc (.cells #[.bool false, .bool true] 4)
  have Z4 := Z3.alloc (.cells #[.bool false, .bool true] 4)
  have G4 := bal G3 (.cells #[.bool false, .bool true] 4)
  have B4 : Bools (w3.alloc (.cells #[.bool false, .bool true] 4)) w3.heap.size := ⟨by simp, by simp [go_sem], by simp [go_sem]⟩
  clear X3 Y3 Z3 G3 lx cx0 cx1 ly cy0 cy1
  go_loopw [54] (fun q wr => ∃ i : Nat, i ≤ 2 ∧ q = .int .i64 (i : Int) ∧ Loc wr w.heap.size a b ∧ Loc wr (w.heap.size + 1) a b ∧ Loc wr (w.heap.size + 1 + 1) e f ∧ Bools wr w3.heap.size ∧ Below w.heap.size w wr) (fun q _ => 2 - (intOf q).toNat)
  case atStart => exact ⟨0, by omega, rfl, X4, Y4, Z4, B4, G4⟩
  case round =>
    clear X4 Y4 Z4 G4 B4
    obtain ⟨i, hi, rfl, X, Y, Z, B, G⟩ := hrel
    obtain ⟨lx, cx0, cx1⟩ := id X
    obtain ⟨ly, cy0, cy1⟩ := id Y
    obtain ⟨lz, cz0, cz1⟩ := id Z
    by_cases c0 : i < 2
    · have c0' : (i : Int) < 2 := by omega
      have cb := B.at i c0
      have lb := B.lt
      generalize hp : decide (i = 1) = p at cb
      have HPP : Hid (decide (i = 1) = p) := hp
      clear hp
      obtain ⟨n1, m1, o1, t1⟩ : ∃ n m o, Rt.twoT p a b e f = (n, m, o) := ⟨_, _, _, rfl⟩
      obtain ⟨n2, m2, o2, t2⟩ : ∃ n m o, Rt.twoT p a b e f = (n, m, o) := ⟨_, _, _, rfl⟩
      have T1 : Hid (Rt.twoT p a b e f = (n1, m1, o1)) := t1
      have T2 : Hid (Rt.twoT p a b e f = (n2, m2, o2)) := t2
      clear t1 t2
      go_wp2_with fail
      refine (two_any p a b e f n1 m1 o1 T1.out _).mono ?_
      rintro x5 w5 ⟨rfl, hb5⟩
      have X5 := X.call hb5
      have Y5 := Y.call hb5
      have Z5 := Z.call hb5
      have B5 := B.call hb5
      have G5 := bt G hb5
      clear X Y Z B G hb5 lx cx0 cx1 ly cy0 cy1 lz cz0 cz1 cb lb
      obtain ⟨ly, cy0, cy1⟩ := id Y5
      obtain ⟨lz, cz0, cz1⟩ := id Z5
      go_wp2_with fail
      refine (two_any p a b e f n2 m2 o2 T2.out _).mono ?_
      rintro x6 w6 ⟨rfl, hb6⟩
      have X6 := (X5.alloc _).call hb6
      have Y6 := (Y5.alloc _).call hb6
      have Z6 := (Z5.alloc _).call hb6
      have B6 := (B5.alloc _).call hb6
      have A6 := (Loc.new w5 n1 m1).call hb6
      have G6 := bt (bal G5 _) hb6
      clear X5 Y5 Z5 B5 G5 hb6 ly cy0 cy1 lz cz0 cz1
      obtain ⟨la, ca0, ca1⟩ := id A6
      have okk : (o1 = false) ∨ (o1 = true ∧ o2 = false) ∨ (o1 = true ∧ o2 = true) := by cases o1 <;> cases o2 <;> simp
      rcases okk with rfl | ⟨rfl, rfl⟩ | ⟨rfl, rfl⟩
      · go_wp2_with fail
        exact ⟨⟨i + 1, by omega, by go_num, X6.alloc _, Y6.alloc _, Z6.alloc _, B6.alloc _, bal G6 _⟩, by simp [intOf]; omega⟩
      · go_wp2_with fail
        exact ⟨⟨i + 1, by omega, by go_num, X6.alloc _, Y6.alloc _, Z6.alloc _, B6.alloc _, bal G6 _⟩, by simp [intOf]; omega⟩
      · obtain ⟨g, hg, hgk⟩ := Rt.order_op H1.out T1.out T2.out
        have HG : Hid (Rt.orderT n1 m1 n2 m2 = (g, 0)) := hg
        clear hg
        go_wp2_with fail
        refine (order_any n1 m1 n2 m2 g 0 HG.out _).mono ?_
        rintro x7 w7 ⟨rfl, hb7⟩
        have X7 := (X6.alloc _).call hb7
        have Y7 := (Y6.alloc _).call hb7
        have Z7 := (Z6.alloc _).call hb7
        have B7 := (B6.alloc _).call hb7
        have G7 := bt (bal G6 _) hb7
        clear X6 Y6 Z6 B6 G6 hb7 la ca0 ca1 A6
        obtain ⟨lz, cz0, cz1⟩ := id Z7
        have hgk' : g = 0 ∨ (¬ g = 0 ∧ p = false ∧ e = 0 ∧ g = 0) := by
          rcases hgk with h | h
          · exact .inl h
          · by_cases hh : g = 0
            · exact .inl hh
            · exact .inr ⟨hh, h⟩
        clear hgk
        rcases hgk' with hgk | ⟨hgk, rfl, rfl, rfl⟩
        · subst hgk
          go_wp2_with fail
          exact ⟨⟨i + 1, by omega, by go_num, X7, Y7, Z7, B7, G7⟩, by simp [intOf]; omega⟩
        · first
          | exact absurd rfl hgk
          | (have hgk' : ((0 : Int) != 0) = true := by simp; omega
             go_wp2_with fail
             exact ⟨⟨i + 1, by omega, by go_num, X7, Y7, Z7, B7, G7⟩, by simp [intOf]; omega⟩)
    · have c0' : ¬ ((i : Int) < 2) := by omega
      obtain ⟨l, er, h3⟩ : ∃ l er, Rt.orderT a b e f = (l, er) := ⟨_, _, rfl⟩
      obtain ⟨b1, b2, b3⟩ := ord_bd h3
      have H3 : Hid (Rt.orderT a b e f = (l, er)) := h3
      clear h3 B
      go_wp2_with fail
      refine (order_any a b e f l er H3.out _).mono ?_
      rintro x5 w5 ⟨rfl, hb5⟩
      have X5 := X.call hb5
      have Z5 := Z.call hb5
      have G5 := bt G hb5
      clear X Y Z G hb5 lx cx0 cx1 ly cy0 cy1 lz cz0 cz1
      obtain ⟨lx, cx0, cx1⟩ := id X5
      obtain ⟨lz, cz0, cz1⟩ := id Z5
      rcases b3 with rfl | ⟨rfl, rfl⟩
      · by_cases d1 : 0 < 0
        · first
          | exact absurd d1 (by decide)
          | (go_wp2_with fail
             go_ret
             exact ⟨by simp, G5⟩)
        · by_cases d2 : 0 < l
          · go_wp2_with fail
            go_ret
            exact ⟨by simp, G5⟩
          · obtain ⟨g, hg, hg0⟩ := Rt.order_trans H1.out H3.out (by omega) (by omega)
            have HG : Hid (Rt.orderT a b e f = (g, 0)) := hg
            clear hg
            go_wp2_with fail
            refine (order_any a b e f g 0 HG.out _).mono ?_
            rintro x6 w6 ⟨rfl, hb6⟩
            go_wp2_with fail
            go_ret
            exact ⟨by simp, bt G5 hb6⟩
      · go_wp2_with fail
        go_ret
        exact ⟨by simp, G5⟩

set_option maxRecDepth 100000 in
set_option maxHeartbeats 2000000 in
theorem order_other (k a b c d e f : Int) (b1 : -1 ≤ k) (b2 : k ≤ 1) (hk : (k == 0) = false) (hne : ¬ a = c) (H1 : Hid (Rt.orderT a b c d = (k, 0))) (H2 : Hid (Rt.orderT c d a b = ((-k), 0))) (w : World) :
    Calls Try.prog 6 #[rv a b, rv c d, rv e f] w fun x w' => x = .returned (.bool true) ∧ Below w.heap.size w w' := by
  have X0 : Loc (((w.alloc (.cells #[.int .i64 a, .int .i64 b] 23)).alloc (.cells #[.int .i64 c, .int .i64 d] 23)).alloc (.cells #[.int .i64 e, .int .i64 f] 23)) w.heap.size a b := ((Loc.new w a b).alloc _).alloc _
  have Y0 : Loc (((w.alloc (.cells #[.int .i64 a, .int .i64 b] 23)).alloc (.cells #[.int .i64 c, .int .i64 d] 23)).alloc (.cells #[.int .i64 e, .int .i64 f] 23)) (w.heap.size + 1) c d := by
    have := (Loc.new (w.alloc (.cells #[.int .i64 a, .int .i64 b] 23)) c d).alloc (.cells #[.int .i64 e, .int .i64 f] 23)
    simpa using this
  have Z0 : Loc (((w.alloc (.cells #[.int .i64 a, .int .i64 b] 23)).alloc (.cells #[.int .i64 c, .int .i64 d] 23)).alloc (.cells #[.int .i64 e, .int .i64 f] 23)) (w.heap.size + 1 + 1) e f := by
    have := Loc.new ((w.alloc (.cells #[.int .i64 a, .int .i64 b] 23)).alloc (.cells #[.int .i64 c, .int .i64 d] 23)) e f
    simpa using this
  have G0 : Below w.heap.size w (((w.alloc (.cells #[.int .i64 a, .int .i64 b] 23)).alloc (.cells #[.int .i64 c, .int .i64 d] 23)).alloc (.cells #[.int .i64 e, .int .i64 f] 23)) := bal (bal (ba _ _) _) _
  go_enter Try.func6, Try.ntmps6
  go_wp2_with fail
  refine (alive_any _).mono ?_
  rintro x1 w1 ⟨rfl, hb1⟩
  have X1 := X0.call hb1
  have Y1 := Y0.call hb1
  have Z1 := Z0.call hb1
  have G1 := bt G0 hb1
  clear X0 Y0 Z0 G0 hb1
  obtain ⟨lx, cx0, cx1⟩ := id X1
  obtain ⟨ly, cy0, cy1⟩ := id Y1
  go_wp2_with fail
  refine (order_any a b c d k 0 H1.out _).mono ?_
  rintro x2 w2 ⟨rfl, hb2⟩
  have X2 := X1.call hb2
  have Y2 := Y1.call hb2
  have Z2 := Z1.call hb2
  have G2 := bt G1 hb2
  clear X1 Y1 Z1 G1 hb2 lx cx0 cx1 ly cy0 cy1
  obtain ⟨lx, cx0, cx1⟩ := id X2
  obtain ⟨ly, cy0, cy1⟩ := id Y2
  go_wp2_with fail
  refine (order_any c d a b (-k) 0 H2.out _).mono ?_
  rintro x3 w3 ⟨rfl, hb3⟩
  have X3 := X2.call hb3
  have Y3 := Y2.call hb3
  have Z3 := Z2.call hb3
  have G3 := bt G2 hb3
  clear X2 Y2 Z2 G2 hb3 lx cx0 cx1 ly cy0 cy1
  obtain ⟨lx, cx0, cx1⟩ := id X3
  obtain ⟨ly, cy0, cy1⟩ := id Y3
  go_wp2_with fail
  have X4 := X3.alloc (.cells #[.bool false, .bool true] 4)
  have Y4 := Y3.alloc (.cells #[.bool false, .bool true] 4)
  have Z4 := Z3.alloc (.cells #[.bool false, .bool true] 4)
  have G4 := bal G3 (.cells #[.bool false, .bool true] 4)
  have B4 : Bools (w3.alloc (.cells #[.bool false, .bool true] 4)) w3.heap.size := ⟨by simp, by simp [go_sem], by simp [go_sem]⟩
  clear X3 Y3 Z3 G3 lx cx0 cx1 ly cy0 cy1
  go_loopw [54] (fun q wr => ∃ i : Nat, i ≤ 2 ∧ q = .int .i64 (i : Int) ∧ Loc wr w.heap.size a b ∧ Loc wr (w.heap.size + 1) c d ∧ Loc wr (w.heap.size + 1 + 1) e f ∧ Bools wr w3.heap.size ∧ Below w.heap.size w wr) (fun q _ => 2 - (intOf q).toNat)
  case atStart => exact ⟨0, by omega, rfl, X4, Y4, Z4, B4, G4⟩
  case round =>
    clear X4 Y4 Z4 G4 B4
    obtain ⟨i, hi, rfl, X, Y, Z, B, G⟩ := hrel
    obtain ⟨lx, cx0, cx1⟩ := id X
    obtain ⟨ly, cy0, cy1⟩ := id Y
    obtain ⟨lz, cz0, cz1⟩ := id Z
    by_cases c0 : i < 2
    · have c0' : (i : Int) < 2 := by omega
      have cb := B.at i c0
      have lb := B.lt
      generalize hp : decide (i = 1) = p at cb
      have HPP : Hid (decide (i = 1) = p) := hp
      clear hp
      obtain ⟨n1, m1, o1, t1⟩ : ∃ n m o, Rt.twoT p a b e f = (n, m, o) := ⟨_, _, _, rfl⟩
      obtain ⟨n2, m2, o2, t2⟩ : ∃ n m o, Rt.twoT p c d e f = (n, m, o) := ⟨_, _, _, rfl⟩
      have T1 : Hid (Rt.twoT p a b e f = (n1, m1, o1)) := t1
      have T2 : Hid (Rt.twoT p c d e f = (n2, m2, o2)) := t2
      clear t1 t2
      go_wp2_with fail
      refine (two_any p a b e f n1 m1 o1 T1.out _).mono ?_
      rintro x5 w5 ⟨rfl, hb5⟩
      have X5 := X.call hb5
      have Y5 := Y.call hb5
      have Z5 := Z.call hb5
      have B5 := B.call hb5
      have G5 := bt G hb5
      clear X Y Z B G hb5 lx cx0 cx1 ly cy0 cy1 lz cz0 cz1 cb lb
      obtain ⟨ly, cy0, cy1⟩ := id Y5
      obtain ⟨lz, cz0, cz1⟩ := id Z5
      go_wp2_with fail
      refine (two_any p c d e f n2 m2 o2 T2.out _).mono ?_
      rintro x6 w6 ⟨rfl, hb6⟩
      have X6 := (X5.alloc _).call hb6
      have Y6 := (Y5.alloc _).call hb6
      have Z6 := (Z5.alloc _).call hb6
      have B6 := (B5.alloc _).call hb6
      have A6 := (Loc.new w5 n1 m1).call hb6
      have G6 := bt (bal G5 _) hb6
      clear X5 Y5 Z5 B5 G5 hb6 ly cy0 cy1 lz cz0 cz1
      obtain ⟨la, ca0, ca1⟩ := id A6
      have okk : (o1 = false) ∨ (o1 = true ∧ o2 = false) ∨ (o1 = true ∧ o2 = true) := by cases o1 <;> cases o2 <;> simp
      rcases okk with rfl | ⟨rfl, rfl⟩ | ⟨rfl, rfl⟩
      · go_wp2_with fail
        exact ⟨⟨i + 1, by omega, by go_num, X6.alloc _, Y6.alloc _, Z6.alloc _, B6.alloc _, bal G6 _⟩, by simp [intOf]; omega⟩
      · go_wp2_with fail
        exact ⟨⟨i + 1, by omega, by go_num, X6.alloc _, Y6.alloc _, Z6.alloc _, B6.alloc _, bal G6 _⟩, by simp [intOf]; omega⟩
      · obtain ⟨g, hg, hgk⟩ := Rt.order_op H1.out T1.out T2.out
        have HG : Hid (Rt.orderT n1 m1 n2 m2 = (g, 0)) := hg
        clear hg
        go_wp2_with fail
        refine (order_any n1 m1 n2 m2 g 0 HG.out _).mono ?_
        rintro x7 w7 ⟨rfl, hb7⟩
        have X7 := (X6.alloc _).call hb7
        have Y7 := (Y6.alloc _).call hb7
        have Z7 := (Z6.alloc _).call hb7
        have B7 := (B6.alloc _).call hb7
        have G7 := bt (bal G6 _) hb7
        clear X6 Y6 Z6 B6 G6 hb7 la ca0 ca1 A6
        obtain ⟨lz, cz0, cz1⟩ := id Z7
        have hgk' : g = k ∨ (¬ g = k ∧ p = false ∧ e = 0 ∧ g = 0) := by
          rcases hgk with h | h
          · exact .inl h
          · by_cases hh : g = k
            · exact .inl hh
            · exact .inr ⟨hh, h⟩
        clear hgk
        rcases hgk' with hgk | ⟨hgk, rfl, rfl, rfl⟩
        · subst hgk
          go_wp2_with fail
          exact ⟨⟨i + 1, by omega, by go_num, X7, Y7, Z7, B7, G7⟩, by simp [intOf]; omega⟩
        · first
          | exact absurd rfl hgk
          | (have hgk' : ((0 : Int) != k) = true := by simp; omega
             go_wp2_with fail
             exact ⟨⟨i + 1, by omega, by go_num, X7, Y7, Z7, B7, G7⟩, by simp [intOf]; omega⟩)
    · have c0' : ¬ ((i : Int) < 2) := by omega
      obtain ⟨l, er, h3⟩ : ∃ l er, Rt.orderT c d e f = (l, er) := ⟨_, _, rfl⟩
      obtain ⟨b1, b2, b3⟩ := ord_bd h3
      have H3 : Hid (Rt.orderT c d e f = (l, er)) := h3
      clear h3 B
      go_wp2_with fail
      refine (order_any c d e f l er H3.out _).mono ?_
      rintro x5 w5 ⟨rfl, hb5⟩
      have X5 := X.call hb5
      have Z5 := Z.call hb5
      have G5 := bt G hb5
      clear X Y Z G hb5 lx cx0 cx1 ly cy0 cy1 lz cz0 cz1
      obtain ⟨lx, cx0, cx1⟩ := id X5
      obtain ⟨lz, cz0, cz1⟩ := id Z5
      rcases b3 with rfl | ⟨rfl, rfl⟩
      · by_cases d1 : 0 < k
        · first
          | exact absurd d1 (by decide)
          | (go_wp2_with fail
             go_ret
             exact ⟨by simp, G5⟩)
        · by_cases d2 : 0 < l
          · go_wp2_with fail
            go_ret
            exact ⟨by simp, G5⟩
          · obtain ⟨g, hg, hg0⟩ := Rt.order_trans H1.out H3.out (by omega) (by omega)
            have HG : Hid (Rt.orderT a b e f = (g, 0)) := hg
            clear hg
            go_wp2_with fail
            refine (order_any a b e f g 0 HG.out _).mono ?_
            rintro x6 w6 ⟨rfl, hb6⟩
            go_wp2_with fail
            go_ret
            exact ⟨by simp, bt G5 hb6⟩
      · go_wp2_with fail
        go_ret
        exact ⟨by simp, G5⟩

set_option maxRecDepth 100000 in
set_option maxHeartbeats 2000000 in
theorem order_below (k a b d e f : Int) (b1 : -1 ≤ k) (b2 : k ≤ 1) (hk : (k == 0) = false) (hne : ¬ b = d) (H1 : Hid (Rt.orderT a b a d = (k, 0))) (H2 : Hid (Rt.orderT a d a b = ((-k), 0))) (w : World) :
    Calls Try.prog 6 #[rv a b, rv a d, rv e f] w fun x w' => x = .returned (.bool true) ∧ Below w.heap.size w w' := by
  have X0 : Loc (((w.alloc (.cells #[.int .i64 a, .int .i64 b] 23)).alloc (.cells #[.int .i64 a, .int .i64 d] 23)).alloc (.cells #[.int .i64 e, .int .i64 f] 23)) w.heap.size a b := ((Loc.new w a b).alloc _).alloc _
  have Y0 : Loc (((w.alloc (.cells #[.int .i64 a, .int .i64 b] 23)).alloc (.cells #[.int .i64 a, .int .i64 d] 23)).alloc (.cells #[.int .i64 e, .int .i64 f] 23)) (w.heap.size + 1) a d := by
    have := (Loc.new (w.alloc (.cells #[.int .i64 a, .int .i64 b] 23)) a d).alloc (.cells #[.int .i64 e, .int .i64 f] 23)
    simpa using this
  have Z0 : Loc (((w.alloc (.cells #[.int .i64 a, .int .i64 b] 23)).alloc (.cells #[.int .i64 a, .int .i64 d] 23)).alloc (.cells #[.int .i64 e, .int .i64 f] 23)) (w.heap.size + 1 + 1) e f := by
    have := Loc.new ((w.alloc (.cells #[.int .i64 a, .int .i64 b] 23)).alloc (.cells #[.int .i64 a, .int .i64 d] 23)) e f
    simpa using this
  have G0 : Below w.heap.size w (((w.alloc (.cells #[.int .i64 a, .int .i64 b] 23)).alloc (.cells #[.int .i64 a, .int .i64 d] 23)).alloc (.cells #[.int .i64 e, .int .i64 f] 23)) := bal (bal (ba _ _) _) _
  go_enter Try.func6, Try.ntmps6
  go_wp2_with fail
  refine (alive_any _).mono ?_
  rintro x1 w1 ⟨rfl, hb1⟩
  have X1 := X0.call hb1
  have Y1 := Y0.call hb1
  have Z1 := Z0.call hb1
  have G1 := bt G0 hb1
  clear X0 Y0 Z0 G0 hb1
  obtain ⟨lx, cx0, cx1⟩ := id X1
  obtain ⟨ly, cy0, cy1⟩ := id Y1
  go_wp2_with fail
  refine (order_any a b a d k 0 H1.out _).mono ?_
  rintro x2 w2 ⟨rfl, hb2⟩
  have X2 := X1.call hb2
  have Y2 := Y1.call hb2
  have Z2 := Z1.call hb2
  have G2 := bt G1 hb2
  clear X1 Y1 Z1 G1 hb2 lx cx0 cx1 ly cy0 cy1
  obtain ⟨lx, cx0, cx1⟩ := id X2
  obtain ⟨ly, cy0, cy1⟩ := id Y2
  go_wp2_with fail
  refine (order_any a d a b (-k) 0 H2.out _).mono ?_
  rintro x3 w3 ⟨rfl, hb3⟩
  have X3 := X2.call hb3
  have Y3 := Y2.call hb3
  have Z3 := Z2.call hb3
  have G3 := bt G2 hb3
  clear X2 Y2 Z2 G2 hb3 lx cx0 cx1 ly cy0 cy1
  obtain ⟨lx, cx0, cx1⟩ := id X3
  obtain ⟨ly, cy0, cy1⟩ := id Y3
  go_wp2_with fail
  have X4 := X3.alloc (.cells #[.bool false, .bool true] 4)
  have Y4 := Y3.alloc (.cells #[.bool false, .bool true] 4)
  have Z4 := Z3.alloc (.cells #[.bool false, .bool true] 4)
  have G4 := bal G3 (.cells #[.bool false, .bool true] 4)
  have B4 : Bools (w3.alloc (.cells #[.bool false, .bool true] 4)) w3.heap.size := ⟨by simp, by simp [go_sem], by simp [go_sem]⟩
  clear X3 Y3 Z3 G3 lx cx0 cx1 ly cy0 cy1
  go_loopw [54] (fun q wr => ∃ i : Nat, i ≤ 2 ∧ q = .int .i64 (i : Int) ∧ Loc wr w.heap.size a b ∧ Loc wr (w.heap.size + 1) a d ∧ Loc wr (w.heap.size + 1 + 1) e f ∧ Bools wr w3.heap.size ∧ Below w.heap.size w wr) (fun q _ => 2 - (intOf q).toNat)
  case atStart => exact ⟨0, by omega, rfl, X4, Y4, Z4, B4, G4⟩
  case round =>
    clear X4 Y4 Z4 G4 B4
    obtain ⟨i, hi, rfl, X, Y, Z, B, G⟩ := hrel
    obtain ⟨lx, cx0, cx1⟩ := id X
    obtain ⟨ly, cy0, cy1⟩ := id Y
    obtain ⟨lz, cz0, cz1⟩ := id Z
    by_cases c0 : i < 2
    · have c0' : (i : Int) < 2 := by omega
      have cb := B.at i c0
      have lb := B.lt
      generalize hp : decide (i = 1) = p at cb
      have HPP : Hid (decide (i = 1) = p) := hp
      clear hp
      obtain ⟨n1, m1, o1, t1⟩ : ∃ n m o, Rt.twoT p a b e f = (n, m, o) := ⟨_, _, _, rfl⟩
      obtain ⟨n2, m2, o2, t2⟩ : ∃ n m o, Rt.twoT p a d e f = (n, m, o) := ⟨_, _, _, rfl⟩
      have T1 : Hid (Rt.twoT p a b e f = (n1, m1, o1)) := t1
      have T2 : Hid (Rt.twoT p a d e f = (n2, m2, o2)) := t2
      clear t1 t2
      go_wp2_with fail
      refine (two_any p a b e f n1 m1 o1 T1.out _).mono ?_
      rintro x5 w5 ⟨rfl, hb5⟩
      have X5 := X.call hb5
      have Y5 := Y.call hb5
      have Z5 := Z.call hb5
      have B5 := B.call hb5
      have G5 := bt G hb5
      clear X Y Z B G hb5 lx cx0 cx1 ly cy0 cy1 lz cz0 cz1 cb lb
      obtain ⟨ly, cy0, cy1⟩ := id Y5
      obtain ⟨lz, cz0, cz1⟩ := id Z5
      go_wp2_with fail
      refine (two_any p a d e f n2 m2 o2 T2.out _).mono ?_
      rintro x6 w6 ⟨rfl, hb6⟩
      have X6 := (X5.alloc _).call hb6
      have Y6 := (Y5.alloc _).call hb6
      have Z6 := (Z5.alloc _).call hb6
      have B6 := (B5.alloc _).call hb6
      have A6 := (Loc.new w5 n1 m1).call hb6
      have G6 := bt (bal G5 _) hb6
      clear X5 Y5 Z5 B5 G5 hb6 ly cy0 cy1 lz cz0 cz1
      obtain ⟨la, ca0, ca1⟩ := id A6
      have okk : (o1 = false) ∨ (o1 = true ∧ o2 = false) ∨ (o1 = true ∧ o2 = true) := by cases o1 <;> cases o2 <;> simp
      rcases okk with rfl | ⟨rfl, rfl⟩ | ⟨rfl, rfl⟩
      · go_wp2_with fail
        exact ⟨⟨i + 1, by omega, by go_num, X6.alloc _, Y6.alloc _, Z6.alloc _, B6.alloc _, bal G6 _⟩, by simp [intOf]; omega⟩
      · go_wp2_with fail
        exact ⟨⟨i + 1, by omega, by go_num, X6.alloc _, Y6.alloc _, Z6.alloc _, B6.alloc _, bal G6 _⟩, by simp [intOf]; omega⟩
      · obtain ⟨g, hg, hgk⟩ := Rt.order_op H1.out T1.out T2.out
        have HG : Hid (Rt.orderT n1 m1 n2 m2 = (g, 0)) := hg
        clear hg
        go_wp2_with fail
        refine (order_any n1 m1 n2 m2 g 0 HG.out _).mono ?_
        rintro x7 w7 ⟨rfl, hb7⟩
        have X7 := (X6.alloc _).call hb7
        have Y7 := (Y6.alloc _).call hb7
        have Z7 := (Z6.alloc _).call hb7
        have B7 := (B6.alloc _).call hb7
        have G7 := bt (bal G6 _) hb7
        clear X6 Y6 Z6 B6 G6 hb7 la ca0 ca1 A6
        obtain ⟨lz, cz0, cz1⟩ := id Z7
        have hgk' : g = k ∨ (¬ g = k ∧ p = false ∧ e = 0 ∧ g = 0) := by
          rcases hgk with h | h
          · exact .inl h
          · by_cases hh : g = k
            · exact .inl hh
            · exact .inr ⟨hh, h⟩
        clear hgk
        rcases hgk' with hgk | ⟨hgk, rfl, rfl, rfl⟩
        · subst hgk
          go_wp2_with fail
          exact ⟨⟨i + 1, by omega, by go_num, X7, Y7, Z7, B7, G7⟩, by simp [intOf]; omega⟩
        · first
          | exact absurd rfl hgk
          | (have hgk' : ((0 : Int) != k) = true := by simp; omega
             go_wp2_with fail
             exact ⟨⟨i + 1, by omega, by go_num, X7, Y7, Z7, B7, G7⟩, by simp [intOf]; omega⟩)
    · have c0' : ¬ ((i : Int) < 2) := by omega
      obtain ⟨l, er, h3⟩ : ∃ l er, Rt.orderT a d e f = (l, er) := ⟨_, _, rfl⟩
      obtain ⟨b1, b2, b3⟩ := ord_bd h3
      have H3 : Hid (Rt.orderT a d e f = (l, er)) := h3
      clear h3 B
      go_wp2_with fail
      refine (order_any a d e f l er H3.out _).mono ?_
      rintro x5 w5 ⟨rfl, hb5⟩
      have X5 := X.call hb5
      have Z5 := Z.call hb5
      have G5 := bt G hb5
      clear X Y Z G hb5 lx cx0 cx1 ly cy0 cy1 lz cz0 cz1
      obtain ⟨lx, cx0, cx1⟩ := id X5
      obtain ⟨lz, cz0, cz1⟩ := id Z5
      rcases b3 with rfl | ⟨rfl, rfl⟩
      · by_cases d1 : 0 < k
        · first
          | exact absurd d1 (by decide)
          | (go_wp2_with fail
             go_ret
             exact ⟨by simp, G5⟩)
        · by_cases d2 : 0 < l
          · go_wp2_with fail
            go_ret
            exact ⟨by simp, G5⟩
          · obtain ⟨g, hg, hg0⟩ := Rt.order_trans H1.out H3.out (by omega) (by omega)
            have HG : Hid (Rt.orderT a b e f = (g, 0)) := hg
            clear hg
            go_wp2_with fail
            refine (order_any a b e f g 0 HG.out _).mono ?_
            rintro x6 w6 ⟨rfl, hb6⟩
            go_wp2_with fail
            go_ret
            exact ⟨by simp, bt G5 hb6⟩
      · go_wp2_with fail
        go_ret
        exact ⟨by simp, G5⟩

set_option maxHeartbeats 1000000 in
theorem order_bad (a b c d e f k : Int) (H1 : Hid (Rt.orderT a b c d = (k, 2))) (w : World) :
    Calls Try.prog 6 #[rv a b, rv c d, rv e f] w fun x w' => x = .returned (.bool true) ∧ Below w.heap.size w w' := by
  go_enter Try.func6, Try.ntmps6
  go_wp2_with fail
  refine (alive_any _).mono ?_
  rintro x1 w1 ⟨rfl, hb1⟩
  have G1 := bt (bal (bal (ba _ _) _) _) hb1
  obtain ⟨hc1, hf1⟩ := bcell hb1
  go_wp2_with fail
  refine (order_any a b c d k 2 H1.out _).mono ?_
  rintro x2 w2 ⟨rfl, hb2⟩
  go_wp2_with fail
  go_ret
  exact ⟨by simp, bt G1 hb2⟩

theorem order_walk (a b c d e f : Int) (w : World) :
    Calls Try.prog 6 #[rv a b, rv c d, rv e f] w fun x w' => x = .returned (.bool true) ∧ Below w.heap.size w w' := by
  obtain ⟨k, er, h1⟩ : ∃ k er, Rt.orderT a b c d = (k, er) := ⟨_, _, rfl⟩
  obtain ⟨b1, b2, b3⟩ := ord_bd h1
  rcases b3 with rfl | ⟨rfl, rfl⟩
  · have h2 := Rt.order_swap h1
    have h3 := Rt.order_zero h1
    by_cases hk : k = 0
    · subst hk
      obtain ⟨rfl, rfl⟩ := h3.1 rfl
      exact order_same a b e f h1 h1 w
    · have hk' : (k == 0) = false := by simp; omega
      by_cases ha : a = c
      · subst ha
        exact order_below k a b d e f b1 b2 hk' (fun h => hk (h3.2 ⟨rfl, h⟩)) h1 h2 w
      · exact order_other k a b c d e f b1 b2 hk' ha h1 h2 w
  · exact order_bad a b c d e f 0 h1 w
end Go.Proofs.Ytihgoaceinpkpaa

import Derived.Test.YtidfkencjdjkbaaGreatDoorQo10
/-
  PACKAGE speech: questions in brackets.
-/
namespace Go.Proofs.YtidfkencjdjkbaaGreatDoor
open Go.RowKit Sp

set_option maxHeartbeats 2000000 in
set_option maxRecDepth 100000 in
theorem brk_of {lv lv1 : Int} {q : List Pc → PR Qu} (hq : Qc 22 lv1 q) (hl : IntKind.i64.wrap (lv + 1) = lv1) : Qc 112 lv (brkP q) := by
  intro w R b P0 ps r h hX hr
  have hpl := h.pl
  obtain ⟨W0, hW0⟩ : ∃ W0, w.alloc (.cells #[.int .i64 0, .string ⟨#[]⟩, .int .i64 0, .int .i64 0, .slice none 0 0, .slice none 0 0] 25) = W0 := ⟨_, rfl⟩
  have hb0 : Below w.heap.size w W0 := hW0 ▸ ba _ _
  have HB0 : Hid (Bx W0 w.heap.size z6) := hW0 ▸ Bx.new w z6 25 rfl
  have hz0 : w.heap.size < W0.heap.size := (HB0.out 0 _ rfl).lt
  have HG0 : Hid (w.grownBy W0 (some R)) := gb_below hb0
  have hRl : w.heap.size ≠ R := by omega
  have hPl : w.heap.size ≠ P0 := by omega
  have H0 : Hid (Rdr W0 R P0 ps (.map (some b))) := h.at hb0
  have HX : Hid (Cx w R b) := hX
  unfold brkP at hr
  clear h hX hb0
  by_cases c1 : hd ps = sOpen
  · have k1 := take_yes H0.out sOpen (by decide) c1
    simp only [tk, if_pos c1] at hr
    obtain ⟨r1, hr1⟩ : ∃ r1, q ps.tail = r1 := ⟨_, rfl⟩
    rw [hr1] at hr
    have HRR : Hid _ := hr
    have HQ1 : Hid (q ps.tail = r1) := hr1
    clear hr hr1 c1 H0
    go_enter Tryz.func112, Tryz.ntmps112
    go_wp2_with fail
    clear hW0
    refine k1.mono ?_
    rintro e w1 ⟨rfl, h1, hg1⟩
    have HG1 : Hid (w.grownBy w1 (some R)) := gb_trans HG0.out hg1
    have HB1 : Hid (Bx w1 w.heap.size z6) := HB0.out.gb hg1 hRl
    have hz1 : w.heap.size < w1.heap.size := Nat.lt_of_lt_of_le hz0 hg1.size
    have k2 := hq w1 R b P0 ps.tail r1 h1 (HX.out.gb HG1.out) HQ1.out
    clear k1 hg1 h1 HB0 hz0 HQ1
    go_wp2_with fail
    refine k2.mono ?_
    rintro e w2 ⟨he, hg2⟩
    have HG2 : Hid (w.grownBy w2 (some R)) := gb_trans HG1.out hg2
    have HB2 : Hid (Bx w2 w.heap.size z6) := HB1.out.gb hg2 hRl
    have hz2 : w1.heap.size ≤ w2.heap.size := hg2.size
    clear k2 hg2 HB1
    cases r1 with
    | error x =>
      obtain ⟨c, a⟩ := x
      obtain rfl : .error (c, a) = r := HRR.out
      obtain rfl : e = .panicked (chn c a) := he
      go_wp2
      exact ⟨rfl, rfl, HG2.out⟩
    | ok x =>
      obtain ⟨a1, q1⟩ := x
      obtain ⟨⟨v, rfl, cs, rfl, hqv⟩, h2⟩ := he
      obtain ⟨xk, xc, xl, xh, xa4, xn4, xc4, xa5, xn5, xc5, rfl⟩ := hqv.six
      have HQV : Hid (QV w1.heap.size w2 a1 [.int .i64 xk, .string (tx xc), .int .i64 xl, .int .i64 xh, .slice xa4 xn4 xc4, .slice xa5 xn5 xc5]) := hqv
      obtain ⟨W3, hW3⟩ : ∃ W3, w2.alloc (.cells #[.int .i64 xk, .string (tx xc), .int .i64 xl, .int .i64 xh, .slice xa4 xn4 xc4, .slice xa5 xn5 xc5] 25) = W3 := ⟨_, rfl⟩
      have hb3 : Below w2.heap.size w2 W3 := hW3 ▸ ba _ _
      have HC3 : Hid (Bx W3 w2.heap.size [.int .i64 xk, .string (tx xc), .int .i64 xl, .int .i64 xh, .slice xa4 xn4 xc4, .slice xa5 xn5 xc5]) := hW3 ▸ Bx.new w2 [.int .i64 xk, .string (tx xc), .int .i64 xl, .int .i64 xh, .slice xa4 xn4 xc4, .slice xa5 xn5 xc5] 25 rfl
      have HB3 : Hid (Bx W3 w.heap.size z6) := HB2.out.at hb3
      have H3 : Hid (Rdr W3 R P0 q1 (.map (some b))) := h2.at hb3
      have HG3 : Hid (w.grownBy W3 (some R)) := gb_trans HG2.out (gb_below hb3)
      have HQ3 : Hid (QV w1.heap.size W3 a1 [.int .i64 xk, .string (tx xc), .int .i64 xl, .int .i64 xh, .slice xa4 xn4 xc4, .slice xa5 xn5 xc5]) := QV.kp (Kp.bl hb3) a1 HQV.out
      clear hqv h2 HB2 HQV hb3
      by_cases c2 : hd q1 = sShut
      · have k3 := take_yes H3.out sShut (by decide) c2
        have hq := HRR.out
        simp only [if_pos c2] at hq
        obtain rfl : .ok (a1, q1.tail) = r := hq
        clear c2 HRR H3
        go_wp2_with fail
        clear hW3
        refine k3.mono ?_
        rintro e w4 ⟨rfl, h4, hg4⟩
        have HG4 : Hid (w.grownBy w4 (some R)) := gb_trans HG3.out hg4
        have HB4 : Hid (Bx w4 w.heap.size z6) := HB3.out.gb hg4 hRl
        have HC4 : Hid (Bx w4 w2.heap.size [.int .i64 xk, .string (tx xc), .int .i64 xl, .int .i64 xh, .slice xa4 xn4 xc4, .slice xa5 xn5 xc5]) := HC3.out.gb hg4 (by omega)
        have HQ4 : Hid (QV w1.heap.size w4 a1 [.int .i64 xk, .string (tx xc), .int .i64 xl, .int .i64 xh, .slice xa4 xn4 xc4, .slice xa5 xn5 xc5]) := QV.kp (Kp.gb hg4 (by omega)) a1 HQ3.out
        have H4 : Hid (Rdr w4 R P0 q1.tail (.map (some b))) := h4
        clear k3 hg4 h4 HB3 HC3 HQ3
        have s0 := (HC4.out 0 _ rfl).c
        have s1 := (HC4.out 1 _ rfl).c
        have s2 := (HC4.out 2 _ rfl).c
        have s3 := (HC4.out 3 _ rfl).c
        have s4 := (HC4.out 4 _ rfl).c
        have s5 := (HC4.out 5 _ rfl).c
        have z0 := (HB4.out 0 _ rfl).c
        have z1 := (HB4.out 1 _ rfl).c
        have z2 := (HB4.out 2 _ rfl).c
        have z3 := (HB4.out 3 _ rfl).c
        have z4 := (HB4.out 4 _ rfl).c
        have z5 := (HB4.out 5 _ rfl).c
        have y0 := (HB4.out 0 _ rfl).f
        have y1 := (HB4.out 1 _ rfl).f
        have y2 := (HB4.out 2 _ rfl).f
        have y3 := (HB4.out 3 _ rfl).f
        have y4 := (HB4.out 4 _ rfl).f
        have y5 := (HB4.out 5 _ rfl).f
        obtain ⟨W7, hW7⟩ : ∃ W7, set6 w4 w.heap.size (.int .i64 xk) (.string (tx xc)) (.int .i64 xl) (.int .i64 xh) (.slice xa4 xn4 xc4) (.slice xa5 xn5 xc5) = W7 := ⟨_, rfl⟩
        have HB7 : Hid (Bx W7 w.heap.size [.int .i64 xk, .string (tx xc), .int .i64 xl, .int .i64 xh, .slice xa4 xn4 xc4, .slice xa5 xn5 xc5]) := hW7 ▸ set6_bx HB4.out _ _ _ _ _ _
        have HR7 : Hid (Rdr W7 R P0 q1.tail (.map (some b))) := hW7 ▸ set6_rd H4.out hRl hPl _ _ _ _ _ _
        have HG7 : Hid (w.grownBy W7 (some R)) := hW7 ▸ set6_gb HG4.out (Nat.le_refl _) _ _ _ _ _ _
        have HQ7 : Hid (QV w.heap.size W7 a1 [.int .i64 xk, .string (tx xc), .int .i64 xl, .int .i64 xh, .slice xa4 xn4 xc4, .slice xa5 xn5 xc5]) := hW7 ▸ QV.mono (by omega) a1 (QV.kp (set6_kp hz1 _ _ _ _ _ _) a1 HQ4.out)
        unfold set6 at hW7
        go_wp2
        have x0 := (HB7.out 0 _ rfl).c
        have x1 := (HB7.out 1 _ rfl).c
        have x2 := (HB7.out 2 _ rfl).c
        have x3 := (HB7.out 3 _ rfl).c
        have x4 := (HB7.out 4 _ rfl).c
        have x5 := (HB7.out 5 _ rfl).c
        exact bodyPost_ret (v := .agg #[.int .i64 xk, .string (tx xc), .int .i64 xl, .int .i64 xh, .slice xa4 xn4 xc4, .slice xa5 xn5 xc5]) (by simp [results, Tryz.results112, go_sem, x0, x1, x2, x3, x4, x5]) rfl ⟨⟨⟨_, rfl, _, rfl, HQ7.out⟩, HR7.out⟩, HG7.out⟩
      · have k3 := take_no H3.out sShut c2
        have hq := HRR.out
        simp only [if_neg c2] at hq
        obtain rfl : .error (2, hat q1) = r := hq
        clear c2 HRR
        go_wp2_with fail
        refine k3.mono ?_
        rintro e w4 ⟨rfl, rfl⟩
        go_wp2
        exact ⟨rfl, rfl, HG3.out⟩
  · have k1 := take_no H0.out sOpen c1
    simp only [tk, if_neg c1] at hr
    obtain rfl : .error (2, hat ps) = r := hr
    clear c1
    go_enter Tryz.func112, Tryz.ntmps112
    go_wp2_with fail
    refine k1.mono ?_
    rintro e w1 ⟨rfl, rfl⟩
    go_wp2
    exact ⟨rfl, rfl, HG0.out⟩
end Go.Proofs.YtidfkencjdjkbaaGreatDoor

/-
  PACKAGE speech: two questions in brackets.
-/
namespace Go.Proofs.YtidfkencjdjkbaaGreatDoor
open Go.RowKit Sp

/-- two questions in a row of their own -/
def VB (lo : Nat) (w : World) (p : Qu × Qu) (v : Value) : Prop := ∃ g xs ys, v = .slice (some ⟨g, 0, none⟩) 2 2 ∧ lo ≤ g ∧ g < w.heap.size ∧ QV lo w p.1 xs ∧ QV lo w p.2 ys ∧ ∀ (j : Nat) u, (xs ++ ys)[j]? = some u → w.cell? ⟨g, j, none⟩ = some u
set_option maxHeartbeats 2000000 in
set_option maxRecDepth 100000 in
theorem bth_of {lv lv1 : Int} {q : List Pc → PR Qu} (hq : Qc 22 lv1 q) (hl : IntKind.i64.wrap (lv + 1) = lv1) (w : World) (R b P0 : Nat) (ps : List Pc) (r : PR (Qu × Qu)) (h : Rdr w R P0 ps (.map (some b))) (hX : Cx w R b) (hr : bthP q ps = r) : Calls Tryz.prog 116 #[ptR R, .int .i64 lv] w (RdP w R P0 (.map (some b)) (VB w.heap.size) r) := by
  have hpl := h.pl
  have HX : Hid (Cx w R b) := hX
  unfold bthP at hr
  clear hX
  by_cases c1 : hd ps = sOpen
  · have k1 := take_yes h sOpen (by decide) c1
    simp only [tk, if_pos c1] at hr
    obtain ⟨r1, hr1⟩ : ∃ r1, q ps.tail = r1 := ⟨_, rfl⟩
    rw [hr1] at hr
    have HRR : Hid _ := hr
    have HQ1 : Hid (q ps.tail = r1) := hr1
    clear hr hr1 c1 h
    go_enter Tryz.func116, Tryz.ntmps116
    go_wp2_with fail
    refine k1.mono ?_
    rintro e w1 ⟨rfl, h1, hg1⟩
    have HG1 : Hid (w.grownBy w1 (some R)) := hg1
    have hz1 : w.heap.size ≤ w1.heap.size := hg1.size
    have k2 := hq w1 R b P0 ps.tail r1 h1 (HX.out.gb HG1.out) HQ1.out
    clear k1 hg1 h1 HQ1
    go_wp2_with fail
    refine k2.mono ?_
    rintro e w2 ⟨he, hg2⟩
    have HG2 : Hid (w.grownBy w2 (some R)) := gb_trans HG1.out hg2
    have hz2 : w1.heap.size ≤ w2.heap.size := hg2.size
    clear k2 hg2
    cases r1 with
    | error x =>
      obtain ⟨c, a⟩ := x
      obtain rfl : .error (c, a) = r := HRR.out
      obtain rfl : e = .panicked (chn c a) := he
      go_wp2
      exact ⟨rfl, rfl, HG2.out⟩
    | ok x =>
      obtain ⟨a1, q1⟩ := x
      obtain ⟨⟨v, rfl, cs, rfl, hqv⟩, h2⟩ := he
      obtain ⟨xk, xc, xl, xh, xa4, xn4, xc4, xa5, xn5, xc5, rfl⟩ := hqv.six
      obtain ⟨W3, hW3⟩ : ∃ W3, w2.alloc (.cells #[.int .i64 xk, .string (tx xc), .int .i64 xl, .int .i64 xh, .slice xa4 xn4 xc4, .slice xa5 xn5 xc5] 25) = W3 := ⟨_, rfl⟩
      have hb3 : Below w2.heap.size w2 W3 := hW3 ▸ ba _ _
      have hz3 : w2.heap.size < W3.heap.size := by rw [← hW3]; simp
      have HC3 : Hid (Bx W3 w2.heap.size [.int .i64 xk, .string (tx xc), .int .i64 xl, .int .i64 xh, .slice xa4 xn4 xc4, .slice xa5 xn5 xc5]) := hW3 ▸ Bx.new w2 [.int .i64 xk, .string (tx xc), .int .i64 xl, .int .i64 xh, .slice xa4 xn4 xc4, .slice xa5 xn5 xc5] 25 rfl
      have H3 : Hid (Rdr W3 R P0 q1 (.map (some b))) := h2.at hb3
      have HG3 : Hid (w.grownBy W3 (some R)) := gb_trans HG2.out (gb_below hb3)
      have HQ3 : Hid (QV w1.heap.size W3 a1 [.int .i64 xk, .string (tx xc), .int .i64 xl, .int .i64 xh, .slice xa4 xn4 xc4, .slice xa5 xn5 xc5]) := QV.kp (Kp.bl hb3) a1 hqv
      clear hqv h2 hb3
      by_cases c2 : hd q1 = sComma
      · have k3 := take_yes H3.out sComma (by decide) c2
        have hq4 := HRR.out
        simp only [if_pos c2] at hq4
        obtain ⟨r4, hr4⟩ : ∃ r4, q q1.tail = r4 := ⟨_, rfl⟩
        rw [hr4] at hq4
        have HRR4 : Hid _ := hq4
        have HQ4 : Hid (q q1.tail = r4) := hr4
        clear c2 HRR H3 hq4 hr4
        go_wp2_with fail
        clear hW3
        refine k3.mono ?_
        rintro e w4 ⟨rfl, h4, hg4⟩
        have HG4 : Hid (w.grownBy w4 (some R)) := gb_trans HG3.out hg4
        have hz4 : W3.heap.size ≤ w4.heap.size := hg4.size
        have HC4 : Hid (Bx w4 w2.heap.size [.int .i64 xk, .string (tx xc), .int .i64 xl, .int .i64 xh, .slice xa4 xn4 xc4, .slice xa5 xn5 xc5]) := HC3.out.gb hg4 (by omega)
        have HQV4 : Hid (QV w1.heap.size w4 a1 [.int .i64 xk, .string (tx xc), .int .i64 xl, .int .i64 xh, .slice xa4 xn4 xc4, .slice xa5 xn5 xc5]) := QV.kp (Kp.gb hg4 (by omega)) a1 HQ3.out
        have k5 := hq w4 R b P0 q1.tail r4 h4 (HX.out.gb HG4.out) HQ4.out
        clear k3 hg4 h4 HC3 HQ3 HQ4
        go_wp2_with fail
        refine k5.mono ?_
        rintro e w5 ⟨he, hg5⟩
        have HG5 : Hid (w.grownBy w5 (some R)) := gb_trans HG4.out hg5
        have hz5 : w4.heap.size ≤ w5.heap.size := hg5.size
        have HC5 : Hid (Bx w5 w2.heap.size [.int .i64 xk, .string (tx xc), .int .i64 xl, .int .i64 xh, .slice xa4 xn4 xc4, .slice xa5 xn5 xc5]) := HC4.out.gb hg5 (by omega)
        have HQV5 : Hid (QV w1.heap.size w5 a1 [.int .i64 xk, .string (tx xc), .int .i64 xl, .int .i64 xh, .slice xa4 xn4 xc4, .slice xa5 xn5 xc5]) := QV.kp (Kp.gb hg5 (by omega)) a1 HQV4.out
        clear k5 hg5 HC4 HQV4
        cases r4 with
        | error x =>
          obtain ⟨c, a⟩ := x
          obtain rfl : .error (c, a) = r := HRR4.out
          obtain rfl : e = .panicked (chn c a) := he
          go_wp2
          exact ⟨rfl, rfl, HG5.out⟩
        | ok x =>
          obtain ⟨a5, q5⟩ := x
          obtain ⟨⟨v, rfl, cs, rfl, hqv⟩, h5⟩ := he
          obtain ⟨yk, yc, yl, yh, ya4, yn4, yc4, ya5, yn5, yc5, rfl⟩ := hqv.six
          obtain ⟨W6, hW6⟩ : ∃ W6, w5.alloc (.cells #[.int .i64 yk, .string (tx yc), .int .i64 yl, .int .i64 yh, .slice ya4 yn4 yc4, .slice ya5 yn5 yc5] 25) = W6 := ⟨_, rfl⟩
          have hb6 : Below w5.heap.size w5 W6 := hW6 ▸ ba _ _
          have HD6 : Hid (Bx W6 w5.heap.size [.int .i64 yk, .string (tx yc), .int .i64 yl, .int .i64 yh, .slice ya4 yn4 yc4, .slice ya5 yn5 yc5]) := hW6 ▸ Bx.new w5 [.int .i64 yk, .string (tx yc), .int .i64 yl, .int .i64 yh, .slice ya4 yn4 yc4, .slice ya5 yn5 yc5] 25 rfl
          have HC6 : Hid (Bx W6 w2.heap.size [.int .i64 xk, .string (tx xc), .int .i64 xl, .int .i64 xh, .slice xa4 xn4 xc4, .slice xa5 xn5 xc5]) := HC5.out.at hb6
          have H6 : Hid (Rdr W6 R P0 q5 (.map (some b))) := h5.at hb6
          have HG6 : Hid (w.grownBy W6 (some R)) := gb_trans HG5.out (gb_below hb6)
          have HQX6 : Hid (QV w1.heap.size W6 a1 [.int .i64 xk, .string (tx xc), .int .i64 xl, .int .i64 xh, .slice xa4 xn4 xc4, .slice xa5 xn5 xc5]) := QV.kp (Kp.bl hb6) a1 HQV5.out
          have HQY6 : Hid (QV w4.heap.size W6 a5 [.int .i64 yk, .string (tx yc), .int .i64 yl, .int .i64 yh, .slice ya4 yn4 yc4, .slice ya5 yn5 yc5]) := QV.kp (Kp.bl hb6) a5 hqv
          clear hqv h5 hb6 HC5 HQV5
          by_cases c3 : hd q5 = sShut
          · have k7 := take_yes H6.out sShut (by decide) c3
            have hq7 := HRR4.out
            simp only [if_pos c3] at hq7
            obtain rfl : .ok ((a1, a5), q5.tail) = r := hq7
            clear c3 HRR4 H6
            go_wp2_with fail
            clear hW6
            refine k7.mono ?_
            rintro e w7 ⟨rfl, h7, hg7⟩
            have HG7 : Hid (w.grownBy w7 (some R)) := gb_trans HG6.out hg7
            have HC7 : Hid (Bx w7 w2.heap.size [.int .i64 xk, .string (tx xc), .int .i64 xl, .int .i64 xh, .slice xa4 xn4 xc4, .slice xa5 xn5 xc5]) := HC6.out.gb hg7 (by omega)
            have HD7 : Hid (Bx w7 w5.heap.size [.int .i64 yk, .string (tx yc), .int .i64 yl, .int .i64 yh, .slice ya4 yn4 yc4, .slice ya5 yn5 yc5]) := HD6.out.gb hg7 (by omega)
            have HQX7 : Hid (QV w1.heap.size w7 a1 [.int .i64 xk, .string (tx xc), .int .i64 xl, .int .i64 xh, .slice xa4 xn4 xc4, .slice xa5 xn5 xc5]) := QV.kp (Kp.gb hg7 (by omega)) a1 HQX6.out
            have HQY7 : Hid (QV w4.heap.size w7 a5 [.int .i64 yk, .string (tx yc), .int .i64 yl, .int .i64 yh, .slice ya4 yn4 yc4, .slice ya5 yn5 yc5]) := QV.kp (Kp.gb hg7 (by omega)) a5 HQY6.out
            have H7 : Hid (Rdr w7 R P0 q5.tail (.map (some b))) := h7
            clear k7 hg7 h7 HC6 HD6 HQX6 HQY6
            have s0 := (HC7.out 0 _ rfl).c
            have s1 := (HC7.out 1 _ rfl).c
            have s2 := (HC7.out 2 _ rfl).c
            have s3 := (HC7.out 3 _ rfl).c
            have s4 := (HC7.out 4 _ rfl).c
            have s5 := (HC7.out 5 _ rfl).c
            have z0 := (HD7.out 0 _ rfl).c
            have z1 := (HD7.out 1 _ rfl).c
            have z2 := (HD7.out 2 _ rfl).c
            have z3 := (HD7.out 3 _ rfl).c
            have z4 := (HD7.out 4 _ rfl).c
            have z5 := (HD7.out 5 _ rfl).c
            obtain ⟨W8, hW8⟩ : ∃ W8, w7.alloc (.cells #[.int .i64 xk, .string (tx xc), .int .i64 xl, .int .i64 xh, .slice xa4 xn4 xc4, .slice xa5 xn5 xc5, .int .i64 yk, .string (tx yc), .int .i64 yl, .int .i64 yh, .slice ya4 yn4 yc4, .slice ya5 yn5 yc5] 25) = W8 := ⟨_, rfl⟩
            have hb8 : Below w7.heap.size w7 W8 := hW8 ▸ ba _ _
            have HE8 : Hid (Bx W8 w7.heap.size ([.int .i64 xk, .string (tx xc), .int .i64 xl, .int .i64 xh, .slice xa4 xn4 xc4, .slice xa5 xn5 xc5] ++ [.int .i64 yk, .string (tx yc), .int .i64 yl, .int .i64 yh, .slice ya4 yn4 yc4, .slice ya5 yn5 yc5])) := by
              rw [Hid, ← hW8]
              exact Bx.new w7 [.int .i64 xk, .string (tx xc), .int .i64 xl, .int .i64 xh, .slice xa4 xn4 xc4, .slice xa5 xn5 xc5, .int .i64 yk, .string (tx yc), .int .i64 yl, .int .i64 yh, .slice ya4 yn4 yc4, .slice ya5 yn5 yc5] 25 rfl
            have HV8 : Hid (VB w.heap.size W8 (a1, a5) (.slice (some ⟨w7.heap.size, 0, none⟩) 2 2)) := ⟨w7.heap.size, _, _, rfl, HG7.out.size, (HE8.out 0 _ rfl).lt, QV.mono hz1 a1 (QV.kp (Kp.bl hb8) a1 HQX7.out), QV.mono (by omega) a5 (QV.kp (Kp.bl hb8) a5 HQY7.out), fun j u hu => (HE8.out j u hu).c⟩
            have HG8 : Hid (w.grownBy W8 (some R)) := gb_trans HG7.out (gb_below hb8)
            have H8 : Hid (Rdr W8 R P0 q5.tail (.map (some b))) := H7.out.at hb8
            clear HE8 hb8
            go_wp2
            go_ret
            exact ⟨⟨⟨_, rfl, HV8.out⟩, H8.out⟩, HG8.out⟩
          · have k7 := take_no H6.out sShut c3
            have hq7 := HRR4.out
            simp only [if_neg c3] at hq7
            obtain rfl : .error (2, hat q5) = r := hq7
            clear c3 HRR4
            go_wp2_with fail
            refine k7.mono ?_
            rintro e w7 ⟨rfl, rfl⟩
            go_wp2
            exact ⟨rfl, rfl, HG6.out⟩
      · have k3 := take_no H3.out sComma c2
        have hq4 := HRR.out
        simp only [if_neg c2] at hq4
        obtain rfl : .error (2, hat q1) = r := hq4
        clear c2 HRR
        go_wp2_with fail
        refine k3.mono ?_
        rintro e w4 ⟨rfl, rfl⟩
        go_wp2
        exact ⟨rfl, rfl, HG3.out⟩
  · have k1 := take_no h sOpen c1
    simp only [tk, if_neg c1] at hr
    obtain rfl : .error (2, hat ps) = r := hr
    clear c1 h
    go_enter Tryz.func116, Tryz.ntmps116
    go_wp2_with fail
    refine k1.mono ?_
    rintro e w1 ⟨rfl, rfl⟩
    go_wp2
    exact ⟨rfl, rfl, gb_refl _ _⟩
end Go.Proofs.YtidfkencjdjkbaaGreatDoor

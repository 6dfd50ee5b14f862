import Derived.Test.YtidfkencjdjkbaaDoorQr13
/-
  PACKAGE speech: two questions in brackets.
-/
namespace Go.Proofs.YtidfkencjdjkbaaDoor
open Go.RowKit Sp

/-- two questions in a row of their own -/
def VB (lo : Nat) (w : World) (p : Qu × Qu) (v : Value) : Prop := ∃ g xs ys, v = .slice (some ⟨g, 0, none⟩) 2 2 ∧ lo ≤ g ∧ g < w.heap.size ∧ QV lo w p.1 xs ∧ QV lo w p.2 ys ∧ ∀ (j : Nat) u, (xs ++ ys)[j]? = some u → w.cell? ⟨g, j, none⟩ = some u
set_option maxHeartbeats 2000000 in
set_option maxRecDepth 100000 in
theorem bth_of {lv lv1 : Int} {q : List Pc → PR Qu} (hq : Qc 15 lv1 q) (hl : IntKind.i64.wrap (lv + 1) = lv1) (w : World) (R b P0 : Nat) (ps : List Pc) (r : PR (Qu × Qu)) (h : Rdr w R P0 ps (.map (some b))) (hX : Cx w R b) (hr : bthP q ps = r) : Calls Tryd.prog 81 #[ptR R, .int .i64 lv] w (RdP w R P0 (.map (some b)) (VB w.heap.size) r) := by
  have hpl := h.pl
  have HX : Hid (Cx w R b) := hX
  unfold bthP at hr
  clear hX
  by_cases c1 : hd ps = sOpen
  · have k1 := take_yes h sOpen (by decide) c1
    simp only [tk, if_pos c1] at hr
    obtain ⟨r1, hr1⟩ : ∃ r1, q ps.tail = r1 := ⟨_, rfl⟩
    rw [hr1] at hr
    have HRR : Hid _ := hr
    have HQ1 : Hid (q ps.tail = r1) := hr1
    clear hr hr1 c1 h
    go_enter Tryd.func81, Tryd.ntmps81
    go_wp2_with fail
    refine k1.mono ?_
    rintro e w1 ⟨rfl, h1, hg1⟩
    have HG1 : Hid (w.grownBy w1 (some R)) := hg1
    have hz1 : w.heap.size ≤ w1.heap.size := hg1.size
    have k2 := hq w1 R b P0 ps.tail r1 h1 (HX.out.gb HG1.out) HQ1.out
    clear k1 hg1 h1 HQ1
    go_wp2_with fail
    refine k2.mono ?_
    rintro e w2 ⟨he, hg2⟩
    have HG2 : Hid (w.grownBy w2 (some R)) := gb_trans HG1.out hg2
    have hz2 : w1.heap.size ≤ w2.heap.size := hg2.size
    clear k2 hg2
    cases r1 with
    | error x =>
      obtain ⟨c, a⟩ := x
      obtain rfl : .error (c, a) = r := HRR.out
      obtain rfl : e = .panicked (chn c a) := he
      go_wp2
      exact ⟨rfl, rfl, HG2.out⟩
    | ok x =>
      obtain ⟨a1, q1⟩ := x
      obtain ⟨⟨v, rfl, cs, rfl, hqv⟩, h2⟩ := he
      obtain ⟨xk, xc, xl, xh, xa4, xn4, xc4, xa5, xn5, xc5, rfl⟩ := hqv.six
      obtain ⟨W3, hW3⟩ : ∃ W3, w2.alloc (.cells #[.int .i64 xk, .string (tx xc), .int .i64 xl, .int .i64 xh, .slice xa4 xn4 xc4, .slice xa5 xn5 xc5] 25) = W3 := ⟨_, rfl⟩
      have hb3 : Below w2.heap.size w2 W3 := hW3 ▸ ba _ _
      have hz3 : w2.heap.size < W3.heap.size := by rw [← hW3]; simp
      have HC3 : Hid (Bx W3 w2.heap.size [.int .i64 xk, .string (tx xc), .int .i64 xl, .int .i64 xh, .slice xa4 xn4 xc4, .slice xa5 xn5 xc5]) := hW3 ▸ Bx.new w2 [.int .i64 xk, .string (tx xc), .int .i64 xl, .int .i64 xh, .slice xa4 xn4 xc4, .slice xa5 xn5 xc5] 25 rfl
      have H3 : Hid (Rdr W3 R P0 q1 (.map (some b))) := h2.at hb3
      have HG3 : Hid (w.grownBy W3 (some R)) := gb_trans HG2.out (gb_below hb3)
      have HQ3 : Hid (QV w1.heap.size W3 a1 [.int .i64 xk, .string (tx xc), .int .i64 xl, .int .i64 xh, .slice xa4 xn4 xc4, .slice xa5 xn5 xc5]) := QV.kp (Kp.bl hb3) a1 hqv
      clear hqv h2 hb3
      by_cases c2 : hd q1 = sComma
      · have k3 := take_yes H3.out sComma (by decide) c2
        have hq4 := HRR.out
        simp only [if_pos c2] at hq4
        obtain ⟨r4, hr4⟩ : ∃ r4, q q1.tail = r4 := ⟨_, rfl⟩
        rw [hr4] at hq4
        have HRR4 : Hid _ := hq4
        have HQ4 : Hid (q q1.tail = r4) := hr4
        clear c2 HRR H3 hq4 hr4
        go_wp2_with fail
        clear hW3
        refine k3.mono ?_
        rintro e w4 ⟨rfl, h4, hg4⟩
        have HG4 : Hid (w.grownBy w4 (some R)) := gb_trans HG3.out hg4
        have hz4 : W3.heap.size ≤ w4.heap.size := hg4.size
        have HC4 : Hid (Bx w4 w2.heap.size [.int .i64 xk, .string (tx xc), .int .i64 xl, .int .i64 xh, .slice xa4 xn4 xc4, .slice xa5 xn5 xc5]) := HC3.out.gb hg4 (by omega)
        have HQV4 : Hid (QV w1.heap.size w4 a1 [.int .i64 xk, .string (tx xc), .int .i64 xl, .int .i64 xh, .slice xa4 xn4 xc4, .slice xa5 xn5 xc5]) := QV.kp (Kp.gb hg4 (by omega)) a1 HQ3.out
        have k5 := hq w4 R b P0 q1.tail r4 h4 (HX.out.gb HG4.out) HQ4.out
        clear k3 hg4 h4 HC3 HQ3 HQ4
        go_wp2_with fail
        refine k5.mono ?_
        rintro e w5 ⟨he, hg5⟩
        have HG5 : Hid (w.grownBy w5 (some R)) := gb_trans HG4.out hg5
        have hz5 : w4.heap.size ≤ w5.heap.size := hg5.size
        have HC5 : Hid (Bx w5 w2.heap.size [.int .i64 xk, .string (tx xc), .int .i64 xl, .int .i64 xh, .slice xa4 xn4 xc4, .slice xa5 xn5 xc5]) := HC4.out.gb hg5 (by omega)
        have HQV5 : Hid (QV w1.heap.size w5 a1 [.int .i64 xk, .string (tx xc), .int .i64 xl, .int .i64 xh, .slice xa4 xn4 xc4, .slice xa5 xn5 xc5]) := QV.kp (Kp.gb hg5 (by omega)) a1 HQV4.out
        clear k5 hg5 HC4 HQV4
        cases r4 with
        | error x =>
          obtain ⟨c, a⟩ := x
          obtain rfl : .error (c, a) = r := HRR4.out
          obtain rfl : e = .panicked (chn c a) := he
          go_wp2
          exact ⟨rfl, rfl, HG5.out⟩
        | ok x =>
          obtain ⟨a5, q5⟩ := x
          obtain ⟨⟨v, rfl, cs, rfl, hqv⟩, h5⟩ := he
          obtain ⟨yk, yc, yl, yh, ya4, yn4, yc4, ya5, yn5, yc5, rfl⟩ := hqv.six
          obtain ⟨W6, hW6⟩ : ∃ W6, w5.alloc (.cells #[.int .i64 yk, .string (tx yc), .int .i64 yl, .int .i64 yh, .slice ya4 yn4 yc4, .slice ya5 yn5 yc5] 25) = W6 := ⟨_, rfl⟩
          have hb6 : Below w5.heap.size w5 W6 := hW6 ▸ ba _ _
          have HD6 : Hid (Bx W6 w5.heap.size [.int .i64 yk, .string (tx yc), .int .i64 yl, .int .i64 yh, .slice ya4 yn4 yc4, .slice ya5 yn5 yc5]) := hW6 ▸ Bx.new w5 [.int .i64 yk, .string (tx yc), .int .i64 yl, .int .i64 yh, .slice ya4 yn4 yc4, .slice ya5 yn5 yc5] 25 rfl
          have HC6 : Hid (Bx W6 w2.heap.size [.int .i64 xk, .string (tx xc), .int .i64 xl, .int .i64 xh, .slice xa4 xn4 xc4, .slice xa5 xn5 xc5]) := HC5.out.at hb6
          have H6 : Hid (Rdr W6 R P0 q5 (.map (some b))) := h5.at hb6
          have HG6 : Hid (w.grownBy W6 (some R)) := gb_trans HG5.out (gb_below hb6)
          have HQX6 : Hid (QV w1.heap.size W6 a1 [.int .i64 xk, .string (tx xc), .int .i64 xl, .int .i64 xh, .slice xa4 xn4 xc4, .slice xa5 xn5 xc5]) := QV.kp (Kp.bl hb6) a1 HQV5.out
          have HQY6 : Hid (QV w4.heap.size W6 a5 [.int .i64 yk, .string (tx yc), .int .i64 yl, .int .i64 yh, .slice ya4 yn4 yc4, .slice ya5 yn5 yc5]) := QV.kp (Kp.bl hb6) a5 hqv
          clear hqv h5 hb6 HC5 HQV5
          by_cases c3 : hd q5 = sShut
          · have k7 := take_yes H6.out sShut (by decide) c3
            have hq7 := HRR4.out
            simp only [if_pos c3] at hq7
            obtain rfl : .ok ((a1, a5), q5.tail) = r := hq7
            clear c3 HRR4 H6
            go_wp2_with fail
            clear hW6
            refine k7.mono ?_
            rintro e w7 ⟨rfl, h7, hg7⟩
            have HG7 : Hid (w.grownBy w7 (some R)) := gb_trans HG6.out hg7
            have HC7 : Hid (Bx w7 w2.heap.size [.int .i64 xk, .string (tx xc), .int .i64 xl, .int .i64 xh, .slice xa4 xn4 xc4, .slice xa5 xn5 xc5]) := HC6.out.gb hg7 (by omega)
            have HD7 : Hid (Bx w7 w5.heap.size [.int .i64 yk, .string (tx yc), .int .i64 yl, .int .i64 yh, .slice ya4 yn4 yc4, .slice ya5 yn5 yc5]) := HD6.out.gb hg7 (by omega)
            have HQX7 : Hid (QV w1.heap.size w7 a1 [.int .i64 xk, .string (tx xc), .int .i64 xl, .int .i64 xh, .slice xa4 xn4 xc4, .slice xa5 xn5 xc5]) := QV.kp (Kp.gb hg7 (by omega)) a1 HQX6.out
            have HQY7 : Hid (QV w4.heap.size w7 a5 [.int .i64 yk, .string (tx yc), .int .i64 yl, .int .i64 yh, .slice ya4 yn4 yc4, .slice ya5 yn5 yc5]) := QV.kp (Kp.gb hg7 (by omega)) a5 HQY6.out
            have H7 : Hid (Rdr w7 R P0 q5.tail (.map (some b))) := h7
            clear k7 hg7 h7 HC6 HD6 HQX6 HQY6
            have s0 := (HC7.out 0 _ rfl).c
            have s1 := (HC7.out 1 _ rfl).c
            have s2 := (HC7.out 2 _ rfl).c
            have s3 := (HC7.out 3 _ rfl).c
            have s4 := (HC7.out 4 _ rfl).c
            have s5 := (HC7.out 5 _ rfl).c
            have z0 := (HD7.out 0 _ rfl).c
            have z1 := (HD7.out 1 _ rfl).c
            have z2 := (HD7.out 2 _ rfl).c
            have z3 := (HD7.out 3 _ rfl).c
            have z4 := (HD7.out 4 _ rfl).c
            have z5 := (HD7.out 5 _ rfl).c
            obtain ⟨W8, hW8⟩ : ∃ W8, w7.alloc (.cells #[.int .i64 xk, .string (tx xc), .int .i64 xl, .int .i64 xh, .slice xa4 xn4 xc4, .slice xa5 xn5 xc5, .int .i64 yk, .string (tx yc), .int .i64 yl, .int .i64 yh, .slice ya4 yn4 yc4, .slice ya5 yn5 yc5] 25) = W8 := ⟨_, rfl⟩
            have hb8 : Below w7.heap.size w7 W8 := hW8 ▸ ba _ _
            have HE8 : Hid (Bx W8 w7.heap.size ([.int .i64 xk, .string (tx xc), .int .i64 xl, .int .i64 xh, .slice xa4 xn4 xc4, .slice xa5 xn5 xc5] ++ [.int .i64 yk, .string (tx yc), .int .i64 yl, .int .i64 yh, .slice ya4 yn4 yc4, .slice ya5 yn5 yc5])) := by
              rw [Hid, ← hW8]
              exact Bx.new w7 [.int .i64 xk, .string (tx xc), .int .i64 xl, .int .i64 xh, .slice xa4 xn4 xc4, .slice xa5 xn5 xc5, .int .i64 yk, .string (tx yc), .int .i64 yl, .int .i64 yh, .slice ya4 yn4 yc4, .slice ya5 yn5 yc5] 25 rfl
            have HV8 : Hid (VB w.heap.size W8 (a1, a5) (.slice (some ⟨w7.heap.size, 0, none⟩) 2 2)) := ⟨w7.heap.size, _, _, rfl, HG7.out.size, (HE8.out 0 _ rfl).lt, QV.mono hz1 a1 (QV.kp (Kp.bl hb8) a1 HQX7.out), QV.mono (by omega) a5 (QV.kp (Kp.bl hb8) a5 HQY7.out), fun j u hu => (HE8.out j u hu).c⟩
            have HG8 : Hid (w.grownBy W8 (some R)) := gb_trans HG7.out (gb_below hb8)
            have H8 : Hid (Rdr W8 R P0 q5.tail (.map (some b))) := H7.out.at hb8
            clear HE8 hb8
            go_wp2
            go_ret
            exact ⟨⟨⟨_, rfl, HV8.out⟩, H8.out⟩, HG8.out⟩
          · have k7 := take_no H6.out sShut c3
            have hq7 := HRR4.out
            simp only [if_neg c3] at hq7
            obtain rfl : .error (2, hat q5) = r := hq7
            clear c3 HRR4
            go_wp2_with fail
            refine k7.mono ?_
            rintro e w7 ⟨rfl, rfl⟩
            go_wp2
            exact ⟨rfl, rfl, HG6.out⟩
      · have k3 := take_no H3.out sComma c2
        have hq4 := HRR.out
        simp only [if_neg c2] at hq4
        obtain rfl : .error (2, hat q1) = r := hq4
        clear c2 HRR
        go_wp2_with fail
        refine k3.mono ?_
        rintro e w4 ⟨rfl, rfl⟩
        go_wp2
        exact ⟨rfl, rfl, HG3.out⟩
  · have k1 := take_no h sOpen c1
    simp only [tk, if_neg c1] at hr
    obtain rfl : .error (2, hat ps) = r := hr
    clear c1 h
    go_enter Tryd.func81, Tryd.ntmps81
    go_wp2_with fail
    refine k1.mono ?_
    rintro e w1 ⟨rfl, rfl⟩
    go_wp2
    exact ⟨rfl, rfl, gb_refl _ _⟩
end Go.Proofs.YtidfkencjdjkbaaDoor

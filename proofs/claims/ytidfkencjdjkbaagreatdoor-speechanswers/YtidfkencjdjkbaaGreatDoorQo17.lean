import Derived.Test.YtidfkencjdjkbaaGreatDoorQo16
import Derived.Test.YtidfkencjdjkbaaGreatDoorQo05
import Derived.Test.YtidfkencjdjkbaaGreatDoorQo10
/-
  PACKAGE speech: products, and the grammar whole.
-/
namespace Go.Proofs.YtidfkencjdjkbaaGreatDoor
open Go.RowKit Sp

set_option maxHeartbeats 2000000 in
theorem prd_zero : Qc 47 65 (prdP 0) := by
  intro w R b P0 ps r h hX hr
  have hpl := h.pl
  obtain ⟨W0, hW0⟩ : ∃ W0, w.alloc (.cells #[.int .i64 0, .string ⟨#[]⟩, .int .i64 0, .int .i64 0, .slice none 0 0, .slice none 0 0] 25) = W0 := ⟨_, rfl⟩
  have hb0 : Below w.heap.size w W0 := hW0 ▸ ba _ _
  have HB0 : Hid (Bx W0 w.heap.size z6) := hW0 ▸ Bx.new w z6 25 rfl
  have hz0 : w.heap.size < W0.heap.size := (HB0.out 0 _ rfl).lt
  have HG0 : Hid (w.grownBy W0 (some R)) := gb_below hb0
  have hRl : w.heap.size ≠ R := by omega
  have hPl : w.heap.size ≠ P0 := by omega
  have H0 : Hid (Rdr W0 R P0 ps (.map (some b))) := h.at hb0
  have HX : Hid (Cx w R b) := hX
  obtain rfl : .error (4, hat ps) = r := by rw [← hr]; rfl
  have k1 := pmust_no H0.out 4
  clear h hX hr
  go_enter Tryz.func47, Tryz.ntmps47
  go_wp2_with fail
  refine k1.mono ?_
  rintro e w1 ⟨rfl, rfl⟩
  go_wp2
  exact ⟨rfl, rfl, HG0.out⟩
set_option maxHeartbeats 4000000 in
set_option maxRecDepth 100000 in
theorem prd_of {lv lv1 : Int} {k : Nat} (hlv : lv ≤ 64) (hl : IntKind.i64.wrap (lv + 1) = lv1) (hpk : Qc 84 lv (pikP (qusP (prdP k) 64) 64)) (hpr : Qc 47 lv1 (prdP k)) : Qc 47 lv (prdP (k + 1)) := by
  intro w R b P0 ps r h hX hr
  have hpl := h.pl
  obtain ⟨W0, hW0⟩ : ∃ W0, w.alloc (.cells #[.int .i64 0, .string ⟨#[]⟩, .int .i64 0, .int .i64 0, .slice none 0 0, .slice none 0 0] 25) = W0 := ⟨_, rfl⟩
  have hb0 : Below w.heap.size w W0 := hW0 ▸ ba _ _
  have HB0 : Hid (Bx W0 w.heap.size z6) := hW0 ▸ Bx.new w z6 25 rfl
  have hz0 : w.heap.size < W0.heap.size := (HB0.out 0 _ rfl).lt
  have HG0 : Hid (w.grownBy W0 (some R)) := gb_below hb0
  have hRl : w.heap.size ≠ R := by omega
  have hPl : w.heap.size ≠ P0 := by omega
  have H0 : Hid (Rdr W0 R P0 ps (.map (some b))) := h.at hb0
  have HX : Hid (Cx w R b) := hX
  have HX0 : Hid (Cx W0 R b) := hX.at hb0
  have km := pmust_ok H0.out 4
  unfold prdP at hr
  have HRR : Hid _ := hr
  obtain ⟨P, o, n, c, -, -, -, -, -, -, -, -, hlen, -, -, -⟩ := H0.out.head
  clear h hX hr hb0
  go_enter Tryz.func47, Tryz.ntmps47
  go_wp2_with fail
  clear hW0
  refine km.mono ?_
  rintro e wm ⟨rfl, rfl⟩
  clear km
  by_cases c1 : hd ps = sMinus
  · have k0 := is_any H0.out sMinus true (by simpa using c1)
    have HSN : Hid (hd ps = sMinus ∨ fstD (hd ps) = true) := .inl c1
    clear c1
    go_wp2_with fail
    refine k0.mono ?_
    rintro e wm ⟨rfl, rfl⟩
    clear k0
    obtain ⟨r1, hr1⟩ : ∃ r1, sgnP ps = r1 := ⟨_, rfl⟩
    have hq := HRR.out
    rw [if_pos HSN.out, hr1] at hq
    have HRR1 : Hid _ := hq
    have k1 := signed_any H0.out HX0.out r1 hr1
    clear hq hr1 HRR
    go_wp2_with fail
    refine k1.mono ?_
    rintro e w1 ⟨he, hg1⟩
    have HG1 : Hid (w.grownBy w1 (some R)) := gb_trans HG0.out hg1
    have HB1 : Hid (Bx w1 w.heap.size z6) := HB0.out.gb hg1 hRl
    have hz1 : w.heap.size < w1.heap.size := Nat.lt_of_lt_of_le hz0 hg1.size
    clear k1 hg1
    cases r1 with
    | error x =>
      obtain ⟨c, a⟩ := x
      obtain rfl : .error (c, a) = r := HRR1.out
      obtain rfl : e = .panicked (chn c a) := he
      go_wp2
      exact ⟨rfl, rfl, HG1.out⟩
    | ok x =>
      obtain ⟨n1, q1⟩ := x
      obtain ⟨⟨v, rfl, rfl⟩, h1⟩ := he
      by_cases c3 : hd q1 = sStar
      · have k2 := take_yes h1 sStar (by decide) c3
        have hq := HRR1.out
        simp only [tk, if_pos c3] at hq
        obtain ⟨r3, hr3⟩ : ∃ r3, prdP k q1.tail = r3 := ⟨_, rfl⟩
        rw [hr3] at hq
        have HRR3 : Hid _ := hq
        have HP3 : Hid (prdP k q1.tail = r3) := hr3
        clear hq hr3 c3 h1 HRR1
        go_wp2_with fail
        refine k2.mono ?_
        rintro e w2 ⟨rfl, h2, hg2⟩
        have HG2 : Hid (w.grownBy w2 (some R)) := gb_trans HG1.out hg2
        have HB2 : Hid (Bx w2 w.heap.size z6) := HB1.out.gb hg2 hRl
        have hz2 : w1.heap.size ≤ w2.heap.size := hg2.size
        have k3 := hpr w2 R b P0 q1.tail r3 h2 (HX.out.gb HG2.out) HP3.out
        clear k2 hg2 h2 HB1 HG1 HP3
        go_wp2_with fail
        refine k3.mono ?_
        rintro e w3 ⟨he, hg3⟩
        have HG3 : Hid (w.grownBy w3 (some R)) := gb_trans HG2.out hg3
        have HB3 : Hid (Bx w3 w.heap.size z6) := HB2.out.gb hg3 hRl
        have hz3 : w2.heap.size ≤ w3.heap.size := hg3.size
        clear k3 hg3 HB2 HG2
        cases r3 with
        | error x =>
          obtain ⟨c, a⟩ := x
          obtain rfl : .error (c, a) = r := HRR3.out
          obtain rfl : e = .panicked (chn c a) := he
          go_wp2
          exact ⟨rfl, rfl, HG3.out⟩
        | ok x =>
          obtain ⟨a3, q3⟩ := x
          obtain ⟨⟨v, rfl, cs, rfl, hqv⟩, h3⟩ := he
          obtain ⟨yk, yc, yl, yh, ya4, yn4, yc4, ya5, yn5, yc5, rfl⟩ := hqv.six
          obtain rfl : .ok (.node 6 [] n1 0 [] 1 a3 .none, q3) = r := HRR3.out
          obtain ⟨W4, hW4⟩ : ∃ W4, w3.alloc (.cells #[.int .i64 yk, .string (tx yc), .int .i64 yl, .int .i64 yh, .slice ya4 yn4 yc4, .slice ya5 yn5 yc5] 25) = W4 := ⟨_, rfl⟩
          have hb4 : Below w3.heap.size w3 W4 := hW4 ▸ ba _ _
          have HK4 : Hid (Bx W4 w3.heap.size [.int .i64 yk, .string (tx yc), .int .i64 yl, .int .i64 yh, .slice ya4 yn4 yc4, .slice ya5 yn5 yc5]) := hW4 ▸ Bx.new w3 [.int .i64 yk, .string (tx yc), .int .i64 yl, .int .i64 yh, .slice ya4 yn4 yc4, .slice ya5 yn5 yc5] 25 rfl
          have HRz : Hid (Rdr W4 R P0 q3 (.map (some b))) := h3.at hb4
          have HGz : Hid (w.grownBy W4 (some R)) := gb_trans HG3.out (gb_below hb4)
          have HBz : Hid (Bx W4 w.heap.size z6) := HB3.out.at hb4
          have HQ4 : Hid (QV w2.heap.size W4 a3 [.int .i64 yk, .string (tx yc), .int .i64 yl, .int .i64 yh, .slice ya4 yn4 yc4, .slice ya5 yn5 yc5]) := QV.kp (Kp.bl hb4) a3 hqv
          have hz4 : w3.heap.size < W4.heap.size := (HK4.out 0 _ rfl).lt
          have h3n : w.heap.size ≠ w3.heap.size := by omega
          clear hqv h3 hb4
          have z0 := (HBz.out 0 _ rfl).c
          have y0 := (HBz.out 0 _ rfl).f
          have z1 := (HBz.out 1 _ rfl).c
          have y1 := (HBz.out 1 _ rfl).f
          have z2 := (HBz.out 2 _ rfl).c
          have y2 := (HBz.out 2 _ rfl).f
          have z3 := (HBz.out 3 _ rfl).c
          have y3 := (HBz.out 3 _ rfl).f
          have z4 := (HBz.out 4 _ rfl).c
          have y4 := (HBz.out 4 _ rfl).f
          have z5 := (HBz.out 5 _ rfl).c
          have y5 := (HBz.out 5 _ rfl).f
          obtain ⟨W7, hW7⟩ : ∃ W7, set6 W4 w.heap.size (.int .i64 6) (.string (tx [])) (.int .i64 n1) (.int .i64 0) (.slice none 0 0) (.slice (some ⟨w3.heap.size, 0, none⟩) 1 1) = W7 := ⟨_, rfl⟩
          have HB7 : Hid (Bx W7 w.heap.size [.int .i64 6, .string (tx []), .int .i64 n1, .int .i64 0, .slice none 0 0, .slice (some ⟨w3.heap.size, 0, none⟩) 1 1]) := hW7 ▸ set6_bx HBz.out _ _ _ _ _ _
          have HR7 : Hid (Rdr W7 R P0 q3 (.map (some b))) := hW7 ▸ set6_rd HRz.out hRl hPl _ _ _ _ _ _
          have HG7 : Hid (w.grownBy W7 (some R)) := hW7 ▸ set6_gb HGz.out (Nat.le_refl _) _ _ _ _ _ _
          have HQ7 : Hid (QV w.heap.size W7 (.node 6 [] n1 0 [] 1 a3 .none) [.int .i64 6, .string (tx []), .int .i64 n1, .int .i64 0, .slice none 0 0, .slice (some ⟨w3.heap.size, 0, none⟩) 1 1]) := by
            have HK7 : Bx W7 w3.heap.size [.int .i64 yk, .string (tx yc), .int .i64 yl, .int .i64 yh, .slice ya4 yn4 yc4, .slice ya5 yn5 yc5] := hW7 ▸ ((((((HK4.out.oth h3n _).oth h3n _).oth h3n _).oth h3n _).oth h3n _).oth h3n _)
            exact ⟨_, _, rfl, .inl ⟨rfl, rfl⟩, .inr (.inl ⟨rfl, w3.heap.size, _, rfl, by omega, (HK7 0 _ rfl).lt, QV.mono (by omega) a3 (QV.kp (hW7 ▸ set6_kp (by omega) _ _ _ _ _ _) a3 HQ4.out), fun j u hu => (HK7 j u hu).c⟩)⟩
          unfold set6 at hW7
          go_wp2
          have x0 := (HB7.out 0 _ rfl).c
          have x1 := (HB7.out 1 _ rfl).c
          have x2 := (HB7.out 2 _ rfl).c
          have x3 := (HB7.out 3 _ rfl).c
          have x4 := (HB7.out 4 _ rfl).c
          have x5 := (HB7.out 5 _ rfl).c
          exact bodyPost_ret (v := .agg #[.int .i64 6, .string (tx []), .int .i64 n1, .int .i64 0, .slice none 0 0, .slice (some ⟨w3.heap.size, 0, none⟩) 1 1]) (by simp [results, Tryz.results47, go_sem, x0, x1, x2, x3, x4, x5]) rfl ⟨⟨⟨_, rfl, _, rfl, HQ7.out⟩, HR7.out⟩, HG7.out⟩
      · have k2 := take_no h1 sStar c3
        have hq := HRR1.out
        simp only [tk, if_neg c3] at hq
        obtain rfl : .error (2, hat q1) = r := hq
        clear c3
        go_wp2_with fail
        refine k2.mono ?_
        rintro e w2 ⟨rfl, rfl⟩
        go_wp2
        exact ⟨rfl, rfl, HG1.out⟩
  · have k0 := is_any H0.out sMinus false (by simpa using c1)
    have kn := next_any H0.out _ rfl
    obtain ⟨nd, hnd⟩ : ∃ nd, runL digB (hd ps) = nd := ⟨_, rfl⟩
    have kd := digits_any (tx (hd ps)) (by show (hd ps).toArray.size ≤ _; simp; omega) wm nd hnd
    by_cases c2 : fstD (hd ps) = true
    · have HSN : Hid (hd ps = sMinus ∨ fstD (hd ps) = true) := .inr c2
      have hn0 : 0 < nd := by rw [← hnd]; exact (run_fst _).2 c2
      have hn1 : ¬ (nd : Int) = 0 := by omega
      have hn2 : ((nd : Int) == 0) = false := by simpa using hn1
      have hn3 : ¬ nd = 0 := by omega
      clear c1 c2 hnd hlen
      go_wp2_with fail
      refine k0.mono ?_
      rintro e wm ⟨rfl, rfl⟩
      clear k0
      go_wp2_with fail
      refine kn.mono ?_
      rintro e wm ⟨rfl, rfl⟩
      clear kn
      go_wp2_with fail
      refine kd.mono ?_
      rintro e wm ⟨rfl, rfl⟩
      clear kd
      obtain ⟨r1, hr1⟩ : ∃ r1, sgnP ps = r1 := ⟨_, rfl⟩
      have hq := HRR.out
      rw [if_pos HSN.out, hr1] at hq
      have HRR1 : Hid _ := hq
      have k1 := signed_any H0.out HX0.out r1 hr1
      clear hq hr1 HRR
      go_wp2_with fail
      refine k1.mono ?_
      rintro e w1 ⟨he, hg1⟩
      have HG1 : Hid (w.grownBy w1 (some R)) := gb_trans HG0.out hg1
      have HB1 : Hid (Bx w1 w.heap.size z6) := HB0.out.gb hg1 hRl
      have hz1 : w.heap.size < w1.heap.size := Nat.lt_of_lt_of_le hz0 hg1.size
      clear k1 hg1
      cases r1 with
      | error x =>
        obtain ⟨c, a⟩ := x
        obtain rfl : .error (c, a) = r := HRR1.out
        obtain rfl : e = .panicked (chn c a) := he
        go_wp2
        exact ⟨rfl, rfl, HG1.out⟩
      | ok x =>
        obtain ⟨n1, q1⟩ := x
        obtain ⟨⟨v, rfl, rfl⟩, h1⟩ := he
        by_cases c3 : hd q1 = sStar
        · have k2 := take_yes h1 sStar (by decide) c3
          have hq := HRR1.out
          simp only [tk, if_pos c3] at hq
          obtain ⟨r3, hr3⟩ : ∃ r3, prdP k q1.tail = r3 := ⟨_, rfl⟩
          rw [hr3] at hq
          have HRR3 : Hid _ := hq
          have HP3 : Hid (prdP k q1.tail = r3) := hr3
          clear hq hr3 c3 h1 HRR1
          go_wp2_with fail
          refine k2.mono ?_
          rintro e w2 ⟨rfl, h2, hg2⟩
          have HG2 : Hid (w.grownBy w2 (some R)) := gb_trans HG1.out hg2
          have HB2 : Hid (Bx w2 w.heap.size z6) := HB1.out.gb hg2 hRl
          have hz2 : w1.heap.size ≤ w2.heap.size := hg2.size
          have k3 := hpr w2 R b P0 q1.tail r3 h2 (HX.out.gb HG2.out) HP3.out
          clear k2 hg2 h2 HB1 HG1 HP3
          go_wp2_with fail
          refine k3.mono ?_
          rintro e w3 ⟨he, hg3⟩
          have HG3 : Hid (w.grownBy w3 (some R)) := gb_trans HG2.out hg3
          have HB3 : Hid (Bx w3 w.heap.size z6) := HB2.out.gb hg3 hRl
          have hz3 : w2.heap.size ≤ w3.heap.size := hg3.size
          clear k3 hg3 HB2 HG2
          cases r3 with
          | error x =>
            obtain ⟨c, a⟩ := x
            obtain rfl : .error (c, a) = r := HRR3.out
            obtain rfl : e = .panicked (chn c a) := he
            go_wp2
            exact ⟨rfl, rfl, HG3.out⟩
          | ok x =>
            obtain ⟨a3, q3⟩ := x
            obtain ⟨⟨v, rfl, cs, rfl, hqv⟩, h3⟩ := he
            obtain ⟨yk, yc, yl, yh, ya4, yn4, yc4, ya5, yn5, yc5, rfl⟩ := hqv.six
            obtain rfl : .ok (.node 6 [] n1 0 [] 1 a3 .none, q3) = r := HRR3.out
            obtain ⟨W4, hW4⟩ : ∃ W4, w3.alloc (.cells #[.int .i64 yk, .string (tx yc), .int .i64 yl, .int .i64 yh, .slice ya4 yn4 yc4, .slice ya5 yn5 yc5] 25) = W4 := ⟨_, rfl⟩
            have hb4 : Below w3.heap.size w3 W4 := hW4 ▸ ba _ _
            have HK4 : Hid (Bx W4 w3.heap.size [.int .i64 yk, .string (tx yc), .int .i64 yl, .int .i64 yh, .slice ya4 yn4 yc4, .slice ya5 yn5 yc5]) := hW4 ▸ Bx.new w3 [.int .i64 yk, .string (tx yc), .int .i64 yl, .int .i64 yh, .slice ya4 yn4 yc4, .slice ya5 yn5 yc5] 25 rfl
            have HRz : Hid (Rdr W4 R P0 q3 (.map (some b))) := h3.at hb4
            have HGz : Hid (w.grownBy W4 (some R)) := gb_trans HG3.out (gb_below hb4)
            have HBz : Hid (Bx W4 w.heap.size z6) := HB3.out.at hb4
            have HQ4 : Hid (QV w2.heap.size W4 a3 [.int .i64 yk, .string (tx yc), .int .i64 yl, .int .i64 yh, .slice ya4 yn4 yc4, .slice ya5 yn5 yc5]) := QV.kp (Kp.bl hb4) a3 hqv
            have hz4 : w3.heap.size < W4.heap.size := (HK4.out 0 _ rfl).lt
            have h3n : w.heap.size ≠ w3.heap.size := by omega
            clear hqv h3 hb4
            have z0 := (HBz.out 0 _ rfl).c
            have y0 := (HBz.out 0 _ rfl).f
            have z1 := (HBz.out 1 _ rfl).c
            have y1 := (HBz.out 1 _ rfl).f
            have z2 := (HBz.out 2 _ rfl).c
            have y2 := (HBz.out 2 _ rfl).f
            have z3 := (HBz.out 3 _ rfl).c
            have y3 := (HBz.out 3 _ rfl).f
            have z4 := (HBz.out 4 _ rfl).c
            have y4 := (HBz.out 4 _ rfl).f
            have z5 := (HBz.out 5 _ rfl).c
            have y5 := (HBz.out 5 _ rfl).f
            obtain ⟨W7, hW7⟩ : ∃ W7, set6 W4 w.heap.size (.int .i64 6) (.string (tx [])) (.int .i64 n1) (.int .i64 0) (.slice none 0 0) (.slice (some ⟨w3.heap.size, 0, none⟩) 1 1) = W7 := ⟨_, rfl⟩
            have HB7 : Hid (Bx W7 w.heap.size [.int .i64 6, .string (tx []), .int .i64 n1, .int .i64 0, .slice none 0 0, .slice (some ⟨w3.heap.size, 0, none⟩) 1 1]) := hW7 ▸ set6_bx HBz.out _ _ _ _ _ _
            have HR7 : Hid (Rdr W7 R P0 q3 (.map (some b))) := hW7 ▸ set6_rd HRz.out hRl hPl _ _ _ _ _ _
            have HG7 : Hid (w.grownBy W7 (some R)) := hW7 ▸ set6_gb HGz.out (Nat.le_refl _) _ _ _ _ _ _
            have HQ7 : Hid (QV w.heap.size W7 (.node 6 [] n1 0 [] 1 a3 .none) [.int .i64 6, .string (tx []), .int .i64 n1, .int .i64 0, .slice none 0 0, .slice (some ⟨w3.heap.size, 0, none⟩) 1 1]) := by
              have HK7 : Bx W7 w3.heap.size [.int .i64 yk, .string (tx yc), .int .i64 yl, .int .i64 yh, .slice ya4 yn4 yc4, .slice ya5 yn5 yc5] := hW7 ▸ ((((((HK4.out.oth h3n _).oth h3n _).oth h3n _).oth h3n _).oth h3n _).oth h3n _)
              exact ⟨_, _, rfl, .inl ⟨rfl, rfl⟩, .inr (.inl ⟨rfl, w3.heap.size, _, rfl, by omega, (HK7 0 _ rfl).lt, QV.mono (by omega) a3 (QV.kp (hW7 ▸ set6_kp (by omega) _ _ _ _ _ _) a3 HQ4.out), fun j u hu => (HK7 j u hu).c⟩)⟩
            unfold set6 at hW7
            go_wp2
            have x0 := (HB7.out 0 _ rfl).c
            have x1 := (HB7.out 1 _ rfl).c
            have x2 := (HB7.out 2 _ rfl).c
            have x3 := (HB7.out 3 _ rfl).c
            have x4 := (HB7.out 4 _ rfl).c
            have x5 := (HB7.out 5 _ rfl).c
            exact bodyPost_ret (v := .agg #[.int .i64 6, .string (tx []), .int .i64 n1, .int .i64 0, .slice none 0 0, .slice (some ⟨w3.heap.size, 0, none⟩) 1 1]) (by simp [results, Tryz.results47, go_sem, x0, x1, x2, x3, x4, x5]) rfl ⟨⟨⟨_, rfl, _, rfl, HQ7.out⟩, HR7.out⟩, HG7.out⟩
        · have k2 := take_no h1 sStar c3
          have hq := HRR1.out
          simp only [tk, if_neg c3] at hq
          obtain rfl : .error (2, hat q1) = r := hq
          clear c3
          go_wp2_with fail
          refine k2.mono ?_
          rintro e w2 ⟨rfl, rfl⟩
          go_wp2
          exact ⟨rfl, rfl, HG1.out⟩
    · have hq := HRR.out
      rw [if_neg (by simp [c1, c2])] at hq
      have kp := hpk wm R b P0 ps r H0.out HX0.out hq
      obtain rfl : nd = 0 := by
        rw [← hnd]
        have := run_fst (hd ps)
        simp [c2] at this
        exact this
      clear c1 c2 hnd hlen hq HRR
      go_wp2_with fail
      refine k0.mono ?_
      rintro e wm ⟨rfl, rfl⟩
      clear k0
      go_wp2_with fail
      refine kn.mono ?_
      rintro e wm ⟨rfl, rfl⟩
      clear kn
      go_wp2_with fail
      refine kd.mono ?_
      rintro e wm ⟨rfl, rfl⟩
      clear kd
      go_wp2_with fail
      refine kp.mono ?_
      rintro e w3 ⟨he, hg3⟩
      have HGz : Hid (w.grownBy w3 (some R)) := gb_trans HG0.out hg3
      have HBz : Hid (Bx w3 w.heap.size z6) := HB0.out.gb hg3 hRl
      clear kp hg3
      cases r with
      | error x =>
        obtain ⟨c, a⟩ := x
        obtain rfl : e = .panicked (chn c a) := he
        go_wp2
        exact ⟨rfl, rfl, HGz.out⟩
      | ok x =>
        obtain ⟨a3, q3⟩ := x
        obtain ⟨⟨v, rfl, cs, rfl, hqv⟩, h3⟩ := he
        obtain ⟨yk, yc, yl, yh, ya4, yn4, yc4, ya5, yn5, yc5, rfl⟩ := hqv.six
        have HRz : Hid (Rdr w3 R P0 q3 (.map (some b))) := h3
        have HQz : Hid (QV wm.heap.size w3 a3 [.int .i64 yk, .string (tx yc), .int .i64 yl, .int .i64 yh, .slice ya4 yn4 yc4, .slice ya5 yn5 yc5]) := hqv
        clear hqv h3
        have z0 := (HBz.out 0 _ rfl).c
        have y0 := (HBz.out 0 _ rfl).f
        have z1 := (HBz.out 1 _ rfl).c
        have y1 := (HBz.out 1 _ rfl).f
        have z2 := (HBz.out 2 _ rfl).c
        have y2 := (HBz.out 2 _ rfl).f
        have z3 := (HBz.out 3 _ rfl).c
        have y3 := (HBz.out 3 _ rfl).f
        have z4 := (HBz.out 4 _ rfl).c
        have y4 := (HBz.out 4 _ rfl).f
        have z5 := (HBz.out 5 _ rfl).c
        have y5 := (HBz.out 5 _ rfl).f
        obtain ⟨W7, hW7⟩ : ∃ W7, set6 w3 w.heap.size (.int .i64 yk) (.string (tx yc)) (.int .i64 yl) (.int .i64 yh) (.slice ya4 yn4 yc4) (.slice ya5 yn5 yc5) = W7 := ⟨_, rfl⟩
        have HB7 : Hid (Bx W7 w.heap.size [.int .i64 yk, .string (tx yc), .int .i64 yl, .int .i64 yh, .slice ya4 yn4 yc4, .slice ya5 yn5 yc5]) := hW7 ▸ set6_bx HBz.out _ _ _ _ _ _
        have HR7 : Hid (Rdr W7 R P0 q3 (.map (some b))) := hW7 ▸ set6_rd HRz.out hRl hPl _ _ _ _ _ _
        have HG7 : Hid (w.grownBy W7 (some R)) := hW7 ▸ set6_gb HGz.out (Nat.le_refl _) _ _ _ _ _ _
        have HQ7 : Hid (QV w.heap.size W7 a3 [.int .i64 yk, .string (tx yc), .int .i64 yl, .int .i64 yh, .slice ya4 yn4 yc4, .slice ya5 yn5 yc5]) := hW7 ▸ QV.mono (by omega) a3 (QV.kp (set6_kp hz0 _ _ _ _ _ _) a3 HQz.out)
        unfold set6 at hW7
        go_wp2
        have x0 := (HB7.out 0 _ rfl).c
        have x1 := (HB7.out 1 _ rfl).c
        have x2 := (HB7.out 2 _ rfl).c
        have x3 := (HB7.out 3 _ rfl).c
        have x4 := (HB7.out 4 _ rfl).c
        have x5 := (HB7.out 5 _ rfl).c
        exact bodyPost_ret (v := .agg #[.int .i64 yk, .string (tx yc), .int .i64 yl, .int .i64 yh, .slice ya4 yn4 yc4, .slice ya5 yn5 yc5]) (by simp [results, Tryz.results47, go_sem, x0, x1, x2, x3, x4, x5]) rfl ⟨⟨⟨_, rfl, _, rfl, HQ7.out⟩, HR7.out⟩, HG7.out⟩

/-- every level -/
theorem gram_all : ∀ k : Nat, k ≤ 64 → Qc 47 (65 - (k : Int)) (prdP k)
  | 0, _ => prd_zero
  | k + 1, hk => by
    have ih := gram_all k (by omega)
    have hl : IntKind.i64.wrap ((65 - ((k + 1 : Nat) : Int)) + 1) = 65 - (k : Int) := by rw [IntKind.wrap_i64]; omega
    exact prd_of (by omega) hl (pik_of (thg_of (brk_of (qus_of ih) hl) (bth_of (qus_of ih) hl))) ih
/-- a question -/
theorem question_any : Qc 22 1 (qusK 64) := by
  have := qus_of (gram_all 64 (Nat.le_refl _))
  exact this
end Go.Proofs.YtidfkencjdjkbaaGreatDoor

/-
  PACKAGE speech: how long a piece is.
-/
namespace Go.Proofs.YtidfkencjdjkbaaGreatDoor
open Go.RowKit Sp

theorem let_dig {c : UInt8} (h : letB c = true) : digB c = false := by
  simp only [letB, digB, Bool.or_eq_true, Bool.and_eq_true, decide_eq_true_eq] at h ⊢
  simp
  omega
theorem run_head (p : UInt8 → Bool) (c : UInt8) (r : By) : (p c = false → runL p (c :: r) = 0) ∧ (p c = true → 0 < runL p (c :: r)) := by
  constructor
  · intro h; simp [runL, h]
  · intro h; simp [runL, h]
theorem idx_mem (c : UInt8) : ∀ l : By, (0 ≤ Lib.indexByte l c) ↔ c ∈ l
  | [] => by simp [Lib.indexByte]
  | b :: l => by
    have ih := idx_mem c l
    have hg := Lib.indexByte_ge l c
    simp only [Lib.indexByte]
    by_cases h : b = c
    · subst h; simp
    · have hb : (b == c) = false := by simpa using h
      rw [hb]
      simp only [Bool.false_eq_true, if_false, List.mem_cons, Ne.symm h, false_or]
      rw [← ih]
      by_cases h2 : Lib.indexByte l c = -1
      · simp [h2]
      · have h3 : (Lib.indexByte l c == -1) = false := by simpa using h2
        rw [h3]
        simp only [Bool.false_eq_true, if_false]
        omega
theorem tx_ext (t : By) (i j : Nat) : (tx t).extract i j = tx ((t.drop i).take (j - i)) := by
  have h : ((tx t).extract i j).data = (tx ((t.drop i).take (j - i))).data := by
    simp
    try rw [List.take_drop]
  cases hx : (tx t).extract i j with
  | mk d => rw [hx] at h; simp only at h; rw [h]
set_option maxHeartbeats 1000000 in
theorem long_any (a : UInt8) (s : By) (hs : s.length ≤ 65536) (w : World) : Calls Tryz.prog 46 #[.string (tx (a :: s))] w fun e w' => e = .returned (.int .i64 (lonN (a :: s) : Int)) ∧ w' = w := by
  have hsz : (tx (a :: s)).size ≤ 9223372036854775807 := by show (a :: s).toArray.size ≤ _; simp; omega
  obtain ⟨n1, h1⟩ : ∃ n, runL letB (a :: s) = n := ⟨_, rfl⟩
  obtain ⟨n2, h2⟩ : ∃ n, runL digB (a :: s) = n := ⟨_, rfl⟩
  have k1 := letters_any (tx (a :: s)) hsz w n1 h1
  have k2 := digits_any (tx (a :: s)) hsz w n2 h2
  obtain ⟨L, hL⟩ : ∃ L, lonN (a :: s) = L := ⟨_, rfl⟩
  rw [hL]
  go_enter Tryz.func46, Tryz.ntmps46
  go_wp2_with fail
  refine k1.mono ?_
  rintro e w1 ⟨rfl, rfl⟩
  go_wp2_with fail
  refine k2.mono ?_
  rintro e w1 ⟨rfl, rfl⟩
  clear k1 k2
  by_cases c1 : letB a = true
  · have hp := (run_head letB a s).2 c1
    rw [h1] at hp
    obtain rfl : n2 = 0 := by rw [← h2]; exact (run_head digB a s).1 (let_dig c1)
    obtain rfl : n1 = L := by rw [← hL, ← h1, lonN, if_pos c1]
    have e1 : (0 : Int) < (n1 : Int) := by omega
    clear h1 h2 hL c1
    go_wp2
    go_ret
    exact ⟨rfl, rfl⟩
  · by_cases c2 : digB a = true
    · have hp := (run_head digB a s).2 c2
      rw [h2] at hp
      obtain rfl : n1 = 0 := by rw [← h1]; exact (run_head letB a s).1 (by simpa using c1)
      obtain rfl : n2 = L := by rw [← hL, ← h2, lonN, if_neg c1, if_pos c2]
      have e1 : (0 : Int) < (n2 : Int) := by omega
      clear h1 h2 hL c1 c2
      go_wp2
      go_ret
      exact ⟨rfl, rfl⟩
    · obtain rfl : n1 = 0 := by rw [← h1]; exact (run_head letB a s).1 (by simpa using c1)
      obtain rfl : n2 = 0 := by rw [← h2]; exact (run_head digB a s).1 (by simpa using c2)
      have hl : (if twoB ((a :: s).take 2) then 2 else if oneB a then 1 else 0) = L := by rw [← hL, lonN, if_neg c1, if_neg c2]
      clear hL
      obtain ⟨ix, hix⟩ : ∃ ix, Lib.indexByte [43, 45, 42, 40, 41, 91, 93, 44, 61, 60, 62] a = ix := ⟨_, rfl⟩
      have hix2 := idx_mem a [43, 45, 42, 40, 41, 91, 93, 44, 61, 60, 62]
      rw [hix] at hix2
      have HIX : Hid (0 ≤ ix ↔ a ∈ ([43, 45, 42, 40, 41, 91, 93, 44, 61, 60, 62] : By)) := hix2
      clear hix2
      have ki := Tryz.strings_IndexByte (tx [43, 45, 42, 40, 41, 91, 93, 44, 61, 60, 62]) (a.toNat : Int) w1
      have e3 : Lib.indexByte (tx [43, 45, 42, 40, 41, 91, 93, 44, 61, 60, 62]).data.toList (((a.toNat : Int)).toNat.toUInt8) = ix := by
        rw [← hix]
        congr 1
        simp
      rw [e3] at ki
      have e0 : ∀ h, (tx (a :: s))[0]'h = a := fun _ => rfl
      clear h1 h2 hix e3
      cases s with
      | nil =>
        have ht : twoB ([a].take 2) = false := by simp [twoB]
        rw [ht] at hl
        clear ht c1 c2
        go_wp2_with fail
        refine ki.mono ?_
        rintro e w2 ⟨rfl, rfl⟩
        clear ki
        by_cases c3 : 0 ≤ ix
        · have c4 : oneB a = true := by simp only [oneB]; simpa using HIX.out.1 c3
          rw [c4] at hl
          obtain rfl : 1 = L := by simpa using hl
          have c5 : decide (0 ≤ ix) = true := by simpa using c3
          clear hl c4
          go_wp2
          go_ret
          exact ⟨rfl, rfl⟩
        · have c4 : oneB a = false := by
            cases hb : oneB a with
            | false => rfl
            | true => exact absurd (HIX.out.2 (by simp only [oneB] at hb; simpa using hb)) c3
          rw [c4] at hl
          obtain rfl : 0 = L := by simpa using hl
          have c5 : decide (0 ≤ ix) = false := by simpa using c3
          clear hl c4
          go_wp2
          go_ret
          exact ⟨rfl, rfl⟩
      | cons b s =>
        obtain ⟨tb, htb⟩ : ∃ tb, twoB [a, b] = tb := ⟨_, rfl⟩
        have kt := two_any [a, b] tb htb w1
        have hx := tx_ext (a :: b :: s) 0 2
        simp only [List.drop_zero, Nat.sub_zero, List.take_succ_cons, List.take_zero] at hx
        have hl : (if twoB [a, b] then 2 else if oneB a then 1 else 0) = L := hl
        rw [htb] at hl
        clear htb c1 c2
        go_wp2_with fail
        refine kt.mono ?_
        rintro e w2 ⟨rfl, rfl⟩
        cases tb with
        | true =>
          obtain rfl : 2 = L := by simpa using hl
          go_wp2
          go_ret
          exact ⟨rfl, rfl⟩
        | false =>
          go_wp2_with fail
          refine ki.mono ?_
          rintro e w2 ⟨rfl, rfl⟩
          clear ki
          by_cases c3 : 0 ≤ ix
          · have c4 : oneB a = true := by simp only [oneB]; simpa using HIX.out.1 c3
            rw [c4] at hl
            obtain rfl : 1 = L := by simpa using hl
            have c5 : decide (0 ≤ ix) = true := by simpa using c3
            clear hl c4
            go_wp2
            go_ret
            exact ⟨rfl, rfl⟩
          · have c4 : oneB a = false := by
              cases hb : oneB a with
              | false => rfl
              | true => exact absurd (HIX.out.2 (by simp only [oneB] at hb; simpa using hb)) c3
            rw [c4] at hl
            obtain rfl : 0 = L := by simpa using hl
            have c5 : decide (0 ≤ ix) = false := by simpa using c3
            clear hl c4
            go_wp2
            go_ret
            exact ⟨rfl, rfl⟩
end Go.Proofs.YtidfkencjdjkbaaGreatDoor

/-
  PACKAGE speech: a text is cut into pieces.
-/
namespace Go.Proofs.YtidfkencjdjkbaaGreatDoor
open Go.RowKit Sp

theorem lon_le (c : UInt8) (r : By) : lonN (c :: r) ≤ (c :: r).length := by
  rw [lonN_cons]
  have h1 := runL_le letB (c :: r)
  have h2 := runL_le digB (c :: r)
  split
  · exact h1
  · split
    · exact h2
    · split
      · rename_i h
        cases r with
        | nil => simp [twoB] at h
        | cons d r => simp
      · split <;> simp
theorem run_take (p : UInt8 → Bool) : ∀ s : By, (s.take (runL p s)).all p = true
  | [] => by simp [runL]
  | c :: r => by
    simp only [runL]
    by_cases h : p c = true
    · rw [if_pos h]
      simp only [List.take_succ_cons, List.all_cons, h, Bool.true_and]
      exact run_take p r
    · rw [if_neg h]; simp
theorem lon_dg (c : UInt8) (r : By) (h : fstD ((c :: r).take (lonN (c :: r))) = true) : ((c :: r).take (lonN (c :: r))).all digB = true := by
  by_cases h0 : lonN (c :: r) = 0
  · rw [h0]; simp
  obtain ⟨n, hn⟩ : ∃ n, lonN (c :: r) = n + 1 := ⟨lonN (c :: r) - 1, by omega⟩
  have hd : digB c = true := by
    rw [hn] at h
    exact h
  have hl : letB c = false := by
    cases hb : letB c with
    | false => rfl
    | true => rw [let_dig hb] at hd; cases hd
  rw [lonN_cons, hl, hd]
  simp only [Bool.false_eq_true, if_false, if_true]
  exact run_take digB (c :: r)
theorem cut_step (c : UInt8) (r : By) (hc : ¬ (c = 32 ∨ c = 10)) (a : Nat) : cutT (c :: r) a = if lonN (c :: r) = 0 then .error a else Sp.ahead [((c :: r).take (lonN (c :: r)), a)] (cutT ((c :: r).drop (lonN (c :: r))) (a + lonN (c :: r))) := by
  by_cases h0 : lonN (c :: r) = 0
  · rw [if_pos h0]
    show cutF (r.length + 1) (c :: r) a = _
    simp only [cutF]
    rw [if_neg hc, if_pos h0]
  · rw [if_neg h0]
    have hle := lon_le c r
    obtain ⟨n, hn⟩ : ∃ n, lonN (c :: r) = n + 1 := ⟨lonN (c :: r) - 1, by omega⟩
    have ht : (c :: r).take (lonN (c :: r)) = c :: r.take n := by rw [hn]; rfl
    have hlen : ((c :: r).take (lonN (c :: r))).length = lonN (c :: r) := by rw [List.length_take]; omega
    have := cutT_pc (z := (c :: r).drop (lonN (c :: r))) ht hc (by rw [List.take_append_drop]; exact hlen.symm) a
    rw [List.take_append_drop, hlen] at this
    exact this
theorem cut_good : ∀ (n : Nat) (s : By) (a : Nat) (ps : List Pc), s.length ≤ n → cutT s a = .ok ps → Fin ps ∧ (∀ p ∈ ps, (fstD p.1 = true → p.1.all digB = true) ∧ p.1.length ≤ s.length ∧ p.2 ≤ a + s.length) ∧ ps.length ≤ s.length + 1
  | n, [], a, ps, _, h => by
    rw [cutT_nil] at h
    injection h with h
    subst h
    exact ⟨rfl, by intro p hp; simp at hp; subst hp; simp, by simp⟩
  | 0, c :: r, a, ps, hn, h => by simp at hn
  | n + 1, c :: r, a, ps, hn, h => by
    simp at hn
    by_cases hc : c = 32 ∨ c = 10
    · rw [cutT_sp c hc] at h
      obtain ⟨h1, h2, h3⟩ := cut_good n r (a + 1) ps (by omega) h
      exact ⟨h1, fun p hp => ⟨(h2 p hp).1, by have := (h2 p hp).2.1; simp; omega, by have := (h2 p hp).2.2; simp; omega⟩, by simp; omega⟩
    · rw [cut_step c r hc] at h
      by_cases h0 : lonN (c :: r) = 0
      · rw [if_pos h0] at h; cases h
      · rw [if_neg h0] at h
        have hle := lon_le c r
        cases hq : cutT ((c :: r).drop (lonN (c :: r))) (a + lonN (c :: r)) with
        | error e => rw [hq] at h; cases h
        | ok qs =>
          rw [hq] at h
          have h : [((c :: r).take (lonN (c :: r)), a)] ++ qs = ps := by injection h
          subst h
          have hdl : ((c :: r).drop (lonN (c :: r))).length = (c :: r).length - lonN (c :: r) := List.length_drop ..
          obtain ⟨h1, h2, h3⟩ := cut_good n _ _ qs (by rw [hdl]; simp; omega) hq
          have hne : (c :: r).take (lonN (c :: r)) ≠ [] := by
            intro e
            have := congrArg List.length e
            rw [List.length_take] at this
            simp at this
            omega
          refine ⟨?_, ?_, ?_⟩
          · have := h1.ne
            cases qs with
            | nil => exact absurd rfl this
            | cons q qs => exact ⟨hne, h1⟩
          · intro p hp
            simp only [List.singleton_append, List.mem_cons] at hp
            rcases hp with rfl | hp
            · exact ⟨lon_dg c r, by simp only [List.length_take]; omega, by simp⟩
            · obtain ⟨g1, g2, g3⟩ := h2 p hp
              rw [hdl] at g2 g3
              exact ⟨g1, by omega, by omega⟩
          · rw [hdl] at h3
            simp at h3 ⊢
            omega
end Go.Proofs.YtidfkencjdjkbaaGreatDoor

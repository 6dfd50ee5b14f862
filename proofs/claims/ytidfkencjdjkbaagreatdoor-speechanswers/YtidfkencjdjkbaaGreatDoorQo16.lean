import Derived.Test.YtidfkencjdjkbaaGreatDoorQo15
/-
  PACKAGE speech: picks.
-/
namespace Go.Proofs.YtidfkencjdjkbaaGreatDoor
open Go.RowKit Sp

set_option maxHeartbeats 2000000 in
set_option maxRecDepth 100000 in
theorem pik_of {lv : Int} {q : List Pc → PR Qu} (ht : Qc 103 lv (thgP q)) : Qc 84 lv (pikP q 64) := by
  intro w R b P0 ps r h hX hr
  have hpl := h.pl
  obtain ⟨W0, hW0⟩ : ∃ W0, w.alloc (.cells #[.int .i64 0, .string ⟨#[]⟩, .int .i64 0, .int .i64 0, .slice none 0 0, .slice none 0 0] 25) = W0 := ⟨_, rfl⟩
  have hb0 : Below w.heap.size w W0 := hW0 ▸ ba _ _
  have HB0 : Hid (Bx W0 w.heap.size z6) := hW0 ▸ Bx.new w z6 25 rfl
  have hz0 : w.heap.size < W0.heap.size := (HB0.out 0 _ rfl).lt
  have HG0 : Hid (w.grownBy W0 (some R)) := gb_below hb0
  have hRl : w.heap.size ≠ R := by omega
  have hPl : w.heap.size ≠ P0 := by omega
  have HX : Hid (Cx w R b) := hX
  obtain ⟨r1, hr1⟩ : ∃ r1, thgP q ps = r1 := ⟨_, rfl⟩
  have k1 := ht W0 R b P0 ps r1 (h.at hb0) (hX.at hb0) hr1
  unfold pikP at hr
  rw [hr1] at hr
  have HRR : Hid _ := hr
  clear h hX hb0 hr hr1
  go_enter Tryz.func84, Tryz.ntmps84
  go_wp2_with fail
  clear hW0
  refine k1.mono ?_
  rintro e w2 ⟨he, hg2⟩
  have HG2 : Hid (w.grownBy w2 (some R)) := gb_trans HG0.out hg2
  have HB2 : Hid (Bx w2 w.heap.size z6) := HB0.out.gb hg2 hRl
  have hz2 : W0.heap.size ≤ w2.heap.size := hg2.size
  clear k1 hg2 HB0 HG0
  cases r1 with
  | error x =>
    obtain ⟨c, a⟩ := x
    obtain rfl : .error (c, a) = r := HRR.out
    obtain rfl : e = .panicked (chn c a) := he
    go_wp2
    exact ⟨rfl, rfl, HG2.out⟩
  | ok x =>
    obtain ⟨a1, q1⟩ := x
    obtain ⟨⟨v, rfl, cs, rfl, hqv⟩, h2⟩ := he
    obtain ⟨xk, xc, xl, xh, xa4, xn4, xc4, xa5, xn5, xc5, rfl⟩ := hqv.six
    obtain ⟨b5, hb5⟩ : ∃ b5, w2.heap.size = b5 := ⟨_, rfl⟩
    obtain ⟨W3, hW3⟩ : ∃ W3, w2.alloc (.cells #[.int .i64 xk, .string (tx xc), .int .i64 xl, .int .i64 xh, .slice xa4 xn4 xc4, .slice xa5 xn5 xc5] 25) = W3 := ⟨_, rfl⟩
    have hb3 : Below w2.heap.size w2 W3 := hW3 ▸ ba _ _
    have hz3 : b5 < W3.heap.size := by rw [← hW3, ← hb5]; simp
    have HC3 : Hid (Bx W3 b5 [.int .i64 xk, .string (tx xc), .int .i64 xl, .int .i64 xh, .slice xa4 xn4 xc4, .slice xa5 xn5 xc5]) := hb5 ▸ hW3 ▸ Bx.new w2 [.int .i64 xk, .string (tx xc), .int .i64 xl, .int .i64 xh, .slice xa4 xn4 xc4, .slice xa5 xn5 xc5] 25 rfl
    have H3 : Hid (Rdr W3 R P0 q1 (.map (some b))) := h2.at hb3
    have HG3 : Hid (w.grownBy W3 (some R)) := gb_trans HG2.out (gb_below hb3)
    have HB3 : Hid (Bx W3 w.heap.size z6) := HB2.out.at hb3
    have HQ3 : Hid (QG (fun g => w.heap.size < g ∧ g ≠ b5) W3 a1 [.int .i64 xk, .string (tx xc), .int .i64 xl, .int .i64 xh, .slice xa4 xn4 xc4, .slice xa5 xn5 xc5]) := QG.kp (KG.bl hb3) (fun g h1 h2 => ⟨by omega, by omega⟩) a1 (qg_of a1 hqv)
    have HP3 : Hid (pikL 64 a1 q1 = r) := HRR.out
    have h5w : w.heap.size ≤ b5 := by omega
    have h5n : b5 ≠ w.heap.size := by omega
    have hR5 : b5 ≠ R := by omega
    have hP5 : b5 ≠ P0 := by omega
    clear hqv h2 hb3 HRR HB2 HG2
    go_wp2
    clear hW3
    go_loopw [6] (fun nv wr => ∃ (n : Nat) (a : Qu) (q : List Pc) (xk : Int) (xc : By) (xl xh : Int) (xa4 : Option Addr) (xn4 xc4 : Nat) (xa5 : Option Addr) (xn5 xc5 : Nat), nv = .int .i64 (n : Int) ∧ n ≤ 64 ∧ Hid (pikL (64 - n) a q = r) ∧ Hid (Rdr wr R P0 q (.map (some b))) ∧ Hid (w.grownBy wr (some R)) ∧ Hid (Bx wr w.heap.size z6) ∧ Hid (Bx wr b5 [.int .i64 xk, .string (tx xc), .int .i64 xl, .int .i64 xh, .slice xa4 xn4 xc4, .slice xa5 xn5 xc5]) ∧ Hid (QG (fun g => w.heap.size < g ∧ g ≠ b5) wr a [.int .i64 xk, .string (tx xc), .int .i64 xl, .int .i64 xh, .slice xa4 xn4 xc4, .slice xa5 xn5 xc5]) ∧ Hid (b5 < wr.heap.size)) (fun nv _ => 65 - (intOf nv).toNat)
    case atStart => exact ⟨0, a1, q1, _, _, _, _, _, _, _, _, _, _, rfl, by omega, HP3, H3, HG3, HB3, HC3, HQ3, hz3⟩
    case round =>
      clear HP3 H3 HG3 HB3 HC3 HQ3 hz3
      obtain ⟨n, a, q, xk, xc, xl, xh, xa4, xn4, xc4, xa5, xn5, xc5, rfl, hn, HP, HR, HG, HB, HC, HQ, HZ⟩ := hrel
      by_cases c1 : hd q = sLeft
      · have k3 := is_any HR.out sLeft true (by simpa using c1)
        go_wp2_with fail
        refine k3.mono ?_
        rintro e w3 ⟨rfl, rfl⟩
        clear k3
        by_cases c2 : n < 64
        · have k4 := pmust_ok HR.out 4
          have d1 : (n : Int) < 64 := by omega
          have d2 : decide (n < 64) = true := by simpa using c2
          obtain ⟨j, hj⟩ : ∃ j, 64 - n = j + 1 := ⟨63 - n, by omega⟩
          obtain ⟨r5, hr5⟩ : ∃ r5, numP q.tail = r5 := ⟨_, rfl⟩
          have hA := HP.out
          rw [hj, pikL, if_pos c1, hr5] at hA
          have HA2 : Hid _ := hA
          have HNE : Hid (hd q ≠ []) := by rw [Hid, c1]; decide
          have HT5 : Hid (numP q.tail = r5) := hr5
          have HJ : Hid (64 - (n + 1) = j) := by rw [Hid]; omega
          clear hA hr5 hj c1 HP
          go_wp2_with fail
          refine k4.mono ?_
          rintro e w4 ⟨rfl, rfl⟩
          clear k4
          have k5 := step_any HR.out HNE.out
          go_wp2_with fail
          refine k5.mono ?_
          rintro e w5 ⟨rfl, h5, hg5⟩
          have HG5 : Hid (w.grownBy w5 (some R)) := gb_trans HG.out hg5
          have HB5 : Hid (Bx w5 w.heap.size z6) := HB.out.gb hg5 hRl
          have HC5 : Hid (Bx w5 b5 [.int .i64 xk, .string (tx xc), .int .i64 xl, .int .i64 xh, .slice xa4 xn4 xc4, .slice xa5 xn5 xc5]) := HC.out.gb hg5 hR5
          have HQ5 : Hid (QG (fun g => w.heap.size < g ∧ g ≠ b5) w5 a [.int .i64 xk, .string (tx xc), .int .i64 xl, .int .i64 xh, .slice xa4 xn4 xc4, .slice xa5 xn5 xc5]) := QG.kp (KG.gb hg5 (fun e => by omega)) (fun _ h _ => h) a HQ.out
          have H5 : Hid (Rdr w5 R P0 q.tail (.map (some b))) := h5
          have HZ5 : Hid (b5 < w5.heap.size) := Nat.lt_of_lt_of_le HZ.out hg5.size
          clear k5 hg5 h5 HR HG HB HC HQ HZ
          cases r5 with
          | error x =>
            obtain ⟨c, ea⟩ := x
            obtain rfl : .error (c, ea) = r := HA2.out
            go_wp2_with fail
            exact pik7e (fun _ _ d _ _ h => by cases d <;> exact h) _ _ _ _ _ _ _ _ _ _ _ _ _ _ _ _ _ _ _ _ _ _ _ _ _ _ _ _ _ _ _ _ _ _ w5 R b5 xk xc xl xh xa4 xn4 xc4 xa5 xn5 xc5 c ea HC5.out (fun W hW => (number_any (H5.out.at hW) ((HX.out.gb HG5.out).at hW).g _ HT5.out).mono fun e w' k => ⟨k.1, k.2⟩) (fun a W hd hb => ⟨hd, rfl, gb_trans HG5.out hb⟩)
          | ok x =>
            obtain ⟨n5, q5⟩ := x
            go_wp2_with fail
            refine pik7 (fun _ _ d _ _ h => by cases d <;> exact h) _ _ _ _ _ _ _ _ _ _ _ _ _ _ _ _ _ _ _ _ _ _ _ _ _ _ _ _ _ _ _ _ _ _ w5 R b5 P0 xk xc xl xh xa4 xn4 xc4 xa5 xn5 xc5 n5 q5 (.map (some b)) hR5 (Nat.lt_of_lt_of_le hpl.2 HG5.out.size) HC5.out (fun W hW => (number_any (H5.out.at hW) ((HX.out.gb HG5.out).at hW).g _ HT5.out).mono fun e w' k => ⟨k.1, k.2⟩) ?_
            intro u26 u27 u28 u29 u30 V g5 hgV hrV hcV hgc hg5
            obtain ⟨W6, hW6⟩ : ∃ W6, set6 V b5 (.int .i64 9) (.string ⟨#[]⟩) (.int .i64 n5) (.int .i64 0) (.slice none 0 0) (.slice (some ⟨g5, 0, none⟩) 1 1) = W6 := ⟨_, rfl⟩
            have hg5' : b5 ≠ g5 := by have := HZ5.out; omega
            have HGV : Hid (w.grownBy V (some R)) := gb_trans HG5.out hgV
            have HG6 : Hid (w.grownBy W6 (some R)) := hW6 ▸ set6_gb HGV.out h5w _ _ _ _ _ _
            have HB6 : Hid (Bx W6 w.heap.size z6) := hW6 ▸ (((((((HB5.out.gb hgV hRl).oth h5n _).oth h5n _).oth h5n _).oth h5n _).oth h5n _).oth h5n _)
            have HC6 : Hid (Bx W6 b5 [.int .i64 9, .string (tx []), .int .i64 n5, .int .i64 0, .slice none 0 0, .slice (some ⟨g5, 0, none⟩) 1 1]) := hW6 ▸ set6_bx hcV _ _ _ _ _ _
            have H6 : Hid (Rdr W6 R P0 q5 (.map (some b))) := hW6 ▸ set6_rd hrV hR5 hP5 _ _ _ _ _ _
            have HK6 : Hid (Bx W6 g5 [.int .i64 xk, .string (tx xc), .int .i64 xl, .int .i64 xh, .slice xa4 xn4 xc4, .slice xa5 xn5 xc5]) := hW6 ▸ ((((((hgc.oth hg5' _).oth hg5' _).oth hg5' _).oth hg5' _).oth hg5' _).oth hg5' _)
            have HQ6 : Hid (QG (fun g => w.heap.size < g ∧ g ≠ b5) W6 (.node 9 [] n5 0 [] 1 a .none) [.int .i64 9, .string (tx []), .int .i64 n5, .int .i64 0, .slice none 0 0, .slice (some ⟨g5, 0, none⟩) 1 1]) := ⟨_, _, rfl, .inl ⟨rfl, rfl⟩, .inr (.inl ⟨rfl, g5, _, rfl, ⟨by have := HZ5.out; omega, fun e => hg5' e.symm⟩, (HK6.out 0 _ rfl).lt, QG.kp (KG.trans (KG.gb hgV (fun e => by omega)) (hW6 ▸ KG.six (fun e => e.2 rfl) _ _ _ _ _ _)) (fun _ h _ => h) a HQ5.out, fun j u hu => (HK6.out j u hu).c⟩)⟩
            have HZ6 : Hid (b5 < W6.heap.size) := (HC6.out 0 _ rfl).lt
            rw [hW6]
            clear hW6 hgV hrV hcV hgc HGV HB5 HC5 HQ5 H5 HK6
            by_cases c3 : hd q5 = sRight
            · have k7 := take_yes H6.out sRight (by decide) c3
              have hA := HA2.out
              simp only [tk, if_pos c3] at hA
              have HA8 : Hid (pikL (64 - (n + 1)) (.node 9 [] n5 0 [] 1 a .none) q5.tail = r) := by rw [Hid, HJ.out]; exact hA
              clear hA HA2 c3
              go_wp2_with fail
              refine k7.mono ?_
              rintro e w8 ⟨rfl, h8, hg8⟩
              have HG8 : Hid (w.grownBy w8 (some R)) := gb_trans HG6.out hg8
              have HB8 : Hid (Bx w8 w.heap.size z6) := HB6.out.gb hg8 hRl
              have HC8 : Hid (Bx w8 b5 [.int .i64 9, .string (tx []), .int .i64 n5, .int .i64 0, .slice none 0 0, .slice (some ⟨g5, 0, none⟩) 1 1]) := HC6.out.gb hg8 hR5
              have HQ8 : Hid (QG (fun g => w.heap.size < g ∧ g ≠ b5) w8 (.node 9 [] n5 0 [] 1 a .none) [.int .i64 9, .string (tx []), .int .i64 n5, .int .i64 0, .slice none 0 0, .slice (some ⟨g5, 0, none⟩) 1 1]) := QG.kp (KG.gb hg8 (fun e => by omega)) (fun _ h _ => h) _ HQ6.out
              have H8 : Hid (Rdr w8 R P0 q5.tail (.map (some b))) := h8
              have HZ8 : Hid (b5 < w8.heap.size) := Nat.lt_of_lt_of_le HZ6.out hg8.size
              clear k7 h8 hg8 HG6 HB6 HC6 HQ6 H6 HZ6
              go_wp2
              go_roundw
              case rel => exact ⟨n + 1, _, _, _, _, _, _, _, _, _, _, _, _, by go_num, c2, HA8, H8, HG8, HB8, HC8, HQ8, HZ8⟩
              case measure => simp [intOf]; omega
            · have k7 := take_no H6.out sRight c3
              have hA := HA2.out
              simp only [tk, if_neg c3] at hA
              obtain rfl : .error (2, hat q5) = r := hA
              clear c3
              go_wp2_with fail
              refine k7.mono ?_
              rintro e w8 ⟨rfl, rfl⟩
              go_wp2
              exact ⟨rfl, rfl, HG6.out⟩
        · have k4 := pmust_no HR.out 4
          obtain rfl : n = 64 := by omega
          have hA := HP.out
          rw [show 64 - 64 = 0 from rfl, pikL, if_pos c1] at hA
          obtain rfl : .error (4, hat q) = r := hA
          clear HP c1 c2
          go_wp2_with fail
          refine k4.mono ?_
          rintro e w4 ⟨rfl, rfl⟩
          go_wp2
          exact ⟨rfl, rfl, HG.out⟩
      · have k3 := is_any HR.out sLeft false (by simpa using c1)
        have hA : ∀ n, pikL n a q = .ok (a, q) := fun n => by cases n <;> rw [pikL, if_neg c1]
        obtain rfl : .ok (a, q) = r := (hA _).symm.trans HP.out
        clear hA HP c1
        go_wp2_with fail
        refine k3.mono ?_
        rintro e w3 ⟨rfl, rfl⟩
        clear k3
        have s0 := (HC.out 0 _ rfl).c
        have z0 := (HB.out 0 _ rfl).c
        have y0 := (HB.out 0 _ rfl).f
        have s1 := (HC.out 1 _ rfl).c
        have z1 := (HB.out 1 _ rfl).c
        have y1 := (HB.out 1 _ rfl).f
        have s2 := (HC.out 2 _ rfl).c
        have z2 := (HB.out 2 _ rfl).c
        have y2 := (HB.out 2 _ rfl).f
        have s3 := (HC.out 3 _ rfl).c
        have z3 := (HB.out 3 _ rfl).c
        have y3 := (HB.out 3 _ rfl).f
        have s4 := (HC.out 4 _ rfl).c
        have z4 := (HB.out 4 _ rfl).c
        have y4 := (HB.out 4 _ rfl).f
        have s5 := (HC.out 5 _ rfl).c
        have z5 := (HB.out 5 _ rfl).c
        have y5 := (HB.out 5 _ rfl).f
        obtain ⟨W7, hW7⟩ : ∃ W7, set6 w3 w.heap.size (.int .i64 xk) (.string (tx xc)) (.int .i64 xl) (.int .i64 xh) (.slice xa4 xn4 xc4) (.slice xa5 xn5 xc5) = W7 := ⟨_, rfl⟩
        have HB7 : Hid (Bx W7 w.heap.size [.int .i64 xk, .string (tx xc), .int .i64 xl, .int .i64 xh, .slice xa4 xn4 xc4, .slice xa5 xn5 xc5]) := hW7 ▸ set6_bx HB.out _ _ _ _ _ _
        have HR7 : Hid (Rdr W7 R P0 q (.map (some b))) := hW7 ▸ set6_rd HR.out hRl hPl _ _ _ _ _ _
        have HG7 : Hid (w.grownBy W7 (some R)) := hW7 ▸ set6_gb HG.out (Nat.le_refl _) _ _ _ _ _ _
        have HQ7 : Hid (QV w.heap.size W7 a [.int .i64 xk, .string (tx xc), .int .i64 xl, .int .i64 xh, .slice xa4 xn4 xc4, .slice xa5 xn5 xc5]) := qv_of a (QG.kp (G := (fun g => w.heap.size < g ∧ g ≠ b5)) (hW7 ▸ KG.six (fun e => Nat.lt_irrefl _ e.1) _ _ _ _ _ _) (fun g hg _ => Nat.le_of_lt hg.1) a HQ.out)
        unfold set6 at hW7
        go_wp2
        have x0 := (HB7.out 0 _ rfl).c
        have x1 := (HB7.out 1 _ rfl).c
        have x2 := (HB7.out 2 _ rfl).c
        have x3 := (HB7.out 3 _ rfl).c
        have x4 := (HB7.out 4 _ rfl).c
        have x5 := (HB7.out 5 _ rfl).c
        exact bodyPost_ret (v := .agg #[.int .i64 xk, .string (tx xc), .int .i64 xl, .int .i64 xh, .slice xa4 xn4 xc4, .slice xa5 xn5 xc5]) (by simp [results, Tryz.results84, go_sem, x0, x1, x2, x3, x4, x5]) rfl ⟨⟨⟨_, rfl, _, rfl, HQ7.out⟩, HR7.out⟩, HG7.out⟩
end Go.Proofs.YtidfkencjdjkbaaGreatDoor

/-
  PACKAGE speech: sums.
-/
namespace Go.Proofs.YtidfkencjdjkbaaGreatDoor
open Go.RowKit Sp

set_option maxHeartbeats 4000000 in
set_option maxRecDepth 100000 in
theorem qus_of {lv : Int} {p : List Pc → PR Qu} (ht : Qc 47 lv p) : Qc 22 lv (qusP p 64) := by
  intro w R b P0 ps r h hX hr
  have hpl := h.pl
  obtain ⟨W0, hW0⟩ : ∃ W0, w.alloc (.cells #[.int .i64 0, .string ⟨#[]⟩, .int .i64 0, .int .i64 0, .slice none 0 0, .slice none 0 0] 25) = W0 := ⟨_, rfl⟩
  have hb0 : Below w.heap.size w W0 := hW0 ▸ ba _ _
  have HB0 : Hid (Bx W0 w.heap.size z6) := hW0 ▸ Bx.new w z6 25 rfl
  have hz0 : w.heap.size < W0.heap.size := (HB0.out 0 _ rfl).lt
  have HG0 : Hid (w.grownBy W0 (some R)) := gb_below hb0
  have hRl : w.heap.size ≠ R := by omega
  have hPl : w.heap.size ≠ P0 := by omega
  have HX : Hid (Cx w R b) := hX
  obtain ⟨r1, hr1⟩ : ∃ r1, p ps = r1 := ⟨_, rfl⟩
  have k1 := ht W0 R b P0 ps r1 (h.at hb0) (hX.at hb0) hr1
  unfold qusP at hr
  rw [hr1] at hr
  have HRR : Hid _ := hr
  clear h hX hb0 hr hr1
  go_enter Tryz.func22, Tryz.ntmps22
  go_wp2_with fail
  clear hW0
  refine k1.mono ?_
  rintro e w2 ⟨he, hg2⟩
  have HG2 : Hid (w.grownBy w2 (some R)) := gb_trans HG0.out hg2
  have HB2 : Hid (Bx w2 w.heap.size z6) := HB0.out.gb hg2 hRl
  have hz2 : W0.heap.size ≤ w2.heap.size := hg2.size
  clear k1 hg2 HB0 HG0
  cases r1 with
  | error x =>
    obtain ⟨c, a⟩ := x
    obtain rfl : .error (c, a) = r := HRR.out
    obtain rfl : e = .panicked (chn c a) := he
    go_wp2
    exact ⟨rfl, rfl, HG2.out⟩
  | ok x =>
    obtain ⟨a1, q1⟩ := x
    obtain ⟨⟨v, rfl, cs, rfl, hqv⟩, h2⟩ := he
    obtain ⟨xk, xc, xl, xh, xa4, xn4, xc4, xa5, xn5, xc5, rfl⟩ := hqv.six
    obtain ⟨b5, hb5⟩ : ∃ b5, w2.heap.size = b5 := ⟨_, rfl⟩
    obtain ⟨W3, hW3⟩ : ∃ W3, w2.alloc (.cells #[.int .i64 xk, .string (tx xc), .int .i64 xl, .int .i64 xh, .slice xa4 xn4 xc4, .slice xa5 xn5 xc5] 25) = W3 := ⟨_, rfl⟩
    have hb3 : Below w2.heap.size w2 W3 := hW3 ▸ ba _ _
    have hz3 : b5 < W3.heap.size := by rw [← hW3, ← hb5]; simp
    have HC3 : Hid (Bx W3 b5 [.int .i64 xk, .string (tx xc), .int .i64 xl, .int .i64 xh, .slice xa4 xn4 xc4, .slice xa5 xn5 xc5]) := hb5 ▸ hW3 ▸ Bx.new w2 [.int .i64 xk, .string (tx xc), .int .i64 xl, .int .i64 xh, .slice xa4 xn4 xc4, .slice xa5 xn5 xc5] 25 rfl
    have H3 : Hid (Rdr W3 R P0 q1 (.map (some b))) := h2.at hb3
    have HG3 : Hid (w.grownBy W3 (some R)) := gb_trans HG2.out (gb_below hb3)
    have HB3 : Hid (Bx W3 w.heap.size z6) := HB2.out.at hb3
    have HQ3 : Hid (QG (fun g => w.heap.size < g ∧ g ≠ b5) W3 a1 [.int .i64 xk, .string (tx xc), .int .i64 xl, .int .i64 xh, .slice xa4 xn4 xc4, .slice xa5 xn5 xc5]) := QG.kp (KG.bl hb3) (fun g h1 h2 => ⟨by omega, by omega⟩) a1 (qg_of a1 hqv)
    have HP3 : Hid (sumL p 64 a1 q1 = r) := HRR.out
    have h5w : w.heap.size ≤ b5 := by omega
    have h5n : b5 ≠ w.heap.size := by omega
    have hR5 : b5 ≠ R := by omega
    have hP5 : b5 ≠ P0 := by omega
    clear hqv h2 hb3 HRR HB2 HG2
    go_wp2
    clear hW3
    go_loopw [6] (fun nv wr => ∃ (n : Nat) (a : Qu) (q : List Pc) (xk : Int) (xc : By) (xl xh : Int) (xa4 : Option Addr) (xn4 xc4 : Nat) (xa5 : Option Addr) (xn5 xc5 : Nat), nv = .int .i64 (n : Int) ∧ n ≤ 64 ∧ Hid (sumL p (64 - n) a q = r) ∧ Hid (Rdr wr R P0 q (.map (some b))) ∧ Hid (w.grownBy wr (some R)) ∧ Hid (Bx wr w.heap.size z6) ∧ Hid (Bx wr b5 [.int .i64 xk, .string (tx xc), .int .i64 xl, .int .i64 xh, .slice xa4 xn4 xc4, .slice xa5 xn5 xc5]) ∧ Hid (QG (fun g => w.heap.size < g ∧ g ≠ b5) wr a [.int .i64 xk, .string (tx xc), .int .i64 xl, .int .i64 xh, .slice xa4 xn4 xc4, .slice xa5 xn5 xc5]) ∧ Hid (b5 < wr.heap.size)) (fun nv _ => 65 - (intOf nv).toNat)
    case atStart => exact ⟨0, a1, q1, _, _, _, _, _, _, _, _, _, _, rfl, by omega, HP3, H3, HG3, HB3, HC3, HQ3, hz3⟩
    case round =>
      clear HP3 H3 HG3 HB3 HC3 HQ3 hz3
      obtain ⟨n, a, q, xk, xc, xl, xh, xa4, xn4, xc4, xa5, xn5, xc5, rfl, hn, HP, HR, HG, HB, HC, HQ, HZ⟩ := hrel
      by_cases c1 : hd q = sPlus
      ·
        have k3 := is_any HR.out sPlus true (by simpa using c1)
        go_wp2_with fail
        refine k3.mono ?_
        rintro e w3 ⟨rfl, rfl⟩
        by_cases c2 : n < 64
        · have k4 := pmust_ok HR.out 4
          have d1 : (n : Int) < 64 := by omega
          have d2 : decide (n < 64) = true := by simpa using c2
          obtain ⟨j, hj⟩ : ∃ j, 64 - n = j + 1 := ⟨63 - n, by omega⟩
          obtain ⟨r5, hr5⟩ : ∃ r5, p q.tail = r5 := ⟨_, rfl⟩
          have hA := HP.out
          rw [hj, sumL, if_pos (.inl c1), hr5] at hA
          rw [if_pos c1] at hA
          have HA2 : Hid _ := hA
          have HNE : Hid (hd q ≠ []) := by rw [Hid, c1]; decide
          have HT5 : Hid (p q.tail = r5) := hr5
          have HJ : Hid (64 - (n + 1) = j) := by rw [Hid]; omega
          have C1 : Hid (hd q = sPlus) := c1
          clear hA hr5 hj HP
          go_wp2_with fail
          refine k4.mono ?_
          rintro e w4 ⟨rfl, rfl⟩
          clear k4
          have k6 := is_any HR.out sPlus true (by simpa using C1.out)
          go_wp2_with fail
          refine k6.mono ?_
          rintro e w4 ⟨rfl, rfl⟩
          clear k6
          have k5 := step_any HR.out HNE.out
          go_wp2_with fail
          refine k5.mono ?_
          rintro e w5 ⟨rfl, h5, hg5⟩
          have HG5 : Hid (w.grownBy w5 (some R)) := gb_trans HG.out hg5
          have HB5 : Hid (Bx w5 w.heap.size z6) := HB.out.gb hg5 hRl
          have HC5 : Hid (Bx w5 b5 [.int .i64 xk, .string (tx xc), .int .i64 xl, .int .i64 xh, .slice xa4 xn4 xc4, .slice xa5 xn5 xc5]) := HC.out.gb hg5 hR5
          have HQ5 : Hid (QG (fun g => w.heap.size < g ∧ g ≠ b5) w5 a [.int .i64 xk, .string (tx xc), .int .i64 xl, .int .i64 xh, .slice xa4 xn4 xc4, .slice xa5 xn5 xc5]) := QG.kp (KG.gb hg5 (fun e => by omega)) (fun _ h _ => h) a HQ.out
          have H5 : Hid (Rdr w5 R P0 q.tail (.map (some b))) := h5
          have HZ5 : Hid (b5 < w5.heap.size) := Nat.lt_of_lt_of_le HZ.out hg5.size
          clear k5 hg5 h5 HR HG HB HC HQ HZ
          cases r5 with
          | error x =>
            obtain ⟨c, ea⟩ := x
            obtain rfl : .error (c, ea) = r := HA2.out
            go_wp2_with fail
            exact qus10e (fun _ _ d _ _ h => by cases d <;> exact h) _ _ _ _ _ _ _ _ _ _ _ _ _ _ _ _ _ _ _ _ _ _ _ _ _ _ _ _ _ _ _ _ _ _ _ _ _ _ _ _ _ w5 R b5 lv 4 xk xc xl xh xa4 xn4 xc4 xa5 xn5 xc5 c ea HC5.out (fun W hW => (ht W R b P0 _ _ (H5.out.at hW) ((HX.out.gb HG5.out).at hW) HT5.out).mono fun e w' k => ⟨k.1, k.2⟩) (fun a W hd hb => ⟨hd, rfl, gb_trans HG5.out hb⟩)
          | ok x =>
            obtain ⟨a2, q5⟩ := x
            go_wp2_with fail
            refine qus10 (fun _ _ d _ _ h => by cases d <;> exact h) _ _ _ _ _ _ _ _ _ _ _ _ _ _ _ _ _ _ _ _ _ _ _ _ _ _ _ _ _ _ _ _ _ _ _ _ _ _ _ _ _ w5 R b5 P0 lv 4 xk xc xl xh xa4 xn4 xc4 xa5 xn5 xc5 a2 q5 (.map (some b)) hR5 HC5.out (fun W hW => ht W R b P0 _ _ (H5.out.at hW) ((HX.out.gb HG5.out).at hW) HT5.out) ?_
            intro u37 u38 u39 u40 u41 u42 u43 yk yc yl yh ya4 yn4 yc4 ya5 yn5 yc5 V g5 lo hgV hrV hcV hgc hg5 hqy hlo
            obtain ⟨W6, hW6⟩ : ∃ W6, set6 V b5 (.int .i64 4) (.string ⟨#[]⟩) (.int .i64 0) (.int .i64 0) (.slice none 0 0) (.slice (some ⟨g5, 0, none⟩) 2 2) = W6 := ⟨_, rfl⟩
            have hg5' : b5 ≠ g5 := by have := HZ5.out; omega
            have HGV : Hid (w.grownBy V (some R)) := gb_trans HG5.out hgV
            have HG6 : Hid (w.grownBy W6 (some R)) := hW6 ▸ set6_gb HGV.out h5w _ _ _ _ _ _
            have HB6 : Hid (Bx W6 w.heap.size z6) := hW6 ▸ (((((((HB5.out.gb hgV hRl).oth h5n _).oth h5n _).oth h5n _).oth h5n _).oth h5n _).oth h5n _)
            have HC6 : Hid (Bx W6 b5 [.int .i64 4, .string (tx []), .int .i64 0, .int .i64 0, .slice none 0 0, .slice (some ⟨g5, 0, none⟩) 2 2]) := hW6 ▸ set6_bx hcV _ _ _ _ _ _
            have H6 : Hid (Rdr W6 R P0 q5 (.map (some b))) := hW6 ▸ set6_rd hrV hR5 hP5 _ _ _ _ _ _
            have HK6 : Hid (Bx W6 g5 ([.int .i64 xk, .string (tx xc), .int .i64 xl, .int .i64 xh, .slice xa4 xn4 xc4, .slice xa5 xn5 xc5] ++ [.int .i64 yk, .string (tx yc), .int .i64 yl, .int .i64 yh, .slice ya4 yn4 yc4, .slice ya5 yn5 yc5])) := hW6 ▸ ((((((hgc.oth hg5' _).oth hg5' _).oth hg5' _).oth hg5' _).oth hg5' _).oth hg5' _)
            have HQ6 : Hid (QG (fun g => w.heap.size < g ∧ g ≠ b5) W6 (.node 4 [] 0 0 [] 2 a a2) [.int .i64 4, .string (tx []), .int .i64 0, .int .i64 0, .slice none 0 0, .slice (some ⟨g5, 0, none⟩) 2 2]) := ⟨_, _, rfl, .inl ⟨rfl, rfl⟩, .inr (.inr ⟨rfl, g5, _, _, rfl, ⟨by have := HZ5.out; omega, fun e => hg5' e.symm⟩, (HK6.out 0 _ rfl).lt, QG.kp (KG.trans (KG.gb hgV (fun e => by omega)) (hW6 ▸ KG.six (fun e => e.2 rfl) _ _ _ _ _ _)) (fun _ h _ => h) a HQ5.out, QG.kp (G := fun g => lo ≤ g) (hW6 ▸ KG.six (fun e => by have := HZ5.out; omega) _ _ _ _ _ _) (fun g h _ => ⟨by have := HZ5.out; omega, by have := HZ5.out; omega⟩) a2 (qg_of a2 hqy), fun j u hu => (HK6.out j u hu).c⟩)⟩
            have HZ6 : Hid (b5 < W6.heap.size) := (HC6.out 0 _ rfl).lt
            have HA8 : Hid (sumL p (64 - (n + 1)) (.node 4 [] 0 0 [] 2 a a2) q5 = r) := by rw [Hid, HJ.out]; exact HA2.out
            rw [hW6]
            clear hW6 hgV hrV hcV hgc HGV HB5 HC5 HQ5 H5 HK6 HA2 hqy
            go_wp2
            go_roundw
            case rel => exact ⟨n + 1, _, _, _, _, _, _, _, _, _, _, _, _, by go_num, c2, HA8, H6, HG6, HB6, HC6, HQ6, HZ6⟩
            case measure => simp [intOf]; omega
        · have k4 := pmust_no HR.out 4
          obtain rfl : n = 64 := by omega
          have hA := HP.out
          rw [show 64 - 64 = 0 from rfl, sumL, if_pos (.inl c1)] at hA
          obtain rfl : .error (4, hat q) = r := hA
          go_wp2_with fail
          refine k4.mono ?_
          rintro e w4 ⟨rfl, rfl⟩
          go_wp2
          exact ⟨rfl, rfl, HG.out⟩
      have c0 := c1
      clear c1
      by_cases c1 : hd q = sMinus
      ·
        have k3 := is_any HR.out sPlus false (by simpa using c0)
        have k3b := is_any HR.out sMinus true (by simpa using c1)
        go_wp2_with fail
        refine k3.mono ?_
        rintro e w3 ⟨rfl, rfl⟩
        go_wp2_with fail
        refine k3b.mono ?_
        rintro e w3 ⟨rfl, rfl⟩
        by_cases c2 : n < 64
        · have k4 := pmust_ok HR.out 4
          have d1 : (n : Int) < 64 := by omega
          have d2 : decide (n < 64) = true := by simpa using c2
          obtain ⟨j, hj⟩ : ∃ j, 64 - n = j + 1 := ⟨63 - n, by omega⟩
          obtain ⟨r5, hr5⟩ : ∃ r5, p q.tail = r5 := ⟨_, rfl⟩
          have hA := HP.out
          rw [hj, sumL, if_pos (.inr c1), hr5] at hA
          rw [if_neg c0] at hA
          have HA2 : Hid _ := hA
          have HNE : Hid (hd q ≠ []) := by rw [Hid, c1]; decide
          have HT5 : Hid (p q.tail = r5) := hr5
          have HJ : Hid (64 - (n + 1) = j) := by rw [Hid]; omega
          have C0 : Hid (¬ hd q = sPlus) := c0
          clear hA hr5 hj HP
          go_wp2_with fail
          refine k4.mono ?_
          rintro e w4 ⟨rfl, rfl⟩
          clear k4
          have k6 := is_any HR.out sPlus false (by simpa using C0.out)
          go_wp2_with fail
          refine k6.mono ?_
          rintro e w4 ⟨rfl, rfl⟩
          clear k6
          have k5 := step_any HR.out HNE.out
          go_wp2_with fail
          refine k5.mono ?_
          rintro e w5 ⟨rfl, h5, hg5⟩
          have HG5 : Hid (w.grownBy w5 (some R)) := gb_trans HG.out hg5
          have HB5 : Hid (Bx w5 w.heap.size z6) := HB.out.gb hg5 hRl
          have HC5 : Hid (Bx w5 b5 [.int .i64 xk, .string (tx xc), .int .i64 xl, .int .i64 xh, .slice xa4 xn4 xc4, .slice xa5 xn5 xc5]) := HC.out.gb hg5 hR5
          have HQ5 : Hid (QG (fun g => w.heap.size < g ∧ g ≠ b5) w5 a [.int .i64 xk, .string (tx xc), .int .i64 xl, .int .i64 xh, .slice xa4 xn4 xc4, .slice xa5 xn5 xc5]) := QG.kp (KG.gb hg5 (fun e => by omega)) (fun _ h _ => h) a HQ.out
          have H5 : Hid (Rdr w5 R P0 q.tail (.map (some b))) := h5
          have HZ5 : Hid (b5 < w5.heap.size) := Nat.lt_of_lt_of_le HZ.out hg5.size
          clear k5 hg5 h5 HR HG HB HC HQ HZ
          cases r5 with
          | error x =>
            obtain ⟨c, ea⟩ := x
            obtain rfl : .error (c, ea) = r := HA2.out
            go_wp2_with fail
            exact qus10e (fun _ _ d _ _ h => by cases d <;> exact h) _ _ _ _ _ _ _ _ _ _ _ _ _ _ _ _ _ _ _ _ _ _ _ _ _ _ _ _ _ _ _ _ _ _ _ _ _ _ _ _ _ w5 R b5 lv 5 xk xc xl xh xa4 xn4 xc4 xa5 xn5 xc5 c ea HC5.out (fun W hW => (ht W R b P0 _ _ (H5.out.at hW) ((HX.out.gb HG5.out).at hW) HT5.out).mono fun e w' k => ⟨k.1, k.2⟩) (fun a W hd hb => ⟨hd, rfl, gb_trans HG5.out hb⟩)
          | ok x =>
            obtain ⟨a2, q5⟩ := x
            go_wp2_with fail
            refine qus10 (fun _ _ d _ _ h => by cases d <;> exact h) _ _ _ _ _ _ _ _ _ _ _ _ _ _ _ _ _ _ _ _ _ _ _ _ _ _ _ _ _ _ _ _ _ _ _ _ _ _ _ _ _ w5 R b5 P0 lv 5 xk xc xl xh xa4 xn4 xc4 xa5 xn5 xc5 a2 q5 (.map (some b)) hR5 HC5.out (fun W hW => ht W R b P0 _ _ (H5.out.at hW) ((HX.out.gb HG5.out).at hW) HT5.out) ?_
            intro u37 u38 u39 u40 u41 u42 u43 yk yc yl yh ya4 yn4 yc4 ya5 yn5 yc5 V g5 lo hgV hrV hcV hgc hg5 hqy hlo
            obtain ⟨W6, hW6⟩ : ∃ W6, set6 V b5 (.int .i64 5) (.string ⟨#[]⟩) (.int .i64 0) (.int .i64 0) (.slice none 0 0) (.slice (some ⟨g5, 0, none⟩) 2 2) = W6 := ⟨_, rfl⟩
            have hg5' : b5 ≠ g5 := by have := HZ5.out; omega
            have HGV : Hid (w.grownBy V (some R)) := gb_trans HG5.out hgV
            have HG6 : Hid (w.grownBy W6 (some R)) := hW6 ▸ set6_gb HGV.out h5w _ _ _ _ _ _
            have HB6 : Hid (Bx W6 w.heap.size z6) := hW6 ▸ (((((((HB5.out.gb hgV hRl).oth h5n _).oth h5n _).oth h5n _).oth h5n _).oth h5n _).oth h5n _)
            have HC6 : Hid (Bx W6 b5 [.int .i64 5, .string (tx []), .int .i64 0, .int .i64 0, .slice none 0 0, .slice (some ⟨g5, 0, none⟩) 2 2]) := hW6 ▸ set6_bx hcV _ _ _ _ _ _
            have H6 : Hid (Rdr W6 R P0 q5 (.map (some b))) := hW6 ▸ set6_rd hrV hR5 hP5 _ _ _ _ _ _
            have HK6 : Hid (Bx W6 g5 ([.int .i64 xk, .string (tx xc), .int .i64 xl, .int .i64 xh, .slice xa4 xn4 xc4, .slice xa5 xn5 xc5] ++ [.int .i64 yk, .string (tx yc), .int .i64 yl, .int .i64 yh, .slice ya4 yn4 yc4, .slice ya5 yn5 yc5])) := hW6 ▸ ((((((hgc.oth hg5' _).oth hg5' _).oth hg5' _).oth hg5' _).oth hg5' _).oth hg5' _)
            have HQ6 : Hid (QG (fun g => w.heap.size < g ∧ g ≠ b5) W6 (.node 5 [] 0 0 [] 2 a a2) [.int .i64 5, .string (tx []), .int .i64 0, .int .i64 0, .slice none 0 0, .slice (some ⟨g5, 0, none⟩) 2 2]) := ⟨_, _, rfl, .inl ⟨rfl, rfl⟩, .inr (.inr ⟨rfl, g5, _, _, rfl, ⟨by have := HZ5.out; omega, fun e => hg5' e.symm⟩, (HK6.out 0 _ rfl).lt, QG.kp (KG.trans (KG.gb hgV (fun e => by omega)) (hW6 ▸ KG.six (fun e => e.2 rfl) _ _ _ _ _ _)) (fun _ h _ => h) a HQ5.out, QG.kp (G := fun g => lo ≤ g) (hW6 ▸ KG.six (fun e => by have := HZ5.out; omega) _ _ _ _ _ _) (fun g h _ => ⟨by have := HZ5.out; omega, by have := HZ5.out; omega⟩) a2 (qg_of a2 hqy), fun j u hu => (HK6.out j u hu).c⟩)⟩
            have HZ6 : Hid (b5 < W6.heap.size) := (HC6.out 0 _ rfl).lt
            have HA8 : Hid (sumL p (64 - (n + 1)) (.node 5 [] 0 0 [] 2 a a2) q5 = r) := by rw [Hid, HJ.out]; exact HA2.out
            rw [hW6]
            clear hW6 hgV hrV hcV hgc HGV HB5 HC5 HQ5 H5 HK6 HA2 hqy
            go_wp2
            go_roundw
            case rel => exact ⟨n + 1, _, _, _, _, _, _, _, _, _, _, _, _, by go_num, c2, HA8, H6, HG6, HB6, HC6, HQ6, HZ6⟩
            case measure => simp [intOf]; omega
        · have k4 := pmust_no HR.out 4
          obtain rfl : n = 64 := by omega
          have hA := HP.out
          rw [show 64 - 64 = 0 from rfl, sumL, if_pos (.inr c1)] at hA
          obtain rfl : .error (4, hat q) = r := hA
          go_wp2_with fail
          refine k4.mono ?_
          rintro e w4 ⟨rfl, rfl⟩
          go_wp2
          exact ⟨rfl, rfl, HG.out⟩
      · have k3 := is_any HR.out sPlus false (by simpa using c0)
        have k3b := is_any HR.out sMinus false (by simpa using c1)
        have hA : ∀ n, sumL p n a q = .ok (a, q) := fun n => by cases n <;> rw [sumL, if_neg (by simp [c0, c1])]
        obtain rfl : .ok (a, q) = r := (hA _).symm.trans HP.out
        clear hA HP c1
        go_wp2_with fail
        refine k3.mono ?_
        rintro e w3 ⟨rfl, rfl⟩
        clear k3
        go_wp2_with fail
        refine k3b.mono ?_
        rintro e w3 ⟨rfl, rfl⟩
        clear k3b
        have s0 := (HC.out 0 _ rfl).c
        have z0 := (HB.out 0 _ rfl).c
        have y0 := (HB.out 0 _ rfl).f
        have s1 := (HC.out 1 _ rfl).c
        have z1 := (HB.out 1 _ rfl).c
        have y1 := (HB.out 1 _ rfl).f
        have s2 := (HC.out 2 _ rfl).c
        have z2 := (HB.out 2 _ rfl).c
        have y2 := (HB.out 2 _ rfl).f
        have s3 := (HC.out 3 _ rfl).c
        have z3 := (HB.out 3 _ rfl).c
        have y3 := (HB.out 3 _ rfl).f
        have s4 := (HC.out 4 _ rfl).c
        have z4 := (HB.out 4 _ rfl).c
        have y4 := (HB.out 4 _ rfl).f
        have s5 := (HC.out 5 _ rfl).c
        have z5 := (HB.out 5 _ rfl).c
        have y5 := (HB.out 5 _ rfl).f
        obtain ⟨W7, hW7⟩ : ∃ W7, set6 w3 w.heap.size (.int .i64 xk) (.string (tx xc)) (.int .i64 xl) (.int .i64 xh) (.slice xa4 xn4 xc4) (.slice xa5 xn5 xc5) = W7 := ⟨_, rfl⟩
        have HB7 : Hid (Bx W7 w.heap.size [.int .i64 xk, .string (tx xc), .int .i64 xl, .int .i64 xh, .slice xa4 xn4 xc4, .slice xa5 xn5 xc5]) := hW7 ▸ set6_bx HB.out _ _ _ _ _ _
        have HR7 : Hid (Rdr W7 R P0 q (.map (some b))) := hW7 ▸ set6_rd HR.out hRl hPl _ _ _ _ _ _
        have HG7 : Hid (w.grownBy W7 (some R)) := hW7 ▸ set6_gb HG.out (Nat.le_refl _) _ _ _ _ _ _
        have HQ7 : Hid (QV w.heap.size W7 a [.int .i64 xk, .string (tx xc), .int .i64 xl, .int .i64 xh, .slice xa4 xn4 xc4, .slice xa5 xn5 xc5]) := qv_of a (QG.kp (G := (fun g => w.heap.size < g ∧ g ≠ b5)) (hW7 ▸ KG.six (fun e => Nat.lt_irrefl _ e.1) _ _ _ _ _ _) (fun g hg _ => Nat.le_of_lt hg.1) a HQ.out)
        unfold set6 at hW7
        go_wp2
        have x0 := (HB7.out 0 _ rfl).c
        have x1 := (HB7.out 1 _ rfl).c
        have x2 := (HB7.out 2 _ rfl).c
        have x3 := (HB7.out 3 _ rfl).c
        have x4 := (HB7.out 4 _ rfl).c
        have x5 := (HB7.out 5 _ rfl).c
        exact bodyPost_ret (v := .agg #[.int .i64 xk, .string (tx xc), .int .i64 xl, .int .i64 xh, .slice xa4 xn4 xc4, .slice xa5 xn5 xc5]) (by simp [results, Tryz.results22, go_sem, x0, x1, x2, x3, x4, x5]) rfl ⟨⟨⟨_, rfl, _, rfl, HQ7.out⟩, HR7.out⟩, HG7.out⟩
end Go.Proofs.YtidfkencjdjkbaaGreatDoor

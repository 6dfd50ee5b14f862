import Derived.Test.YtidfkencjdjkbaaDoorQr38
/-
  The document's own answer, chapter 15: thing: bins and sum.
-/
namespace Go.Proofs.YtidfkencjdjkbaaDoor
open Go.RowKit Sp

theorem thg_bins {q : List Pc → PR Qu} {ps : List Pc} (hx : hd ps = wBins) (r6 : PR (List Tst)) (h6 : onS whrP (nxS (nmP ps.tail)) = r6) :
    (∀ l qq, r6 = .ok (l, qq) → ∃ c q1, nmP ps.tail = .ok (c, q1) ∧ thgP q ps = .ok (.node 3 c 0 0 l 0 .none .none, qq)) ∧ (∀ e, r6 = .error e → thgP q ps = .error e) := by
  subst h6
  rw [thgP, if_neg (by rw [hx]; decide), if_neg (by rw [hx]; decide), if_pos hx]
  cases nmP ps.tail with
  | error e => exact ⟨fun l qq h => (by cases h), fun e' h => (by cases h; rfl)⟩
  | ok x =>
    obtain ⟨c, q1⟩ := x
    simp only [nxS, onS]
    cases whrP q1 with
    | error e => exact ⟨fun l qq h => (by cases h), fun e' h => (by cases h; rfl)⟩
    | ok y => obtain ⟨l, qq⟩ := y; exact ⟨fun l' q' h => (by cases h; exact ⟨c, q1, rfl, rfl⟩), fun e' h => (by cases h)⟩
theorem thg_sum {q : List Pc → PR Qu} {ps : List Pc} (hx : hd ps = wSum) (r7 : PR (Int × Int)) (h7 : onS spnP (nxS (onS (tk wIn) (nxS (nmP ps.tail)))) = r7) (r8 : PR (List Tst)) (h8 : onS whrP (nxS r7) = r8) :
    (∀ l qq, r8 = .ok (l, qq) → ∃ c q1 ab q2, nmP ps.tail = .ok (c, q1) ∧ r7 = .ok (ab, q2) ∧ thgP q ps = .ok (.node 2 c ab.1 ab.2 l 0 .none .none, qq)) ∧ (∀ e, r8 = .error e → thgP q ps = .error e) := by
  subst h8
  subst h7
  rw [thgP, if_neg (by rw [hx]; decide), if_neg (by rw [hx]; decide), if_neg (by rw [hx]; decide), if_pos hx]
  cases nmP ps.tail with
  | error e => exact ⟨fun l qq h => (by cases h), fun e' h => (by cases h; rfl)⟩
  | ok x =>
    obtain ⟨c, q1⟩ := x
    simp only [nxS, onS]
    cases tk wIn q1 with
    | error e => exact ⟨fun l qq h => (by cases h), fun e' h => (by cases h; rfl)⟩
    | ok y =>
      obtain ⟨u, q2⟩ := y
      simp only
      cases spnP q2 with
      | error e => exact ⟨fun l qq h => (by cases h), fun e' h => (by cases h; rfl)⟩
      | ok z =>
        obtain ⟨ab, q3⟩ := z
        simp only
        cases whrP q3 with
        | error e => exact ⟨fun l qq h => (by cases h), fun e' h => (by cases h; rfl)⟩
        | ok v => obtain ⟨l, qq⟩ := v; exact ⟨fun l' q' h => (by cases h; exact ⟨c, q1, ab, q3, rfl, rfl, rfl⟩), fun e' h => (by cases h)⟩
set_option maxHeartbeats 1500000 in
set_option maxRecDepth 100000 in
theorem thing_bins {q : List Pc → PR Qu} {w : World} {R P0 : Nat} {ps : List Pc} {r : PR Qu} (lv : Int) (h : SS w R P0 (.ok ps)) (hx : hd ps = wBins) (hr : thgP q ps = r) : Calls Tryd.prog 49 #[ptR R, .int .i64 lv] w (SP w R P0 (VN w.heap.size) GN r) := by
  obtain ⟨r5, hr5⟩ : ∃ r5, nmP ps.tail = r5 := ⟨_, rfl⟩
  obtain ⟨r6, hr6⟩ : ∃ r6, onS whrP (nxS r5) = r6 := ⟨_, rfl⟩
  have HTC : Hid ((∀ l qq, r6 = .ok (l, qq) → ∃ c q1, r5 = .ok (c, q1) ∧ r = .ok (.node 3 c 0 0 l 0 .none .none, qq)) ∧ (∀ e, r6 = .error e → r = .error e)) := by
    have := thg_bins (q := q) hx r6 (by rw [hr5]; exact hr6)
    rw [hr, hr5] at this
    exact this
  have HR5 : Hid (nmP ps.tail = r5) := hr5
  have HR6 : Hid (onS whrP (nxS r5) = r6) := hr6
  clear hr5 hr6
  have hRl := h.lt
  have hPl := h.pl
  have hXR : w.heap.size ≠ R := by omega
  have hXP : w.heap.size ≠ P0 := by omega
  obtain ⟨W0, hW0⟩ : ∃ W0, w.alloc (.cells #[.int .i64 0, .string ⟨#[]⟩, .int .i64 0, .int .i64 0, .slice none 0 0, .slice none 0 0] 25) = W0 := ⟨_, rfl⟩
  have hb0 : Below w.heap.size w W0 := hW0 ▸ ba _ _
  have HB0 : Hid (Bx W0 w.heap.size z6) := hW0 ▸ Bx.new w z6 25 rfl
  have HS0 : Hid (SS W0 R P0 (.ok ps)) := h.at hb0
  have HG0 : Hid (w.grownBy W0 (some R)) := gb_below hb0
  obtain ⟨cc, i, n, q0, q1, q2, q3, hin, hnc, hn6, p0, p1, hPR, _, _, hpk, hfz⟩ := HS0.out.alive
  have hini : (i : Int) < (n : Int) := by omega
  rw [hx] at p0
  have HX : Hid (hd ps = wBins) := hx
  clear h hr hb0 hx hfz hpk
  go_enter Tryd.func49, Tryd.ntmps49
  go_wp2_with fail
  clear hW0
  go_quiet (fail)
  obtain ⟨w1, hw1⟩ : ∃ w1, W0.drewN nq = w1 := ⟨_, rfl⟩
  have hbd : Below W0.heap.size W0 w1 := hw1 ▸ below_drewN (Below.refl _ _) _
  have HB1 : Hid (Bx w1 w.heap.size z6) := HB0.out.at hbd
  have HS1 : Hid (SS w1 R P0 (.ok ps)) := HS0.out.at hbd
  have HG1 : Hid (w.grownBy w1 (some R)) := gb_trans HG0.out (gb_below hbd)
  have hz1 : w.heap.size < w1.heap.size := (HB1.out 0 _ rfl).lt
  rw [hw1]
  clear hw1 hbd q0 q1 q2 q3 p0 p1 hin hnc hn6 hPR hini HB0 HS0 HG0
  obtain ⟨b6, hb6⟩ : ∃ b6, w1.heap.size = b6 := ⟨_, rfl⟩
  obtain ⟨W2, hW2⟩ : ∃ W2, w1.alloc (.cells #[.int .i64 0, .string ⟨#[]⟩, .int .i64 0, .int .i64 0, .slice none 0 0, .slice none 0 0] 25) = W2 := ⟨_, rfl⟩
  have hb2 : Below w1.heap.size w1 W2 := hW2 ▸ ba _ _
  have HE2 : Hid (Bx W2 b6 z6) := hW2 ▸ Bx.new w1 z6 25 hb6.symm
  have o0 := (HE2.out 0 _ rfl).c
  have o1 := (HE2.out 1 _ rfl).c
  have o2 := (HE2.out 2 _ rfl).c
  have o3 := (HE2.out 3 _ rfl).c
  have o4 := (HE2.out 4 _ rfl).c
  have o5 := (HE2.out 5 _ rfl).c
  have f0 := (HE2.out 0 _ rfl).f
  have f1 := (HE2.out 1 _ rfl).f
  have f2 := (HE2.out 2 _ rfl).f
  have f3 := (HE2.out 3 _ rfl).f
  have f4 := (HE2.out 4 _ rfl).f
  have f5 := (HE2.out 5 _ rfl).f
  obtain ⟨W3, hW3⟩ : ∃ W3, set6 W2 b6 (.int .i64 0) (.string ⟨#[]⟩) (.int .i64 0) (.int .i64 0) (.slice none 0 0) (.slice none 0 0) = W3 := ⟨_, rfl⟩
  have TH3 : Hid (Th w R P0 b6 (.ok ps) z6 W3) := ⟨hRl, hPl, by omega, hW3 ▸ (HS1.out.at hb2).six (by omega) (by omega) _ _ _ _ _ _, hW3 ▸ set6_gb (gb_trans HG1.out (gb_below hb2)) (by omega) _ _ _ _ _ _, hW3 ▸ (HB1.out.at hb2).sixo (by omega) _ _ _ _ _ _, hW3 ▸ set6_bx HE2.out _ _ _ _ _ _⟩
  have hbw : w.heap.size < b6 := TH3.out.hb
  have hbl : b6 < W3.heap.size := (TH3.out.b 0 _ rfl).lt
  unfold set6 at hW3
  clear hb2 HB1 HS1 HG1 HE2
  obtain ⟨cc, i, n, q0, q1, q2, q3, hin, hnc, hn6, p0, p1, hPR, _, _, _, hfz⟩ := TH3.out.s.alive
  have z1 : W3.frozen? ⟨R, 1, none⟩ = false := (hfz 1).resolve_right (by omega)
  have hw : IntKind.i64.wrap ((i : Int) + 1) = (i : Int) + 1 := by rw [IntKind.wrap_i64]; omega
  obtain ⟨W4, hW4⟩ : ∃ W4, W3.setCell ⟨R, 1, none⟩ (.int .i64 ((i : Int) + 1)) = W4 := ⟨_, rfl⟩
  have TH4 : Hid (Th w R P0 b6 (.ok ps.tail) z6 W4) := hW4 ▸ TH3.out.step q1 (by rw [HX.out]; decide)
  have t0 := (TH4.out.b 0 _ rfl).c
  have t0f := (TH4.out.b 0 _ rfl).f
  obtain ⟨W5, hW5⟩ : ∃ W5, W4.setCell ⟨b6, 0, none⟩ (.int .i64 3) = W5 := ⟨_, rfl⟩
  have TH5 : Hid (Th w R P0 b6 (.ok ps.tail) [.int .i64 3, .string ⟨#[]⟩, .int .i64 0, .int .i64 0, .slice none 0 0, .slice none 0 0] W5) := hW5 ▸ TH4.out.put 0 (by decide) _
  clear hfz q0 q2 q3 p0 p1 hin hnc hn6 hPR
  have qq0 := eqs wBins wCount false (by decide)
  have qq1 := eqs wBins wBins true (by decide)
  have qq2 := eqs wBins wSum false (by decide)
  have qq3 := eqs wBins wTotal false (by decide)
  have qq4 := eqs wBins wClamp false (by decide)
  have qq5 := eqs wBins wJoin false (by decide)
  have k6 := rname69 TH5.out.s r5 HR5.out
  go_wp2_with fail
  clear hW2 hW3 hW4 hW5 hb6 q1 z1 hw t0 t0f
  refine k6.mono ?_
  intro e w6 hsp
  obtain ⟨cN, rfl, hcN, hs, hg⟩ := hsp.str
  have HCN : Hid (∀ a q, r5 = .ok (a, q) → cN = a) := hcN
  have TH6 : Hid (Th w R P0 b6 (nxS r5) [.int .i64 3, .string ⟨#[]⟩, .int .i64 0, .int .i64 0, .slice none 0 0, .slice none 0 0] w6) := TH5.out.gb hs hg
  clear hsp hcN
  clear k6 hs hg
  have m7 := (TH6.out.b 1 _ rfl).c
  have m7f := (TH6.out.b 1 _ rfl).f
  obtain ⟨V7, hV7⟩ : ∃ V7, w6.setCell ⟨b6, 1, none⟩ (.string (tx cN)) = V7 := ⟨_, rfl⟩
  have TH7 : Hid (Th w R P0 b6 (nxS r5) [.int .i64 3, .string (tx cN), .int .i64 0, .int .i64 0, .slice none 0 0, .slice none 0 0] V7) := hV7 ▸ TH6.out.put 1 (by simp) _
  have k8 := rtst68 TH7.out.s r6 HR6.out
  go_wp2_with fail
  clear  hV7 m7 m7f
  refine k8.mono ?_
  intro e w8 hsp
  obtain ⟨ta, tn, tc, rfl, hts, hs, hg⟩ := hsp.tst
  have hzT : b6 < V7.heap.size := (TH7.out.b 0 _ rfl).lt
  have HT6 : Hid (∀ l q, r6 = .ok (l, q) → TG (fun g => b6 < g) w8 l (.slice ta tn tc)) := fun l q e => tg_of (hts l q e) (fun g hg => by omega)
  have TH8 : Hid (Th w R P0 b6 (nxS r6) [.int .i64 3, .string (tx cN), .int .i64 0, .int .i64 0, .slice none 0 0, .slice none 0 0] w8) := TH7.out.gb hs hg
  clear hsp hts
  clear k8 hs hg
  have m9 := (TH8.out.b 4 _ rfl).c
  have m9f := (TH8.out.b 4 _ rfl).f
  obtain ⟨V9, hV9⟩ : ∃ V9, w8.setCell ⟨b6, 4, none⟩ (.slice ta tn tc) = V9 := ⟨_, rfl⟩
  have TH9 : Hid (Th w R P0 b6 (nxS r6) [.int .i64 3, .string (tx cN), .int .i64 0, .int .i64 0, .slice ta tn tc, .slice none 0 0] V9) := hV9 ▸ TH8.out.put 4 (by simp) _
  have HC9 : Hid (KG (fun g => b6 < g) w8 V9) := hV9 ▸ KG.put (fun h => Nat.lt_irrefl _ h) _ _
  have s0 := (TH9.out.b 0 _ rfl).c
  have s1 := (TH9.out.b 1 _ rfl).c
  have s2 := (TH9.out.b 2 _ rfl).c
  have s3 := (TH9.out.b 3 _ rfl).c
  have s4 := (TH9.out.b 4 _ rfl).c
  have s5 := (TH9.out.b 5 _ rfl).c
  have z0 := (TH9.out.x 0 _ rfl).c
  have z1 := (TH9.out.x 1 _ rfl).c
  have z2 := (TH9.out.x 2 _ rfl).c
  have z3 := (TH9.out.x 3 _ rfl).c
  have z4 := (TH9.out.x 4 _ rfl).c
  have z5 := (TH9.out.x 5 _ rfl).c
  have y0 := (TH9.out.x 0 _ rfl).f
  have y1 := (TH9.out.x 1 _ rfl).f
  have y2 := (TH9.out.x 2 _ rfl).f
  have y3 := (TH9.out.x 3 _ rfl).f
  have y4 := (TH9.out.x 4 _ rfl).f
  have y5 := (TH9.out.x 5 _ rfl).f
  obtain ⟨W9, hW9⟩ : ∃ W9, set6 V9 w.heap.size (.int .i64 3) (.string (tx cN)) (.int .i64 0) (.int .i64 0) (.slice ta tn tc) (.slice none 0 0) = W9 := ⟨_, rfl⟩
  have HB9 : Hid (Bx W9 w.heap.size [.int .i64 3, .string (tx cN), .int .i64 0, .int .i64 0, .slice ta tn tc, .slice none 0 0]) := hW9 ▸ set6_bx TH9.out.x _ _ _ _ _ _
  have HS9 : Hid (SS W9 R P0 _) := hW9 ▸ TH9.out.s.six (Nat.ne_of_gt TH9.out.hR) (Nat.ne_of_gt TH9.out.hP) _ _ _ _ _ _
  have HG9 : Hid (w.grownBy W9 (some R)) := hW9 ▸ set6_gb TH9.out.g (Nat.le_refl _) _ _ _ _ _ _
  have HK9 : Hid (KG (fun g => w.heap.size < g) V9 W9) := hW9 ▸ KG.six (fun h => Nat.lt_irrefl _ h) _ _ _ _ _ _
  unfold set6 at hW9
  go_wp2
  clear hW9
  have x0 := (HB9.out 0 _ rfl).c
  have x1 := (HB9.out 1 _ rfl).c
  have x2 := (HB9.out 2 _ rfl).c
  have x3 := (HB9.out 3 _ rfl).c
  have x4 := (HB9.out 4 _ rfl).c
  have x5 := (HB9.out 5 _ rfl).c
  refine bodyPost_ret (v := .agg #[.int .i64 3, .string (tx cN), .int .i64 0, .int .i64 0, .slice ta tn tc, .slice none 0 0]) (by simp [results, Tryd.results49, go_sem, x0, x1, x2, x3, x4, x5]) rfl ?_
  refine sp_fin (fun qq e => ?_) (fun e he => ?_) HS9.out HG9.out
  · cases r6 with
    | error e' => cases e
    | ok y =>
      obtain ⟨l, q'⟩ := y
      cases e
      obtain ⟨c, q1, e1, hfin⟩ := HTC.out.1 l _ rfl
      obtain rfl : cN = c := HCN.out c q1 e1
      exact ⟨_, hfin, _, _, rfl, ((HT6.out l _ rfl).kp HC9.out (fun g h _ => Nat.lt_trans hbw h)).kp HK9.out (fun g h _ => Nat.le_of_lt h), .inl ⟨rfl, rfl⟩⟩
  · cases r6 with
    | error e' => cases he; exact HTC.out.2 _ rfl
    | ok y => cases he

set_option maxHeartbeats 1500000 in
set_option maxRecDepth 100000 in
theorem thing_sum {q : List Pc → PR Qu} {w : World} {R P0 : Nat} {ps : List Pc} {r : PR Qu} (lv : Int) (h : SS w R P0 (.ok ps)) (hx : hd ps = wSum) (hr : thgP q ps = r) : Calls Tryd.prog 49 #[ptR R, .int .i64 lv] w (SP w R P0 (VN w.heap.size) GN r) := by
  obtain ⟨r5, hr5⟩ : ∃ r5, nmP ps.tail = r5 := ⟨_, rfl⟩
  obtain ⟨s6, hs6⟩ : ∃ s6, nxS (onS (tk wIn) (nxS r5)) = s6 := ⟨_, rfl⟩
  obtain ⟨r7, hr7⟩ : ∃ r7, onS spnP s6 = r7 := ⟨_, rfl⟩
  obtain ⟨r8, hr8⟩ : ∃ r8, onS whrP (nxS r7) = r8 := ⟨_, rfl⟩
  have HTC : Hid ((∀ l qq, r8 = .ok (l, qq) → ∃ c q1 ab q2, r5 = .ok (c, q1) ∧ r7 = .ok (ab, q2) ∧ r = .ok (.node 2 c ab.1 ab.2 l 0 .none .none, qq)) ∧ (∀ e, r8 = .error e → r = .error e)) := by
    have := thg_sum (q := q) hx r7 (by rw [hr5, hs6]; exact hr7) r8 hr8
    rw [hr, hr5] at this
    exact this
  have HR5 : Hid (nmP ps.tail = r5) := hr5
  have HS6 : Hid (nxS (onS (tk wIn) (nxS r5)) = s6) := hs6
  have HR7 : Hid (onS spnP s6 = r7) := hr7
  have HR8 : Hid (onS whrP (nxS r7) = r8) := hr8
  clear hr5 hs6 hr7 hr8
  have hRl := h.lt
  have hPl := h.pl
  have hXR : w.heap.size ≠ R := by omega
  have hXP : w.heap.size ≠ P0 := by omega
  obtain ⟨W0, hW0⟩ : ∃ W0, w.alloc (.cells #[.int .i64 0, .string ⟨#[]⟩, .int .i64 0, .int .i64 0, .slice none 0 0, .slice none 0 0] 25) = W0 := ⟨_, rfl⟩
  have hb0 : Below w.heap.size w W0 := hW0 ▸ ba _ _
  have HB0 : Hid (Bx W0 w.heap.size z6) := hW0 ▸ Bx.new w z6 25 rfl
  have HS0 : Hid (SS W0 R P0 (.ok ps)) := h.at hb0
  have HG0 : Hid (w.grownBy W0 (some R)) := gb_below hb0
  obtain ⟨cc, i, n, q0, q1, q2, q3, hin, hnc, hn6, p0, p1, hPR, _, _, hpk, hfz⟩ := HS0.out.alive
  have hini : (i : Int) < (n : Int) := by omega
  rw [hx] at p0
  have HX : Hid (hd ps = wSum) := hx
  clear h hr hb0 hx hfz hpk
  go_enter Tryd.func49, Tryd.ntmps49
  go_wp2_with fail
  clear hW0
  go_quiet (fail)
  obtain ⟨w1, hw1⟩ : ∃ w1, W0.drewN nq = w1 := ⟨_, rfl⟩
  have hbd : Below W0.heap.size W0 w1 := hw1 ▸ below_drewN (Below.refl _ _) _
  have HB1 : Hid (Bx w1 w.heap.size z6) := HB0.out.at hbd
  have HS1 : Hid (SS w1 R P0 (.ok ps)) := HS0.out.at hbd
  have HG1 : Hid (w.grownBy w1 (some R)) := gb_trans HG0.out (gb_below hbd)
  have hz1 : w.heap.size < w1.heap.size := (HB1.out 0 _ rfl).lt
  rw [hw1]
  clear hw1 hbd q0 q1 q2 q3 p0 p1 hin hnc hn6 hPR hini HB0 HS0 HG0
  obtain ⟨b6, hb6⟩ : ∃ b6, w1.heap.size = b6 := ⟨_, rfl⟩
  obtain ⟨W2, hW2⟩ : ∃ W2, w1.alloc (.cells #[.int .i64 0, .string ⟨#[]⟩, .int .i64 0, .int .i64 0, .slice none 0 0, .slice none 0 0] 25) = W2 := ⟨_, rfl⟩
  have hb2 : Below w1.heap.size w1 W2 := hW2 ▸ ba _ _
  have HE2 : Hid (Bx W2 b6 z6) := hW2 ▸ Bx.new w1 z6 25 hb6.symm
  have o0 := (HE2.out 0 _ rfl).c
  have o1 := (HE2.out 1 _ rfl).c
  have o2 := (HE2.out 2 _ rfl).c
  have o3 := (HE2.out 3 _ rfl).c
  have o4 := (HE2.out 4 _ rfl).c
  have o5 := (HE2.out 5 _ rfl).c
  have f0 := (HE2.out 0 _ rfl).f
  have f1 := (HE2.out 1 _ rfl).f
  have f2 := (HE2.out 2 _ rfl).f
  have f3 := (HE2.out 3 _ rfl).f
  have f4 := (HE2.out 4 _ rfl).f
  have f5 := (HE2.out 5 _ rfl).f
  obtain ⟨W3, hW3⟩ : ∃ W3, set6 W2 b6 (.int .i64 0) (.string ⟨#[]⟩) (.int .i64 0) (.int .i64 0) (.slice none 0 0) (.slice none 0 0) = W3 := ⟨_, rfl⟩
  have TH3 : Hid (Th w R P0 b6 (.ok ps) z6 W3) := ⟨hRl, hPl, by omega, hW3 ▸ (HS1.out.at hb2).six (by omega) (by omega) _ _ _ _ _ _, hW3 ▸ set6_gb (gb_trans HG1.out (gb_below hb2)) (by omega) _ _ _ _ _ _, hW3 ▸ (HB1.out.at hb2).sixo (by omega) _ _ _ _ _ _, hW3 ▸ set6_bx HE2.out _ _ _ _ _ _⟩
  have hbw : w.heap.size < b6 := TH3.out.hb
  have hbl : b6 < W3.heap.size := (TH3.out.b 0 _ rfl).lt
  unfold set6 at hW3
  clear hb2 HB1 HS1 HG1 HE2
  obtain ⟨cc, i, n, q0, q1, q2, q3, hin, hnc, hn6, p0, p1, hPR, _, _, _, hfz⟩ := TH3.out.s.alive
  have z1 : W3.frozen? ⟨R, 1, none⟩ = false := (hfz 1).resolve_right (by omega)
  have hw : IntKind.i64.wrap ((i : Int) + 1) = (i : Int) + 1 := by rw [IntKind.wrap_i64]; omega
  obtain ⟨W4, hW4⟩ : ∃ W4, W3.setCell ⟨R, 1, none⟩ (.int .i64 ((i : Int) + 1)) = W4 := ⟨_, rfl⟩
  have TH4 : Hid (Th w R P0 b6 (.ok ps.tail) z6 W4) := hW4 ▸ TH3.out.step q1 (by rw [HX.out]; decide)
  have t0 := (TH4.out.b 0 _ rfl).c
  have t0f := (TH4.out.b 0 _ rfl).f
  obtain ⟨W5, hW5⟩ : ∃ W5, W4.setCell ⟨b6, 0, none⟩ (.int .i64 2) = W5 := ⟨_, rfl⟩
  have TH5 : Hid (Th w R P0 b6 (.ok ps.tail) [.int .i64 2, .string ⟨#[]⟩, .int .i64 0, .int .i64 0, .slice none 0 0, .slice none 0 0] W5) := hW5 ▸ TH4.out.put 0 (by decide) _
  clear hfz q0 q2 q3 p0 p1 hin hnc hn6 hPR
  have qq0 := eqs wSum wCount false (by decide)
  have qq1 := eqs wSum wBins false (by decide)
  have qq2 := eqs wSum wSum true (by decide)
  have qq3 := eqs wSum wTotal false (by decide)
  have qq4 := eqs wSum wClamp false (by decide)
  have qq5 := eqs wSum wJoin false (by decide)
  have k6 := rname69 TH5.out.s r5 HR5.out
  go_wp2_with fail
  clear hW2 hW3 hW4 hW5 hb6 q1 z1 hw t0 t0f
  refine k6.mono ?_
  intro e w6 hsp
  obtain ⟨cN, rfl, hcN, hs, hg⟩ := hsp.str
  have HCN : Hid (∀ a q, r5 = .ok (a, q) → cN = a) := hcN
  have TH6 : Hid (Th w R P0 b6 (nxS r5) [.int .i64 2, .string ⟨#[]⟩, .int .i64 0, .int .i64 0, .slice none 0 0, .slice none 0 0] w6) := TH5.out.gb hs hg
  clear hsp hcN
  clear k6 hs hg
  have m7 := (TH6.out.b 1 _ rfl).c
  have m7f := (TH6.out.b 1 _ rfl).f
  obtain ⟨V7, hV7⟩ : ∃ V7, w6.setCell ⟨b6, 1, none⟩ (.string (tx cN)) = V7 := ⟨_, rfl⟩
  have TH7 : Hid (Th w R P0 b6 (nxS r5) [.int .i64 2, .string (tx cN), .int .i64 0, .int .i64 0, .slice none 0 0, .slice none 0 0] V7) := hV7 ▸ TH6.out.put 1 (by simp) _
  have k8 := want_any TH7.out.s wIn (by decide) s6 HS6.out
  go_wp2_with fail
  clear  hV7 m7 m7f
  refine k8.mono ?_
  rintro e w8 ⟨rfl, hs, hg⟩
  have TH8 : Hid (Th w R P0 b6 s6 [.int .i64 2, .string (tx cN), .int .i64 0, .int .i64 0, .slice none 0 0, .slice none 0 0] w8) := TH7.out.gb hs hg
  clear k8 hs hg
  have k9 := rspn70 TH8.out.s r7 HR7.out
  go_wp2_with fail
  refine k9.mono ?_
  intro e w9 hsp
  obtain ⟨lo, hi, rfl, hlh, hs, hg⟩ := hsp.spn
  have HLH : Hid (∀ x q, r7 = .ok (x, q) → x = (lo, hi)) := hlh
  have TH9 : Hid (Th w R P0 b6 (nxS r7) [.int .i64 2, .string (tx cN), .int .i64 0, .int .i64 0, .slice none 0 0, .slice none 0 0] w9) := TH8.out.gb hs hg
  clear hsp hlh
  clear k9 hs hg
  have m10 := (TH9.out.b 2 _ rfl).c
  have m10f := (TH9.out.b 2 _ rfl).f
  obtain ⟨V10, hV10⟩ : ∃ V10, w9.setCell ⟨b6, 2, none⟩ (.int .i64 lo) = V10 := ⟨_, rfl⟩
  have TH10 : Hid (Th w R P0 b6 (nxS r7) [.int .i64 2, .string (tx cN), .int .i64 lo, .int .i64 0, .slice none 0 0, .slice none 0 0] V10) := hV10 ▸ TH9.out.put 2 (by simp) _
  have m11 := (TH10.out.b 3 _ rfl).c
  have m11f := (TH10.out.b 3 _ rfl).f
  obtain ⟨V11, hV11⟩ : ∃ V11, V10.setCell ⟨b6, 3, none⟩ (.int .i64 hi) = V11 := ⟨_, rfl⟩
  have TH11 : Hid (Th w R P0 b6 (nxS r7) [.int .i64 2, .string (tx cN), .int .i64 lo, .int .i64 hi, .slice none 0 0, .slice none 0 0] V11) := hV11 ▸ TH10.out.put 3 (by simp) _
  have k12 := rtst68 TH11.out.s r8 HR8.out
  go_wp2_with fail
  clear  hV10 m10 m10f hV11 m11 m11f
  refine k12.mono ?_
  intro e w12 hsp
  obtain ⟨ta, tn, tc, rfl, hts, hs, hg⟩ := hsp.tst
  have hzT : b6 < V11.heap.size := (TH11.out.b 0 _ rfl).lt
  have HT6 : Hid (∀ l q, r8 = .ok (l, q) → TG (fun g => b6 < g) w12 l (.slice ta tn tc)) := fun l q e => tg_of (hts l q e) (fun g hg => by omega)
  have TH12 : Hid (Th w R P0 b6 (nxS r8) [.int .i64 2, .string (tx cN), .int .i64 lo, .int .i64 hi, .slice none 0 0, .slice none 0 0] w12) := TH11.out.gb hs hg
  clear hsp hts
  clear k12 hs hg
  have m13 := (TH12.out.b 4 _ rfl).c
  have m13f := (TH12.out.b 4 _ rfl).f
  obtain ⟨V13, hV13⟩ : ∃ V13, w12.setCell ⟨b6, 4, none⟩ (.slice ta tn tc) = V13 := ⟨_, rfl⟩
  have TH13 : Hid (Th w R P0 b6 (nxS r8) [.int .i64 2, .string (tx cN), .int .i64 lo, .int .i64 hi, .slice ta tn tc, .slice none 0 0] V13) := hV13 ▸ TH12.out.put 4 (by simp) _
  have HC13 : Hid (KG (fun g => b6 < g) w12 V13) := hV13 ▸ KG.put (fun h => Nat.lt_irrefl _ h) _ _
  have s0 := (TH13.out.b 0 _ rfl).c
  have s1 := (TH13.out.b 1 _ rfl).c
  have s2 := (TH13.out.b 2 _ rfl).c
  have s3 := (TH13.out.b 3 _ rfl).c
  have s4 := (TH13.out.b 4 _ rfl).c
  have s5 := (TH13.out.b 5 _ rfl).c
  have z0 := (TH13.out.x 0 _ rfl).c
  have z1 := (TH13.out.x 1 _ rfl).c
  have z2 := (TH13.out.x 2 _ rfl).c
  have z3 := (TH13.out.x 3 _ rfl).c
  have z4 := (TH13.out.x 4 _ rfl).c
  have z5 := (TH13.out.x 5 _ rfl).c
  have y0 := (TH13.out.x 0 _ rfl).f
  have y1 := (TH13.out.x 1 _ rfl).f
  have y2 := (TH13.out.x 2 _ rfl).f
  have y3 := (TH13.out.x 3 _ rfl).f
  have y4 := (TH13.out.x 4 _ rfl).f
  have y5 := (TH13.out.x 5 _ rfl).f
  obtain ⟨W9, hW9⟩ : ∃ W9, set6 V13 w.heap.size (.int .i64 2) (.string (tx cN)) (.int .i64 lo) (.int .i64 hi) (.slice ta tn tc) (.slice none 0 0) = W9 := ⟨_, rfl⟩
  have HB9 : Hid (Bx W9 w.heap.size [.int .i64 2, .string (tx cN), .int .i64 lo, .int .i64 hi, .slice ta tn tc, .slice none 0 0]) := hW9 ▸ set6_bx TH13.out.x _ _ _ _ _ _
  have HS9 : Hid (SS W9 R P0 _) := hW9 ▸ TH13.out.s.six (Nat.ne_of_gt TH13.out.hR) (Nat.ne_of_gt TH13.out.hP) _ _ _ _ _ _
  have HG9 : Hid (w.grownBy W9 (some R)) := hW9 ▸ set6_gb TH13.out.g (Nat.le_refl _) _ _ _ _ _ _
  have HK9 : Hid (KG (fun g => w.heap.size < g) V13 W9) := hW9 ▸ KG.six (fun h => Nat.lt_irrefl _ h) _ _ _ _ _ _
  unfold set6 at hW9
  go_wp2
  clear hW9
  have x0 := (HB9.out 0 _ rfl).c
  have x1 := (HB9.out 1 _ rfl).c
  have x2 := (HB9.out 2 _ rfl).c
  have x3 := (HB9.out 3 _ rfl).c
  have x4 := (HB9.out 4 _ rfl).c
  have x5 := (HB9.out 5 _ rfl).c
  refine bodyPost_ret (v := .agg #[.int .i64 2, .string (tx cN), .int .i64 lo, .int .i64 hi, .slice ta tn tc, .slice none 0 0]) (by simp [results, Tryd.results49, go_sem, x0, x1, x2, x3, x4, x5]) rfl ?_
  refine sp_fin (fun qq e => ?_) (fun e he => ?_) HS9.out HG9.out
  · cases r8 with
    | error e' => cases e
    | ok y =>
      obtain ⟨l, q'⟩ := y
      cases e
      obtain ⟨c, q1, ab, q2, e1, e2, hfin⟩ := HTC.out.1 l _ rfl
      obtain rfl : cN = c := HCN.out c q1 e1
      obtain rfl : ab = (lo, hi) := HLH.out ab q2 e2
      exact ⟨_, hfin, _, _, rfl, ((HT6.out l _ rfl).kp HC13.out (fun g h _ => Nat.lt_trans hbw h)).kp HK9.out (fun g h _ => Nat.le_of_lt h), .inl ⟨rfl, rfl⟩⟩
  · cases r8 with
    | error e' => cases he; exact HTC.out.2 _ rfl
    | ok y => cases he
end Go.Proofs.YtidfkencjdjkbaaDoor

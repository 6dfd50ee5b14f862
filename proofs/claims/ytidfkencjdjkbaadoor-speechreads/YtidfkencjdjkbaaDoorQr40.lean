import Derived.Test.YtidfkencjdjkbaaDoorQr39
/-
  The document's own answer, chapter 15: thing: brackets, total, clamp.
-/
namespace Go.Proofs.YtidfkencjdjkbaaDoor
open Go.RowKit Sp

theorem Th.six {w0 w : World} {R P0 b6 : Nat} {st : St} {o0 o1 o2 o3 o4 o5 : Value} (h : Th w0 R P0 b6 st [o0, o1, o2, o3, o4, o5] w) (a c d e f g : Value) : Th w0 R P0 b6 st [a, c, d, e, f, g] (set6 w b6 a c d e f g) :=
  ⟨h.hR, h.hP, h.hb, h.s.six (by have := h.hR; have := h.hb; omega) (by have := h.hP; have := h.hb; omega) _ _ _ _ _ _, set6_gb h.g (Nat.le_of_lt h.hb) _ _ _ _ _ _, h.x.sixo (Nat.ne_of_gt h.hb) _ _ _ _ _ _, set6_bx h.b _ _ _ _ _ _⟩
theorem brk_st {q : List Pc → PR Qu} (st : St) (s5 : St) (h5 : nxS (onS (tk sOpen) st) = s5) (r6 : PR Qu) (h6 : onS q s5 = r6) (s7 : St) (h7 : nxS (onS (tk sShut) (nxS r6)) = s7) :
    (∀ qq, s7 = .ok qq → ∃ a q1, r6 = .ok (a, q1) ∧ onS (brkP q) st = .ok (a, qq)) ∧ (∀ e, s7 = .error e → onS (brkP q) st = .error e) := by
  subst h7
  subst h6
  subst h5
  cases st with
  | error e => exact ⟨fun qq h => (by cases h), fun e' h => (by cases h; rfl)⟩
  | ok ps =>
    simp only [onS, brkP]
    cases tk sOpen ps with
    | error e => exact ⟨fun qq h => (by cases h), fun e' h => (by cases h; rfl)⟩
    | ok x =>
      obtain ⟨u, q1⟩ := x
      simp only [nxS]
      cases q q1 with
      | error e => exact ⟨fun qq h => (by cases h), fun e' h => (by cases h; rfl)⟩
      | ok y =>
        obtain ⟨a, q2⟩ := y
        simp only
        cases tk sShut q2 with
        | error e => exact ⟨fun qq h => (by cases h), fun e' h => (by cases h; rfl)⟩
        | ok z => obtain ⟨v, q3⟩ := z; exact ⟨fun qq h => (by cases h; exact ⟨a, q2, rfl, rfl⟩), fun e' h => (by cases h)⟩
theorem thg_brk {q : List Pc → PR Qu} {ps : List Pc} (n0 : ¬ hd ps = wCount) (n1 : ¬ hd ps = wBins) (n2 : ¬ hd ps = wSum) (n3 : ¬ hd ps = wTotal) (n4 : ¬ hd ps = wClamp) (n5 : ¬ hd ps = wJoin) : thgP q ps = brkP q ps := by
  rw [thgP]
  by_cases h : hd ps = sOpen
  · rw [if_pos h]
  · rw [if_neg h, if_neg n0, if_neg n1, if_neg n2, if_neg n3, if_neg n4, if_neg n5, brkP, tk_no h]
theorem thg_total {q : List Pc → PR Qu} {ps : List Pc} (hx : hd ps = wTotal) : thgP q ps = match brkP q ps.tail with
    | .error e => .error e
    | .ok (a, r) => .ok (.node 8 [] 0 0 [] 1 a .none, r) := by
  rw [thgP, if_neg (by rw [hx]; decide), if_neg (by rw [hx]; decide), if_neg (by rw [hx]; decide), if_neg (by rw [hx]; decide), if_pos hx]
  cases brkP q ps.tail <;> rfl
theorem thg_clamp {q : List Pc → PR Qu} {ps : List Pc} (hx : hd ps = wClamp) : thgP q ps = match spnP ps.tail with
    | .error e => .error e
    | .ok (ab, r) => match brkP q r with
      | .error e => .error e
      | .ok (a, r) => .ok (.node 10 [] ab.1 ab.2 [] 1 a .none, r) := by
  rw [thgP, if_neg (by rw [hx]; decide), if_neg (by rw [hx]; decide), if_neg (by rw [hx]; decide), if_neg (by rw [hx]; decide), if_neg (by rw [hx]; decide), if_pos hx]
  cases spnP ps.tail with
  | error e => rfl
  | ok x =>
    obtain ⟨ab, r⟩ := x
    simp only
    cases brkP q r <;> rfl
set_option maxHeartbeats 1500000 in
set_option maxRecDepth 100000 in
theorem thing_brk {q : List Pc → PR Qu} {w : World} {R P0 : Nat} {ps : List Pc} {r : PR Qu} {lv : Int} (hl : 1 ≤ lv ∧ lv ≤ 64) (hq : QS 19 (lv + 1) q) (h : SS w R P0 (.ok ps)) (n0 : ¬ hd ps = wCount) (n1 : ¬ hd ps = wBins) (n2 : ¬ hd ps = wSum) (n3 : ¬ hd ps = wTotal) (n4 : ¬ hd ps = wClamp) (n5 : ¬ hd ps = wJoin) (hr : thgP q ps = r) : Calls Tryd.prog 49 #[ptR R, .int .i64 lv] w (SP w R P0 (VN w.heap.size) GN r) := by
  obtain ⟨s5, hs5⟩ : ∃ s5, nxS (onS (tk sOpen) (.ok ps)) = s5 := ⟨_, rfl⟩
  obtain ⟨r6, hr6⟩ : ∃ r6, onS q s5 = r6 := ⟨_, rfl⟩
  obtain ⟨s7, hs7⟩ : ∃ s7, nxS (onS (tk sShut) (nxS r6)) = s7 := ⟨_, rfl⟩
  have HTC : Hid ((∀ qq, s7 = .ok qq → ∃ a q1, r6 = .ok (a, q1) ∧ r = .ok (a, qq)) ∧ (∀ e, s7 = .error e → r = .error e)) := by
    rw [Hid, ← hr, thg_brk n0 n1 n2 n3 n4 n5]
    exact brk_st (.ok ps) s5 hs5 r6 hr6 s7 hs7
  have HS5 : Hid (nxS (onS (tk sOpen) (.ok ps)) = s5) := hs5
  have HR6 : Hid (onS q s5 = r6) := hr6
  have HS7 : Hid (nxS (onS (tk sShut) (nxS r6)) = s7) := hs7
  have HQ : Hid (QS 19 (lv + 1) q) := hq
  have hwl : IntKind.i64.wrap (lv + 1) = lv + 1 := by rw [IntKind.wrap_i64]; omega
  clear hs5 hr6 hs7 hq
  obtain ⟨x, hx⟩ : ∃ x, hd ps = x := ⟨_, rfl⟩
  rw [hx] at n0 n1 n2 n3 n4 n5
  have hRl := h.lt
  have hPl := h.pl
  have hXR : w.heap.size ≠ R := by omega
  have hXP : w.heap.size ≠ P0 := by omega
  obtain ⟨W0, hW0⟩ : ∃ W0, w.alloc (.cells #[.int .i64 0, .string ⟨#[]⟩, .int .i64 0, .int .i64 0, .slice none 0 0, .slice none 0 0] 25) = W0 := ⟨_, rfl⟩
  have hb0 : Below w.heap.size w W0 := hW0 ▸ ba _ _
  have HB0 : Hid (Bx W0 w.heap.size z6) := hW0 ▸ Bx.new w z6 25 rfl
  have HS0 : Hid (SS W0 R P0 (.ok ps)) := h.at hb0
  have HG0 : Hid (w.grownBy W0 (some R)) := gb_below hb0
  obtain ⟨cc, i, n, q0, q1, q2, q3, hin, hnc, hn6, p0, p1, hPR, _, _, hpk, hfz⟩ := HS0.out.alive
  have hini : (i : Int) < (n : Int) := by omega
  rw [hx] at p0
  have HX : Hid (hd ps = x) := hx
  clear h hr hb0 hx hfz hpk
  go_enter Tryd.func49, Tryd.ntmps49
  go_wp2_with fail
  clear hW0
  go_quiet (fail)
  obtain ⟨w1, hw1⟩ : ∃ w1, W0.drewN nq = w1 := ⟨_, rfl⟩
  have hbd : Below W0.heap.size W0 w1 := hw1 ▸ below_drewN (Below.refl _ _) _
  have HB1 : Hid (Bx w1 w.heap.size z6) := HB0.out.at hbd
  have HS1 : Hid (SS w1 R P0 (.ok ps)) := HS0.out.at hbd
  have HG1 : Hid (w.grownBy w1 (some R)) := gb_trans HG0.out (gb_below hbd)
  have hz1 : w.heap.size < w1.heap.size := (HB1.out 0 _ rfl).lt
  rw [hw1]
  clear hw1 hbd q0 q1 q2 q3 p0 p1 hin hnc hn6 hPR hini HB0 HS0 HG0
  obtain ⟨b6, hb6⟩ : ∃ b6, w1.heap.size = b6 := ⟨_, rfl⟩
  obtain ⟨W2, hW2⟩ : ∃ W2, w1.alloc (.cells #[.int .i64 0, .string ⟨#[]⟩, .int .i64 0, .int .i64 0, .slice none 0 0, .slice none 0 0] 25) = W2 := ⟨_, rfl⟩
  have hb2 : Below w1.heap.size w1 W2 := hW2 ▸ ba _ _
  have HE2 : Hid (Bx W2 b6 z6) := hW2 ▸ Bx.new w1 z6 25 hb6.symm
  have o0 := (HE2.out 0 _ rfl).c
  have o1 := (HE2.out 1 _ rfl).c
  have o2 := (HE2.out 2 _ rfl).c
  have o3 := (HE2.out 3 _ rfl).c
  have o4 := (HE2.out 4 _ rfl).c
  have o5 := (HE2.out 5 _ rfl).c
  have f0 := (HE2.out 0 _ rfl).f
  have f1 := (HE2.out 1 _ rfl).f
  have f2 := (HE2.out 2 _ rfl).f
  have f3 := (HE2.out 3 _ rfl).f
  have f4 := (HE2.out 4 _ rfl).f
  have f5 := (HE2.out 5 _ rfl).f
  obtain ⟨W3, hW3⟩ : ∃ W3, set6 W2 b6 (.int .i64 0) (.string ⟨#[]⟩) (.int .i64 0) (.int .i64 0) (.slice none 0 0) (.slice none 0 0) = W3 := ⟨_, rfl⟩
  have TH3 : Hid (Th w R P0 b6 (.ok ps) z6 W3) := ⟨hRl, hPl, by omega, hW3 ▸ (HS1.out.at hb2).six (by omega) (by omega) _ _ _ _ _ _, hW3 ▸ set6_gb (gb_trans HG1.out (gb_below hb2)) (by omega) _ _ _ _ _ _, hW3 ▸ (HB1.out.at hb2).sixo (by omega) _ _ _ _ _ _, hW3 ▸ set6_bx HE2.out _ _ _ _ _ _⟩
  have hbw : w.heap.size < b6 := TH3.out.hb
  have hbl : b6 < W3.heap.size := (TH3.out.b 0 _ rfl).lt
  unfold set6 at hW3
  clear hb2 HB1 HS1 HG1 HE2
  have qq0 := eqs x wCount false (decide_eq_false n0)
  have pp0 : (x == wCount) = false := by rw [by_beq]; exact decide_eq_false n0
  have qq1 := eqs x wBins false (decide_eq_false n1)
  have pp1 : (x == wBins) = false := by rw [by_beq]; exact decide_eq_false n1
  have qq2 := eqs x wSum false (decide_eq_false n2)
  have pp2 : (x == wSum) = false := by rw [by_beq]; exact decide_eq_false n2
  have qq3 := eqs x wTotal false (decide_eq_false n3)
  have pp3 : (x == wTotal) = false := by rw [by_beq]; exact decide_eq_false n3
  have qq4 := eqs x wClamp false (decide_eq_false n4)
  have pp4 : (x == wClamp) = false := by rw [by_beq]; exact decide_eq_false n4
  have qq5 := eqs x wJoin false (decide_eq_false n5)
  have pp5 : (x == wJoin) = false := by rw [by_beq]; exact decide_eq_false n5
  have k4 := want_any TH3.out.s sOpen (by decide) s5 HS5.out
  go_wp2_with fail
  clear hW2 hW3 hb6
  refine k4.mono ?_
  rintro e w4 ⟨rfl, hs, hg⟩
  have TH4 : Hid (Th w R P0 b6 s5 [.int .i64 0, .string ⟨#[]⟩, .int .i64 0, .int .i64 0, .slice none 0 0, .slice none 0 0] w4) := TH3.out.gb hs hg
  clear k4 hs hg
  have k5 := HQ.out w4 R P0 s5 r6 TH4.out.s HR6.out
  go_wp2_with fail
  refine k5.mono ?_
  intro e w5 hsp
  obtain ⟨ka, ca, la, ha, a4a, n4a, c4a, a5a, n5a, c5a, rfl, hqa, hs, hg⟩ := hsp.ask
  have hzTA : b6 < w4.heap.size := (TH4.out.b 0 _ rfl).lt
  have HQA : Hid (∀ a q, r6 = .ok (a, q) → QN (fun g => b6 < g) w5 a [.int .i64 ka, .string (tx ca), .int .i64 la, .int .i64 ha, .slice a4a n4a c4a, .slice a5a n5a c5a]) := fun a q e => QN.kp (KG.refl _ _) (fun g h _ => by have h1 : w4.heap.size ≤ g := h; omega) a (hqa a q e)
  have TH5 : Hid (Th w R P0 b6 (nxS r6) [.int .i64 0, .string ⟨#[]⟩, .int .i64 0, .int .i64 0, .slice none 0 0, .slice none 0 0] w5) := TH4.out.gb hs hg
  clear hsp hqa
  clear k5 hs hg
  have m60 := (TH5.out.b 0 _ rfl).c
  have n60 := (TH5.out.b 0 _ rfl).f
  have m61 := (TH5.out.b 1 _ rfl).c
  have n61 := (TH5.out.b 1 _ rfl).f
  have m62 := (TH5.out.b 2 _ rfl).c
  have n62 := (TH5.out.b 2 _ rfl).f
  have m63 := (TH5.out.b 3 _ rfl).c
  have n63 := (TH5.out.b 3 _ rfl).f
  have m64 := (TH5.out.b 4 _ rfl).c
  have n64 := (TH5.out.b 4 _ rfl).f
  have m65 := (TH5.out.b 5 _ rfl).c
  have n65 := (TH5.out.b 5 _ rfl).f
  obtain ⟨V6, hV6⟩ : ∃ V6, set6 w5 b6 (.int .i64 ka) (.string (tx ca)) (.int .i64 la) (.int .i64 ha) (.slice a4a n4a c4a) (.slice a5a n5a c5a) = V6 := ⟨_, rfl⟩
  have TH6 : Hid (Th w R P0 b6 (nxS r6) [.int .i64 ka, .string (tx ca), .int .i64 la, .int .i64 ha, .slice a4a n4a c4a, .slice a5a n5a c5a] V6) := hV6 ▸ TH5.out.six _ _ _ _ _ _
  have HA6 : Hid (KG (fun g => b6 < g) w5 V6) := hV6 ▸ KG.six (fun h => Nat.lt_irrefl _ h) _ _ _ _ _ _
  unfold set6 at hV6
  have k7 := want_any TH6.out.s sShut (by decide) s7 HS7.out
  go_wp2_with fail
  clear  hV6 m60 n60 m61 n61 m62 n62 m63 n63 m64 n64 m65 n65
  refine k7.mono ?_
  rintro e w7 ⟨rfl, hs, hg⟩
  have TH7 : Hid (Th w R P0 b6 s7 [.int .i64 ka, .string (tx ca), .int .i64 la, .int .i64 ha, .slice a4a n4a c4a, .slice a5a n5a c5a] w7) := TH6.out.gb hs hg
  have HA7 : Hid (KG (fun g => b6 < g) w5 w7) := HA6.out.trans (KG.gb hg (fun h => by have h1 := TH6.out.hR; have h2 := TH6.out.hb; have h3 : b6 < R := h; omega))
  clear k7 hs hg
  have s0 := (TH7.out.b 0 _ rfl).c
  have s1 := (TH7.out.b 1 _ rfl).c
  have s2 := (TH7.out.b 2 _ rfl).c
  have s3 := (TH7.out.b 3 _ rfl).c
  have s4 := (TH7.out.b 4 _ rfl).c
  have s5 := (TH7.out.b 5 _ rfl).c
  have z0 := (TH7.out.x 0 _ rfl).c
  have z1 := (TH7.out.x 1 _ rfl).c
  have z2 := (TH7.out.x 2 _ rfl).c
  have z3 := (TH7.out.x 3 _ rfl).c
  have z4 := (TH7.out.x 4 _ rfl).c
  have z5 := (TH7.out.x 5 _ rfl).c
  have y0 := (TH7.out.x 0 _ rfl).f
  have y1 := (TH7.out.x 1 _ rfl).f
  have y2 := (TH7.out.x 2 _ rfl).f
  have y3 := (TH7.out.x 3 _ rfl).f
  have y4 := (TH7.out.x 4 _ rfl).f
  have y5 := (TH7.out.x 5 _ rfl).f
  obtain ⟨W9, hW9⟩ : ∃ W9, set6 w7 w.heap.size (.int .i64 ka) (.string (tx ca)) (.int .i64 la) (.int .i64 ha) (.slice a4a n4a c4a) (.slice a5a n5a c5a) = W9 := ⟨_, rfl⟩
  have HB9 : Hid (Bx W9 w.heap.size [.int .i64 ka, .string (tx ca), .int .i64 la, .int .i64 ha, .slice a4a n4a c4a, .slice a5a n5a c5a]) := hW9 ▸ set6_bx TH7.out.x _ _ _ _ _ _
  have HS9 : Hid (SS W9 R P0 _) := hW9 ▸ TH7.out.s.six (Nat.ne_of_gt TH7.out.hR) (Nat.ne_of_gt TH7.out.hP) _ _ _ _ _ _
  have HG9 : Hid (w.grownBy W9 (some R)) := hW9 ▸ set6_gb TH7.out.g (Nat.le_refl _) _ _ _ _ _ _
  have HK9 : Hid (KG (fun g => w.heap.size < g) w7 W9) := hW9 ▸ KG.six (fun h => Nat.lt_irrefl _ h) _ _ _ _ _ _
  unfold set6 at hW9
  go_wp2
  clear hW9
  have x0 := (HB9.out 0 _ rfl).c
  have x1 := (HB9.out 1 _ rfl).c
  have x2 := (HB9.out 2 _ rfl).c
  have x3 := (HB9.out 3 _ rfl).c
  have x4 := (HB9.out 4 _ rfl).c
  have x5 := (HB9.out 5 _ rfl).c
  refine bodyPost_ret (v := .agg #[.int .i64 ka, .string (tx ca), .int .i64 la, .int .i64 ha, .slice a4a n4a c4a, .slice a5a n5a c5a]) (by simp [results, Tryd.results49, go_sem, x0, x1, x2, x3, x4, x5]) rfl ?_
  refine sp_fin (fun qq e => ?_) (fun e he => ?_) HS9.out HG9.out
  · obtain ⟨a, q1, e1, hfin⟩ := HTC.out.1 qq e
    exact ⟨a, hfin, QN.kp HK9.out (fun g h _ => Nat.le_of_lt h) a (QN.kp HA7.out (fun g h _ => Nat.lt_trans hbw h) a (HQA.out a q1 e1))⟩
  · exact HTC.out.2 e he

set_option maxHeartbeats 1500000 in
set_option maxRecDepth 100000 in
theorem thing_total {q : List Pc → PR Qu} {w : World} {R P0 : Nat} {ps : List Pc} {r : PR Qu} {lv : Int} (hl : 1 ≤ lv ∧ lv ≤ 64) (hq : QS 19 (lv + 1) q) (h : SS w R P0 (.ok ps)) (hx : hd ps = wTotal) (hr : thgP q ps = r) : Calls Tryd.prog 49 #[ptR R, .int .i64 lv] w (SP w R P0 (VN w.heap.size) GN r) := by
  obtain ⟨s5, hs5⟩ : ∃ s5, nxS (onS (tk sOpen) (.ok ps.tail)) = s5 := ⟨_, rfl⟩
  obtain ⟨r6, hr6⟩ : ∃ r6, onS q s5 = r6 := ⟨_, rfl⟩
  obtain ⟨s7, hs7⟩ : ∃ s7, nxS (onS (tk sShut) (nxS r6)) = s7 := ⟨_, rfl⟩
  have HTC : Hid ((∀ qq, s7 = .ok qq → ∃ a q1, r6 = .ok (a, q1) ∧ r = .ok (.node 8 [] 0 0 [] 1 a .none, qq)) ∧ (∀ e, s7 = .error e → r = .error e)) := by
    have hh := brk_st (q := q) (.ok ps.tail) s5 hs5 r6 hr6 s7 hs7
    rw [Hid, ← hr, thg_total hx]
    exact ⟨fun qq e => by obtain ⟨a, q1, e1, e2⟩ := hh.1 qq e; simp only [onS] at e2; rw [e2]; exact ⟨a, q1, e1, rfl⟩, fun e he => by have e2 := hh.2 e he; simp only [onS] at e2; rw [e2]⟩
  have HS5 : Hid (nxS (onS (tk sOpen) (.ok ps.tail)) = s5) := hs5
  have HR6 : Hid (onS q s5 = r6) := hr6
  have HS7 : Hid (nxS (onS (tk sShut) (nxS r6)) = s7) := hs7
  have HQ : Hid (QS 19 (lv + 1) q) := hq
  have hwl : IntKind.i64.wrap (lv + 1) = lv + 1 := by rw [IntKind.wrap_i64]; omega
  clear hs5 hr6 hs7 hq
  have hRl := h.lt
  have hPl := h.pl
  have hXR : w.heap.size ≠ R := by omega
  have hXP : w.heap.size ≠ P0 := by omega
  obtain ⟨W0, hW0⟩ : ∃ W0, w.alloc (.cells #[.int .i64 0, .string ⟨#[]⟩, .int .i64 0, .int .i64 0, .slice none 0 0, .slice none 0 0] 25) = W0 := ⟨_, rfl⟩
  have hb0 : Below w.heap.size w W0 := hW0 ▸ ba _ _
  have HB0 : Hid (Bx W0 w.heap.size z6) := hW0 ▸ Bx.new w z6 25 rfl
  have HS0 : Hid (SS W0 R P0 (.ok ps)) := h.at hb0
  have HG0 : Hid (w.grownBy W0 (some R)) := gb_below hb0
  obtain ⟨cc, i, n, q0, q1, q2, q3, hin, hnc, hn6, p0, p1, hPR, _, _, hpk, hfz⟩ := HS0.out.alive
  have hini : (i : Int) < (n : Int) := by omega
  rw [hx] at p0
  have HX : Hid (hd ps = wTotal) := hx
  clear h hr hb0 hx hfz hpk
  go_enter Tryd.func49, Tryd.ntmps49
  go_wp2_with fail
  clear hW0
  go_quiet (fail)
  obtain ⟨w1, hw1⟩ : ∃ w1, W0.drewN nq = w1 := ⟨_, rfl⟩
  have hbd : Below W0.heap.size W0 w1 := hw1 ▸ below_drewN (Below.refl _ _) _
  have HB1 : Hid (Bx w1 w.heap.size z6) := HB0.out.at hbd
  have HS1 : Hid (SS w1 R P0 (.ok ps)) := HS0.out.at hbd
  have HG1 : Hid (w.grownBy w1 (some R)) := gb_trans HG0.out (gb_below hbd)
  have hz1 : w.heap.size < w1.heap.size := (HB1.out 0 _ rfl).lt
  rw [hw1]
  clear hw1 hbd q0 q1 q2 q3 p0 p1 hin hnc hn6 hPR hini HB0 HS0 HG0
  obtain ⟨b6, hb6⟩ : ∃ b6, w1.heap.size = b6 := ⟨_, rfl⟩
  obtain ⟨W2, hW2⟩ : ∃ W2, w1.alloc (.cells #[.int .i64 0, .string ⟨#[]⟩, .int .i64 0, .int .i64 0, .slice none 0 0, .slice none 0 0] 25) = W2 := ⟨_, rfl⟩
  have hb2 : Below w1.heap.size w1 W2 := hW2 ▸ ba _ _
  have HE2 : Hid (Bx W2 b6 z6) := hW2 ▸ Bx.new w1 z6 25 hb6.symm
  have o0 := (HE2.out 0 _ rfl).c
  have o1 := (HE2.out 1 _ rfl).c
  have o2 := (HE2.out 2 _ rfl).c
  have o3 := (HE2.out 3 _ rfl).c
  have o4 := (HE2.out 4 _ rfl).c
  have o5 := (HE2.out 5 _ rfl).c
  have f0 := (HE2.out 0 _ rfl).f
  have f1 := (HE2.out 1 _ rfl).f
  have f2 := (HE2.out 2 _ rfl).f
  have f3 := (HE2.out 3 _ rfl).f
  have f4 := (HE2.out 4 _ rfl).f
  have f5 := (HE2.out 5 _ rfl).f
  obtain ⟨W3, hW3⟩ : ∃ W3, set6 W2 b6 (.int .i64 0) (.string ⟨#[]⟩) (.int .i64 0) (.int .i64 0) (.slice none 0 0) (.slice none 0 0) = W3 := ⟨_, rfl⟩
  have TH3 : Hid (Th w R P0 b6 (.ok ps) z6 W3) := ⟨hRl, hPl, by omega, hW3 ▸ (HS1.out.at hb2).six (by omega) (by omega) _ _ _ _ _ _, hW3 ▸ set6_gb (gb_trans HG1.out (gb_below hb2)) (by omega) _ _ _ _ _ _, hW3 ▸ (HB1.out.at hb2).sixo (by omega) _ _ _ _ _ _, hW3 ▸ set6_bx HE2.out _ _ _ _ _ _⟩
  have hbw : w.heap.size < b6 := TH3.out.hb
  have hbl : b6 < W3.heap.size := (TH3.out.b 0 _ rfl).lt
  unfold set6 at hW3
  clear hb2 HB1 HS1 HG1 HE2
  obtain ⟨cc, i, n, q0, q1, q2, q3, hin, hnc, hn6, p0, p1, hPR, _, _, _, hfz⟩ := TH3.out.s.alive
  have z1 : W3.frozen? ⟨R, 1, none⟩ = false := (hfz 1).resolve_right (by omega)
  have hw : IntKind.i64.wrap ((i : Int) + 1) = (i : Int) + 1 := by rw [IntKind.wrap_i64]; omega
  obtain ⟨W4, hW4⟩ : ∃ W4, W3.setCell ⟨R, 1, none⟩ (.int .i64 ((i : Int) + 1)) = W4 := ⟨_, rfl⟩
  have TH4 : Hid (Th w R P0 b6 (.ok ps.tail) z6 W4) := hW4 ▸ TH3.out.step q1 (by rw [HX.out]; decide)
  have t0 := (TH4.out.b 0 _ rfl).c
  have t0f := (TH4.out.b 0 _ rfl).f
  obtain ⟨W5, hW5⟩ : ∃ W5, W4.setCell ⟨b6, 0, none⟩ (.int .i64 8) = W5 := ⟨_, rfl⟩
  have TH5 : Hid (Th w R P0 b6 (.ok ps.tail) [.int .i64 8, .string ⟨#[]⟩, .int .i64 0, .int .i64 0, .slice none 0 0, .slice none 0 0] W5) := hW5 ▸ TH4.out.put 0 (by decide) _
  clear hfz q0 q2 q3 p0 p1 hin hnc hn6 hPR
  have qq0 := eqs wTotal wCount false (by decide)
  have qq1 := eqs wTotal wBins false (by decide)
  have qq2 := eqs wTotal wSum false (by decide)
  have qq3 := eqs wTotal wTotal true (by decide)
  have qq4 := eqs wTotal wClamp false (by decide)
  have qq5 := eqs wTotal wJoin false (by decide)
  have k6 := want_any TH5.out.s sOpen (by decide) s5 HS5.out
  go_wp2_with fail
  clear hW2 hW3 hW4 hW5 hb6 q1 z1 hw t0 t0f
  refine k6.mono ?_
  rintro e w6 ⟨rfl, hs, hg⟩
  have TH6 : Hid (Th w R P0 b6 s5 [.int .i64 8, .string ⟨#[]⟩, .int .i64 0, .int .i64 0, .slice none 0 0, .slice none 0 0] w6) := TH5.out.gb hs hg
  clear k6 hs hg
  have k7 := HQ.out w6 R P0 s5 r6 TH6.out.s HR6.out
  go_wp2_with fail
  refine k7.mono ?_
  intro e w7 hsp
  obtain ⟨ka, ca, la, ha, a4a, n4a, c4a, a5a, n5a, c5a, rfl, hqa, hs, hg⟩ := hsp.ask
  have hzTA : b6 < w6.heap.size := (TH6.out.b 0 _ rfl).lt
  have HQA : Hid (∀ a q, r6 = .ok (a, q) → QN (fun g => b6 < g) w7 a [.int .i64 ka, .string (tx ca), .int .i64 la, .int .i64 ha, .slice a4a n4a c4a, .slice a5a n5a c5a]) := fun a q e => QN.kp (KG.refl _ _) (fun g h _ => by have h1 : w6.heap.size ≤ g := h; omega) a (hqa a q e)
  have TH7 : Hid (Th w R P0 b6 (nxS r6) [.int .i64 8, .string ⟨#[]⟩, .int .i64 0, .int .i64 0, .slice none 0 0, .slice none 0 0] w7) := TH6.out.gb hs hg
  clear hsp hqa
  clear k7 hs hg
  obtain ⟨rb, hrb⟩ : ∃ rb, w7.heap.size = rb := ⟨_, rfl⟩
  obtain ⟨V8, hV8⟩ : ∃ V8, w7.alloc (.cells #[.int .i64 ka, .string (tx ca), .int .i64 la, .int .i64 ha, .slice a4a n4a c4a, .slice a5a n5a c5a] 25) = V8 := ⟨_, rfl⟩
  have hbV8 : Below w7.heap.size w7 V8 := hV8 ▸ ba _ _
  have HErb : Hid (Bx V8 rb [.int .i64 ka, .string (tx ca), .int .i64 la, .int .i64 ha, .slice a4a n4a c4a, .slice a5a n5a c5a]) := hV8 ▸ Bx.new w7 [.int .i64 ka, .string (tx ca), .int .i64 la, .int .i64 ha, .slice a4a n4a c4a, .slice a5a n5a c5a] 25 hrb.symm
  have hltrb : b6 < rb := by rw [← hrb]; exact (TH7.out.b 0 _ rfl).lt
  have TH8 : Hid (Th w R P0 b6 (nxS r6) [.int .i64 8, .string ⟨#[]⟩, .int .i64 0, .int .i64 0, .slice none 0 0, .slice none 0 0] V8) := TH7.out.bl hbV8
  have HA8 : Hid (KG (fun g => b6 < g) w7 V8) := KG.bl hbV8
  clear hbV8
  have m9 := (TH8.out.b 5 _ rfl).c
  have m9f := (TH8.out.b 5 _ rfl).f
  obtain ⟨V9, hV9⟩ : ∃ V9, V8.setCell ⟨b6, 5, none⟩ (.slice (some ⟨rb, 0, none⟩) 1 1) = V9 := ⟨_, rfl⟩
  have TH9 : Hid (Th w R P0 b6 (nxS r6) [.int .i64 8, .string ⟨#[]⟩, .int .i64 0, .int .i64 0, .slice none 0 0, .slice (some ⟨rb, 0, none⟩) 1 1] V9) := hV9 ▸ TH8.out.put 5 (by simp) _
  have HA9 : Hid (KG (fun g => b6 < g) w7 V9) := HA8.out.trans (hV9 ▸ KG.put (fun h => Nat.lt_irrefl _ h) _ _)
  have HB9 : Hid (KG (fun g => b6 < g) V8 V9) := hV9 ▸ KG.put (fun h => Nat.lt_irrefl _ h) _ _
  have k10 := want_any TH9.out.s sShut (by decide) s7 HS7.out
  go_wp2_with fail
  clear  hV8 hrb hV9 m9 m9f
  refine k10.mono ?_
  rintro e w10 ⟨rfl, hs, hg⟩
  have TH10 : Hid (Th w R P0 b6 s7 [.int .i64 8, .string ⟨#[]⟩, .int .i64 0, .int .i64 0, .slice none 0 0, .slice (some ⟨rb, 0, none⟩) 1 1] w10) := TH9.out.gb hs hg
  have HA10 : Hid (KG (fun g => b6 < g) w7 w10) := HA9.out.trans (KG.gb hg (fun h => by have h1 := TH9.out.hR; have h2 := TH9.out.hb; have h3 : b6 < R := h; omega))
  have HB10 : Hid (KG (fun g => b6 < g) V8 w10) := HB9.out.trans (KG.gb hg (fun h => by have h1 := TH9.out.hR; have h2 := TH9.out.hb; have h3 : b6 < R := h; omega))
  clear k10 hs hg
  have s0 := (TH10.out.b 0 _ rfl).c
  have s1 := (TH10.out.b 1 _ rfl).c
  have s2 := (TH10.out.b 2 _ rfl).c
  have s3 := (TH10.out.b 3 _ rfl).c
  have s4 := (TH10.out.b 4 _ rfl).c
  have s5 := (TH10.out.b 5 _ rfl).c
  have z0 := (TH10.out.x 0 _ rfl).c
  have z1 := (TH10.out.x 1 _ rfl).c
  have z2 := (TH10.out.x 2 _ rfl).c
  have z3 := (TH10.out.x 3 _ rfl).c
  have z4 := (TH10.out.x 4 _ rfl).c
  have z5 := (TH10.out.x 5 _ rfl).c
  have y0 := (TH10.out.x 0 _ rfl).f
  have y1 := (TH10.out.x 1 _ rfl).f
  have y2 := (TH10.out.x 2 _ rfl).f
  have y3 := (TH10.out.x 3 _ rfl).f
  have y4 := (TH10.out.x 4 _ rfl).f
  have y5 := (TH10.out.x 5 _ rfl).f
  obtain ⟨W9, hW9⟩ : ∃ W9, set6 w10 w.heap.size (.int .i64 8) (.string ⟨#[]⟩) (.int .i64 0) (.int .i64 0) (.slice none 0 0) (.slice (some ⟨rb, 0, none⟩) 1 1) = W9 := ⟨_, rfl⟩
  have HB9 : Hid (Bx W9 w.heap.size [.int .i64 8, .string ⟨#[]⟩, .int .i64 0, .int .i64 0, .slice none 0 0, .slice (some ⟨rb, 0, none⟩) 1 1]) := hW9 ▸ set6_bx TH10.out.x _ _ _ _ _ _
  have HS9 : Hid (SS W9 R P0 _) := hW9 ▸ TH10.out.s.six (Nat.ne_of_gt TH10.out.hR) (Nat.ne_of_gt TH10.out.hP) _ _ _ _ _ _
  have HG9 : Hid (w.grownBy W9 (some R)) := hW9 ▸ set6_gb TH10.out.g (Nat.le_refl _) _ _ _ _ _ _
  have HK9 : Hid (KG (fun g => w.heap.size < g) w10 W9) := hW9 ▸ KG.six (fun h => Nat.lt_irrefl _ h) _ _ _ _ _ _
  unfold set6 at hW9
  go_wp2
  clear hW9
  have x0 := (HB9.out 0 _ rfl).c
  have x1 := (HB9.out 1 _ rfl).c
  have x2 := (HB9.out 2 _ rfl).c
  have x3 := (HB9.out 3 _ rfl).c
  have x4 := (HB9.out 4 _ rfl).c
  have x5 := (HB9.out 5 _ rfl).c
  refine bodyPost_ret (v := .agg #[.int .i64 8, .string ⟨#[]⟩, .int .i64 0, .int .i64 0, .slice none 0 0, .slice (some ⟨rb, 0, none⟩) 1 1]) (by simp [results, Tryd.results49, go_sem, x0, x1, x2, x3, x4, x5]) rfl ?_
  refine sp_fin (fun qq e => ?_) (fun e he => ?_) HS9.out HG9.out
  · obtain ⟨a, q1, e1, hfin⟩ := HTC.out.1 qq e
    exact ⟨_, hfin, _, _, rfl, .inl ⟨rfl, rfl⟩, .inr (.inl ⟨rfl, rb, 1, [.int .i64 ka, .string (tx ca), .int .i64 la, .int .i64 ha, .slice a4a n4a c4a, .slice a5a n5a c5a], rfl, Nat.le_refl _, Nat.le_of_lt (Nat.lt_trans hbw hltrb), Nat.lt_of_lt_of_le (HErb.out 0 _ rfl).lt (Nat.le_trans HB10.out.1 HK9.out.1), QN.kp HK9.out (fun g h _ => Nat.le_of_lt h) a (QN.kp HA10.out (fun g h _ => Nat.lt_trans hbw h) a (HQA.out a q1 e1)), fun j u hu => (HK9.out.cell (g := rb) (k := j) (Nat.lt_trans hbw hltrb) (Nat.lt_of_lt_of_le (HErb.out 0 _ rfl).lt HB10.out.1)).trans ((HB10.out.cell (g := rb) (k := j) hltrb (HErb.out 0 _ rfl).lt).trans (HErb.out j u hu).c)⟩)⟩
  · exact HTC.out.2 e he

set_option maxHeartbeats 1500000 in
set_option maxRecDepth 100000 in
theorem thing_clamp {q : List Pc → PR Qu} {w : World} {R P0 : Nat} {ps : List Pc} {r : PR Qu} {lv : Int} (hl : 1 ≤ lv ∧ lv ≤ 64) (hq : QS 19 (lv + 1) q) (h : SS w R P0 (.ok ps)) (hx : hd ps = wClamp) (hr : thgP q ps = r) : Calls Tryd.prog 49 #[ptR R, .int .i64 lv] w (SP w R P0 (VN w.heap.size) GN r) := by
  obtain ⟨r4, hr4⟩ : ∃ r4, spnP ps.tail = r4 := ⟨_, rfl⟩
  obtain ⟨s5, hs5⟩ : ∃ s5, nxS (onS (tk sOpen) (nxS r4)) = s5 := ⟨_, rfl⟩
  obtain ⟨r6, hr6⟩ : ∃ r6, onS q s5 = r6 := ⟨_, rfl⟩
  obtain ⟨s7, hs7⟩ : ∃ s7, nxS (onS (tk sShut) (nxS r6)) = s7 := ⟨_, rfl⟩
  have HTC : Hid ((∀ qq, s7 = .ok qq → ∃ a q1 ab q0, r6 = .ok (a, q1) ∧ r4 = .ok (ab, q0) ∧ r = .ok (.node 10 [] ab.1 ab.2 [] 1 a .none, qq)) ∧ (∀ e, s7 = .error e → r = .error e)) := by
    have hh := brk_st (q := q) (nxS r4) s5 hs5 r6 hr6 s7 hs7
    rw [Hid, ← hr, thg_clamp hx, hr4]
    cases r4 with
    | error e => exact ⟨fun qq e' => (by obtain ⟨a, q1, e1, e2⟩ := hh.1 qq e'; cases e2), fun e' he => (by have e2 := hh.2 e' he; cases e2; rfl)⟩
    | ok y =>
      obtain ⟨ab, q0⟩ := y
      exact ⟨fun qq e => by obtain ⟨a, q1, e1, e2⟩ := hh.1 qq e; simp only [onS, nxS] at e2; simp only [e2]; exact ⟨a, q1, ab, q0, e1, rfl, rfl⟩, fun e he => by have e2 := hh.2 e he; simp only [onS, nxS] at e2; simp only [e2]⟩
  have HR4 : Hid (spnP ps.tail = r4) := hr4
  clear hr4
  have HS5 : Hid (nxS (onS (tk sOpen) (nxS r4)) = s5) := hs5
  have HR6 : Hid (onS q s5 = r6) := hr6
  have HS7 : Hid (nxS (onS (tk sShut) (nxS r6)) = s7) := hs7
  have HQ : Hid (QS 19 (lv + 1) q) := hq
  have hwl : IntKind.i64.wrap (lv + 1) = lv + 1 := by rw [IntKind.wrap_i64]; omega
  clear hs5 hr6 hs7 hq
  have hRl := h.lt
  have hPl := h.pl
  have hXR : w.heap.size ≠ R := by omega
  have hXP : w.heap.size ≠ P0 := by omega
  obtain ⟨W0, hW0⟩ : ∃ W0, w.alloc (.cells #[.int .i64 0, .string ⟨#[]⟩, .int .i64 0, .int .i64 0, .slice none 0 0, .slice none 0 0] 25) = W0 := ⟨_, rfl⟩
  have hb0 : Below w.heap.size w W0 := hW0 ▸ ba _ _
  have HB0 : Hid (Bx W0 w.heap.size z6) := hW0 ▸ Bx.new w z6 25 rfl
  have HS0 : Hid (SS W0 R P0 (.ok ps)) := h.at hb0
  have HG0 : Hid (w.grownBy W0 (some R)) := gb_below hb0
  obtain ⟨cc, i, n, q0, q1, q2, q3, hin, hnc, hn6, p0, p1, hPR, _, _, hpk, hfz⟩ := HS0.out.alive
  have hini : (i : Int) < (n : Int) := by omega
  rw [hx] at p0
  have HX : Hid (hd ps = wClamp) := hx
  clear h hr hb0 hx hfz hpk
  go_enter Tryd.func49, Tryd.ntmps49
  go_wp2_with fail
  clear hW0
  go_quiet (fail)
  obtain ⟨w1, hw1⟩ : ∃ w1, W0.drewN nq = w1 := ⟨_, rfl⟩
  have hbd : Below W0.heap.size W0 w1 := hw1 ▸ below_drewN (Below.refl _ _) _
  have HB1 : Hid (Bx w1 w.heap.size z6) := HB0.out.at hbd
  have HS1 : Hid (SS w1 R P0 (.ok ps)) := HS0.out.at hbd
  have HG1 : Hid (w.grownBy w1 (some R)) := gb_trans HG0.out (gb_below hbd)
  have hz1 : w.heap.size < w1.heap.size := (HB1.out 0 _ rfl).lt
  rw [hw1]
  clear hw1 hbd q0 q1 q2 q3 p0 p1 hin hnc hn6 hPR hini HB0 HS0 HG0
  obtain ⟨b6, hb6⟩ : ∃ b6, w1.heap.size = b6 := ⟨_, rfl⟩
  obtain ⟨W2, hW2⟩ : ∃ W2, w1.alloc (.cells #[.int .i64 0, .string ⟨#[]⟩, .int .i64 0, .int .i64 0, .slice none 0 0, .slice none 0 0] 25) = W2 := ⟨_, rfl⟩
  have hb2 : Below w1.heap.size w1 W2 := hW2 ▸ ba _ _
  have HE2 : Hid (Bx W2 b6 z6) := hW2 ▸ Bx.new w1 z6 25 hb6.symm
  have o0 := (HE2.out 0 _ rfl).c
  have o1 := (HE2.out 1 _ rfl).c
  have o2 := (HE2.out 2 _ rfl).c
  have o3 := (HE2.out 3 _ rfl).c
  have o4 := (HE2.out 4 _ rfl).c
  have o5 := (HE2.out 5 _ rfl).c
  have f0 := (HE2.out 0 _ rfl).f
  have f1 := (HE2.out 1 _ rfl).f
  have f2 := (HE2.out 2 _ rfl).f
  have f3 := (HE2.out 3 _ rfl).f
  have f4 := (HE2.out 4 _ rfl).f
  have f5 := (HE2.out 5 _ rfl).f
  obtain ⟨W3, hW3⟩ : ∃ W3, set6 W2 b6 (.int .i64 0) (.string ⟨#[]⟩) (.int .i64 0) (.int .i64 0) (.slice none 0 0) (.slice none 0 0) = W3 := ⟨_, rfl⟩
  have TH3 : Hid (Th w R P0 b6 (.ok ps) z6 W3) := ⟨hRl, hPl, by omega, hW3 ▸ (HS1.out.at hb2).six (by omega) (by omega) _ _ _ _ _ _, hW3 ▸ set6_gb (gb_trans HG1.out (gb_below hb2)) (by omega) _ _ _ _ _ _, hW3 ▸ (HB1.out.at hb2).sixo (by omega) _ _ _ _ _ _, hW3 ▸ set6_bx HE2.out _ _ _ _ _ _⟩
  have hbw : w.heap.size < b6 := TH3.out.hb
  have hbl : b6 < W3.heap.size := (TH3.out.b 0 _ rfl).lt
  unfold set6 at hW3
  clear hb2 HB1 HS1 HG1 HE2
  obtain ⟨cc, i, n, q0, q1, q2, q3, hin, hnc, hn6, p0, p1, hPR, _, _, _, hfz⟩ := TH3.out.s.alive
  have z1 : W3.frozen? ⟨R, 1, none⟩ = false := (hfz 1).resolve_right (by omega)
  have hw : IntKind.i64.wrap ((i : Int) + 1) = (i : Int) + 1 := by rw [IntKind.wrap_i64]; omega
  obtain ⟨W4, hW4⟩ : ∃ W4, W3.setCell ⟨R, 1, none⟩ (.int .i64 ((i : Int) + 1)) = W4 := ⟨_, rfl⟩
  have TH4 : Hid (Th w R P0 b6 (.ok ps.tail) z6 W4) := hW4 ▸ TH3.out.step q1 (by rw [HX.out]; decide)
  have t0 := (TH4.out.b 0 _ rfl).c
  have t0f := (TH4.out.b 0 _ rfl).f
  obtain ⟨W5, hW5⟩ : ∃ W5, W4.setCell ⟨b6, 0, none⟩ (.int .i64 8) = W5 := ⟨_, rfl⟩
  have TH5 : Hid (Th w R P0 b6 (.ok ps.tail) [.int .i64 8, .string ⟨#[]⟩, .int .i64 0, .int .i64 0, .slice none 0 0, .slice none 0 0] W5) := hW5 ▸ TH4.out.put 0 (by decide) _
  clear hfz q0 q2 q3 p0 p1 hin hnc hn6 hPR
  have qq0 := eqs wClamp wCount false (by decide)
  have qq1 := eqs wClamp wBins false (by decide)
  have qq2 := eqs wClamp wSum false (by decide)
  have qq3 := eqs wClamp wTotal false (by decide)
  have qq4 := eqs wClamp wClamp true (by decide)
  have qq5 := eqs wClamp wJoin false (by decide)
  have m6 := (TH5.out.b 0 _ rfl).c
  have m6f := (TH5.out.b 0 _ rfl).f
  obtain ⟨V6, hV6⟩ : ∃ V6, W5.setCell ⟨b6, 0, none⟩ (.int .i64 10) = V6 := ⟨_, rfl⟩
  have TH6 : Hid (Th w R P0 b6 (.ok ps.tail) [.int .i64 10, .string ⟨#[]⟩, .int .i64 0, .int .i64 0, .slice none 0 0, .slice none 0 0] V6) := hV6 ▸ TH5.out.put 0 (by simp) _
  have k7 := rspn70 TH6.out.s r4 HR4.out
  go_wp2_with fail
  clear  hV6 m6 m6f hW2 hW3 hW4 hW5 hb6 q1 z1 hw t0 t0f
  refine k7.mono ?_
  intro e w7 hsp
  obtain ⟨lo, hi, rfl, hlh, hs, hg⟩ := hsp.spn
  have HLH : Hid (∀ x q, r4 = .ok (x, q) → x = (lo, hi)) := hlh
  have TH7 : Hid (Th w R P0 b6 (nxS r4) [.int .i64 10, .string ⟨#[]⟩, .int .i64 0, .int .i64 0, .slice none 0 0, .slice none 0 0] w7) := TH6.out.gb hs hg
  clear hsp hlh
  clear k7 hs hg
  have m8 := (TH7.out.b 2 _ rfl).c
  have m8f := (TH7.out.b 2 _ rfl).f
  obtain ⟨V8, hV8⟩ : ∃ V8, w7.setCell ⟨b6, 2, none⟩ (.int .i64 lo) = V8 := ⟨_, rfl⟩
  have TH8 : Hid (Th w R P0 b6 (nxS r4) [.int .i64 10, .string ⟨#[]⟩, .int .i64 lo, .int .i64 0, .slice none 0 0, .slice none 0 0] V8) := hV8 ▸ TH7.out.put 2 (by simp) _
  have m9 := (TH8.out.b 3 _ rfl).c
  have m9f := (TH8.out.b 3 _ rfl).f
  obtain ⟨V9, hV9⟩ : ∃ V9, V8.setCell ⟨b6, 3, none⟩ (.int .i64 hi) = V9 := ⟨_, rfl⟩
  have TH9 : Hid (Th w R P0 b6 (nxS r4) [.int .i64 10, .string ⟨#[]⟩, .int .i64 lo, .int .i64 hi, .slice none 0 0, .slice none 0 0] V9) := hV9 ▸ TH8.out.put 3 (by simp) _
  have k10 := want_any TH9.out.s sOpen (by decide) s5 HS5.out
  go_wp2_with fail
  clear  hV8 m8 m8f hV9 m9 m9f
  refine k10.mono ?_
  rintro e w10 ⟨rfl, hs, hg⟩
  have TH10 : Hid (Th w R P0 b6 s5 [.int .i64 10, .string ⟨#[]⟩, .int .i64 lo, .int .i64 hi, .slice none 0 0, .slice none 0 0] w10) := TH9.out.gb hs hg
  clear k10 hs hg
  have k11 := HQ.out w10 R P0 s5 r6 TH10.out.s HR6.out
  go_wp2_with fail
  refine k11.mono ?_
  intro e w11 hsp
  obtain ⟨ka, ca, la, ha, a4a, n4a, c4a, a5a, n5a, c5a, rfl, hqa, hs, hg⟩ := hsp.ask
  have hzTA : b6 < w10.heap.size := (TH10.out.b 0 _ rfl).lt
  have HQA : Hid (∀ a q, r6 = .ok (a, q) → QN (fun g => b6 < g) w11 a [.int .i64 ka, .string (tx ca), .int .i64 la, .int .i64 ha, .slice a4a n4a c4a, .slice a5a n5a c5a]) := fun a q e => QN.kp (KG.refl _ _) (fun g h _ => by have h1 : w10.heap.size ≤ g := h; omega) a (hqa a q e)
  have TH11 : Hid (Th w R P0 b6 (nxS r6) [.int .i64 10, .string ⟨#[]⟩, .int .i64 lo, .int .i64 hi, .slice none 0 0, .slice none 0 0] w11) := TH10.out.gb hs hg
  clear hsp hqa
  clear k11 hs hg
  obtain ⟨rb, hrb⟩ : ∃ rb, w11.heap.size = rb := ⟨_, rfl⟩
  obtain ⟨V12, hV12⟩ : ∃ V12, w11.alloc (.cells #[.int .i64 ka, .string (tx ca), .int .i64 la, .int .i64 ha, .slice a4a n4a c4a, .slice a5a n5a c5a] 25) = V12 := ⟨_, rfl⟩
  have hbV12 : Below w11.heap.size w11 V12 := hV12 ▸ ba _ _
  have HErb : Hid (Bx V12 rb [.int .i64 ka, .string (tx ca), .int .i64 la, .int .i64 ha, .slice a4a n4a c4a, .slice a5a n5a c5a]) := hV12 ▸ Bx.new w11 [.int .i64 ka, .string (tx ca), .int .i64 la, .int .i64 ha, .slice a4a n4a c4a, .slice a5a n5a c5a] 25 hrb.symm
  have hltrb : b6 < rb := by rw [← hrb]; exact (TH11.out.b 0 _ rfl).lt
  have TH12 : Hid (Th w R P0 b6 (nxS r6) [.int .i64 10, .string ⟨#[]⟩, .int .i64 lo, .int .i64 hi, .slice none 0 0, .slice none 0 0] V12) := TH11.out.bl hbV12
  have HA12 : Hid (KG (fun g => b6 < g) w11 V12) := KG.bl hbV12
  clear hbV12
  have m13 := (TH12.out.b 5 _ rfl).c
  have m13f := (TH12.out.b 5 _ rfl).f
  obtain ⟨V13, hV13⟩ : ∃ V13, V12.setCell ⟨b6, 5, none⟩ (.slice (some ⟨rb, 0, none⟩) 1 1) = V13 := ⟨_, rfl⟩
  have TH13 : Hid (Th w R P0 b6 (nxS r6) [.int .i64 10, .string ⟨#[]⟩, .int .i64 lo, .int .i64 hi, .slice none 0 0, .slice (some ⟨rb, 0, none⟩) 1 1] V13) := hV13 ▸ TH12.out.put 5 (by simp) _
  have HA13 : Hid (KG (fun g => b6 < g) w11 V13) := HA12.out.trans (hV13 ▸ KG.put (fun h => Nat.lt_irrefl _ h) _ _)
  have HB13 : Hid (KG (fun g => b6 < g) V12 V13) := hV13 ▸ KG.put (fun h => Nat.lt_irrefl _ h) _ _
  have k14 := want_any TH13.out.s sShut (by decide) s7 HS7.out
  go_wp2_with fail
  clear  hV12 hrb hV13 m13 m13f
  refine k14.mono ?_
  rintro e w14 ⟨rfl, hs, hg⟩
  have TH14 : Hid (Th w R P0 b6 s7 [.int .i64 10, .string ⟨#[]⟩, .int .i64 lo, .int .i64 hi, .slice none 0 0, .slice (some ⟨rb, 0, none⟩) 1 1] w14) := TH13.out.gb hs hg
  have HA14 : Hid (KG (fun g => b6 < g) w11 w14) := HA13.out.trans (KG.gb hg (fun h => by have h1 := TH13.out.hR; have h2 := TH13.out.hb; have h3 : b6 < R := h; omega))
  have HB14 : Hid (KG (fun g => b6 < g) V12 w14) := HB13.out.trans (KG.gb hg (fun h => by have h1 := TH13.out.hR; have h2 := TH13.out.hb; have h3 : b6 < R := h; omega))
  clear k14 hs hg
  have s0 := (TH14.out.b 0 _ rfl).c
  have s1 := (TH14.out.b 1 _ rfl).c
  have s2 := (TH14.out.b 2 _ rfl).c
  have s3 := (TH14.out.b 3 _ rfl).c
  have s4 := (TH14.out.b 4 _ rfl).c
  have s5 := (TH14.out.b 5 _ rfl).c
  have z0 := (TH14.out.x 0 _ rfl).c
  have z1 := (TH14.out.x 1 _ rfl).c
  have z2 := (TH14.out.x 2 _ rfl).c
  have z3 := (TH14.out.x 3 _ rfl).c
  have z4 := (TH14.out.x 4 _ rfl).c
  have z5 := (TH14.out.x 5 _ rfl).c
  have y0 := (TH14.out.x 0 _ rfl).f
  have y1 := (TH14.out.x 1 _ rfl).f
  have y2 := (TH14.out.x 2 _ rfl).f
  have y3 := (TH14.out.x 3 _ rfl).f
  have y4 := (TH14.out.x 4 _ rfl).f
  have y5 := (TH14.out.x 5 _ rfl).f
  obtain ⟨W9, hW9⟩ : ∃ W9, set6 w14 w.heap.size (.int .i64 10) (.string ⟨#[]⟩) (.int .i64 lo) (.int .i64 hi) (.slice none 0 0) (.slice (some ⟨rb, 0, none⟩) 1 1) = W9 := ⟨_, rfl⟩
  have HB9 : Hid (Bx W9 w.heap.size [.int .i64 10, .string ⟨#[]⟩, .int .i64 lo, .int .i64 hi, .slice none 0 0, .slice (some ⟨rb, 0, none⟩) 1 1]) := hW9 ▸ set6_bx TH14.out.x _ _ _ _ _ _
  have HS9 : Hid (SS W9 R P0 _) := hW9 ▸ TH14.out.s.six (Nat.ne_of_gt TH14.out.hR) (Nat.ne_of_gt TH14.out.hP) _ _ _ _ _ _
  have HG9 : Hid (w.grownBy W9 (some R)) := hW9 ▸ set6_gb TH14.out.g (Nat.le_refl _) _ _ _ _ _ _
  have HK9 : Hid (KG (fun g => w.heap.size < g) w14 W9) := hW9 ▸ KG.six (fun h => Nat.lt_irrefl _ h) _ _ _ _ _ _
  unfold set6 at hW9
  go_wp2
  clear hW9
  have x0 := (HB9.out 0 _ rfl).c
  have x1 := (HB9.out 1 _ rfl).c
  have x2 := (HB9.out 2 _ rfl).c
  have x3 := (HB9.out 3 _ rfl).c
  have x4 := (HB9.out 4 _ rfl).c
  have x5 := (HB9.out 5 _ rfl).c
  refine bodyPost_ret (v := .agg #[.int .i64 10, .string ⟨#[]⟩, .int .i64 lo, .int .i64 hi, .slice none 0 0, .slice (some ⟨rb, 0, none⟩) 1 1]) (by simp [results, Tryd.results49, go_sem, x0, x1, x2, x3, x4, x5]) rfl ?_
  refine sp_fin (fun qq e => ?_) (fun e he => ?_) HS9.out HG9.out
  · obtain ⟨a, q1, ab, q0, e1, e0, hfin⟩ := HTC.out.1 qq e
    obtain rfl : ab = (lo, hi) := HLH.out ab q0 e0
    exact ⟨_, hfin, _, _, rfl, .inl ⟨rfl, rfl⟩, .inr (.inl ⟨rfl, rb, 1, [.int .i64 ka, .string (tx ca), .int .i64 la, .int .i64 ha, .slice a4a n4a c4a, .slice a5a n5a c5a], rfl, Nat.le_refl _, Nat.le_of_lt (Nat.lt_trans hbw hltrb), Nat.lt_of_lt_of_le (HErb.out 0 _ rfl).lt (Nat.le_trans HB14.out.1 HK9.out.1), QN.kp HK9.out (fun g h _ => Nat.le_of_lt h) a (QN.kp HA14.out (fun g h _ => Nat.lt_trans hbw h) a (HQA.out a q1 e1)), fun j u hu => (HK9.out.cell (g := rb) (k := j) (Nat.lt_trans hbw hltrb) (Nat.lt_of_lt_of_le (HErb.out 0 _ rfl).lt HB14.out.1)).trans ((HB14.out.cell (g := rb) (k := j) hltrb (HErb.out 0 _ rfl).lt).trans (HErb.out j u hu).c)⟩)⟩
  · exact HTC.out.2 e he
end Go.Proofs.YtidfkencjdjkbaaDoor

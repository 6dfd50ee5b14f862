import Derived.Test.YtidfkencjdjkbaaDoorQr37
/-
  The document's own answer, chapter 15: thing.
-/
namespace Go.Proofs.YtidfkencjdjkbaaDoor
open Go.RowKit Sp

/-- inside thing: the state, what has grown, the answer's box, the box at b6 -/
structure Th (w0 : World) (R P0 b6 : Nat) (st : St) (cs : List Value) (w : World) : Prop where
  hR : R < w0.heap.size
  hP : P0 < w0.heap.size
  hb : w0.heap.size < b6
  s : SS w R P0 st
  g : w0.grownBy w (some R)
  x : Bx w w0.heap.size z6
  b : Bx w b6 cs
theorem Th.gb {w0 w w' : World} {R P0 b6 : Nat} {st st' : St} {cs : List Value} (h : Th w0 R P0 b6 st cs w) (hs : SS w' R P0 st') (hg : w.grownBy w' (some R)) : Th w0 R P0 b6 st' cs w' :=
  ⟨h.hR, h.hP, h.hb, hs, gb_trans h.g hg, h.x.gb hg (by have := h.hR; omega), h.b.gb hg (by have := h.hR; have := h.hb; omega)⟩
theorem Th.bl {w0 w w' : World} {R P0 b6 : Nat} {st : St} {cs : List Value} (h : Th w0 R P0 b6 st cs w) (hb : Below w.heap.size w w') : Th w0 R P0 b6 st cs w' := h.gb (h.s.at hb) (gb_below hb)
theorem Th.put {w0 w : World} {R P0 b6 : Nat} {st : St} {cs : List Value} (h : Th w0 R P0 b6 st cs w) (i : Nat) (hi : i < cs.length) (u : Value) : Th w0 R P0 b6 st (cs.set i u) (w.setCell ⟨b6, i, none⟩ u) :=
  ⟨h.hR, h.hP, h.hb, h.s.kg (fun g hg => (KG.put (G := fun y => y = R ∨ y = P0) (by have h1 := h.hR; have h2 := h.hP; have h3 := h.hb; rintro (e | e) <;> omega) i u).2 g hg (by rcases hg with rfl | rfl; exact h.s.lt; exact h.s.pl)) (KG.put (G := fun _ => False) (fun h => h) i u).1,
    gb_new h.g (p := ⟨b6, i, none⟩) (Nat.le_of_lt h.hb) u, h.x.oth (Nat.ne_of_gt h.hb) u, h.b.set hi u⟩
theorem Th.step {w0 w : World} {R P0 b6 i : Nat} {ps : List Pc} {cs : List Value} (h : Th w0 R P0 b6 (.ok ps) cs w) (hi : w.cell? ⟨R, 1, none⟩ = some (.int .i64 (i : Int))) (hne : hd ps ≠ []) : Th w0 R P0 b6 (.ok ps.tail) cs (w.setCell ⟨R, 1, none⟩ (.int .i64 ((i : Int) + 1))) :=
  ⟨h.hR, h.hP, h.hb, h.s.step hi hne, gb_set h.g 1 _, h.x.oth (by have := h.hR; omega) _, h.b.oth (by have := h.hR; have := h.hb; omega) _⟩
theorem sp_fin {w w' : World} {R P0 lo : Nat} {s : St} {r : PR Qu} {k : Int} {c : By} {l h : Int} {a4 : Option Addr} {n4 c4 : Nat} {a5 : Option Addr} {n5 c5 : Nat} (h1 : ∀ qq, s = .ok qq → ∃ a, r = .ok (a, qq) ∧ QN (fun g => lo ≤ g) w' a [.int .i64 k, .string (tx c), .int .i64 l, .int .i64 h, .slice a4 n4 c4, .slice a5 n5 c5]) (h2 : ∀ e, s = .error e → r = .error e) (hs : SS w' R P0 s) (hg : w.grownBy w' (some R)) :
    SP w R P0 (VN lo) GN r (.returned (.agg #[.int .i64 k, .string (tx c), .int .i64 l, .int .i64 h, .slice a4 n4 c4, .slice a5 n5 c5])) w' := by
  cases s with
  | error e =>
    obtain rfl := h2 e rfl
    exact ⟨_, rfl, ⟨_, _, _, _, _, _, _, _, _, _, rfl⟩, hs, hg⟩
  | ok qq =>
    obtain ⟨a, rfl, hq⟩ := h1 qq rfl
    exact ⟨_, rfl, ⟨_, rfl, hq⟩, hs, hg⟩
theorem tg_of {w : World} {lo : Nat} {G : Nat → Prop} {l : List Tst} {v : Value} (h : TsV lo w l v) (hG : ∀ g, lo ≤ g → G g) : TG G w l v := by
  rcases h with h | ⟨g, m, e1, e2, e3, e4, e5, e6⟩
  · exact .inl h
  · exact .inr ⟨g, m, e1, e2, e3, e4, hG g e5, e6⟩
theorem thg_count {q : List Pc → PR Qu} {ps : List Pc} (hx : hd ps = wCount) (r5 : PR (List Tst)) (h5 : whrP ps.tail = r5) :
    (∀ l qq, r5 = .ok (l, qq) → thgP q ps = .ok (.node 1 [] 0 0 l 0 .none .none, qq)) ∧ (∀ e, r5 = .error e → thgP q ps = .error e) := by
  subst h5
  rw [thgP, if_neg (by rw [hx]; decide), if_pos hx]
  cases whrP ps.tail with
  | error e => exact ⟨fun l qq h => (by cases h), fun e' h => (by cases h; rfl)⟩
  | ok x => obtain ⟨l, qq⟩ := x; exact ⟨fun l' q' h => (by cases h; rfl), fun e' h => (by cases h)⟩
set_option maxHeartbeats 1500000 in
set_option maxRecDepth 100000 in
theorem thing_count {q : List Pc → PR Qu} {w : World} {R P0 : Nat} {ps : List Pc} {r : PR Qu} (lv : Int) (h : SS w R P0 (.ok ps)) (hx : hd ps = wCount) (hr : thgP q ps = r) : Calls Tryd.prog 49 #[ptR R, .int .i64 lv] w (SP w R P0 (VN w.heap.size) GN r) := by
  obtain ⟨r5, hr5⟩ : ∃ r5, whrP ps.tail = r5 := ⟨_, rfl⟩
  have HTC : Hid ((∀ l qq, r5 = .ok (l, qq) → r = .ok (.node 1 [] 0 0 l 0 .none .none, qq)) ∧ (∀ e, r5 = .error e → r = .error e)) := by
    have := thg_count (q := q) hx r5 hr5
    rw [hr] at this
    exact this
  have HR5 : Hid (whrP ps.tail = r5) := hr5
  clear hr5
  have hRl := h.lt
  have hPl := h.pl
  have hXR : w.heap.size ≠ R := by omega
  have hXP : w.heap.size ≠ P0 := by omega
  obtain ⟨W0, hW0⟩ : ∃ W0, w.alloc (.cells #[.int .i64 0, .string ⟨#[]⟩, .int .i64 0, .int .i64 0, .slice none 0 0, .slice none 0 0] 25) = W0 := ⟨_, rfl⟩
  have hb0 : Below w.heap.size w W0 := hW0 ▸ ba _ _
  have HB0 : Hid (Bx W0 w.heap.size z6) := hW0 ▸ Bx.new w z6 25 rfl
  have HS0 : Hid (SS W0 R P0 (.ok ps)) := h.at hb0
  have HG0 : Hid (w.grownBy W0 (some R)) := gb_below hb0
  obtain ⟨cc, i, n, q0, q1, q2, q3, hin, hnc, hn6, p0, p1, hPR, _, _, hpk, hfz⟩ := HS0.out.alive
  have hini : (i : Int) < (n : Int) := by omega
  rw [hx] at p0
  have HX : Hid (hd ps = wCount) := hx
  clear h hr hb0 hx hfz hpk
  go_enter Tryd.func49, Tryd.ntmps49
  go_wp2_with fail
  clear hW0
  go_quiet (fail)
  obtain ⟨w1, hw1⟩ : ∃ w1, W0.drewN nq = w1 := ⟨_, rfl⟩
  have hbd : Below W0.heap.size W0 w1 := hw1 ▸ below_drewN (Below.refl _ _) _
  have HB1 : Hid (Bx w1 w.heap.size z6) := HB0.out.at hbd
  have HS1 : Hid (SS w1 R P0 (.ok ps)) := HS0.out.at hbd
  have HG1 : Hid (w.grownBy w1 (some R)) := gb_trans HG0.out (gb_below hbd)
  have hz1 : w.heap.size < w1.heap.size := (HB1.out 0 _ rfl).lt
  rw [hw1]
  clear hw1 hbd q0 q1 q2 q3 p0 p1 hin hnc hn6 hPR hini HB0 HS0 HG0
  obtain ⟨b6, hb6⟩ : ∃ b6, w1.heap.size = b6 := ⟨_, rfl⟩
  obtain ⟨W2, hW2⟩ : ∃ W2, w1.alloc (.cells #[.int .i64 0, .string ⟨#[]⟩, .int .i64 0, .int .i64 0, .slice none 0 0, .slice none 0 0] 25) = W2 := ⟨_, rfl⟩
  have hb2 : Below w1.heap.size w1 W2 := hW2 ▸ ba _ _
  have HE2 : Hid (Bx W2 b6 z6) := hW2 ▸ Bx.new w1 z6 25 hb6.symm
  have o0 := (HE2.out 0 _ rfl).c
  have o1 := (HE2.out 1 _ rfl).c
  have o2 := (HE2.out 2 _ rfl).c
  have o3 := (HE2.out 3 _ rfl).c
  have o4 := (HE2.out 4 _ rfl).c
  have o5 := (HE2.out 5 _ rfl).c
  have f0 := (HE2.out 0 _ rfl).f
  have f1 := (HE2.out 1 _ rfl).f
  have f2 := (HE2.out 2 _ rfl).f
  have f3 := (HE2.out 3 _ rfl).f
  have f4 := (HE2.out 4 _ rfl).f
  have f5 := (HE2.out 5 _ rfl).f
  obtain ⟨W3, hW3⟩ : ∃ W3, set6 W2 b6 (.int .i64 0) (.string ⟨#[]⟩) (.int .i64 0) (.int .i64 0) (.slice none 0 0) (.slice none 0 0) = W3 := ⟨_, rfl⟩
  have TH3 : Hid (Th w R P0 b6 (.ok ps) z6 W3) := ⟨hRl, hPl, by omega, hW3 ▸ (HS1.out.at hb2).six (by omega) (by omega) _ _ _ _ _ _, hW3 ▸ set6_gb (gb_trans HG1.out (gb_below hb2)) (by omega) _ _ _ _ _ _, hW3 ▸ (HB1.out.at hb2).sixo (by omega) _ _ _ _ _ _, hW3 ▸ set6_bx HE2.out _ _ _ _ _ _⟩
  have hbw : w.heap.size < b6 := TH3.out.hb
  have hbl : b6 < W3.heap.size := (TH3.out.b 0 _ rfl).lt
  unfold set6 at hW3
  clear hb2 HB1 HS1 HG1 HE2
  obtain ⟨cc, i, n, q0, q1, q2, q3, hin, hnc, hn6, p0, p1, hPR, _, _, _, hfz⟩ := TH3.out.s.alive
  have z1 : W3.frozen? ⟨R, 1, none⟩ = false := (hfz 1).resolve_right (by omega)
  have hw : IntKind.i64.wrap ((i : Int) + 1) = (i : Int) + 1 := by rw [IntKind.wrap_i64]; omega
  obtain ⟨W4, hW4⟩ : ∃ W4, W3.setCell ⟨R, 1, none⟩ (.int .i64 ((i : Int) + 1)) = W4 := ⟨_, rfl⟩
  have TH4 : Hid (Th w R P0 b6 (.ok ps.tail) z6 W4) := hW4 ▸ TH3.out.step q1 (by rw [HX.out]; decide)
  have t0 := (TH4.out.b 0 _ rfl).c
  have t0f := (TH4.out.b 0 _ rfl).f
  obtain ⟨W5, hW5⟩ : ∃ W5, W4.setCell ⟨b6, 0, none⟩ (.int .i64 1) = W5 := ⟨_, rfl⟩
  have TH5 : Hid (Th w R P0 b6 (.ok ps.tail) [.int .i64 1, .string ⟨#[]⟩, .int .i64 0, .int .i64 0, .slice none 0 0, .slice none 0 0] W5) := hW5 ▸ TH4.out.put 0 (by decide) _
  clear hfz q0 q2 q3 p0 p1 hin hnc hn6 hPR
  have qq0 := eqs wCount wCount true (by decide)
  have qq1 := eqs wCount wBins false (by decide)
  have qq2 := eqs wCount wSum false (by decide)
  have qq3 := eqs wCount wTotal false (by decide)
  have qq4 := eqs wCount wClamp false (by decide)
  have qq5 := eqs wCount wJoin false (by decide)
  have k6 := rtst68 TH5.out.s r5 HR5.out
  go_wp2_with fail
  clear hW2 hW3 hW4 hW5 hb6 q1 z1 hw t0 t0f
  refine k6.mono ?_
  intro e w6 hsp
  obtain ⟨ta, tn, tc, rfl, hts, hs, hg⟩ := hsp.tst
  have TH6 : Hid (Th w R P0 b6 (nxS r5) [.int .i64 1, .string ⟨#[]⟩, .int .i64 0, .int .i64 0, .slice none 0 0, .slice none 0 0] w6) := TH5.out.gb hs hg
  have hz5 : b6 < W5.heap.size := (TH5.out.b 0 _ rfl).lt
  have HT6 : Hid (∀ l q, r5 = .ok (l, q) → TG (fun g => b6 < g) w6 l (.slice ta tn tc)) := fun l q e => tg_of (hts l q e) (fun g hg => by omega)
  have t4 := (TH6.out.b 4 _ rfl).c
  have t4f := (TH6.out.b 4 _ rfl).f
  obtain ⟨W7, hW7⟩ : ∃ W7, w6.setCell ⟨b6, 4, none⟩ (.slice ta tn tc) = W7 := ⟨_, rfl⟩
  have TH7 : Hid (Th w R P0 b6 (nxS r5) [.int .i64 1, .string ⟨#[]⟩, .int .i64 0, .int .i64 0, .slice ta tn tc, .slice none 0 0] W7) := hW7 ▸ TH6.out.put 4 (by decide) _
  have HK7 : Hid (KG (fun g => b6 < g) w6 W7) := hW7 ▸ KG.put (fun h => Nat.lt_irrefl _ h) _ _
  clear k6 hsp hts hs hg
  have s0 := (TH7.out.b 0 _ rfl).c
  have s1 := (TH7.out.b 1 _ rfl).c
  have s2 := (TH7.out.b 2 _ rfl).c
  have s3 := (TH7.out.b 3 _ rfl).c
  have s4 := (TH7.out.b 4 _ rfl).c
  have s5 := (TH7.out.b 5 _ rfl).c
  have z0 := (TH7.out.x 0 _ rfl).c
  have z1 := (TH7.out.x 1 _ rfl).c
  have z2 := (TH7.out.x 2 _ rfl).c
  have z3 := (TH7.out.x 3 _ rfl).c
  have z4 := (TH7.out.x 4 _ rfl).c
  have z5 := (TH7.out.x 5 _ rfl).c
  have y0 := (TH7.out.x 0 _ rfl).f
  have y1 := (TH7.out.x 1 _ rfl).f
  have y2 := (TH7.out.x 2 _ rfl).f
  have y3 := (TH7.out.x 3 _ rfl).f
  have y4 := (TH7.out.x 4 _ rfl).f
  have y5 := (TH7.out.x 5 _ rfl).f
  obtain ⟨W9, hW9⟩ : ∃ W9, set6 W7 w.heap.size (.int .i64 1) (.string ⟨#[]⟩) (.int .i64 0) (.int .i64 0) (.slice ta tn tc) (.slice none 0 0) = W9 := ⟨_, rfl⟩
  have HB9 : Hid (Bx W9 w.heap.size [.int .i64 1, .string ⟨#[]⟩, .int .i64 0, .int .i64 0, .slice ta tn tc, .slice none 0 0]) := hW9 ▸ set6_bx TH7.out.x _ _ _ _ _ _
  have HS9 : Hid (SS W9 R P0 _) := hW9 ▸ TH7.out.s.six (Nat.ne_of_gt TH7.out.hR) (Nat.ne_of_gt TH7.out.hP) _ _ _ _ _ _
  have HG9 : Hid (w.grownBy W9 (some R)) := hW9 ▸ set6_gb TH7.out.g (Nat.le_refl _) _ _ _ _ _ _
  have HK9 : Hid (KG (fun g => w.heap.size < g) W7 W9) := hW9 ▸ KG.six (fun h => Nat.lt_irrefl _ h) _ _ _ _ _ _
  unfold set6 at hW9
  go_wp2
  clear hW9
  have x0 := (HB9.out 0 _ rfl).c
  have x1 := (HB9.out 1 _ rfl).c
  have x2 := (HB9.out 2 _ rfl).c
  have x3 := (HB9.out 3 _ rfl).c
  have x4 := (HB9.out 4 _ rfl).c
  have x5 := (HB9.out 5 _ rfl).c
  refine bodyPost_ret (v := .agg #[.int .i64 1, .string ⟨#[]⟩, .int .i64 0, .int .i64 0, .slice ta tn tc, .slice none 0 0]) (by simp [results, Tryd.results49, go_sem, x0, x1, x2, x3, x4, x5]) rfl ?_
  refine sp_fin (c := []) (fun qq e => ?_) (fun e he => ?_) HS9.out HG9.out
  · cases r5 with
    | error e' => cases e
    | ok y =>
      obtain ⟨l, q'⟩ := y
      cases e
      exact ⟨_, HTC.out.1 l _ rfl, _, _, rfl, ((HT6.out l _ rfl).kp HK7.out (fun g h _ => Nat.lt_trans hbw h)).kp HK9.out (fun g h _ => Nat.le_of_lt h), .inl ⟨rfl, rfl⟩⟩
  · cases r5 with
    | error e' => cases he; exact HTC.out.2 _ rfl
    | ok y => cases he
end Go.Proofs.YtidfkencjdjkbaaDoor

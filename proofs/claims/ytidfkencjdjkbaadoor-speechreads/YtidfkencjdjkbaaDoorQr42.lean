import Derived.Test.YtidfkencjdjkbaaDoorQr41
namespace Go.Proofs.YtidfkencjdjkbaaDoor
open Go.RowKit Sp
theorem wp_append {o : Oper} {a : Act} {K' : Act → World → Prop} {Q : Exit → Act → World → Prop} (s x : Operand) (ho : o.op = .call { callee := .builtin .append, args := #[s, x], argTypes := #[23, 23] }) (vs vx : Value) (hs : a.eval s = vs) (hx : a.eval x = vx) (w wD : World) (nv : Value) (hr : (Builtin.append_ #[23, 23] o.type #[vs, vx]).run Tryd.prog w = .ok nv wD) (h : K' (a.put o.dst nv) wD) : Oper.wp Tryd.prog o a w K' Q := by
  unfold Oper.wp execOp
  simp only [ho, resolve, invoke, builtin, Sem.run_bind, Sem.run_pure, Result.andThen_ok, List.map_toArray, List.map_cons, List.map_nil, hs, hx, hr]
  exact h
theorem Th.grow {w0 w w' : World} {R P0 b6 rb : Nat} {st : St} {cs : List Value} (h : Th w0 R P0 b6 st cs w) (hg : w.grownBy w' (some rb)) (hr : b6 < rb) : Th w0 R P0 b6 st cs w' := by
  have h1 := h.hR
  have h2 := h.hP
  have h3 := h.hb
  have hs := h.g.size
  have hk : ∀ g, g < w.heap.size → g ≠ rb → w'.heap[g]? = w.heap[g]? := fun g hl hn => hg.block g hl (by intro e; simp only [Option.some.injEq] at e; exact hn e)
  refine ⟨h1, h2, h3, h.s.kg (fun g e => hk g (by rcases e with rfl | rfl; exact h.s.lt; exact h.s.pl) (by rcases e with rfl | rfl <;> omega)) hg.size, ⟨hg.os.trans h.g.os, hg.tape.trans h.g.tape, hg.output.trans h.g.output, Nat.le_trans hs hg.size, fun k hk' hn => (hk k (by omega) (by omega)).trans (h.g.block k hk' hn)⟩, h.x.gb hg (by omega), h.b.gb hg (by omega)⟩
set_option maxHeartbeats 1500000 in
set_option maxRecDepth 100000 in
theorem thing_join {q : List Pc → PR Qu} {w : World} {R P0 : Nat} {ps : List Pc} {r : PR Qu} {lv : Int} (hl : 1 ≤ lv ∧ lv ≤ 64) (hq : QS 19 (lv + 1) q) (h : SS w R P0 (.ok ps)) (hx : hd ps = wJoin) (hr : thgP q ps = r) : Calls Tryd.prog 49 #[ptR R, .int .i64 lv] w (SP w R P0 (VN w.heap.size) GN r) := by
  obtain ⟨s5, hs5⟩ : ∃ s5, nxS (onS (tk sOpen) (.ok ps.tail)) = s5 := ⟨_, rfl⟩
  obtain ⟨r6, hr6⟩ : ∃ r6, onS q s5 = r6 := ⟨_, rfl⟩
  obtain ⟨s7, hs7⟩ : ∃ s7, nxS (onS (tk sComma) (nxS r6)) = s7 := ⟨_, rfl⟩
  obtain ⟨r8, hr8⟩ : ∃ r8, onS q s7 = r8 := ⟨_, rfl⟩
  obtain ⟨s9, hs9⟩ : ∃ s9, nxS (onS (tk sShut) (nxS r8)) = s9 := ⟨_, rfl⟩
  have HTC : Hid ((∀ qq, s9 = .ok qq → ∃ a q1 b q2, r6 = .ok (a, q1) ∧ r8 = .ok (b, q2) ∧ r = .ok (.node 7 [] 0 0 [] 2 a b, qq)) ∧ (∀ e, s9 = .error e → r = .error e)) := by
    have hh := bth_st (q := q) ps.tail s5 hs5 r6 hr6 s7 hs7 r8 hr8 s9 hs9
    rw [Hid, ← hr, thg_join hx]
    exact ⟨fun qq e => by obtain ⟨a, q1, b, q2, e1, e2, e3⟩ := hh.1 qq e; rw [e3]; exact ⟨a, q1, b, q2, e1, e2, rfl⟩, fun e he => by have e2 := hh.2 e he; rw [e2]⟩
  have HS5 : Hid (nxS (onS (tk sOpen) (.ok ps.tail)) = s5) := hs5
  have HR6 : Hid (onS q s5 = r6) := hr6
  have HS7 : Hid (nxS (onS (tk sComma) (nxS r6)) = s7) := hs7
  have HR8 : Hid (onS q s7 = r8) := hr8
  have HS9' : Hid (nxS (onS (tk sShut) (nxS r8)) = s9) := hs9
  have HQ : Hid (QS 19 (lv + 1) q) := hq
  have hwl : IntKind.i64.wrap (lv + 1) = lv + 1 := by rw [IntKind.wrap_i64]; omega
  clear hs5 hr6 hs7 hr8 hs9 hq
  have hRl := h.lt
  have hPl := h.pl
  have hXR : w.heap.size ≠ R := by omega
  have hXP : w.heap.size ≠ P0 := by omega
  obtain ⟨W0, hW0⟩ : ∃ W0, w.alloc (.cells #[.int .i64 0, .string ⟨#[]⟩, .int .i64 0, .int .i64 0, .slice none 0 0, .slice none 0 0] 25) = W0 := ⟨_, rfl⟩
  have hb0 : Below w.heap.size w W0 := hW0 ▸ ba _ _
  have HB0 : Hid (Bx W0 w.heap.size z6) := hW0 ▸ Bx.new w z6 25 rfl
  have HS0 : Hid (SS W0 R P0 (.ok ps)) := h.at hb0
  have HG0 : Hid (w.grownBy W0 (some R)) := gb_below hb0
  obtain ⟨cc, i, n, q0, q1, q2, q3, hin, hnc, hn6, p0, p1, hPR, _, _, hpk, hfz⟩ := HS0.out.alive
  have hini : (i : Int) < (n : Int) := by omega
  rw [hx] at p0
  have HX : Hid (hd ps = wJoin) := hx
  clear h hr hb0 hx hfz hpk
  go_enter Tryd.func49, Tryd.ntmps49
  go_wp2_with fail
  clear hW0
  go_quiet (fail)
  obtain ⟨w1, hw1⟩ : ∃ w1, W0.drewN nq = w1 := ⟨_, rfl⟩
  have hbd : Below W0.heap.size W0 w1 := hw1 ▸ below_drewN (Below.refl _ _) _
  have HB1 : Hid (Bx w1 w.heap.size z6) := HB0.out.at hbd
  have HS1 : Hid (SS w1 R P0 (.ok ps)) := HS0.out.at hbd
  have HG1 : Hid (w.grownBy w1 (some R)) := gb_trans HG0.out (gb_below hbd)
  have hz1 : w.heap.size < w1.heap.size := (HB1.out 0 _ rfl).lt
  rw [hw1]
  clear hw1 hbd q0 q1 q2 q3 p0 p1 hin hnc hn6 hPR hini HB0 HS0 HG0
  obtain ⟨b6, hb6⟩ : ∃ b6, w1.heap.size = b6 := ⟨_, rfl⟩
  obtain ⟨W2, hW2⟩ : ∃ W2, w1.alloc (.cells #[.int .i64 0, .string ⟨#[]⟩, .int .i64 0, .int .i64 0, .slice none 0 0, .slice none 0 0] 25) = W2 := ⟨_, rfl⟩
  have hb2 : Below w1.heap.size w1 W2 := hW2 ▸ ba _ _
  have HE2 : Hid (Bx W2 b6 z6) := hW2 ▸ Bx.new w1 z6 25 hb6.symm
  have o0 := (HE2.out 0 _ rfl).c
  have o1 := (HE2.out 1 _ rfl).c
  have o2 := (HE2.out 2 _ rfl).c
  have o3 := (HE2.out 3 _ rfl).c
  have o4 := (HE2.out 4 _ rfl).c
  have o5 := (HE2.out 5 _ rfl).c
  have f0 := (HE2.out 0 _ rfl).f
  have f1 := (HE2.out 1 _ rfl).f
  have f2 := (HE2.out 2 _ rfl).f
  have f3 := (HE2.out 3 _ rfl).f
  have f4 := (HE2.out 4 _ rfl).f
  have f5 := (HE2.out 5 _ rfl).f
  obtain ⟨W3, hW3⟩ : ∃ W3, set6 W2 b6 (.int .i64 0) (.string ⟨#[]⟩) (.int .i64 0) (.int .i64 0) (.slice none 0 0) (.slice none 0 0) = W3 := ⟨_, rfl⟩
  have TH3 : Hid (Th w R P0 b6 (.ok ps) z6 W3) := ⟨hRl, hPl, by omega, hW3 ▸ (HS1.out.at hb2).six (by omega) (by omega) _ _ _ _ _ _, hW3 ▸ set6_gb (gb_trans HG1.out (gb_below hb2)) (by omega) _ _ _ _ _ _, hW3 ▸ (HB1.out.at hb2).sixo (by omega) _ _ _ _ _ _, hW3 ▸ set6_bx HE2.out _ _ _ _ _ _⟩
  have hbw : w.heap.size < b6 := TH3.out.hb
  have hbl : b6 < W3.heap.size := (TH3.out.b 0 _ rfl).lt
  unfold set6 at hW3
  clear hb2 HB1 HS1 HG1 HE2
  obtain ⟨cc, i, n, q0, q1, q2, q3, hin, hnc, hn6, p0, p1, hPR, _, _, _, hfz⟩ := TH3.out.s.alive
  have z1 : W3.frozen? ⟨R, 1, none⟩ = false := (hfz 1).resolve_right (by omega)
  have hw : IntKind.i64.wrap ((i : Int) + 1) = (i : Int) + 1 := by rw [IntKind.wrap_i64]; omega
  obtain ⟨W4, hW4⟩ : ∃ W4, W3.setCell ⟨R, 1, none⟩ (.int .i64 ((i : Int) + 1)) = W4 := ⟨_, rfl⟩
  have TH4 : Hid (Th w R P0 b6 (.ok ps.tail) z6 W4) := hW4 ▸ TH3.out.step q1 (by rw [HX.out]; decide)
  have t0 := (TH4.out.b 0 _ rfl).c
  have t0f := (TH4.out.b 0 _ rfl).f
  obtain ⟨W5, hW5⟩ : ∃ W5, W4.setCell ⟨b6, 0, none⟩ (.int .i64 8) = W5 := ⟨_, rfl⟩
  have TH5 : Hid (Th w R P0 b6 (.ok ps.tail) [.int .i64 8, .string ⟨#[]⟩, .int .i64 0, .int .i64 0, .slice none 0 0, .slice none 0 0] W5) := hW5 ▸ TH4.out.put 0 (by decide) _
  clear hfz q0 q2 q3 p0 p1 hin hnc hn6 hPR
  have qq0 := eqs wJoin wCount false (by decide)
  have qq1 := eqs wJoin wBins false (by decide)
  have qq2 := eqs wJoin wSum false (by decide)
  have qq3 := eqs wJoin wTotal false (by decide)
  have qq4 := eqs wJoin wClamp false (by decide)
  have qq5 := eqs wJoin wJoin true (by decide)
  have k6 := want_any TH5.out.s sOpen (by decide) s5 HS5.out
  go_wp2_with fail
  clear hW2 hW3 hW4 hW5 hb6 q1 z1 hw t0 t0f
  refine k6.mono ?_
  rintro e w6 ⟨rfl, hs, hg⟩
  have TH6 : Hid (Th w R P0 b6 s5 [.int .i64 8, .string ⟨#[]⟩, .int .i64 0, .int .i64 0, .slice none 0 0, .slice none 0 0] w6) := TH5.out.gb hs hg
  clear k6 hs hg
  have k7 := HQ.out w6 R P0 s5 r6 TH6.out.s HR6.out
  go_wp2_with fail
  refine k7.mono ?_
  intro e w7 hsp
  obtain ⟨ka, ca, la, ha, a4a, n4a, c4a, a5a, n5a, c5a, rfl, hqa, hs, hg⟩ := hsp.ask
  have hzTA : b6 < w6.heap.size := (TH6.out.b 0 _ rfl).lt
  have HQA : Hid (∀ a q, r6 = .ok (a, q) → QN (fun g => b6 < g) w7 a [.int .i64 ka, .string (tx ca), .int .i64 la, .int .i64 ha, .slice a4a n4a c4a, .slice a5a n5a c5a]) := fun a q e => QN.kp (KG.refl _ _) (fun g h _ => by have h1 : w6.heap.size ≤ g := h; omega) a (hqa a q e)
  have TH7 : Hid (Th w R P0 b6 (nxS r6) [.int .i64 8, .string ⟨#[]⟩, .int .i64 0, .int .i64 0, .slice none 0 0, .slice none 0 0] w7) := TH6.out.gb hs hg
  clear hsp hqa
  clear k7 hs hg
  obtain ⟨rb, hrb⟩ : ∃ rb, w7.heap.size = rb := ⟨_, rfl⟩
  obtain ⟨V8, hV8⟩ : ∃ V8, w7.alloc (.cells #[.int .i64 ka, .string (tx ca), .int .i64 la, .int .i64 ha, .slice a4a n4a c4a, .slice a5a n5a c5a] 25) = V8 := ⟨_, rfl⟩
  have hbV8 : Below w7.heap.size w7 V8 := hV8 ▸ ba _ _
  have HErb : Hid (Bx V8 rb [.int .i64 ka, .string (tx ca), .int .i64 la, .int .i64 ha, .slice a4a n4a c4a, .slice a5a n5a c5a]) := hV8 ▸ Bx.new w7 [.int .i64 ka, .string (tx ca), .int .i64 la, .int .i64 ha, .slice a4a n4a c4a, .slice a5a n5a c5a] 25 hrb.symm
  have hltrb : b6 < rb := by rw [← hrb]; exact (TH7.out.b 0 _ rfl).lt
  have TH8 : Hid (Th w R P0 b6 (nxS r6) [.int .i64 8, .string ⟨#[]⟩, .int .i64 0, .int .i64 0, .slice none 0 0, .slice none 0 0] V8) := TH7.out.bl hbV8
  have HA8 : Hid (KG (fun g => b6 < g) w7 V8) := KG.bl hbV8
  clear hbV8
  have HRB : Hid (w7.heap.size = rb) := hrb
  have HO0 : Hid (V8.ownsRow rb 25 6 (.slice (some ⟨rb, 0, none⟩) 1 1) 1 [.int .i64 ka, .string (tx ca), .int .i64 la, .int .i64 ha, .slice a4a n4a c4a, .slice a5a n5a c5a]) := by rw [Hid, ← hV8, ← hrb]; exact World.ownsRow_lit _ #[.int .i64 ka, .string (tx ca), .int .i64 la, .int .i64 ha, .slice a4a n4a c4a, .slice a5a n5a c5a] 1 (Nat.le_refl _) (by decide) rfl
  have m9 := (TH8.out.b 5 _ rfl).c
  have m9f := (TH8.out.b 5 _ rfl).f
  obtain ⟨V9, hV9⟩ : ∃ V9, V8.setCell ⟨b6, 5, none⟩ (.slice (some ⟨rb, 0, none⟩) 1 1) = V9 := ⟨_, rfl⟩
  have TH9 : Hid (Th w R P0 b6 (nxS r6) [.int .i64 8, .string ⟨#[]⟩, .int .i64 0, .int .i64 0, .slice none 0 0, .slice (some ⟨rb, 0, none⟩) 1 1] V9) := hV9 ▸ TH8.out.put 5 (by simp) _
  have HA9 : Hid (KG (fun g => b6 < g) w7 V9) := HA8.out.trans (hV9 ▸ KG.put (fun h => Nat.lt_irrefl _ h) _ _)
  have HB9 : Hid (KG (fun g => b6 < g) V8 V9) := hV9 ▸ KG.put (fun h => Nat.lt_irrefl _ h) _ _
  have m10 := (TH9.out.b 0 _ rfl).c
  have m10f := (TH9.out.b 0 _ rfl).f
  obtain ⟨V10, hV10⟩ : ∃ V10, V9.setCell ⟨b6, 0, none⟩ (.int .i64 7) = V10 := ⟨_, rfl⟩
  have TH10 : Hid (Th w R P0 b6 (nxS r6) [.int .i64 7, .string ⟨#[]⟩, .int .i64 0, .int .i64 0, .slice none 0 0, .slice (some ⟨rb, 0, none⟩) 1 1] V10) := hV10 ▸ TH9.out.put 0 (by simp) _
  have HA10 : Hid (KG (fun g => b6 < g) w7 V10) := HA9.out.trans (hV10 ▸ KG.put (fun h => Nat.lt_irrefl _ h) _ _)
  have HB10 : Hid (KG (fun g => b6 < g) V8 V10) := HB9.out.trans (hV10 ▸ KG.put (fun h => Nat.lt_irrefl _ h) _ _)
  have k11 := want_any TH10.out.s sComma (by decide) s7 HS7.out
  go_wp2_with fail
  clear  hV8 hrb hV9 m9 m9f hV10 m10 m10f
  refine k11.mono ?_
  rintro e w11 ⟨rfl, hs, hg⟩
  have TH11 : Hid (Th w R P0 b6 s7 [.int .i64 7, .string ⟨#[]⟩, .int .i64 0, .int .i64 0, .slice none 0 0, .slice (some ⟨rb, 0, none⟩) 1 1] w11) := TH10.out.gb hs hg
  have HA11 : Hid (KG (fun g => b6 < g) w7 w11) := HA10.out.trans (KG.gb hg (fun h => by have h1 := TH10.out.hR; have h2 := TH10.out.hb; have h3 : b6 < R := h; omega))
  have HB11 : Hid (KG (fun g => b6 < g) V8 w11) := HB10.out.trans (KG.gb hg (fun h => by have h1 := TH10.out.hR; have h2 := TH10.out.hb; have h3 : b6 < R := h; omega))
  clear k11 hs hg
  go_wp2_with fail
  obtain ⟨V0, hV0⟩ : ∃ V0, w11.drew = V0 := ⟨_, rfl⟩
  have hbd : Below w11.heap.size w11 V0 := hV0 ▸ (Below.refl _ _).drew
  have TH12 : Hid (Th w R P0 b6 s7 [.int .i64 7, .string ⟨#[]⟩, .int .i64 0, .int .i64 0, .slice none 0 0, .slice (some ⟨rb, 0, none⟩) 1 1] V0) := TH11.out.bl hbd
  have HA12 : Hid (KG (fun g => b6 < g) w7 V0) := HA11.out.trans (KG.bl hbd)
  have HB12 : Hid (KG (fun g => b6 < g) V8 V0) := HB11.out.trans (KG.bl hbd)
  have G0 : Hid (V0.cell? ⟨b6, 5, none⟩ = some (.slice (some ⟨rb, 0, none⟩) 1 1)) := (TH12.out.b 5 _ rfl).c
  clear hbd
  refine wp_region_any (by kernel_rfl) ?_
  change wpAny _ _ _ _ _ _ _ (World.drew _)
  rw [hV0]
  clear hV0
  refine wpAny_of_J (S := fun W => W.cell? ⟨b6, 5, none⟩ = some (.slice (some ⟨rb, 0, none⟩) 1 1)) (J := fun i => i != 9) _ _ _ _ ?_
  have hQp : True := trivial
  refine wpAnyJ_take (i := 0) (oi := { dst := some 117, op := Go.Op.fieldAddr 25 (Go.Operand.tmp 6) 5, type := 0, pos := "ref.go:262", after := #[], guard := none }) (v := .pointer (some ⟨b6, 5, none⟩)) rfl rfl (waits_of (by kernel_rfl)) (by kernel_rfl) (by kernel_rfl) (by kernel_rfl) (fun _ _ _ h => h) (Or.inl ⟨by rfl, fun W hS => ?_⟩) G0.out ?_
  · go_simp
  simp only [Act.put, List.setIfInBounds_toArray, List.set_cons_zero, List.set_cons_succ]
  refine wpAnyJ_take (i := 1) (oi := { dst := some 118, op := Go.Op.load 23 (Go.Operand.tmp 117), type := 23, pos := "ref.go:262", after := #[{ on := 0, ground := Go.Ground.data }], guard := none }) (v := .slice (some ⟨rb, 0, none⟩) 1 1) rfl rfl (waits_of (by kernel_rfl)) (by kernel_rfl) (by kernel_rfl) (by kernel_rfl) (fun _ _ _ h => h) (Or.inl ⟨by rfl, fun W hS => ?_⟩) G0.out ?_
  · go_simp
  simp only [Act.put, List.setIfInBounds_toArray, List.set_cons_zero, List.set_cons_succ]
  refine wpAnyJ_take (i := 2) (oi := { dst := some 119, op := Go.Op.move (Go.Operand.tmp 0), type := 54, pos := "ref.go:262", after := #[], guard := none }) (v := ptR R) rfl rfl (waits_of (by kernel_rfl)) (by kernel_rfl) (by kernel_rfl) (by kernel_rfl) (fun _ _ _ h => h) (Or.inl ⟨by rfl, fun W hS => ?_⟩) G0.out ?_
  · go_simp
  simp only [Act.put, List.setIfInBounds_toArray, List.set_cons_zero, List.set_cons_succ]
  refine wpAnyJ_take (i := 3) (oi := { dst := some 120, op := Go.Op.move (Go.Operand.tmp 1), type := 3, pos := "ref.go:262", after := #[], guard := none }) (v := .int .i64 lv) rfl rfl (waits_of (by kernel_rfl)) (by kernel_rfl) (by kernel_rfl) (by kernel_rfl) (fun _ _ _ h => h) (Or.inl ⟨by rfl, fun W hS => ?_⟩) G0.out ?_
  · go_simp
  simp only [Act.put, List.setIfInBounds_toArray, List.set_cons_zero, List.set_cons_succ]
  refine wpAnyJ_take (i := 4) (oi := { dst := some 121, op := Go.Op.binOp Go.BinOp.add 3 (Go.Operand.tmp 120) (Go.Operand.const (Go.Value.int Go.IntKind.i64 1)) 3, type := 3, pos := "ref.go:262", after := #[{ on := 3, ground := Go.Ground.data }], guard := none }) (v := .int .i64 (lv + 1)) rfl rfl (waits_of (by kernel_rfl)) (by kernel_rfl) (by kernel_rfl) (by kernel_rfl) (fun _ _ _ h => h) (Or.inl ⟨by rfl, fun W hS => ?_⟩) G0.out ?_
  · go_simp
  simp only [Act.put, List.setIfInBounds_toArray, List.set_cons_zero, List.set_cons_succ]
  refine wpAnyJ_ready (rs := [5]) (by kernel_rfl) (by simp) ?_
  refine AllJ.cons (o := { dst := some 122, op := Go.Op.call { callee := Go.Callee.value (Go.Operand.func 19), args := #[Go.Operand.tmp 119, Go.Operand.tmp 121], argTypes := #[54, 3] }, type := 25, pos := "ref.go:262", after := #[{ on := 2, ground := Go.Ground.data }, { on := 4, ground := Go.Ground.data }], guard := none }) rfl (fun K hK => ?_) AllJ.nil
  have kk := HQ.out V0 R P0 s7 r8 TH12.out.s HR8.out
  go_simp
  go_at_call 19
  refine kk.mono ?_
  intro e wB hsp
  obtain ⟨kb, cb, lb, hb, a4b, n4b, c4b, a5b, n5b, c5b, rfl, hqb, hs, hg⟩ := hsp.ask
  have hzB : rb < V0.heap.size := Nat.lt_of_lt_of_le (HErb.out 0 _ rfl).lt HB12.out.1
  have HQB : Hid (∀ a q, r8 = .ok (a, q) → QN (fun g => b6 < g ∧ g ≠ rb) wB a [.int .i64 kb, .string (tx cb), .int .i64 lb, .int .i64 hb, .slice a4b n4b c4b, .slice a5b n5b c5b]) := fun a q e => QN.kp (KG.refl _ _) (fun g h _ => by have h1 : V0.heap.size ≤ g := h; exact ⟨by omega, by omega⟩) a (hqb a q e)
  have TH13 : Hid (Th w R P0 b6 (nxS r8) [.int .i64 7, .string ⟨#[]⟩, .int .i64 0, .int .i64 0, .slice none 0 0, .slice (some ⟨rb, 0, none⟩) 1 1] wB) := TH12.out.gb hs hg
  have HA13 : Hid (KG (fun g => b6 < g) w7 wB) := HA12.out.trans (KG.gb hg (fun h => by have h1 := TH12.out.hR; have h2 := TH12.out.hb; have h3 : b6 < R := h; omega))
  have HB13 : Hid (KG (fun g => b6 < g) V8 wB) := HB12.out.trans (KG.gb hg (fun h => by have h1 := TH12.out.hR; have h2 := TH12.out.hb; have h3 : b6 < R := h; omega))
  have G1 : Hid (wB.cell? ⟨b6, 5, none⟩ = some (.slice (some ⟨rb, 0, none⟩) 1 1)) := (TH13.out.b 5 _ rfl).c
  clear hsp hqb hs hg kk
  refine hK.out _ _ (fun _ => G1.out) ?_
  clear hK K
  try simp only [Act.put, List.setIfInBounds_toArray, List.set_cons_zero, List.set_cons_succ]
  obtain ⟨xb, hxb⟩ : ∃ xb, wB.heap.size = xb := ⟨_, rfl⟩
  obtain ⟨WC, hWC⟩ : ∃ WC, wB.alloc (.cells #[.int .i64 kb, .string (tx cb), .int .i64 lb, .int .i64 hb, .slice a4b n4b c4b, .slice a5b n5b c5b] 25) = WC := ⟨_, rfl⟩
  have hbC : Below wB.heap.size wB WC := hWC ▸ ba _ _
  have HEC : Hid (Bx WC xb [.int .i64 kb, .string (tx cb), .int .i64 lb, .int .i64 hb, .slice a4b n4b c4b, .slice a5b n5b c5b]) := hWC ▸ Bx.new wB [.int .i64 kb, .string (tx cb), .int .i64 lb, .int .i64 hb, .slice a4b n4b c4b, .slice a5b n5b c5b] 25 hxb.symm
  have TH14 : Hid (Th w R P0 b6 (nxS r8) [.int .i64 7, .string ⟨#[]⟩, .int .i64 0, .int .i64 0, .slice none 0 0, .slice (some ⟨rb, 0, none⟩) 1 1] WC) := TH13.out.bl hbC
  have HA14 : Hid (KG (fun g => b6 < g) w7 WC) := HA13.out.trans (KG.bl hbC)
  have HB14 : Hid (KG (fun g => b6 < g) V8 WC) := HB13.out.trans (KG.bl hbC)
  have G2 : Hid (WC.cell? ⟨b6, 5, none⟩ = some (.slice (some ⟨rb, 0, none⟩) 1 1)) := (TH14.out.b 5 _ rfl).c
  have HOC : Hid (WC.ownsRow rb 25 6 (.slice (some ⟨rb, 0, none⟩) 1 1) 1 [.int .i64 ka, .string (tx ca), .int .i64 la, .int .i64 ha, .slice a4a n4a c4a, .slice a5a n5a c5a]) := row_same HO0.out (fun g hg => by cases (show some rb = some g from hg); exact HB14.out.2 rb hltrb (HErb.out 0 _ rfl).lt)
  have hrbC : rb ≤ WC.heap.size := Nat.le_trans (Nat.le_of_lt (HErb.out 0 _ rfl).lt) HB14.out.1
  have HQB2 : Hid (∀ a q, r8 = .ok (a, q) → QN (fun g => b6 < g ∧ g ≠ rb) WC a [.int .i64 kb, .string (tx cb), .int .i64 lb, .int .i64 hb, .slice a4b n4b c4b, .slice a5b n5b c5b]) := fun a q e => QN.kp (KG.bl hbC) (fun g h _ => h) a (HQB.out a q e)
  obtain ⟨i0, hi0, hz0, hz1', hz2⟩ := info_parts infot25
  obtain ⟨nv, wD, hrun, hown, hgrow, _, hat⟩ := run_append_own_at (P := Tryd.prog) WC rb 23 23 25 i0 (.agg #[.int .i64 0, .string ⟨#[]⟩, .int .i64 0, .int .i64 0, .slice none 0 0, .slice none 0 0]) 6 88 Tryd.underlying23 hi0 hz0 hz1' hz2 rfl (by decide) (.slice (some ⟨rb, 0, none⟩) 1 1) 1 [.int .i64 ka, .string (tx ca), .int .i64 la, .int .i64 ha, .slice a4a n4a c4a, .slice a5a n5a c5a] HOC.out ⟨xb, 0, none⟩ 1 1 [.int .i64 kb, .string (tx cb), .int .i64 lb, .int .i64 hb, .slice a4b n4b c4b, .slice a5b n5b c5b] (by simp) (fun j u hu => by have h := (HEC.out j u hu).c; cases j with | zero => simpa [Addr.add] using h | succ j => simpa [Addr.add] using h) (by intro u hu; simp at hu; rcases hu with rfl | rfl | rfl | rfl | rfl | rfl <;> rfl) (by unfold maxLen; omega) (by omega) hrbC
  clear hbC
  refine wpAnyJ_ready (rs := [6]) (by kernel_rfl) (by simp) ?_
  refine AllJ.cons (o := { dst := some 123, op := Go.Op.buildSlice 23 1 #[(0, Go.Operand.tmp 122)], type := 23, pos := "ref.go:262", after := #[{ on := 5, ground := Go.Ground.data }], guard := none }) rfl (fun K hK => ?_) AllJ.nil
  go_simp
  refine hK.out _ _ (fun _ => G2.out) ?_
  clear hK K
  try simp only [Act.put, List.setIfInBounds_toArray, List.set_cons_zero, List.set_cons_succ]
  obtain ⟨ma, mc, rfl⟩ := row_slice hown
  have TH15 : Hid (Th w R P0 b6 (nxS r8) [.int .i64 7, .string ⟨#[]⟩, .int .i64 0, .int .i64 0, .slice none 0 0, .slice (some ⟨rb, 0, none⟩) 1 1] wD) := TH14.out.grow hgrow hltrb
  have G3 : Hid (wD.cell? ⟨b6, 5, none⟩ = some (.slice (some ⟨rb, 0, none⟩) 1 1)) := (TH15.out.b 5 _ rfl).c
  have HKD : Hid (KG (fun g => b6 < g ∧ g ≠ rb) WC wD) := KG.gb hgrow (fun h => h.2 rfl)
  have HOD : Hid (wD.ownsRow rb 25 6 (.slice ma 2 mc) 2 ([.int .i64 ka, .string (tx ca), .int .i64 la, .int .i64 ha, .slice a4a n4a c4a, .slice a5a n5a c5a] ++ [.int .i64 kb, .string (tx cb), .int .i64 lb, .int .i64 hb, .slice a4b n4b c4b, .slice a5b n5b c5b])) := hown
  refine wpAnyJ_ready (rs := [7]) (by kernel_rfl) (by simp) ?_
  refine AllJ.cons (o := { dst := some 124, op := Go.Op.call { callee := Go.Callee.builtin Go.Builtin.append, args := #[Go.Operand.tmp 118, Go.Operand.tmp 123], argTypes := #[23, 23] }, type := 23, pos := "ref.go:262", after := #[{ on := 1, ground := Go.Ground.data }, { on := 6, ground := Go.Ground.data }, { on := 5, ground := Go.Ground.chain }], guard := none }) rfl (fun K hK => ?_) AllJ.nil
  rw [if_pos (by rfl)]
  refine wp_append (.tmp 118) (.tmp 123) rfl _ _ rfl rfl _ _ _ hrun ?_
  refine hK.out _ _ (fun _ => G3.out) ?_
  clear hK K hrun hown hgrow hat hWC hxb
  try simp only [Act.put, List.setIfInBounds_toArray, List.set_cons_zero, List.set_cons_succ]
  refine wpAnyJ_take (i := 8) (oi := { dst := some 125, op := Go.Op.fieldAddr 25 (Go.Operand.tmp 6) 5, type := 0, pos := "ref.go:262", after := #[{ on := 0, ground := Go.Ground.phase }, { on := 1, ground := Go.Ground.phase }, { on := 2, ground := Go.Ground.phase }, { on := 3, ground := Go.Ground.phase }, { on := 4, ground := Go.Ground.phase }, { on := 5, ground := Go.Ground.phase }, { on := 6, ground := Go.Ground.phase }, { on := 7, ground := Go.Ground.phase }], guard := none }) (v := .pointer (some ⟨b6, 5, none⟩)) rfl rfl (waits_of (by kernel_rfl)) (by kernel_rfl) (by kernel_rfl) (by kernel_rfl) (fun _ _ _ h => h) (Or.inl ⟨by rfl, fun W hS => ?_⟩) G3.out ?_
  · go_simp
  simp only [Act.put, List.setIfInBounds_toArray, List.set_cons_zero, List.set_cons_succ]
  have m16 := (TH15.out.b 5 _ rfl).c
  have m16f := (TH15.out.b 5 _ rfl).f
  obtain ⟨V16, hV16⟩ : ∃ V16, wD.setCell ⟨b6, 5, none⟩ (.slice ma 2 mc) = V16 := ⟨_, rfl⟩
  have TH16 : Hid (Th w R P0 b6 (nxS r8) [.int .i64 7, .string ⟨#[]⟩, .int .i64 0, .int .i64 0, .slice none 0 0, .slice ma 2 mc] V16) := hV16 ▸ TH15.out.put 5 (by simp) _
  have HE16 : Hid (KG (fun g => b6 < g) wD V16) := hV16 ▸ KG.put (fun h => Nat.lt_irrefl _ h) _ _
  refine wpAnyJ_ready (rs := [9]) (by kernel_rfl) (by simp) ?_
  refine AllJ.cons (o := { dst := none, op := Go.Op.store 23 (Go.Operand.tmp 125) (Go.Operand.tmp 124), type := 0, pos := "ref.go:262", after := #[{ on := 8, ground := Go.Ground.data }, { on := 7, ground := Go.Ground.data }, { on := 7, ground := Go.Ground.chain }, { on := 0, ground := Go.Ground.phase }, { on := 1, ground := Go.Ground.phase }, { on := 2, ground := Go.Ground.phase }, { on := 3, ground := Go.Ground.phase }, { on := 4, ground := Go.Ground.phase }, { on := 5, ground := Go.Ground.phase }, { on := 6, ground := Go.Ground.phase }, { on := 7, ground := Go.Ground.phase }], guard := none }) rfl (fun K hK => ?_) AllJ.nil
  go_simp
  refine hK.out _ _ (fun h => by cases h) ?_
  clear hK K
  refine wpAnyJ_done (by kernel_rfl) ?_ _
  have k17 := want_any TH16.out.s sShut (by decide) s9 HS9'.out
  go_wp2_with fail
  clear hV16 m16 m16f
  refine k17.mono ?_
  rintro e w17 ⟨rfl, hs, hg⟩
  have TH17 : Hid (Th w R P0 b6 s9 [.int .i64 7, .string ⟨#[]⟩, .int .i64 0, .int .i64 0, .slice none 0 0, .slice ma 2 mc] w17) := TH16.out.gb hs hg
  have HE17 : Hid (KG (fun g => b6 < g) wD w17) := HE16.out.trans (KG.gb hg (fun h => by have h1 := TH16.out.hR; have h2 := TH16.out.hb; have h3 : b6 < R := h; omega))
  clear k17 hs hg
  have s0 := (TH17.out.b 0 _ rfl).c
  have s1 := (TH17.out.b 1 _ rfl).c
  have s2 := (TH17.out.b 2 _ rfl).c
  have s3 := (TH17.out.b 3 _ rfl).c
  have s4 := (TH17.out.b 4 _ rfl).c
  have s5 := (TH17.out.b 5 _ rfl).c
  have z0 := (TH17.out.x 0 _ rfl).c
  have z1 := (TH17.out.x 1 _ rfl).c
  have z2 := (TH17.out.x 2 _ rfl).c
  have z3 := (TH17.out.x 3 _ rfl).c
  have z4 := (TH17.out.x 4 _ rfl).c
  have z5 := (TH17.out.x 5 _ rfl).c
  have y0 := (TH17.out.x 0 _ rfl).f
  have y1 := (TH17.out.x 1 _ rfl).f
  have y2 := (TH17.out.x 2 _ rfl).f
  have y3 := (TH17.out.x 3 _ rfl).f
  have y4 := (TH17.out.x 4 _ rfl).f
  have y5 := (TH17.out.x 5 _ rfl).f
  obtain ⟨W9, hW9⟩ : ∃ W9, set6 w17 w.heap.size (.int .i64 7) (.string ⟨#[]⟩) (.int .i64 0) (.int .i64 0) (.slice none 0 0) (.slice ma 2 mc) = W9 := ⟨_, rfl⟩
  have HB9 : Hid (Bx W9 w.heap.size [.int .i64 7, .string ⟨#[]⟩, .int .i64 0, .int .i64 0, .slice none 0 0, .slice ma 2 mc]) := hW9 ▸ set6_bx TH17.out.x _ _ _ _ _ _
  have HS9 : Hid (SS W9 R P0 _) := hW9 ▸ TH17.out.s.six (Nat.ne_of_gt TH17.out.hR) (Nat.ne_of_gt TH17.out.hP) _ _ _ _ _ _
  have HG9 : Hid (w.grownBy W9 (some R)) := hW9 ▸ set6_gb TH17.out.g (Nat.le_refl _) _ _ _ _ _ _
  have HK9 : Hid (KG (fun g => w.heap.size < g) w17 W9) := hW9 ▸ KG.six (fun h => Nat.lt_irrefl _ h) _ _ _ _ _ _
  unfold set6 at hW9
  go_wp2
  clear hW9
  have x0 := (HB9.out 0 _ rfl).c
  have x1 := (HB9.out 1 _ rfl).c
  have x2 := (HB9.out 2 _ rfl).c
  have x3 := (HB9.out 3 _ rfl).c
  have x4 := (HB9.out 4 _ rfl).c
  have x5 := (HB9.out 5 _ rfl).c
  refine bodyPost_ret (v := .agg #[.int .i64 7, .string ⟨#[]⟩, .int .i64 0, .int .i64 0, .slice none 0 0, .slice ma 2 mc]) (by simp [results, Tryd.results49, go_sem, x0, x1, x2, x3, x4, x5]) rfl ?_
  refine sp_fin (fun qq e => ?_) (fun e he => ?_) HS9.out HG9.out
  · obtain ⟨a, q1, b, q2, e1, e2, hfin⟩ := HTC.out.1 qq e
    obtain ⟨g, cap, cur, v1, v2, v3, v4, v5, v6, v7⟩ := HOD.out.2.resolve_left (fun h => by cases h.2)
    cases v1
    have hgD : g < wD.heap.size := (Array.getElem?_eq_some_iff.1 v3).1
    have hKE := HE17.out
    have hKG : KG (fun g => b6 < g ∧ g ≠ rb) wD w17 := ⟨hKE.1, fun g h hl => hKE.2 g h.1 hl⟩
    have hqa := QN.kp hKG (fun g h _ => Nat.lt_trans hbw h.1) a (QN.kp HKD.out (fun g h _ => h) a (QN.kp HA14.out (fun g h hl => ⟨h, by have h1 := HRB.out; omega⟩ : ∀ g, b6 < g → g < w7.heap.size → b6 < g ∧ g ≠ rb) a (HQA.out a q1 e1)))
    have hqb := QN.kp hKG (fun g h _ => Nat.lt_trans hbw h.1) b (QN.kp HKD.out (fun g h _ => h) b (HQB2.out b q2 e2))
    have hbg : b6 < g := Nat.lt_of_lt_of_le hltrb v2
    exact ⟨_, hfin, _, _, rfl, .inl ⟨rfl, rfl⟩, .inr (.inr ⟨rfl, g, mc, [.int .i64 ka, .string (tx ca), .int .i64 la, .int .i64 ha, .slice a4a n4a c4a, .slice a5a n5a c5a], [.int .i64 kb, .string (tx cb), .int .i64 lb, .int .i64 hb, .slice a4b n4b c4b, .slice a5b n5b c5b], rfl, v4, Nat.le_of_lt (Nat.lt_trans hbw hbg), Nat.lt_of_lt_of_le hgD (Nat.le_trans hKE.1 HK9.out.1), QN.kp HK9.out (fun g h _ => Nat.le_of_lt h) a hqa, QN.kp HK9.out (fun g h _ => Nat.le_of_lt h) b hqb, fun j u hu => (HK9.out.cell (g := g) (k := j) (Nat.lt_trans hbw hbg) (Nat.lt_of_lt_of_le hgD hKE.1)).trans ((hKE.cell (g := g) (k := j) hbg hgD).trans ((HOD.out.cellAt j (by have := (List.getElem?_eq_some_iff.1 hu).1; simpa using this)).trans hu))⟩)⟩
  · exact HTC.out.2 e he
end Go.Proofs.YtidfkencjdjkbaaDoor

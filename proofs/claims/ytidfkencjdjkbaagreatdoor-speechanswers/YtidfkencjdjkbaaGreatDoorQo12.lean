import Derived.Test.YtidfkencjdjkbaaGreatDoorQo11
/-
  PACKAGE speech: a thing's word (regions that draw their order).
-/
namespace Go.Proofs.YtidfkencjdjkbaaGreatDoor
open Go.RowKit Sp

set_option maxRecDepth 100000 in
set_option maxHeartbeats 1000000 in
theorem thg3 {Q : Exit → Act → World → Prop} (hQp : ∀ c a d v w, Q (.panic c) (Act.put a d v) w → Q (.panic c) a w) (t1 t2 t3 t4 t5 t6 t7 t8 t9 t10 t11 t12 t13 t14 t15 t16 t17 t18 t19 t20 t21 t22 t23 t24 t25 t26 t27 t28 t29 t30 t31 t32 t33 t34 t35 t36 t37 t38 t39 t40 t41 t42 t43 t44 t45 t46 t47 t48 t49 t50 t51 t52 t53 t54 t55 t56 t57 t58 t59 t60 t61 t62 t63 t64 t65 t66 t67 t68 t69 t70 t71 t72 t73 t74 t75 t76 t77 t78 t79 t80 t81 t82 t83 t84 t85 t86 t87 t88 t89 t90 t91 t92 t93 t94 t95 : Value) (A : World) (R b : Nat) (x : By) (kd : Int)
    (hC : ∀ W : World, Below A.heap.size A W → W.cell? ⟨R, 1, none⟩ = some (.map (some b)))
    (hL : ∀ W : World, Below A.heap.size A W → (Instr.lookup 47 (.map (some b)) (.string (tx x)) false).run Tryz.prog W = .ok (.int .i64 kd) W)
    (hN : ∀ W : World, Below A.heap.size A W → Calls Tryz.prog 49 #[ptR R] W fun e W' => e = .returned (.string (tx x)) ∧ W' = W)
    (hEnd : ∀ (u13 u14 u15 u16 u17 u18 u19 u20 u21 u22 : Value) (b5 : Nat) (Wf : World), Below A.heap.size A Wf → Bx Wf b5 [.int .i64 kd, .string ⟨#[]⟩, .int .i64 0, .int .i64 0, .slice none 0 0, .slice none 0 0] → A.heap.size ≤ b5 → Q .normal { tmps := #[ptR R, t1, t2, t3, t4, .pointer (some ⟨b5, 0, none⟩), t6, t7, t8, t9, t10, t11, t12, u13, u14, u15, u16, u17, u18, u19, u20, u21, u22, t23, t24, t25, t26, t27, t28, t29, t30, t31, t32, t33, t34, t35, t36, t37, t38, t39, t40, t41, t42, t43, t44, t45, t46, t47, t48, t49, t50, t51, t52, t53, t54, t55, t56, t57, t58, t59, t60, t61, t62, t63, t64, t65, t66, t67, t68, t69, t70, t71, t72, t73, t74, t75, t76, t77, t78, t79, t80, t81, t82, t83, t84, t85, t86, t87, t88, t89, t90, t91, t92, t93, t94, t95], defers := [] } Wf) :
    (Code.region 3 #[{ dst := some 13, op := Op.move (Operand.tmp 0), type := 95, pos := "reader.go:57", after := #[], guard := none }, { dst := some 14, op := Op.nilCheck (Operand.tmp 13), type := 0, pos := "reader.go:57", after := #[{ on := 0, ground := Ground.data }], guard := none }, { dst := some 15, op := Op.fieldAddr 61 (Operand.tmp 14) 1, type := 0, pos := "reader.go:57", after := #[{ on := 1, ground := Ground.data }], guard := none }, { dst := some 16, op := Op.load 47 (Operand.tmp 15), type := 47, pos := "reader.go:57", after := #[{ on := 2, ground := Ground.data }], guard := none }, { dst := some 17, op := Op.move (Operand.tmp 0), type := 95, pos := "reader.go:57", after := #[], guard := none }, { dst := some 18, op := Op.nilCheck (Operand.tmp 17), type := 0, pos := "reader.go:57", after := #[{ on := 4, ground := Ground.data }], guard := none }, { dst := some 19, op := Op.fieldAddr 61 (Operand.tmp 18) 0, type := 0, pos := "reader.go:57", after := #[{ on := 5, ground := Ground.data }], guard := none }, { dst := some 20, op := Op.call { callee := Callee.value (Operand.func 49), args := #[Operand.tmp 19], argTypes := #[59] }, type := 9, pos := "reader.go:57", after := #[{ on := 6, ground := Ground.data }], guard := none }, { dst := some 21, op := Op.lookup 47 (Operand.tmp 16) (Operand.tmp 20) false, type := 3, pos := "reader.go:57", after := #[{ on := 3, ground := Ground.data }, { on := 7, ground := Ground.data }], guard := none }, { dst := some 22, op := Op.build 25 #[(0, Operand.tmp 21)], type := 25, pos := "reader.go:57", after := #[{ on := 8, ground := Ground.data }], guard := none }, { dst := some 5, op := Op.alloc 25, type := 0, pos := "reader.go:57", after := #[], guard := none }, { dst := none, op := Op.store 25 (Operand.tmp 5) (Operand.tmp 22), type := 0, pos := "reader.go:57", after := #[{ on := 10, ground := Ground.data }, { on := 9, ground := Ground.data }, { on := 7, ground := Ground.chain }, { on := 0, ground := Ground.phase }, { on := 1, ground := Ground.phase }, { on := 2, ground := Ground.phase }, { on := 3, ground := Ground.phase }, { on := 4, ground := Ground.phase }, { on := 5, ground := Ground.phase }, { on := 6, ground := Ground.phase }, { on := 7, ground := Ground.phase }, { on := 8, ground := Ground.phase }, { on := 9, ground := Ground.phase }, { on := 10, ground := Ground.phase }], guard := none }] true).wp Tryz.prog Q { tmps := #[ptR R, t1, t2, t3, t4, t5, t6, t7, t8, t9, t10, t11, t12, t13, t14, t15, t16, t17, t18, t19, t20, t21, t22, t23, t24, t25, t26, t27, t28, t29, t30, t31, t32, t33, t34, t35, t36, t37, t38, t39, t40, t41, t42, t43, t44, t45, t46, t47, t48, t49, t50, t51, t52, t53, t54, t55, t56, t57, t58, t59, t60, t61, t62, t63, t64, t65, t66, t67, t68, t69, t70, t71, t72, t73, t74, t75, t76, t77, t78, t79, t80, t81, t82, t83, t84, t85, t86, t87, t88, t89, t90, t91, t92, t93, t94, t95], defers := [] } A := by
  have HEND : Hid (∀ (u13 u14 u15 u16 u17 u18 u19 u20 u21 u22 : Value) (b5 : Nat) (Wf : World), Below A.heap.size A Wf → Bx Wf b5 [.int .i64 kd, .string ⟨#[]⟩, .int .i64 0, .int .i64 0, .slice none 0 0, .slice none 0 0] → A.heap.size ≤ b5 → Q .normal { tmps := #[ptR R, t1, t2, t3, t4, .pointer (some ⟨b5, 0, none⟩), t6, t7, t8, t9, t10, t11, t12, u13, u14, u15, u16, u17, u18, u19, u20, u21, u22, t23, t24, t25, t26, t27, t28, t29, t30, t31, t32, t33, t34, t35, t36, t37, t38, t39, t40, t41, t42, t43, t44, t45, t46, t47, t48, t49, t50, t51, t52, t53, t54, t55, t56, t57, t58, t59, t60, t61, t62, t63, t64, t65, t66, t67, t68, t69, t70, t71, t72, t73, t74, t75, t76, t77, t78, t79, t80, t81, t82, t83, t84, t85, t86, t87, t88, t89, t90, t91, t92, t93, t94, t95], defers := [] } Wf) := hEnd
  have H_hC : Hid (∀ W : World, Below A.heap.size A W → W.cell? ⟨R, 1, none⟩ = some (.map (some b))) := hC
  have H_hL : Hid (∀ W : World, Below A.heap.size A W → (Instr.lookup 47 (.map (some b)) (.string (tx x)) false).run Tryz.prog W = .ok (.int .i64 kd) W) := hL
  have H_hN : Hid (∀ W : World, Below A.heap.size A W → Calls Tryz.prog 49 #[ptR R] W fun e W' => e = .returned (.string (tx x)) ∧ W' = W) := hN
  have G0 : Hid (Below A.heap.size A A.drew) := (Below.refl _ _).drew
  clear hEnd hC hL hN
  refine wp_region_any (by kernel_rfl) ?_
  change wpAny _ _ _ _ _ _ _ (World.drew _)
  obtain ⟨V0, hV0⟩ : ∃ V0, A.drew = V0 := ⟨_, rfl⟩
  rw [hV0] at G0 ⊢
  clear hV0
  refine wpAny_of_J (S := fun W => Below A.heap.size A W) (J := fun _ => true) _ _ _ _ ?_
  refine wpAnyJ_take (i := 0) (oi := { dst := some 13, op := Op.move (Operand.tmp 0), type := 95, pos := "reader.go:57", after := #[], guard := none }) (v := ptR R) rfl rfl (waits_of (by kernel_rfl)) (by kernel_rfl) (by kernel_rfl) (by kernel_rfl) (fun _ _ _ h => hQp _ _ _ _ _ h) (Or.inl ⟨by rfl, fun W hS => ?_⟩) G0.out ?_
  · go_simp
  simp only [Act.put, List.setIfInBounds_toArray, List.set_cons_zero, List.set_cons_succ]
  refine wpAnyJ_take (i := 1) (oi := { dst := some 14, op := Op.nilCheck (Operand.tmp 13), type := 0, pos := "reader.go:57", after := #[{ on := 0, ground := Ground.data }], guard := none }) (v := .pointer (some ⟨R, 0, none⟩)) rfl rfl (waits_of (by kernel_rfl)) (by kernel_rfl) (by kernel_rfl) (by kernel_rfl) (fun _ _ _ h => hQp _ _ _ _ _ h) (Or.inl ⟨by rfl, fun W hS => ?_⟩) G0.out ?_
  · go_simp
  simp only [Act.put, List.setIfInBounds_toArray, List.set_cons_zero, List.set_cons_succ]
  refine wpAnyJ_take (i := 2) (oi := { dst := some 15, op := Op.fieldAddr 61 (Operand.tmp 14) 1, type := 0, pos := "reader.go:57", after := #[{ on := 1, ground := Ground.data }], guard := none }) (v := .pointer (some ⟨R, 1, none⟩)) rfl rfl (waits_of (by kernel_rfl)) (by kernel_rfl) (by kernel_rfl) (by kernel_rfl) (fun _ _ _ h => hQp _ _ _ _ _ h) (Or.inl ⟨by rfl, fun W hS => ?_⟩) G0.out ?_
  · go_simp
  simp only [Act.put, List.setIfInBounds_toArray, List.set_cons_zero, List.set_cons_succ]
  refine wpAnyJ_take (i := 3) (oi := { dst := some 16, op := Op.load 47 (Operand.tmp 15), type := 47, pos := "reader.go:57", after := #[{ on := 2, ground := Ground.data }], guard := none }) (v := .map (some b)) rfl rfl (waits_of (by kernel_rfl)) (by kernel_rfl) (by kernel_rfl) (by kernel_rfl) (fun _ _ _ h => hQp _ _ _ _ _ h) (Or.inl ⟨by rfl, fun W hS => ?_⟩) G0.out ?_
  · have z := H_hC.out W hS; go_simp
  simp only [Act.put, List.setIfInBounds_toArray, List.set_cons_zero, List.set_cons_succ]
  refine wpAnyJ_take (i := 4) (oi := { dst := some 17, op := Op.move (Operand.tmp 0), type := 95, pos := "reader.go:57", after := #[], guard := none }) (v := ptR R) rfl rfl (waits_of (by kernel_rfl)) (by kernel_rfl) (by kernel_rfl) (by kernel_rfl) (fun _ _ _ h => hQp _ _ _ _ _ h) (Or.inl ⟨by rfl, fun W hS => ?_⟩) G0.out ?_
  · go_simp
  simp only [Act.put, List.setIfInBounds_toArray, List.set_cons_zero, List.set_cons_succ]
  refine wpAnyJ_take (i := 5) (oi := { dst := some 18, op := Op.nilCheck (Operand.tmp 17), type := 0, pos := "reader.go:57", after := #[{ on := 4, ground := Ground.data }], guard := none }) (v := .pointer (some ⟨R, 0, none⟩)) rfl rfl (waits_of (by kernel_rfl)) (by kernel_rfl) (by kernel_rfl) (by kernel_rfl) (fun _ _ _ h => hQp _ _ _ _ _ h) (Or.inl ⟨by rfl, fun W hS => ?_⟩) G0.out ?_
  · go_simp
  simp only [Act.put, List.setIfInBounds_toArray, List.set_cons_zero, List.set_cons_succ]
  refine wpAnyJ_take (i := 6) (oi := { dst := some 19, op := Op.fieldAddr 61 (Operand.tmp 18) 0, type := 0, pos := "reader.go:57", after := #[{ on := 5, ground := Ground.data }], guard := none }) (v := .pointer (some ⟨R, 0, none⟩)) rfl rfl (waits_of (by kernel_rfl)) (by kernel_rfl) (by kernel_rfl) (by kernel_rfl) (fun _ _ _ h => hQp _ _ _ _ _ h) (Or.inl ⟨by rfl, fun W hS => ?_⟩) G0.out ?_
  · go_simp
  simp only [Act.put, List.setIfInBounds_toArray, List.set_cons_zero, List.set_cons_succ]
  refine wpAnyJ_ready (rs := [7, 10]) (by kernel_rfl) (by simp) ?_
  refine AllJ.cons (o := { dst := some 20, op := Op.call { callee := Callee.value (Operand.func 49), args := #[Operand.tmp 19], argTypes := #[59] }, type := 9, pos := "reader.go:57", after := #[{ on := 6, ground := Ground.data }], guard := none }) rfl (fun K hK => ?_) (AllJ.cons (o := { dst := some 5, op := Op.alloc 25, type := 0, pos := "reader.go:57", after := #[], guard := none }) rfl (fun K hK => ?_) AllJ.nil)
  ·
    have kk := H_hN.out V0 G0.out
    go_simp
    go_at_call 49
    refine kk.mono ?_
    rintro e1 W1 ⟨rfl, hW1⟩
    subst hW1
    clear kk
    refine hK.out _ _ (fun _ => G0.out) ?_
    clear hK K
    try simp only [Act.put, List.setIfInBounds_toArray, List.set_cons_zero, List.set_cons_succ]
    refine wpAnyJ_take (i := 8) (oi := { dst := some 21, op := Op.lookup 47 (Operand.tmp 16) (Operand.tmp 20) false, type := 3, pos := "reader.go:57", after := #[{ on := 3, ground := Ground.data }, { on := 7, ground := Ground.data }], guard := none }) (v := .int .i64 kd) rfl rfl (waits_of (by kernel_rfl)) (by kernel_rfl) (by kernel_rfl) (by kernel_rfl) (fun _ _ _ h => hQp _ _ _ _ _ h) (Or.inl ⟨by rfl, fun W hS => ?_⟩) G0.out ?_
    · have z := H_hL.out W hS; go_simp
    simp only [Act.put, List.setIfInBounds_toArray, List.set_cons_zero, List.set_cons_succ]
    refine wpAnyJ_take (i := 9) (oi := { dst := some 22, op := Op.build 25 #[(0, Operand.tmp 21)], type := 25, pos := "reader.go:57", after := #[{ on := 8, ground := Ground.data }], guard := none }) (v := .agg #[.int .i64 kd, .string ⟨#[]⟩, .int .i64 0, .int .i64 0, .slice none 0 0, .slice none 0 0]) rfl rfl (waits_of (by kernel_rfl)) (by kernel_rfl) (by kernel_rfl) (by kernel_rfl) (fun _ _ _ h => hQp _ _ _ _ _ h) (Or.inl ⟨by rfl, fun W hS => ?_⟩) G0.out ?_
    · go_simp
    simp only [Act.put, List.setIfInBounds_toArray, List.set_cons_zero, List.set_cons_succ]
    refine wpAnyJ_ready (rs := [10]) (by kernel_rfl) (by simp) ?_
    refine AllJ.cons (o := { dst := some 5, op := Op.alloc 25, type := 0, pos := "reader.go:57", after := #[], guard := none }) rfl (fun K hK => ?_) AllJ.nil
    go_simp
    obtain ⟨V1, hV1⟩ : ∃ V1, W1.alloc (.cells #[.int .i64 0, .string ⟨#[]⟩, .int .i64 0, .int .i64 0, .slice none 0 0, .slice none 0 0] 25) = V1 := ⟨_, rfl⟩
    have G1 : Hid (Below A.heap.size A V1) := hV1 ▸ bal G0.out _
    have N1 : Hid (Bx V1 W1.heap.size [.int .i64 0, .string ⟨#[]⟩, .int .i64 0, .int .i64 0, .slice none 0 0, .slice none 0 0]) := hV1 ▸ Bx.new W1 [.int .i64 0, .string ⟨#[]⟩, .int .i64 0, .int .i64 0, .slice none 0 0, .slice none 0 0] 25 rfl
    have L1 : Hid (A.heap.size ≤ W1.heap.size) := G0.out.size
    rw [hV1]
    clear hV1
    refine hK.out _ _ (fun _ => G1.out) ?_
    clear hK K
    try simp only [Act.put, List.setIfInBounds_toArray, List.set_cons_zero, List.set_cons_succ]
    refine wpAnyJ_ready (rs := [11]) (by kernel_rfl) (by simp) ?_
    refine AllJ.cons (o := { dst := none, op := Op.store 25 (Operand.tmp 5) (Operand.tmp 22), type := 0, pos := "reader.go:57", after := #[{ on := 10, ground := Ground.data }, { on := 9, ground := Ground.data }, { on := 7, ground := Ground.chain }, { on := 0, ground := Ground.phase }, { on := 1, ground := Ground.phase }, { on := 2, ground := Ground.phase }, { on := 3, ground := Ground.phase }, { on := 4, ground := Ground.phase }, { on := 5, ground := Ground.phase }, { on := 6, ground := Ground.phase }, { on := 7, ground := Ground.phase }, { on := 8, ground := Ground.phase }, { on := 9, ground := Ground.phase }, { on := 10, ground := Ground.phase }], guard := none }) rfl (fun K hK => ?_) AllJ.nil
    have z0 := (N1.out 0 _ rfl).c
    have z1 := (N1.out 1 _ rfl).c
    have z2 := (N1.out 2 _ rfl).c
    have z3 := (N1.out 3 _ rfl).c
    have z4 := (N1.out 4 _ rfl).c
    have z5 := (N1.out 5 _ rfl).c
    have y0 := (N1.out 0 _ rfl).f
    have y1 := (N1.out 1 _ rfl).f
    have y2 := (N1.out 2 _ rfl).f
    have y3 := (N1.out 3 _ rfl).f
    have y4 := (N1.out 4 _ rfl).f
    have y5 := (N1.out 5 _ rfl).f
    go_simp
    clear z0 z1 z2 z3 z4 z5 y0 y1 y2 y3 y4 y5
    obtain ⟨U, hU⟩ : ∃ U, set6 V1 W1.heap.size (.int .i64 kd) (.string ⟨#[]⟩) (.int .i64 0) (.int .i64 0) (.slice none 0 0) (.slice none 0 0) = U := ⟨_, rfl⟩
    have GU : Hid (Below A.heap.size A U) := hU ▸ bs (bs (bs (bs (bs (bs G1.out (p := ⟨W1.heap.size, 0, none⟩) L1.out _) (p := ⟨W1.heap.size, 1, none⟩) L1.out _) (p := ⟨W1.heap.size, 2, none⟩) L1.out _) (p := ⟨W1.heap.size, 3, none⟩) L1.out _) (p := ⟨W1.heap.size, 4, none⟩) L1.out _) (p := ⟨W1.heap.size, 5, none⟩) L1.out _
    have FU : Hid (Bx U W1.heap.size [.int .i64 kd, .string ⟨#[]⟩, .int .i64 0, .int .i64 0, .slice none 0 0, .slice none 0 0]) := hU ▸ set6_bx N1.out _ _ _ _ _ _
    unfold set6 at hU
    rw [hU]
    clear hU
    refine hK.out _ _ (fun _ => GU.out) ?_
    clear hK K
    try simp only [Act.put]
    exact wpAnyJ_done (by kernel_rfl) (HEND.out _ _ _ _ _ _ _ _ _ _ _ U GU.out FU.out L1.out) _
  ·
    go_simp
    obtain ⟨V1, hV1⟩ : ∃ V1, V0.alloc (.cells #[.int .i64 0, .string ⟨#[]⟩, .int .i64 0, .int .i64 0, .slice none 0 0, .slice none 0 0] 25) = V1 := ⟨_, rfl⟩
    have G1 : Hid (Below A.heap.size A V1) := hV1 ▸ bal G0.out _
    have N1 : Hid (Bx V1 V0.heap.size [.int .i64 0, .string ⟨#[]⟩, .int .i64 0, .int .i64 0, .slice none 0 0, .slice none 0 0]) := hV1 ▸ Bx.new V0 [.int .i64 0, .string ⟨#[]⟩, .int .i64 0, .int .i64 0, .slice none 0 0, .slice none 0 0] 25 rfl
    have L1 : Hid (A.heap.size ≤ V0.heap.size) := G0.out.size
    rw [hV1]
    clear hV1
    refine hK.out _ _ (fun _ => G1.out) ?_
    clear hK K
    try simp only [Act.put, List.setIfInBounds_toArray, List.set_cons_zero, List.set_cons_succ]
    refine wpAnyJ_ready (rs := [7]) (by kernel_rfl) (by simp) ?_
    refine AllJ.cons (o := { dst := some 20, op := Op.call { callee := Callee.value (Operand.func 49), args := #[Operand.tmp 19], argTypes := #[59] }, type := 9, pos := "reader.go:57", after := #[{ on := 6, ground := Ground.data }], guard := none }) rfl (fun K hK => ?_) AllJ.nil
    have kk := H_hN.out V1 G1.out
    go_simp
    go_at_call 49
    refine kk.mono ?_
    rintro e1 W1 ⟨rfl, hW1⟩
    subst hW1
    clear kk
    refine hK.out _ _ (fun _ => G1.out) ?_
    clear hK K
    try simp only [Act.put, List.setIfInBounds_toArray, List.set_cons_zero, List.set_cons_succ]
    refine wpAnyJ_take (i := 8) (oi := { dst := some 21, op := Op.lookup 47 (Operand.tmp 16) (Operand.tmp 20) false, type := 3, pos := "reader.go:57", after := #[{ on := 3, ground := Ground.data }, { on := 7, ground := Ground.data }], guard := none }) (v := .int .i64 kd) rfl rfl (waits_of (by kernel_rfl)) (by kernel_rfl) (by kernel_rfl) (by kernel_rfl) (fun _ _ _ h => hQp _ _ _ _ _ h) (Or.inl ⟨by rfl, fun W hS => ?_⟩) G1.out ?_
    · have z := H_hL.out W hS; go_simp
    simp only [Act.put, List.setIfInBounds_toArray, List.set_cons_zero, List.set_cons_succ]
    refine wpAnyJ_take (i := 9) (oi := { dst := some 22, op := Op.build 25 #[(0, Operand.tmp 21)], type := 25, pos := "reader.go:57", after := #[{ on := 8, ground := Ground.data }], guard := none }) (v := .agg #[.int .i64 kd, .string ⟨#[]⟩, .int .i64 0, .int .i64 0, .slice none 0 0, .slice none 0 0]) rfl rfl (waits_of (by kernel_rfl)) (by kernel_rfl) (by kernel_rfl) (by kernel_rfl) (fun _ _ _ h => hQp _ _ _ _ _ h) (Or.inl ⟨by rfl, fun W hS => ?_⟩) G1.out ?_
    · go_simp
    simp only [Act.put, List.setIfInBounds_toArray, List.set_cons_zero, List.set_cons_succ]
    refine wpAnyJ_ready (rs := [11]) (by kernel_rfl) (by simp) ?_
    refine AllJ.cons (o := { dst := none, op := Op.store 25 (Operand.tmp 5) (Operand.tmp 22), type := 0, pos := "reader.go:57", after := #[{ on := 10, ground := Ground.data }, { on := 9, ground := Ground.data }, { on := 7, ground := Ground.chain }, { on := 0, ground := Ground.phase }, { on := 1, ground := Ground.phase }, { on := 2, ground := Ground.phase }, { on := 3, ground := Ground.phase }, { on := 4, ground := Ground.phase }, { on := 5, ground := Ground.phase }, { on := 6, ground := Ground.phase }, { on := 7, ground := Ground.phase }, { on := 8, ground := Ground.phase }, { on := 9, ground := Ground.phase }, { on := 10, ground := Ground.phase }], guard := none }) rfl (fun K hK => ?_) AllJ.nil
    have z0 := (N1.out 0 _ rfl).c
    have z1 := (N1.out 1 _ rfl).c
    have z2 := (N1.out 2 _ rfl).c
    have z3 := (N1.out 3 _ rfl).c
    have z4 := (N1.out 4 _ rfl).c
    have z5 := (N1.out 5 _ rfl).c
    have y0 := (N1.out 0 _ rfl).f
    have y1 := (N1.out 1 _ rfl).f
    have y2 := (N1.out 2 _ rfl).f
    have y3 := (N1.out 3 _ rfl).f
    have y4 := (N1.out 4 _ rfl).f
    have y5 := (N1.out 5 _ rfl).f
    go_simp
    clear z0 z1 z2 z3 z4 z5 y0 y1 y2 y3 y4 y5
    obtain ⟨U, hU⟩ : ∃ U, set6 W1 V0.heap.size (.int .i64 kd) (.string ⟨#[]⟩) (.int .i64 0) (.int .i64 0) (.slice none 0 0) (.slice none 0 0) = U := ⟨_, rfl⟩
    have GU : Hid (Below A.heap.size A U) := hU ▸ bs (bs (bs (bs (bs (bs G1.out (p := ⟨V0.heap.size, 0, none⟩) L1.out _) (p := ⟨V0.heap.size, 1, none⟩) L1.out _) (p := ⟨V0.heap.size, 2, none⟩) L1.out _) (p := ⟨V0.heap.size, 3, none⟩) L1.out _) (p := ⟨V0.heap.size, 4, none⟩) L1.out _) (p := ⟨V0.heap.size, 5, none⟩) L1.out _
    have FU : Hid (Bx U V0.heap.size [.int .i64 kd, .string ⟨#[]⟩, .int .i64 0, .int .i64 0, .slice none 0 0, .slice none 0 0]) := hU ▸ set6_bx N1.out _ _ _ _ _ _
    unfold set6 at hU
    rw [hU]
    clear hU
    refine hK.out _ _ (fun _ => GU.out) ?_
    clear hK K
    try simp only [Act.put]
    exact wpAnyJ_done (by kernel_rfl) (HEND.out _ _ _ _ _ _ _ _ _ _ _ U GU.out FU.out L1.out) _

set_option maxRecDepth 100000 in
set_option maxHeartbeats 1000000 in
theorem thg4 {Q : Exit → Act → World → Prop} (hQp : ∀ c a d v w, Q (.panic c) (Act.put a d v) w → Q (.panic c) a w) (t1 t2 t3 t4 t6 t7 t8 t9 t10 t11 t12 t13 t14 t15 t16 t17 t18 t19 t20 t21 t22 t23 t24 t25 t26 t27 t28 t29 t30 t31 t32 t33 t34 t35 t36 t37 t38 t39 t40 t41 t42 t43 t44 t45 t46 t47 t48 t49 t50 t51 t52 t53 t54 t55 t56 t57 t58 t59 t60 t61 t62 t63 t64 t65 t66 t67 t68 t69 t70 t71 t72 t73 t74 t75 t76 t77 t78 t79 t80 t81 t82 t83 t84 t85 t86 t87 t88 t89 t90 t91 t92 t93 t94 t95 : Value) (A : World) (R b5 : Nat) (at' : Int)
    (hC : ∀ W : World, Below A.heap.size A W → W.cell? ⟨b5, 0, none⟩ = some (.int .i64 0))
    (hM : ∀ W : World, Below A.heap.size A W → Calls Tryz.prog 23 #[ptR R, .bool false, .int .i64 2] W fun e W' => e = .panicked (chn 2 at') ∧ W' = W)
    (hEnd : ∀ (a : Act) (W : World), a.defers = [] → Below A.heap.size A W → Q (.panic (chn 2 at')) a W) :
    (Code.region 4 #[{ dst := some 23, op := Op.move (Operand.tmp 0), type := 95, pos := "reader.go:58", after := #[], guard := none }, { dst := some 24, op := Op.nilCheck (Operand.tmp 23), type := 0, pos := "reader.go:58", after := #[{ on := 0, ground := Ground.data }], guard := none }, { dst := some 25, op := Op.fieldAddr 61 (Operand.tmp 24) 0, type := 0, pos := "reader.go:58", after := #[{ on := 1, ground := Ground.data }], guard := none }, { dst := some 26, op := Op.fieldAddr 25 (Operand.tmp 5) 0, type := 0, pos := "reader.go:58", after := #[], guard := none }, { dst := some 27, op := Op.load 3 (Operand.tmp 26), type := 3, pos := "reader.go:58", after := #[{ on := 3, ground := Ground.data }], guard := none }, { dst := some 28, op := Op.binOp BinOp.neq 3 (Operand.tmp 27) (Operand.const (Value.int IntKind.i64 0)) 3, type := 4, pos := "reader.go:58", after := #[{ on := 4, ground := Ground.data }], guard := none }, { dst := some 29, op := Op.call { callee := Callee.value (Operand.func 23), args := #[Operand.tmp 25, Operand.tmp 28, Operand.const (Value.int IntKind.i64 2)], argTypes := #[59, 4, 26] }, type := 0, pos := "reader.go:58", after := #[{ on := 2, ground := Ground.data }, { on := 5, ground := Ground.data }], guard := none }] true).wp Tryz.prog Q { tmps := #[ptR R, t1, t2, t3, t4, .pointer (some ⟨b5, 0, none⟩), t6, t7, t8, t9, t10, t11, t12, t13, t14, t15, t16, t17, t18, t19, t20, t21, t22, t23, t24, t25, t26, t27, t28, t29, t30, t31, t32, t33, t34, t35, t36, t37, t38, t39, t40, t41, t42, t43, t44, t45, t46, t47, t48, t49, t50, t51, t52, t53, t54, t55, t56, t57, t58, t59, t60, t61, t62, t63, t64, t65, t66, t67, t68, t69, t70, t71, t72, t73, t74, t75, t76, t77, t78, t79, t80, t81, t82, t83, t84, t85, t86, t87, t88, t89, t90, t91, t92, t93, t94, t95], defers := [] } A := by
  have HEND : Hid (∀ (a : Act) (W : World), a.defers = [] → Below A.heap.size A W → Q (.panic (chn 2 at')) a W) := hEnd
  have H_hC : Hid (∀ W : World, Below A.heap.size A W → W.cell? ⟨b5, 0, none⟩ = some (.int .i64 0)) := hC
  have H_hM : Hid (∀ W : World, Below A.heap.size A W → Calls Tryz.prog 23 #[ptR R, .bool false, .int .i64 2] W fun e W' => e = .panicked (chn 2 at') ∧ W' = W) := hM
  have G0 : Hid (Below A.heap.size A A.drew) := (Below.refl _ _).drew
  clear hEnd hC hM
  refine wp_region_any (by kernel_rfl) ?_
  change wpAny _ _ _ _ _ _ _ (World.drew _)
  obtain ⟨V0, hV0⟩ : ∃ V0, A.drew = V0 := ⟨_, rfl⟩
  rw [hV0] at G0 ⊢
  clear hV0
  refine wpAny_of_J (S := fun W => Below A.heap.size A W) (J := fun _ => true) _ _ _ _ ?_
  refine wpAnyJ_take (i := 0) (oi := { dst := some 23, op := Op.move (Operand.tmp 0), type := 95, pos := "reader.go:58", after := #[], guard := none }) (v := ptR R) rfl rfl (waits_of (by kernel_rfl)) (by kernel_rfl) (by kernel_rfl) (by kernel_rfl) (fun _ _ _ h => hQp _ _ _ _ _ h) (Or.inl ⟨by rfl, fun W hS => ?_⟩) G0.out ?_
  · go_simp
  simp only [Act.put, List.setIfInBounds_toArray, List.set_cons_zero, List.set_cons_succ]
  refine wpAnyJ_take (i := 1) (oi := { dst := some 24, op := Op.nilCheck (Operand.tmp 23), type := 0, pos := "reader.go:58", after := #[{ on := 0, ground := Ground.data }], guard := none }) (v := .pointer (some ⟨R, 0, none⟩)) rfl rfl (waits_of (by kernel_rfl)) (by kernel_rfl) (by kernel_rfl) (by kernel_rfl) (fun _ _ _ h => hQp _ _ _ _ _ h) (Or.inl ⟨by rfl, fun W hS => ?_⟩) G0.out ?_
  · go_simp
  simp only [Act.put, List.setIfInBounds_toArray, List.set_cons_zero, List.set_cons_succ]
  refine wpAnyJ_take (i := 2) (oi := { dst := some 25, op := Op.fieldAddr 61 (Operand.tmp 24) 0, type := 0, pos := "reader.go:58", after := #[{ on := 1, ground := Ground.data }], guard := none }) (v := .pointer (some ⟨R, 0, none⟩)) rfl rfl (waits_of (by kernel_rfl)) (by kernel_rfl) (by kernel_rfl) (by kernel_rfl) (fun _ _ _ h => hQp _ _ _ _ _ h) (Or.inl ⟨by rfl, fun W hS => ?_⟩) G0.out ?_
  · go_simp
  simp only [Act.put, List.setIfInBounds_toArray, List.set_cons_zero, List.set_cons_succ]
  refine wpAnyJ_take (i := 3) (oi := { dst := some 26, op := Op.fieldAddr 25 (Operand.tmp 5) 0, type := 0, pos := "reader.go:58", after := #[], guard := none }) (v := .pointer (some ⟨b5, 0, none⟩)) rfl rfl (waits_of (by kernel_rfl)) (by kernel_rfl) (by kernel_rfl) (by kernel_rfl) (fun _ _ _ h => hQp _ _ _ _ _ h) (Or.inl ⟨by rfl, fun W hS => ?_⟩) G0.out ?_
  · go_simp
  simp only [Act.put, List.setIfInBounds_toArray, List.set_cons_zero, List.set_cons_succ]
  refine wpAnyJ_take (i := 4) (oi := { dst := some 27, op := Op.load 3 (Operand.tmp 26), type := 3, pos := "reader.go:58", after := #[{ on := 3, ground := Ground.data }], guard := none }) (v := .int .i64 0) rfl rfl (waits_of (by kernel_rfl)) (by kernel_rfl) (by kernel_rfl) (by kernel_rfl) (fun _ _ _ h => hQp _ _ _ _ _ h) (Or.inl ⟨by rfl, fun W hS => ?_⟩) G0.out ?_
  · have z := H_hC.out W hS; go_simp
  simp only [Act.put, List.setIfInBounds_toArray, List.set_cons_zero, List.set_cons_succ]
  refine wpAnyJ_take (i := 5) (oi := { dst := some 28, op := Op.binOp BinOp.neq 3 (Operand.tmp 27) (Operand.const (Value.int IntKind.i64 0)) 3, type := 4, pos := "reader.go:58", after := #[{ on := 4, ground := Ground.data }], guard := none }) (v := .bool false) rfl rfl (waits_of (by kernel_rfl)) (by kernel_rfl) (by kernel_rfl) (by kernel_rfl) (fun _ _ _ h => hQp _ _ _ _ _ h) (Or.inl ⟨by rfl, fun W hS => ?_⟩) G0.out ?_
  · go_simp
  simp only [Act.put, List.setIfInBounds_toArray, List.set_cons_zero, List.set_cons_succ]
  refine wpAnyJ_ready (rs := [6]) (by kernel_rfl) (by simp) ?_
  refine AllJ.cons (o := { dst := some 29, op := Op.call { callee := Callee.value (Operand.func 23), args := #[Operand.tmp 25, Operand.tmp 28, Operand.const (Value.int IntKind.i64 2)], argTypes := #[59, 4, 26] }, type := 0, pos := "reader.go:58", after := #[{ on := 2, ground := Ground.data }, { on := 5, ground := Ground.data }], guard := none }) rfl (fun K hK => ?_) AllJ.nil
  have kk := H_hM.out V0 G0.out
  go_simp
  go_at_call 23
  refine kk.mono ?_
  rintro e1 W1 ⟨rfl, hW1⟩
  subst hW1
  clear kk
  exact HEND.out _ _ rfl G0.out

end Go.Proofs.YtidfkencjdjkbaaGreatDoor

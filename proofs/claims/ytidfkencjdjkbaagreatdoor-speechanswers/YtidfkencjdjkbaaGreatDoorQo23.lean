import Derived.Test.YtidfkencjdjkbaaGreatDoorQo22
/-
  PACKAGE speech, Print: the statements of question that draw their order.
-/
namespace Go.Proofs.YtidfkencjdjkbaaGreatDoor
open Go.RowKit Sp
open Go.Lib (decDigits itoa)

set_option maxRecDepth 100000 in
set_option maxHeartbeats 1000000 in
theorem q5 {Q : Exit → Act → World → Prop} (hQp : ∀ c a d v w, Q (.panic c) (Act.put a d v) w → Q (.panic c) a w) (t1 t2 t4 t5 t6 t7 t8 t9 t10 t11 t12 t13 t14 t15 t16 t17 t18 t19 t20 t21 t22 t23 t24 t25 t26 t27 t28 t29 t30 t31 t32 t33 t34 t35 t36 t37 t38 t39 t40 t41 t42 t43 t44 t45 t46 t47 t48 t49 t50 t51 t52 t53 t54 t55 t56 t57 t58 t59 t60 t61 t62 t63 t64 t65 t66 t67 t68 t69 t70 t71 t72 t73 t74 t75 t76 t77 t78 t79 t80 t81 t82 t83 t84 t85 t86 t87 t88 t89 t90 t91 t92 t93 t94 t95 t96 t97 t98 t99 t100 t101 t102 t103 t104 t105 t106 t107 t108 t109 t110 t111 t112 t113 t114 t115 t116 t117 t118 t119 t120 t121 t122 t123 t124 t125 t126 t127 t128 t129 t130 t131 t132 t133 t134 t135 t136 t137 t138 t139 t140 t141 t142 t143 t144 t145 t146 t147 : Value) (A : World) (B R : Nat) (hB : B ≤ A.heap.size) (X : Nat) (ka : Int) (ca : By) (loa hia : Int) (waa : Option Addr) (wna wca : Nat) (kaa : Option Addr) (kna kca : Nat) (L : List By) (sp : By)
    (h0 : ∀ W : World, Kpw B R A W → W.cell? ⟨X, 0, none⟩ = some (.int .i64 ka))
    (h1 : ∀ W : World, Kpw B R A W → W.cell? ⟨X, 1, none⟩ = some (.string (tx ca)))
    (h2 : ∀ W : World, Kpw B R A W → W.cell? ⟨X, 2, none⟩ = some (.int .i64 loa))
    (h3 : ∀ W : World, Kpw B R A W → W.cell? ⟨X, 3, none⟩ = some (.int .i64 hia))
    (h4 : ∀ W : World, Kpw B R A W → W.cell? ⟨X, 4, none⟩ = some (.slice waa wna wca))
    (h5 : ∀ W : World, Kpw B R A W → W.cell? ⟨X, 5, none⟩ = some (.slice kaa kna kca))
    (hI : ∀ W : World, Below A.heap.size A W → Calls Tryz.prog 71 #[.agg #[.int .i64 ka, .string (tx ca), .int .i64 loa, .int .i64 hia, .slice waa wna wca, .slice kaa kna kca]] W fun e W' => e = .returned (.string (tx sp)) ∧ Below W.heap.size W W')
    (hP : ∀ W : World, Below A.heap.size A W → Calls Tryz.prog 70 #[.pointer (some ⟨R, 0, none⟩), .slice (some ⟨W.heap.size, 0, none⟩) 4 4] (W.alloc (.cells #[.string (tx [115, 117, 109]), .string (tx ca), .string (tx [105, 110]), .string (tx sp)] 9)) (WgP B R W L))
    (hEnd : ∀ (W : World) (C : Nat), Wg B R L W → Kpw B R A W → Q .normal { tmps := #[.pointer (some ⟨R, 0, none⟩), t1, t2, .pointer (some ⟨X, 0, none⟩), t4, t5, t6, t7, t8, t9, t10, t11, t12, .pointer (some ⟨R, 0, none⟩), .pointer (some ⟨X, 1, none⟩), .string (tx ca), .agg #[.int .i64 ka, .string (tx ca), .int .i64 loa, .int .i64 hia, .slice waa wna wca, .slice kaa kna kca], .string (tx sp), .slice (some ⟨C, 0, none⟩) 4 4, .tuple #[], t20, t21, t22, t23, t24, t25, t26, t27, t28, t29, t30, t31, t32, t33, t34, t35, t36, t37, t38, t39, t40, t41, t42, t43, t44, t45, t46, t47, t48, t49, t50, t51, t52, t53, t54, t55, t56, t57, t58, t59, t60, t61, t62, t63, t64, t65, t66, t67, t68, t69, t70, t71, t72, t73, t74, t75, t76, t77, t78, t79, t80, t81, t82, t83, t84, t85, t86, t87, t88, t89, t90, t91, t92, t93, t94, t95, t96, t97, t98, t99, t100, t101, t102, t103, t104, t105, t106, t107, t108, t109, t110, t111, t112, t113, t114, t115, t116, t117, t118, t119, t120, t121, t122, t123, t124, t125, t126, t127, t128, t129, t130, t131, t132, t133, t134, t135, t136, t137, t138, t139, t140, t141, t142, t143, t144, t145, t146, t147], defers := [] } W) (hEnP : ∀ (a : Act) (W : World), a.defers = [] → ¬ (wrs [] L).length ≤ 65536 → Below B A W → Q (.panic (chn 4 0)) a W) :
    (Code.region 5 #[{ dst := some 13, op := Go.Op.move (Go.Operand.tmp 0), type := 115, pos := "writer.go:53", after := #[], guard := none }, { dst := some 14, op := Go.Op.fieldAddr 25 (Go.Operand.tmp 3) 1, type := 0, pos := "writer.go:53", after := #[], guard := none }, { dst := some 15, op := Go.Op.load 9 (Go.Operand.tmp 14), type := 9, pos := "writer.go:53", after := #[{ on := 1, ground := Go.Ground.data }], guard := none }, { dst := some 16, op := Go.Op.load 25 (Go.Operand.tmp 3), type := 25, pos := "writer.go:53", after := #[], guard := none }, { dst := some 17, op := Go.Op.call { callee := Go.Callee.value (Go.Operand.func 71), args := #[Go.Operand.tmp 16], argTypes := #[25] }, type := 9, pos := "writer.go:53", after := #[{ on := 3, ground := Go.Ground.data }], guard := none }, { dst := some 18, op := Go.Op.buildSlice 121 4 #[(0, Go.Operand.const (Go.Value.string { data := #[115, 117, 109] })), (1, Go.Operand.tmp 15), (2, Go.Operand.const (Go.Value.string { data := #[105, 110] })), (3, Go.Operand.tmp 17)], type := 121, pos := "writer.go:53", after := #[{ on := 2, ground := Go.Ground.data }, { on := 4, ground := Go.Ground.data }], guard := none }, { dst := some 19, op := Go.Op.call { callee := Go.Callee.value (Go.Operand.func 70), args := #[Go.Operand.tmp 13, Go.Operand.tmp 18], argTypes := #[115, 121] }, type := 0, pos := "writer.go:53", after := #[{ on := 0, ground := Go.Ground.data }, { on := 5, ground := Go.Ground.data }, { on := 4, ground := Go.Ground.chain }], guard := none }] true).wp Tryz.prog Q { tmps := #[.pointer (some ⟨R, 0, none⟩), t1, t2, .pointer (some ⟨X, 0, none⟩), t4, t5, t6, t7, t8, t9, t10, t11, t12, t13, t14, t15, t16, t17, t18, t19, t20, t21, t22, t23, t24, t25, t26, t27, t28, t29, t30, t31, t32, t33, t34, t35, t36, t37, t38, t39, t40, t41, t42, t43, t44, t45, t46, t47, t48, t49, t50, t51, t52, t53, t54, t55, t56, t57, t58, t59, t60, t61, t62, t63, t64, t65, t66, t67, t68, t69, t70, t71, t72, t73, t74, t75, t76, t77, t78, t79, t80, t81, t82, t83, t84, t85, t86, t87, t88, t89, t90, t91, t92, t93, t94, t95, t96, t97, t98, t99, t100, t101, t102, t103, t104, t105, t106, t107, t108, t109, t110, t111, t112, t113, t114, t115, t116, t117, t118, t119, t120, t121, t122, t123, t124, t125, t126, t127, t128, t129, t130, t131, t132, t133, t134, t135, t136, t137, t138, t139, t140, t141, t142, t143, t144, t145, t146, t147], defers := [] } A := by
  have HEND : Hid (∀ (W : World) (C : Nat), Wg B R L W → Kpw B R A W → Q .normal { tmps := #[.pointer (some ⟨R, 0, none⟩), t1, t2, .pointer (some ⟨X, 0, none⟩), t4, t5, t6, t7, t8, t9, t10, t11, t12, .pointer (some ⟨R, 0, none⟩), .pointer (some ⟨X, 1, none⟩), .string (tx ca), .agg #[.int .i64 ka, .string (tx ca), .int .i64 loa, .int .i64 hia, .slice waa wna wca, .slice kaa kna kca], .string (tx sp), .slice (some ⟨C, 0, none⟩) 4 4, .tuple #[], t20, t21, t22, t23, t24, t25, t26, t27, t28, t29, t30, t31, t32, t33, t34, t35, t36, t37, t38, t39, t40, t41, t42, t43, t44, t45, t46, t47, t48, t49, t50, t51, t52, t53, t54, t55, t56, t57, t58, t59, t60, t61, t62, t63, t64, t65, t66, t67, t68, t69, t70, t71, t72, t73, t74, t75, t76, t77, t78, t79, t80, t81, t82, t83, t84, t85, t86, t87, t88, t89, t90, t91, t92, t93, t94, t95, t96, t97, t98, t99, t100, t101, t102, t103, t104, t105, t106, t107, t108, t109, t110, t111, t112, t113, t114, t115, t116, t117, t118, t119, t120, t121, t122, t123, t124, t125, t126, t127, t128, t129, t130, t131, t132, t133, t134, t135, t136, t137, t138, t139, t140, t141, t142, t143, t144, t145, t146, t147], defers := [] } W) := hEnd
  have HENP : Hid (∀ (a : Act) (W : World), a.defers = [] → ¬ (wrs [] L).length ≤ 65536 → Below B A W → Q (.panic (chn 4 0)) a W) := hEnP
  have H_h0 : Hid (∀ W : World, Kpw B R A W → W.cell? ⟨X, 0, none⟩ = some (.int .i64 ka)) := h0
  have H_h1 : Hid (∀ W : World, Kpw B R A W → W.cell? ⟨X, 1, none⟩ = some (.string (tx ca))) := h1
  have H_h2 : Hid (∀ W : World, Kpw B R A W → W.cell? ⟨X, 2, none⟩ = some (.int .i64 loa)) := h2
  have H_h3 : Hid (∀ W : World, Kpw B R A W → W.cell? ⟨X, 3, none⟩ = some (.int .i64 hia)) := h3
  have H_h4 : Hid (∀ W : World, Kpw B R A W → W.cell? ⟨X, 4, none⟩ = some (.slice waa wna wca)) := h4
  have H_h5 : Hid (∀ W : World, Kpw B R A W → W.cell? ⟨X, 5, none⟩ = some (.slice kaa kna kca)) := h5
  have H_hI : Hid (∀ W : World, Below A.heap.size A W → Calls Tryz.prog 71 #[.agg #[.int .i64 ka, .string (tx ca), .int .i64 loa, .int .i64 hia, .slice waa wna wca, .slice kaa kna kca]] W fun e W' => e = .returned (.string (tx sp)) ∧ Below W.heap.size W W') := hI
  have H_hP : Hid (∀ W : World, Below A.heap.size A W → Calls Tryz.prog 70 #[.pointer (some ⟨R, 0, none⟩), .slice (some ⟨W.heap.size, 0, none⟩) 4 4] (W.alloc (.cells #[.string (tx [115, 117, 109]), .string (tx ca), .string (tx [105, 110]), .string (tx sp)] 9)) (WgP B R W L)) := hP
  have G0 : Hid (Below A.heap.size A A.drew) := (Below.refl _ _).drew
  clear hEnd hEnP h0 h1 h2 h3 h4 h5 hI hP
  refine wp_region_any (by kernel_rfl) ?_
  change wpAny _ _ _ _ _ _ _ (World.drew _)
  obtain ⟨V0, hV0⟩ : ∃ V0, A.drew = V0 := ⟨_, rfl⟩
  rw [hV0] at G0 ⊢
  clear hV0
  refine wpAny_of_J (S := fun W => Kpw B R A W) (J := fun _ => true) _ _ _ _ ?_
  refine wpAnyJ_take (i := 0) (oi := { dst := some 13, op := Go.Op.move (Go.Operand.tmp 0), type := 115, pos := "writer.go:53", after := #[], guard := none }) (v := .pointer (some ⟨R, 0, none⟩)) rfl rfl (waits_of (by kernel_rfl)) (by kernel_rfl) (by kernel_rfl) (by kernel_rfl) (fun _ _ _ h => hQp _ _ _ _ _ h) (Or.inl ⟨by rfl, fun W hS => ?_⟩) (kpw_of hB G0.out) ?_
  · go_simp
  simp only [Act.put, List.setIfInBounds_toArray, List.set_cons_zero, List.set_cons_succ]
  refine wpAnyJ_take (i := 1) (oi := { dst := some 14, op := Go.Op.fieldAddr 25 (Go.Operand.tmp 3) 1, type := 0, pos := "writer.go:53", after := #[], guard := none }) (v := .pointer (some ⟨X, 1, none⟩)) rfl rfl (waits_of (by kernel_rfl)) (by kernel_rfl) (by kernel_rfl) (by kernel_rfl) (fun _ _ _ h => hQp _ _ _ _ _ h) (Or.inl ⟨by rfl, fun W hS => ?_⟩) (kpw_of hB G0.out) ?_
  · go_simp
  simp only [Act.put, List.setIfInBounds_toArray, List.set_cons_zero, List.set_cons_succ]
  refine wpAnyJ_take (i := 2) (oi := { dst := some 15, op := Go.Op.load 9 (Go.Operand.tmp 14), type := 9, pos := "writer.go:53", after := #[{ on := 1, ground := Go.Ground.data }], guard := none }) (v := .string (tx ca)) rfl rfl (waits_of (by kernel_rfl)) (by kernel_rfl) (by kernel_rfl) (by kernel_rfl) (fun _ _ _ h => hQp _ _ _ _ _ h) (Or.inl ⟨by rfl, fun W hS => ?_⟩) (kpw_of hB G0.out) ?_
  · have z := H_h1.out W hS; go_simp
  simp only [Act.put, List.setIfInBounds_toArray, List.set_cons_zero, List.set_cons_succ]
  refine wpAnyJ_take (i := 3) (oi := { dst := some 16, op := Go.Op.load 25 (Go.Operand.tmp 3), type := 25, pos := "writer.go:53", after := #[], guard := none }) (v := .agg #[.int .i64 ka, .string (tx ca), .int .i64 loa, .int .i64 hia, .slice waa wna wca, .slice kaa kna kca]) rfl rfl (waits_of (by kernel_rfl)) (by kernel_rfl) (by kernel_rfl) (by kernel_rfl) (fun _ _ _ h => hQp _ _ _ _ _ h) (Or.inl ⟨by rfl, fun W hS => ?_⟩) (kpw_of hB G0.out) ?_
  · have h0 := H_h0.out W hS; have h1 := H_h1.out W hS; have h2 := H_h2.out W hS; have h3 := H_h3.out W hS; have h4 := H_h4.out W hS; have h5 := H_h5.out W hS; go_simp
  simp only [Act.put, List.setIfInBounds_toArray, List.set_cons_zero, List.set_cons_succ]
  refine wpAnyJ_ready (rs := [4]) (by kernel_rfl) (by simp) ?_
  refine AllJ.cons (o := { dst := some 17, op := Go.Op.call { callee := Go.Callee.value (Go.Operand.func 71), args := #[Go.Operand.tmp 16], argTypes := #[25] }, type := 9, pos := "writer.go:53", after := #[{ on := 3, ground := Go.Ground.data }], guard := none }) rfl (fun K hK => ?_) AllJ.nil
  have kk := H_hI.out V0 G0.out
  go_simp
  go_at_call 71
  refine kk.mono ?_
  rintro e1 W1 ⟨rfl, hW⟩
  have G1 : Hid (Below A.heap.size A W1) := bt G0.out hW
  clear hW kk
  refine hK.out _ _ (fun _ => (kpw_of hB G1.out)) ?_
  clear hK K
  try simp only [Act.put, List.setIfInBounds_toArray, List.set_cons_zero, List.set_cons_succ]
  refine wpAnyJ_ready (rs := [5]) (by kernel_rfl) (by simp) ?_
  refine AllJ.cons (o := { dst := some 18, op := Go.Op.buildSlice 121 4 #[(0, Go.Operand.const (Go.Value.string { data := #[115, 117, 109] })), (1, Go.Operand.tmp 15), (2, Go.Operand.const (Go.Value.string { data := #[105, 110] })), (3, Go.Operand.tmp 17)], type := 121, pos := "writer.go:53", after := #[{ on := 2, ground := Go.Ground.data }, { on := 4, ground := Go.Ground.data }], guard := none }) rfl (fun K hK => ?_) AllJ.nil
  have G2 : Hid (Below A.heap.size A (W1.alloc (.cells #[.string (tx [115, 117, 109]), .string (tx ca), .string (tx [105, 110]), .string (tx sp)] 9))) := bal G1.out _
  go_simp
  refine hK.out _ _ (fun _ => (kpw_of hB G2.out)) ?_
  clear hK K
  try simp only [Act.put, List.setIfInBounds_toArray, List.set_cons_zero, List.set_cons_succ]
  refine wpAnyJ_ready (rs := [6]) (by kernel_rfl) (by simp) ?_
  refine AllJ.cons (o := { dst := some 19, op := Go.Op.call { callee := Go.Callee.value (Go.Operand.func 70), args := #[Go.Operand.tmp 13, Go.Operand.tmp 18], argTypes := #[115, 121] }, type := 0, pos := "writer.go:53", after := #[{ on := 0, ground := Go.Ground.data }, { on := 5, ground := Go.Ground.data }, { on := 4, ground := Go.Ground.chain }], guard := none }) rfl (fun K hK => ?_) AllJ.nil
  have kk := H_hP.out W1 G1.out
  go_simp
  go_at_call 70
  refine kk.mono ?_
  rintro e1 W9 (⟨rfl, hw9, hk9⟩ | ⟨rfl, hn9, hb9⟩)
  · have S9 : Kpw B R A W9 := (kpw_of hB G1.out).trans hk9
    refine hK.out _ _ (fun _ => S9) ?_
    clear hK K kk
    try simp only [Act.put, List.setIfInBounds_toArray, List.set_cons_zero, List.set_cons_succ]
    exact wpAnyJ_done (by kernel_rfl) (HEND.out W9 _ hw9 S9) _
  · exact HENP.out _ _ rfl hn9 ((G1.out.mono hB).trans hb9)
set_option maxRecDepth 100000 in
set_option maxHeartbeats 1000000 in
theorem q9 {Q : Exit → Act → World → Prop} (hQp : ∀ c a d v w, Q (.panic c) (Act.put a d v) w → Q (.panic c) a w) (t1 t2 t4 t5 t6 t7 t8 t9 t10 t11 t12 t13 t14 t15 t16 t17 t18 t19 t20 t21 t22 t23 t24 t25 t26 t27 t28 t29 t30 t31 t32 t33 t34 t35 t36 t37 t38 t39 t40 t41 t42 t43 t44 t45 t46 t47 t48 t49 t50 t51 t52 t53 t54 t55 t56 t57 t58 t59 t60 t61 t62 t63 t64 t65 t66 t67 t68 t69 t70 t71 t72 t73 t74 t75 t76 t77 t78 t79 t80 t81 t82 t83 t84 t85 t86 t87 t88 t89 t90 t91 t92 t93 t94 t95 t96 t97 t98 t99 t100 t101 t102 t103 t104 t105 t106 t107 t108 t109 t110 t111 t112 t113 t114 t115 t116 t117 t118 t119 t120 t121 t122 t123 t124 t125 t126 t127 t128 t129 t130 t131 t132 t133 t134 t135 t136 t137 t138 t139 t140 t141 t142 t143 t144 t145 t146 t147 : Value) (A : World) (B R : Nat) (hB : B ≤ A.heap.size) (X b o kc : Nat) (kx : Int) (cx : By) (lox hix : Int) (wax : Option Addr) (wnx wcx : Nat) (kax : Option Addr) (knx kcx : Nat) (ky : Int) (cy : By) (loy hiy : Int) (way : Option Addr) (wny wcy : Nat) (kay : Option Addr) (kny kcy : Nat) (L : List By)
    (hk : ∀ W : World, Kpw B R A W → W.cell? ⟨X, 5, none⟩ = some (.slice (some ⟨b, o, none⟩) 2 kc))
    (u0 : ∀ W : World, Kpw B R A W → W.cell? ⟨b, o, none⟩ = some (.int .i64 kx))
    (u1 : ∀ W : World, Kpw B R A W → W.cell? ⟨b, o + 1, none⟩ = some (.string (tx cx)))
    (u2 : ∀ W : World, Kpw B R A W → W.cell? ⟨b, o + 2, none⟩ = some (.int .i64 lox))
    (u3 : ∀ W : World, Kpw B R A W → W.cell? ⟨b, o + 3, none⟩ = some (.int .i64 hix))
    (u4 : ∀ W : World, Kpw B R A W → W.cell? ⟨b, o + 4, none⟩ = some (.slice wax wnx wcx))
    (u5 : ∀ W : World, Kpw B R A W → W.cell? ⟨b, o + 5, none⟩ = some (.slice kax knx kcx))
    (v0 : ∀ W : World, Kpw B R A W → W.cell? ⟨b, o + 6, none⟩ = some (.int .i64 ky))
    (v1 : ∀ W : World, Kpw B R A W → W.cell? ⟨b, o + 6 + 1, none⟩ = some (.string (tx cy)))
    (v2 : ∀ W : World, Kpw B R A W → W.cell? ⟨b, o + 6 + 2, none⟩ = some (.int .i64 loy))
    (v3 : ∀ W : World, Kpw B R A W → W.cell? ⟨b, o + 6 + 3, none⟩ = some (.int .i64 hiy))
    (v4 : ∀ W : World, Kpw B R A W → W.cell? ⟨b, o + 6 + 4, none⟩ = some (.slice way wny wcy))
    (v5 : ∀ W : World, Kpw B R A W → W.cell? ⟨b, o + 6 + 5, none⟩ = some (.slice kay kny kcy))
    (hP : ∀ W : World, Below A.heap.size A W → Calls Tryz.prog 72 #[.pointer (some ⟨R, 0, none⟩), .string (tx [43]), .agg #[.int .i64 kx, .string (tx cx), .int .i64 lox, .int .i64 hix, .slice wax wnx wcx, .slice kax knx kcx], .agg #[.int .i64 ky, .string (tx cy), .int .i64 loy, .int .i64 hiy, .slice way wny wcy, .slice kay kny kcy]] W (WgP B R W L))
    (hEnd : ∀ W : World, Wg B R L W → Kpw B R A W → Q .normal { tmps := #[.pointer (some ⟨R, 0, none⟩), t1, t2, .pointer (some ⟨X, 0, none⟩), t4, t5, t6, t7, t8, t9, t10, t11, t12, t13, t14, t15, t16, t17, t18, t19, t20, t21, t22, t23, t24, t25, t26, t27, t28, .pointer (some ⟨R, 0, none⟩), .pointer (some ⟨X, 5, none⟩), .slice (some ⟨b, o, none⟩) 2 kc, .pointer (some ⟨b, o, none⟩), .agg #[.int .i64 kx, .string (tx cx), .int .i64 lox, .int .i64 hix, .slice wax wnx wcx, .slice kax knx kcx], .pointer (some ⟨X, 5, none⟩), .slice (some ⟨b, o, none⟩) 2 kc, .pointer (some ⟨b, o + 6, none⟩), .agg #[.int .i64 ky, .string (tx cy), .int .i64 loy, .int .i64 hiy, .slice way wny wcy, .slice kay kny kcy], .tuple #[], t39, t40, t41, t42, t43, t44, t45, t46, t47, t48, t49, t50, t51, t52, t53, t54, t55, t56, t57, t58, t59, t60, t61, t62, t63, t64, t65, t66, t67, t68, t69, t70, t71, t72, t73, t74, t75, t76, t77, t78, t79, t80, t81, t82, t83, t84, t85, t86, t87, t88, t89, t90, t91, t92, t93, t94, t95, t96, t97, t98, t99, t100, t101, t102, t103, t104, t105, t106, t107, t108, t109, t110, t111, t112, t113, t114, t115, t116, t117, t118, t119, t120, t121, t122, t123, t124, t125, t126, t127, t128, t129, t130, t131, t132, t133, t134, t135, t136, t137, t138, t139, t140, t141, t142, t143, t144, t145, t146, t147], defers := [] } W) (hEnP : ∀ (a : Act) (W : World), a.defers = [] → ¬ (wrs [] L).length ≤ 65536 → Below B A W → Q (.panic (chn 4 0)) a W) :
    (Code.region 9 #[{ dst := some 29, op := Go.Op.move (Go.Operand.tmp 0), type := 115, pos := "writer.go:57", after := #[], guard := none }, { dst := some 30, op := Go.Op.fieldAddr 25 (Go.Operand.tmp 3) 5, type := 0, pos := "writer.go:57", after := #[], guard := none }, { dst := some 31, op := Go.Op.load 23 (Go.Operand.tmp 30), type := 23, pos := "writer.go:57", after := #[{ on := 1, ground := Go.Ground.data }], guard := none }, { dst := some 32, op := Go.Op.indexAddr 23 (Go.Operand.tmp 31) (Go.Operand.const (Go.Value.int Go.IntKind.i64 0)), type := 0, pos := "writer.go:57", after := #[{ on := 2, ground := Go.Ground.data }], guard := none }, { dst := some 33, op := Go.Op.load 25 (Go.Operand.tmp 32), type := 25, pos := "writer.go:57", after := #[{ on := 3, ground := Go.Ground.data }], guard := none }, { dst := some 34, op := Go.Op.fieldAddr 25 (Go.Operand.tmp 3) 5, type := 0, pos := "writer.go:57", after := #[], guard := none }, { dst := some 35, op := Go.Op.load 23 (Go.Operand.tmp 34), type := 23, pos := "writer.go:57", after := #[{ on := 5, ground := Go.Ground.data }], guard := none }, { dst := some 36, op := Go.Op.indexAddr 23 (Go.Operand.tmp 35) (Go.Operand.const (Go.Value.int Go.IntKind.i64 1)), type := 0, pos := "writer.go:57", after := #[{ on := 6, ground := Go.Ground.data }], guard := none }, { dst := some 37, op := Go.Op.load 25 (Go.Operand.tmp 36), type := 25, pos := "writer.go:57", after := #[{ on := 7, ground := Go.Ground.data }], guard := none }, { dst := some 38, op := Go.Op.call { callee := Go.Callee.value (Go.Operand.func 72), args := #[Go.Operand.tmp 29, Go.Operand.const (Go.Value.string { data := #[43] }), Go.Operand.tmp 33, Go.Operand.tmp 37], argTypes := #[115, 9, 25, 25] }, type := 0, pos := "writer.go:57", after := #[{ on := 0, ground := Go.Ground.data }, { on := 4, ground := Go.Ground.data }, { on := 8, ground := Go.Ground.data }], guard := none }] true).wp Tryz.prog Q { tmps := #[.pointer (some ⟨R, 0, none⟩), t1, t2, .pointer (some ⟨X, 0, none⟩), t4, t5, t6, t7, t8, t9, t10, t11, t12, t13, t14, t15, t16, t17, t18, t19, t20, t21, t22, t23, t24, t25, t26, t27, t28, t29, t30, t31, t32, t33, t34, t35, t36, t37, t38, t39, t40, t41, t42, t43, t44, t45, t46, t47, t48, t49, t50, t51, t52, t53, t54, t55, t56, t57, t58, t59, t60, t61, t62, t63, t64, t65, t66, t67, t68, t69, t70, t71, t72, t73, t74, t75, t76, t77, t78, t79, t80, t81, t82, t83, t84, t85, t86, t87, t88, t89, t90, t91, t92, t93, t94, t95, t96, t97, t98, t99, t100, t101, t102, t103, t104, t105, t106, t107, t108, t109, t110, t111, t112, t113, t114, t115, t116, t117, t118, t119, t120, t121, t122, t123, t124, t125, t126, t127, t128, t129, t130, t131, t132, t133, t134, t135, t136, t137, t138, t139, t140, t141, t142, t143, t144, t145, t146, t147], defers := [] } A := by
  have HEND : Hid (∀ W : World, Wg B R L W → Kpw B R A W → Q .normal { tmps := #[.pointer (some ⟨R, 0, none⟩), t1, t2, .pointer (some ⟨X, 0, none⟩), t4, t5, t6, t7, t8, t9, t10, t11, t12, t13, t14, t15, t16, t17, t18, t19, t20, t21, t22, t23, t24, t25, t26, t27, t28, .pointer (some ⟨R, 0, none⟩), .pointer (some ⟨X, 5, none⟩), .slice (some ⟨b, o, none⟩) 2 kc, .pointer (some ⟨b, o, none⟩), .agg #[.int .i64 kx, .string (tx cx), .int .i64 lox, .int .i64 hix, .slice wax wnx wcx, .slice kax knx kcx], .pointer (some ⟨X, 5, none⟩), .slice (some ⟨b, o, none⟩) 2 kc, .pointer (some ⟨b, o + 6, none⟩), .agg #[.int .i64 ky, .string (tx cy), .int .i64 loy, .int .i64 hiy, .slice way wny wcy, .slice kay kny kcy], .tuple #[], t39, t40, t41, t42, t43, t44, t45, t46, t47, t48, t49, t50, t51, t52, t53, t54, t55, t56, t57, t58, t59, t60, t61, t62, t63, t64, t65, t66, t67, t68, t69, t70, t71, t72, t73, t74, t75, t76, t77, t78, t79, t80, t81, t82, t83, t84, t85, t86, t87, t88, t89, t90, t91, t92, t93, t94, t95, t96, t97, t98, t99, t100, t101, t102, t103, t104, t105, t106, t107, t108, t109, t110, t111, t112, t113, t114, t115, t116, t117, t118, t119, t120, t121, t122, t123, t124, t125, t126, t127, t128, t129, t130, t131, t132, t133, t134, t135, t136, t137, t138, t139, t140, t141, t142, t143, t144, t145, t146, t147], defers := [] } W) := hEnd
  have HENP : Hid (∀ (a : Act) (W : World), a.defers = [] → ¬ (wrs [] L).length ≤ 65536 → Below B A W → Q (.panic (chn 4 0)) a W) := hEnP
  have H_hk : Hid (∀ W : World, Kpw B R A W → W.cell? ⟨X, 5, none⟩ = some (.slice (some ⟨b, o, none⟩) 2 kc)) := hk
  have H_u0 : Hid (∀ W : World, Kpw B R A W → W.cell? ⟨b, o, none⟩ = some (.int .i64 kx)) := u0
  have H_u1 : Hid (∀ W : World, Kpw B R A W → W.cell? ⟨b, o + 1, none⟩ = some (.string (tx cx))) := u1
  have H_u2 : Hid (∀ W : World, Kpw B R A W → W.cell? ⟨b, o + 2, none⟩ = some (.int .i64 lox)) := u2
  have H_u3 : Hid (∀ W : World, Kpw B R A W → W.cell? ⟨b, o + 3, none⟩ = some (.int .i64 hix)) := u3
  have H_u4 : Hid (∀ W : World, Kpw B R A W → W.cell? ⟨b, o + 4, none⟩ = some (.slice wax wnx wcx)) := u4
  have H_u5 : Hid (∀ W : World, Kpw B R A W → W.cell? ⟨b, o + 5, none⟩ = some (.slice kax knx kcx)) := u5
  have H_v0 : Hid (∀ W : World, Kpw B R A W → W.cell? ⟨b, o + 6, none⟩ = some (.int .i64 ky)) := v0
  have H_v1 : Hid (∀ W : World, Kpw B R A W → W.cell? ⟨b, o + 6 + 1, none⟩ = some (.string (tx cy))) := v1
  have H_v2 : Hid (∀ W : World, Kpw B R A W → W.cell? ⟨b, o + 6 + 2, none⟩ = some (.int .i64 loy)) := v2
  have H_v3 : Hid (∀ W : World, Kpw B R A W → W.cell? ⟨b, o + 6 + 3, none⟩ = some (.int .i64 hiy)) := v3
  have H_v4 : Hid (∀ W : World, Kpw B R A W → W.cell? ⟨b, o + 6 + 4, none⟩ = some (.slice way wny wcy)) := v4
  have H_v5 : Hid (∀ W : World, Kpw B R A W → W.cell? ⟨b, o + 6 + 5, none⟩ = some (.slice kay kny kcy)) := v5
  have H_hP : Hid (∀ W : World, Below A.heap.size A W → Calls Tryz.prog 72 #[.pointer (some ⟨R, 0, none⟩), .string (tx [43]), .agg #[.int .i64 kx, .string (tx cx), .int .i64 lox, .int .i64 hix, .slice wax wnx wcx, .slice kax knx kcx], .agg #[.int .i64 ky, .string (tx cy), .int .i64 loy, .int .i64 hiy, .slice way wny wcy, .slice kay kny kcy]] W (WgP B R W L)) := hP
  have G0 : Hid (Below A.heap.size A A.drew) := (Below.refl _ _).drew
  clear hEnd hEnP hk u0 u1 u2 u3 u4 u5 v0 v1 v2 v3 v4 v5 hP
  refine wp_region_any (by kernel_rfl) ?_
  change wpAny _ _ _ _ _ _ _ (World.drew _)
  obtain ⟨V0, hV0⟩ : ∃ V0, A.drew = V0 := ⟨_, rfl⟩
  rw [hV0] at G0 ⊢
  clear hV0
  refine wpAny_of_J (S := fun W => Kpw B R A W) (J := fun _ => true) _ _ _ _ ?_
  refine wpAnyJ_take (i := 0) (oi := { dst := some 29, op := Go.Op.move (Go.Operand.tmp 0), type := 115, pos := "writer.go:57", after := #[], guard := none }) (v := .pointer (some ⟨R, 0, none⟩)) rfl rfl (waits_of (by kernel_rfl)) (by kernel_rfl) (by kernel_rfl) (by kernel_rfl) (fun _ _ _ h => hQp _ _ _ _ _ h) (Or.inl ⟨by rfl, fun W hS => ?_⟩) (kpw_of hB G0.out) ?_
  · go_simp
  simp only [Act.put, List.setIfInBounds_toArray, List.set_cons_zero, List.set_cons_succ]
  refine wpAnyJ_take (i := 1) (oi := { dst := some 30, op := Go.Op.fieldAddr 25 (Go.Operand.tmp 3) 5, type := 0, pos := "writer.go:57", after := #[], guard := none }) (v := .pointer (some ⟨X, 5, none⟩)) rfl rfl (waits_of (by kernel_rfl)) (by kernel_rfl) (by kernel_rfl) (by kernel_rfl) (fun _ _ _ h => hQp _ _ _ _ _ h) (Or.inl ⟨by rfl, fun W hS => ?_⟩) (kpw_of hB G0.out) ?_
  · go_simp
  simp only [Act.put, List.setIfInBounds_toArray, List.set_cons_zero, List.set_cons_succ]
  refine wpAnyJ_take (i := 2) (oi := { dst := some 31, op := Go.Op.load 23 (Go.Operand.tmp 30), type := 23, pos := "writer.go:57", after := #[{ on := 1, ground := Go.Ground.data }], guard := none }) (v := .slice (some ⟨b, o, none⟩) 2 kc) rfl rfl (waits_of (by kernel_rfl)) (by kernel_rfl) (by kernel_rfl) (by kernel_rfl) (fun _ _ _ h => hQp _ _ _ _ _ h) (Or.inl ⟨by rfl, fun W hS => ?_⟩) (kpw_of hB G0.out) ?_
  · have z := H_hk.out W hS; go_simp
  simp only [Act.put, List.setIfInBounds_toArray, List.set_cons_zero, List.set_cons_succ]
  refine wpAnyJ_take (i := 3) (oi := { dst := some 32, op := Go.Op.indexAddr 23 (Go.Operand.tmp 31) (Go.Operand.const (Go.Value.int Go.IntKind.i64 0)), type := 0, pos := "writer.go:57", after := #[{ on := 2, ground := Go.Ground.data }], guard := none }) (v := .pointer (some ⟨b, o, none⟩)) rfl rfl (waits_of (by kernel_rfl)) (by kernel_rfl) (by kernel_rfl) (by kernel_rfl) (fun _ _ _ h => hQp _ _ _ _ _ h) (Or.inl ⟨by rfl, fun W hS => ?_⟩) (kpw_of hB G0.out) ?_
  · go_simp
  simp only [Act.put, List.setIfInBounds_toArray, List.set_cons_zero, List.set_cons_succ]
  refine wpAnyJ_take (i := 4) (oi := { dst := some 33, op := Go.Op.load 25 (Go.Operand.tmp 32), type := 25, pos := "writer.go:57", after := #[{ on := 3, ground := Go.Ground.data }], guard := none }) (v := .agg #[.int .i64 kx, .string (tx cx), .int .i64 lox, .int .i64 hix, .slice wax wnx wcx, .slice kax knx kcx]) rfl rfl (waits_of (by kernel_rfl)) (by kernel_rfl) (by kernel_rfl) (by kernel_rfl) (fun _ _ _ h => hQp _ _ _ _ _ h) (Or.inl ⟨by rfl, fun W hS => ?_⟩) (kpw_of hB G0.out) ?_
  · have zu0 := H_u0.out W hS; have zu1 := H_u1.out W hS; have zu2 := H_u2.out W hS; have zu3 := H_u3.out W hS; have zu4 := H_u4.out W hS; have zu5 := H_u5.out W hS; go_simp
  simp only [Act.put, List.setIfInBounds_toArray, List.set_cons_zero, List.set_cons_succ]
  refine wpAnyJ_take (i := 5) (oi := { dst := some 34, op := Go.Op.fieldAddr 25 (Go.Operand.tmp 3) 5, type := 0, pos := "writer.go:57", after := #[], guard := none }) (v := .pointer (some ⟨X, 5, none⟩)) rfl rfl (waits_of (by kernel_rfl)) (by kernel_rfl) (by kernel_rfl) (by kernel_rfl) (fun _ _ _ h => hQp _ _ _ _ _ h) (Or.inl ⟨by rfl, fun W hS => ?_⟩) (kpw_of hB G0.out) ?_
  · go_simp
  simp only [Act.put, List.setIfInBounds_toArray, List.set_cons_zero, List.set_cons_succ]
  refine wpAnyJ_take (i := 6) (oi := { dst := some 35, op := Go.Op.load 23 (Go.Operand.tmp 34), type := 23, pos := "writer.go:57", after := #[{ on := 5, ground := Go.Ground.data }], guard := none }) (v := .slice (some ⟨b, o, none⟩) 2 kc) rfl rfl (waits_of (by kernel_rfl)) (by kernel_rfl) (by kernel_rfl) (by kernel_rfl) (fun _ _ _ h => hQp _ _ _ _ _ h) (Or.inl ⟨by rfl, fun W hS => ?_⟩) (kpw_of hB G0.out) ?_
  · have z := H_hk.out W hS; go_simp
  simp only [Act.put, List.setIfInBounds_toArray, List.set_cons_zero, List.set_cons_succ]
  refine wpAnyJ_take (i := 7) (oi := { dst := some 36, op := Go.Op.indexAddr 23 (Go.Operand.tmp 35) (Go.Operand.const (Go.Value.int Go.IntKind.i64 1)), type := 0, pos := "writer.go:57", after := #[{ on := 6, ground := Go.Ground.data }], guard := none }) (v := .pointer (some ⟨b, o + 6, none⟩)) rfl rfl (waits_of (by kernel_rfl)) (by kernel_rfl) (by kernel_rfl) (by kernel_rfl) (fun _ _ _ h => hQp _ _ _ _ _ h) (Or.inl ⟨by rfl, fun W hS => ?_⟩) (kpw_of hB G0.out) ?_
  · go_simp
  simp only [Act.put, List.setIfInBounds_toArray, List.set_cons_zero, List.set_cons_succ]
  refine wpAnyJ_take (i := 8) (oi := { dst := some 37, op := Go.Op.load 25 (Go.Operand.tmp 36), type := 25, pos := "writer.go:57", after := #[{ on := 7, ground := Go.Ground.data }], guard := none }) (v := .agg #[.int .i64 ky, .string (tx cy), .int .i64 loy, .int .i64 hiy, .slice way wny wcy, .slice kay kny kcy]) rfl rfl (waits_of (by kernel_rfl)) (by kernel_rfl) (by kernel_rfl) (by kernel_rfl) (fun _ _ _ h => hQp _ _ _ _ _ h) (Or.inl ⟨by rfl, fun W hS => ?_⟩) (kpw_of hB G0.out) ?_
  · have zv0 := H_v0.out W hS; have zv1 := H_v1.out W hS; have zv2 := H_v2.out W hS; have zv3 := H_v3.out W hS; have zv4 := H_v4.out W hS; have zv5 := H_v5.out W hS; go_simp
  simp only [Act.put, List.setIfInBounds_toArray, List.set_cons_zero, List.set_cons_succ]
  refine wpAnyJ_ready (rs := [9]) (by kernel_rfl) (by simp) ?_
  refine AllJ.cons (o := { dst := some 38, op := Go.Op.call { callee := Go.Callee.value (Go.Operand.func 72), args := #[Go.Operand.tmp 29, Go.Operand.const (Go.Value.string { data := #[43] }), Go.Operand.tmp 33, Go.Operand.tmp 37], argTypes := #[115, 9, 25, 25] }, type := 0, pos := "writer.go:57", after := #[{ on := 0, ground := Go.Ground.data }, { on := 4, ground := Go.Ground.data }, { on := 8, ground := Go.Ground.data }], guard := none }) rfl (fun K hK => ?_) AllJ.nil
  have kk := H_hP.out V0 G0.out
  go_simp
  go_at_call 72
  refine kk.mono ?_
  rintro e1 W9 (⟨rfl, hw9, hk9⟩ | ⟨rfl, hn9, hb9⟩)
  · have S9 : Kpw B R A W9 := (kpw_of hB G0.out).trans hk9
    refine hK.out _ _ (fun _ => S9) ?_
    clear hK K kk
    try simp only [Act.put, List.setIfInBounds_toArray, List.set_cons_zero, List.set_cons_succ]
    exact wpAnyJ_done (by kernel_rfl) (HEND.out W9 hw9 S9) _
  · exact HENP.out _ _ rfl hn9 ((G0.out.mono hB).trans hb9)
set_option maxRecDepth 100000 in
set_option maxHeartbeats 1000000 in
theorem q11 {Q : Exit → Act → World → Prop} (hQp : ∀ c a d v w, Q (.panic c) (Act.put a d v) w → Q (.panic c) a w) (t1 t2 t4 t5 t6 t7 t8 t9 t10 t11 t12 t13 t14 t15 t16 t17 t18 t19 t20 t21 t22 t23 t24 t25 t26 t27 t28 t29 t30 t31 t32 t33 t34 t35 t36 t37 t38 t39 t40 t41 t42 t43 t44 t45 t46 t47 t48 t49 t50 t51 t52 t53 t54 t55 t56 t57 t58 t59 t60 t61 t62 t63 t64 t65 t66 t67 t68 t69 t70 t71 t72 t73 t74 t75 t76 t77 t78 t79 t80 t81 t82 t83 t84 t85 t86 t87 t88 t89 t90 t91 t92 t93 t94 t95 t96 t97 t98 t99 t100 t101 t102 t103 t104 t105 t106 t107 t108 t109 t110 t111 t112 t113 t114 t115 t116 t117 t118 t119 t120 t121 t122 t123 t124 t125 t126 t127 t128 t129 t130 t131 t132 t133 t134 t135 t136 t137 t138 t139 t140 t141 t142 t143 t144 t145 t146 t147 : Value) (A : World) (B R : Nat) (hB : B ≤ A.heap.size) (X b o kc : Nat) (kx : Int) (cx : By) (lox hix : Int) (wax : Option Addr) (wnx wcx : Nat) (kax : Option Addr) (knx kcx : Nat) (ky : Int) (cy : By) (loy hiy : Int) (way : Option Addr) (wny wcy : Nat) (kay : Option Addr) (kny kcy : Nat) (L : List By)
    (hk : ∀ W : World, Kpw B R A W → W.cell? ⟨X, 5, none⟩ = some (.slice (some ⟨b, o, none⟩) 2 kc))
    (u0 : ∀ W : World, Kpw B R A W → W.cell? ⟨b, o, none⟩ = some (.int .i64 kx))
    (u1 : ∀ W : World, Kpw B R A W → W.cell? ⟨b, o + 1, none⟩ = some (.string (tx cx)))
    (u2 : ∀ W : World, Kpw B R A W → W.cell? ⟨b, o + 2, none⟩ = some (.int .i64 lox))
    (u3 : ∀ W : World, Kpw B R A W → W.cell? ⟨b, o + 3, none⟩ = some (.int .i64 hix))
    (u4 : ∀ W : World, Kpw B R A W → W.cell? ⟨b, o + 4, none⟩ = some (.slice wax wnx wcx))
    (u5 : ∀ W : World, Kpw B R A W → W.cell? ⟨b, o + 5, none⟩ = some (.slice kax knx kcx))
    (v0 : ∀ W : World, Kpw B R A W → W.cell? ⟨b, o + 6, none⟩ = some (.int .i64 ky))
    (v1 : ∀ W : World, Kpw B R A W → W.cell? ⟨b, o + 6 + 1, none⟩ = some (.string (tx cy)))
    (v2 : ∀ W : World, Kpw B R A W → W.cell? ⟨b, o + 6 + 2, none⟩ = some (.int .i64 loy))
    (v3 : ∀ W : World, Kpw B R A W → W.cell? ⟨b, o + 6 + 3, none⟩ = some (.int .i64 hiy))
    (v4 : ∀ W : World, Kpw B R A W → W.cell? ⟨b, o + 6 + 4, none⟩ = some (.slice way wny wcy))
    (v5 : ∀ W : World, Kpw B R A W → W.cell? ⟨b, o + 6 + 5, none⟩ = some (.slice kay kny kcy))
    (hP : ∀ W : World, Below A.heap.size A W → Calls Tryz.prog 72 #[.pointer (some ⟨R, 0, none⟩), .string (tx [45]), .agg #[.int .i64 kx, .string (tx cx), .int .i64 lox, .int .i64 hix, .slice wax wnx wcx, .slice kax knx kcx], .agg #[.int .i64 ky, .string (tx cy), .int .i64 loy, .int .i64 hiy, .slice way wny wcy, .slice kay kny kcy]] W (WgP B R W L))
    (hEnd : ∀ W : World, Wg B R L W → Kpw B R A W → Q .normal { tmps := #[.pointer (some ⟨R, 0, none⟩), t1, t2, .pointer (some ⟨X, 0, none⟩), t4, t5, t6, t7, t8, t9, t10, t11, t12, t13, t14, t15, t16, t17, t18, t19, t20, t21, t22, t23, t24, t25, t26, t27, t28, t29, t30, t31, t32, t33, t34, t35, t36, t37, t38, t39, t40, .pointer (some ⟨R, 0, none⟩), .pointer (some ⟨X, 5, none⟩), .slice (some ⟨b, o, none⟩) 2 kc, .pointer (some ⟨b, o, none⟩), .agg #[.int .i64 kx, .string (tx cx), .int .i64 lox, .int .i64 hix, .slice wax wnx wcx, .slice kax knx kcx], .pointer (some ⟨X, 5, none⟩), .slice (some ⟨b, o, none⟩) 2 kc, .pointer (some ⟨b, o + 6, none⟩), .agg #[.int .i64 ky, .string (tx cy), .int .i64 loy, .int .i64 hiy, .slice way wny wcy, .slice kay kny kcy], .tuple #[], t51, t52, t53, t54, t55, t56, t57, t58, t59, t60, t61, t62, t63, t64, t65, t66, t67, t68, t69, t70, t71, t72, t73, t74, t75, t76, t77, t78, t79, t80, t81, t82, t83, t84, t85, t86, t87, t88, t89, t90, t91, t92, t93, t94, t95, t96, t97, t98, t99, t100, t101, t102, t103, t104, t105, t106, t107, t108, t109, t110, t111, t112, t113, t114, t115, t116, t117, t118, t119, t120, t121, t122, t123, t124, t125, t126, t127, t128, t129, t130, t131, t132, t133, t134, t135, t136, t137, t138, t139, t140, t141, t142, t143, t144, t145, t146, t147], defers := [] } W) (hEnP : ∀ (a : Act) (W : World), a.defers = [] → ¬ (wrs [] L).length ≤ 65536 → Below B A W → Q (.panic (chn 4 0)) a W) :
    (Code.region 11 #[{ dst := some 41, op := Go.Op.move (Go.Operand.tmp 0), type := 115, pos := "writer.go:59", after := #[], guard := none }, { dst := some 42, op := Go.Op.fieldAddr 25 (Go.Operand.tmp 3) 5, type := 0, pos := "writer.go:59", after := #[], guard := none }, { dst := some 43, op := Go.Op.load 23 (Go.Operand.tmp 42), type := 23, pos := "writer.go:59", after := #[{ on := 1, ground := Go.Ground.data }], guard := none }, { dst := some 44, op := Go.Op.indexAddr 23 (Go.Operand.tmp 43) (Go.Operand.const (Go.Value.int Go.IntKind.i64 0)), type := 0, pos := "writer.go:59", after := #[{ on := 2, ground := Go.Ground.data }], guard := none }, { dst := some 45, op := Go.Op.load 25 (Go.Operand.tmp 44), type := 25, pos := "writer.go:59", after := #[{ on := 3, ground := Go.Ground.data }], guard := none }, { dst := some 46, op := Go.Op.fieldAddr 25 (Go.Operand.tmp 3) 5, type := 0, pos := "writer.go:59", after := #[], guard := none }, { dst := some 47, op := Go.Op.load 23 (Go.Operand.tmp 46), type := 23, pos := "writer.go:59", after := #[{ on := 5, ground := Go.Ground.data }], guard := none }, { dst := some 48, op := Go.Op.indexAddr 23 (Go.Operand.tmp 47) (Go.Operand.const (Go.Value.int Go.IntKind.i64 1)), type := 0, pos := "writer.go:59", after := #[{ on := 6, ground := Go.Ground.data }], guard := none }, { dst := some 49, op := Go.Op.load 25 (Go.Operand.tmp 48), type := 25, pos := "writer.go:59", after := #[{ on := 7, ground := Go.Ground.data }], guard := none }, { dst := some 50, op := Go.Op.call { callee := Go.Callee.value (Go.Operand.func 72), args := #[Go.Operand.tmp 41, Go.Operand.const (Go.Value.string { data := #[45] }), Go.Operand.tmp 45, Go.Operand.tmp 49], argTypes := #[115, 9, 25, 25] }, type := 0, pos := "writer.go:59", after := #[{ on := 0, ground := Go.Ground.data }, { on := 4, ground := Go.Ground.data }, { on := 8, ground := Go.Ground.data }], guard := none }] true).wp Tryz.prog Q { tmps := #[.pointer (some ⟨R, 0, none⟩), t1, t2, .pointer (some ⟨X, 0, none⟩), t4, t5, t6, t7, t8, t9, t10, t11, t12, t13, t14, t15, t16, t17, t18, t19, t20, t21, t22, t23, t24, t25, t26, t27, t28, t29, t30, t31, t32, t33, t34, t35, t36, t37, t38, t39, t40, t41, t42, t43, t44, t45, t46, t47, t48, t49, t50, t51, t52, t53, t54, t55, t56, t57, t58, t59, t60, t61, t62, t63, t64, t65, t66, t67, t68, t69, t70, t71, t72, t73, t74, t75, t76, t77, t78, t79, t80, t81, t82, t83, t84, t85, t86, t87, t88, t89, t90, t91, t92, t93, t94, t95, t96, t97, t98, t99, t100, t101, t102, t103, t104, t105, t106, t107, t108, t109, t110, t111, t112, t113, t114, t115, t116, t117, t118, t119, t120, t121, t122, t123, t124, t125, t126, t127, t128, t129, t130, t131, t132, t133, t134, t135, t136, t137, t138, t139, t140, t141, t142, t143, t144, t145, t146, t147], defers := [] } A := by
  have HEND : Hid (∀ W : World, Wg B R L W → Kpw B R A W → Q .normal { tmps := #[.pointer (some ⟨R, 0, none⟩), t1, t2, .pointer (some ⟨X, 0, none⟩), t4, t5, t6, t7, t8, t9, t10, t11, t12, t13, t14, t15, t16, t17, t18, t19, t20, t21, t22, t23, t24, t25, t26, t27, t28, t29, t30, t31, t32, t33, t34, t35, t36, t37, t38, t39, t40, .pointer (some ⟨R, 0, none⟩), .pointer (some ⟨X, 5, none⟩), .slice (some ⟨b, o, none⟩) 2 kc, .pointer (some ⟨b, o, none⟩), .agg #[.int .i64 kx, .string (tx cx), .int .i64 lox, .int .i64 hix, .slice wax wnx wcx, .slice kax knx kcx], .pointer (some ⟨X, 5, none⟩), .slice (some ⟨b, o, none⟩) 2 kc, .pointer (some ⟨b, o + 6, none⟩), .agg #[.int .i64 ky, .string (tx cy), .int .i64 loy, .int .i64 hiy, .slice way wny wcy, .slice kay kny kcy], .tuple #[], t51, t52, t53, t54, t55, t56, t57, t58, t59, t60, t61, t62, t63, t64, t65, t66, t67, t68, t69, t70, t71, t72, t73, t74, t75, t76, t77, t78, t79, t80, t81, t82, t83, t84, t85, t86, t87, t88, t89, t90, t91, t92, t93, t94, t95, t96, t97, t98, t99, t100, t101, t102, t103, t104, t105, t106, t107, t108, t109, t110, t111, t112, t113, t114, t115, t116, t117, t118, t119, t120, t121, t122, t123, t124, t125, t126, t127, t128, t129, t130, t131, t132, t133, t134, t135, t136, t137, t138, t139, t140, t141, t142, t143, t144, t145, t146, t147], defers := [] } W) := hEnd
  have HENP : Hid (∀ (a : Act) (W : World), a.defers = [] → ¬ (wrs [] L).length ≤ 65536 → Below B A W → Q (.panic (chn 4 0)) a W) := hEnP
  have H_hk : Hid (∀ W : World, Kpw B R A W → W.cell? ⟨X, 5, none⟩ = some (.slice (some ⟨b, o, none⟩) 2 kc)) := hk
  have H_u0 : Hid (∀ W : World, Kpw B R A W → W.cell? ⟨b, o, none⟩ = some (.int .i64 kx)) := u0
  have H_u1 : Hid (∀ W : World, Kpw B R A W → W.cell? ⟨b, o + 1, none⟩ = some (.string (tx cx))) := u1
  have H_u2 : Hid (∀ W : World, Kpw B R A W → W.cell? ⟨b, o + 2, none⟩ = some (.int .i64 lox)) := u2
  have H_u3 : Hid (∀ W : World, Kpw B R A W → W.cell? ⟨b, o + 3, none⟩ = some (.int .i64 hix)) := u3
  have H_u4 : Hid (∀ W : World, Kpw B R A W → W.cell? ⟨b, o + 4, none⟩ = some (.slice wax wnx wcx)) := u4
  have H_u5 : Hid (∀ W : World, Kpw B R A W → W.cell? ⟨b, o + 5, none⟩ = some (.slice kax knx kcx)) := u5
  have H_v0 : Hid (∀ W : World, Kpw B R A W → W.cell? ⟨b, o + 6, none⟩ = some (.int .i64 ky)) := v0
  have H_v1 : Hid (∀ W : World, Kpw B R A W → W.cell? ⟨b, o + 6 + 1, none⟩ = some (.string (tx cy))) := v1
  have H_v2 : Hid (∀ W : World, Kpw B R A W → W.cell? ⟨b, o + 6 + 2, none⟩ = some (.int .i64 loy)) := v2
  have H_v3 : Hid (∀ W : World, Kpw B R A W → W.cell? ⟨b, o + 6 + 3, none⟩ = some (.int .i64 hiy)) := v3
  have H_v4 : Hid (∀ W : World, Kpw B R A W → W.cell? ⟨b, o + 6 + 4, none⟩ = some (.slice way wny wcy)) := v4
  have H_v5 : Hid (∀ W : World, Kpw B R A W → W.cell? ⟨b, o + 6 + 5, none⟩ = some (.slice kay kny kcy)) := v5
  have H_hP : Hid (∀ W : World, Below A.heap.size A W → Calls Tryz.prog 72 #[.pointer (some ⟨R, 0, none⟩), .string (tx [45]), .agg #[.int .i64 kx, .string (tx cx), .int .i64 lox, .int .i64 hix, .slice wax wnx wcx, .slice kax knx kcx], .agg #[.int .i64 ky, .string (tx cy), .int .i64 loy, .int .i64 hiy, .slice way wny wcy, .slice kay kny kcy]] W (WgP B R W L)) := hP
  have G0 : Hid (Below A.heap.size A A.drew) := (Below.refl _ _).drew
  clear hEnd hEnP hk u0 u1 u2 u3 u4 u5 v0 v1 v2 v3 v4 v5 hP
  refine wp_region_any (by kernel_rfl) ?_
  change wpAny _ _ _ _ _ _ _ (World.drew _)
  obtain ⟨V0, hV0⟩ : ∃ V0, A.drew = V0 := ⟨_, rfl⟩
  rw [hV0] at G0 ⊢
  clear hV0
  refine wpAny_of_J (S := fun W => Kpw B R A W) (J := fun _ => true) _ _ _ _ ?_
  refine wpAnyJ_take (i := 0) (oi := { dst := some 41, op := Go.Op.move (Go.Operand.tmp 0), type := 115, pos := "writer.go:59", after := #[], guard := none }) (v := .pointer (some ⟨R, 0, none⟩)) rfl rfl (waits_of (by kernel_rfl)) (by kernel_rfl) (by kernel_rfl) (by kernel_rfl) (fun _ _ _ h => hQp _ _ _ _ _ h) (Or.inl ⟨by rfl, fun W hS => ?_⟩) (kpw_of hB G0.out) ?_
  · go_simp
  simp only [Act.put, List.setIfInBounds_toArray, List.set_cons_zero, List.set_cons_succ]
  refine wpAnyJ_take (i := 1) (oi := { dst := some 42, op := Go.Op.fieldAddr 25 (Go.Operand.tmp 3) 5, type := 0, pos := "writer.go:59", after := #[], guard := none }) (v := .pointer (some ⟨X, 5, none⟩)) rfl rfl (waits_of (by kernel_rfl)) (by kernel_rfl) (by kernel_rfl) (by kernel_rfl) (fun _ _ _ h => hQp _ _ _ _ _ h) (Or.inl ⟨by rfl, fun W hS => ?_⟩) (kpw_of hB G0.out) ?_
  · go_simp
  simp only [Act.put, List.setIfInBounds_toArray, List.set_cons_zero, List.set_cons_succ]
  refine wpAnyJ_take (i := 2) (oi := { dst := some 43, op := Go.Op.load 23 (Go.Operand.tmp 42), type := 23, pos := "writer.go:59", after := #[{ on := 1, ground := Go.Ground.data }], guard := none }) (v := .slice (some ⟨b, o, none⟩) 2 kc) rfl rfl (waits_of (by kernel_rfl)) (by kernel_rfl) (by kernel_rfl) (by kernel_rfl) (fun _ _ _ h => hQp _ _ _ _ _ h) (Or.inl ⟨by rfl, fun W hS => ?_⟩) (kpw_of hB G0.out) ?_
  · have z := H_hk.out W hS; go_simp
  simp only [Act.put, List.setIfInBounds_toArray, List.set_cons_zero, List.set_cons_succ]
  refine wpAnyJ_take (i := 3) (oi := { dst := some 44, op := Go.Op.indexAddr 23 (Go.Operand.tmp 43) (Go.Operand.const (Go.Value.int Go.IntKind.i64 0)), type := 0, pos := "writer.go:59", after := #[{ on := 2, ground := Go.Ground.data }], guard := none }) (v := .pointer (some ⟨b, o, none⟩)) rfl rfl (waits_of (by kernel_rfl)) (by kernel_rfl) (by kernel_rfl) (by kernel_rfl) (fun _ _ _ h => hQp _ _ _ _ _ h) (Or.inl ⟨by rfl, fun W hS => ?_⟩) (kpw_of hB G0.out) ?_
  · go_simp
  simp only [Act.put, List.setIfInBounds_toArray, List.set_cons_zero, List.set_cons_succ]
  refine wpAnyJ_take (i := 4) (oi := { dst := some 45, op := Go.Op.load 25 (Go.Operand.tmp 44), type := 25, pos := "writer.go:59", after := #[{ on := 3, ground := Go.Ground.data }], guard := none }) (v := .agg #[.int .i64 kx, .string (tx cx), .int .i64 lox, .int .i64 hix, .slice wax wnx wcx, .slice kax knx kcx]) rfl rfl (waits_of (by kernel_rfl)) (by kernel_rfl) (by kernel_rfl) (by kernel_rfl) (fun _ _ _ h => hQp _ _ _ _ _ h) (Or.inl ⟨by rfl, fun W hS => ?_⟩) (kpw_of hB G0.out) ?_
  · have zu0 := H_u0.out W hS; have zu1 := H_u1.out W hS; have zu2 := H_u2.out W hS; have zu3 := H_u3.out W hS; have zu4 := H_u4.out W hS; have zu5 := H_u5.out W hS; go_simp
  simp only [Act.put, List.setIfInBounds_toArray, List.set_cons_zero, List.set_cons_succ]
  refine wpAnyJ_take (i := 5) (oi := { dst := some 46, op := Go.Op.fieldAddr 25 (Go.Operand.tmp 3) 5, type := 0, pos := "writer.go:59", after := #[], guard := none }) (v := .pointer (some ⟨X, 5, none⟩)) rfl rfl (waits_of (by kernel_rfl)) (by kernel_rfl) (by kernel_rfl) (by kernel_rfl) (fun _ _ _ h => hQp _ _ _ _ _ h) (Or.inl ⟨by rfl, fun W hS => ?_⟩) (kpw_of hB G0.out) ?_
  · go_simp
  simp only [Act.put, List.setIfInBounds_toArray, List.set_cons_zero, List.set_cons_succ]
  refine wpAnyJ_take (i := 6) (oi := { dst := some 47, op := Go.Op.load 23 (Go.Operand.tmp 46), type := 23, pos := "writer.go:59", after := #[{ on := 5, ground := Go.Ground.data }], guard := none }) (v := .slice (some ⟨b, o, none⟩) 2 kc) rfl rfl (waits_of (by kernel_rfl)) (by kernel_rfl) (by kernel_rfl) (by kernel_rfl) (fun _ _ _ h => hQp _ _ _ _ _ h) (Or.inl ⟨by rfl, fun W hS => ?_⟩) (kpw_of hB G0.out) ?_
  · have z := H_hk.out W hS; go_simp
  simp only [Act.put, List.setIfInBounds_toArray, List.set_cons_zero, List.set_cons_succ]
  refine wpAnyJ_take (i := 7) (oi := { dst := some 48, op := Go.Op.indexAddr 23 (Go.Operand.tmp 47) (Go.Operand.const (Go.Value.int Go.IntKind.i64 1)), type := 0, pos := "writer.go:59", after := #[{ on := 6, ground := Go.Ground.data }], guard := none }) (v := .pointer (some ⟨b, o + 6, none⟩)) rfl rfl (waits_of (by kernel_rfl)) (by kernel_rfl) (by kernel_rfl) (by kernel_rfl) (fun _ _ _ h => hQp _ _ _ _ _ h) (Or.inl ⟨by rfl, fun W hS => ?_⟩) (kpw_of hB G0.out) ?_
  · go_simp
  simp only [Act.put, List.setIfInBounds_toArray, List.set_cons_zero, List.set_cons_succ]
  refine wpAnyJ_take (i := 8) (oi := { dst := some 49, op := Go.Op.load 25 (Go.Operand.tmp 48), type := 25, pos := "writer.go:59", after := #[{ on := 7, ground := Go.Ground.data }], guard := none }) (v := .agg #[.int .i64 ky, .string (tx cy), .int .i64 loy, .int .i64 hiy, .slice way wny wcy, .slice kay kny kcy]) rfl rfl (waits_of (by kernel_rfl)) (by kernel_rfl) (by kernel_rfl) (by kernel_rfl) (fun _ _ _ h => hQp _ _ _ _ _ h) (Or.inl ⟨by rfl, fun W hS => ?_⟩) (kpw_of hB G0.out) ?_
  · have zv0 := H_v0.out W hS; have zv1 := H_v1.out W hS; have zv2 := H_v2.out W hS; have zv3 := H_v3.out W hS; have zv4 := H_v4.out W hS; have zv5 := H_v5.out W hS; go_simp
  simp only [Act.put, List.setIfInBounds_toArray, List.set_cons_zero, List.set_cons_succ]
  refine wpAnyJ_ready (rs := [9]) (by kernel_rfl) (by simp) ?_
  refine AllJ.cons (o := { dst := some 50, op := Go.Op.call { callee := Go.Callee.value (Go.Operand.func 72), args := #[Go.Operand.tmp 41, Go.Operand.const (Go.Value.string { data := #[45] }), Go.Operand.tmp 45, Go.Operand.tmp 49], argTypes := #[115, 9, 25, 25] }, type := 0, pos := "writer.go:59", after := #[{ on := 0, ground := Go.Ground.data }, { on := 4, ground := Go.Ground.data }, { on := 8, ground := Go.Ground.data }], guard := none }) rfl (fun K hK => ?_) AllJ.nil
  have kk := H_hP.out V0 G0.out
  go_simp
  go_at_call 72
  refine kk.mono ?_
  rintro e1 W9 (⟨rfl, hw9, hk9⟩ | ⟨rfl, hn9, hb9⟩)
  · have S9 : Kpw B R A W9 := (kpw_of hB G0.out).trans hk9
    refine hK.out _ _ (fun _ => S9) ?_
    clear hK K kk
    try simp only [Act.put, List.setIfInBounds_toArray, List.set_cons_zero, List.set_cons_succ]
    exact wpAnyJ_done (by kernel_rfl) (HEND.out W9 hw9 S9) _
  · exact HENP.out _ _ rfl hn9 ((G0.out.mono hB).trans hb9)
set_option maxRecDepth 100000 in
set_option maxHeartbeats 1000000 in
theorem q14 {Q : Exit → Act → World → Prop} (hQp : ∀ c a d v w, Q (.panic c) (Act.put a d v) w → Q (.panic c) a w) (t1 t2 t4 t5 t6 t7 t8 t9 t10 t11 t12 t13 t14 t15 t16 t17 t18 t19 t20 t21 t22 t23 t24 t25 t26 t27 t28 t29 t30 t31 t32 t33 t34 t35 t36 t37 t38 t39 t40 t41 t42 t43 t44 t45 t46 t47 t48 t49 t50 t51 t52 t53 t54 t55 t56 t57 t58 t59 t60 t61 t62 t63 t64 t65 t66 t67 t68 t69 t70 t71 t72 t73 t74 t75 t76 t77 t78 t79 t80 t81 t82 t83 t84 t85 t86 t87 t88 t89 t90 t91 t92 t93 t94 t95 t96 t97 t98 t99 t100 t101 t102 t103 t104 t105 t106 t107 t108 t109 t110 t111 t112 t113 t114 t115 t116 t117 t118 t119 t120 t121 t122 t123 t124 t125 t126 t127 t128 t129 t130 t131 t132 t133 t134 t135 t136 t137 t138 t139 t140 t141 t142 t143 t144 t145 t146 t147 : Value) (A : World) (B R : Nat) (hB : B ≤ A.heap.size) (X b o kc : Nat) (kx : Int) (cx : By) (lox hix : Int) (wax : Option Addr) (wnx wcx : Nat) (kax : Option Addr) (knx kcx : Nat) (L : List By) (bb : Bool)
    (hk : ∀ W : World, Kpw B R A W → W.cell? ⟨X, 5, none⟩ = some (.slice (some ⟨b, o, none⟩) 1 kc))
    (u0 : ∀ W : World, Kpw B R A W → W.cell? ⟨b, o, none⟩ = some (.int .i64 kx))
    (u1 : ∀ W : World, Kpw B R A W → W.cell? ⟨b, o + 1, none⟩ = some (.string (tx cx)))
    (u2 : ∀ W : World, Kpw B R A W → W.cell? ⟨b, o + 2, none⟩ = some (.int .i64 lox))
    (u3 : ∀ W : World, Kpw B R A W → W.cell? ⟨b, o + 3, none⟩ = some (.int .i64 hix))
    (u4 : ∀ W : World, Kpw B R A W → W.cell? ⟨b, o + 4, none⟩ = some (.slice wax wnx wcx))
    (u5 : ∀ W : World, Kpw B R A W → W.cell? ⟨b, o + 5, none⟩ = some (.slice kax knx kcx))
    (hI : ∀ W : World, Below A.heap.size A W → Calls Tryz.prog 75 #[.agg #[.int .i64 kx, .string (tx cx), .int .i64 lox, .int .i64 hix, .slice wax wnx wcx, .slice kax knx kcx]] W fun e W' => e = .returned (.bool bb) ∧ Below W.heap.size W W')
    (hP : ∀ W : World, Below A.heap.size A W → Calls Tryz.prog 74 #[.pointer (some ⟨R, 0, none⟩), .agg #[.int .i64 kx, .string (tx cx), .int .i64 lox, .int .i64 hix, .slice wax wnx wcx, .slice kax knx kcx], .bool bb] W (WgP B R W L))
    (hEnd : ∀ W : World, Wg B R L W → Kpw B R A W → Q .normal { tmps := #[.pointer (some ⟨R, 0, none⟩), t1, t2, .pointer (some ⟨X, 0, none⟩), t4, t5, t6, t7, t8, t9, t10, t11, t12, t13, t14, t15, t16, t17, t18, t19, t20, t21, t22, t23, t24, t25, t26, t27, t28, t29, t30, t31, t32, t33, t34, t35, t36, t37, t38, t39, t40, t41, t42, t43, t44, t45, t46, t47, t48, t49, t50, t51, t52, t53, t54, t55, t56, t57, t58, .pointer (some ⟨R, 0, none⟩), .pointer (some ⟨X, 5, none⟩), .slice (some ⟨b, o, none⟩) 1 kc, .pointer (some ⟨b, o, none⟩), .agg #[.int .i64 kx, .string (tx cx), .int .i64 lox, .int .i64 hix, .slice wax wnx wcx, .slice kax knx kcx], .pointer (some ⟨X, 5, none⟩), .slice (some ⟨b, o, none⟩) 1 kc, .pointer (some ⟨b, o, none⟩), .agg #[.int .i64 kx, .string (tx cx), .int .i64 lox, .int .i64 hix, .slice wax wnx wcx, .slice kax knx kcx], .bool bb, .tuple #[], t70, t71, t72, t73, t74, t75, t76, t77, t78, t79, t80, t81, t82, t83, t84, t85, t86, t87, t88, t89, t90, t91, t92, t93, t94, t95, t96, t97, t98, t99, t100, t101, t102, t103, t104, t105, t106, t107, t108, t109, t110, t111, t112, t113, t114, t115, t116, t117, t118, t119, t120, t121, t122, t123, t124, t125, t126, t127, t128, t129, t130, t131, t132, t133, t134, t135, t136, t137, t138, t139, t140, t141, t142, t143, t144, t145, t146, t147], defers := [] } W) (hEnP : ∀ (a : Act) (W : World), a.defers = [] → ¬ (wrs [] L).length ≤ 65536 → Below B A W → Q (.panic (chn 4 0)) a W) :
    (Code.region 14 #[{ dst := some 59, op := Go.Op.move (Go.Operand.tmp 0), type := 115, pos := "writer.go:62", after := #[], guard := none }, { dst := some 60, op := Go.Op.fieldAddr 25 (Go.Operand.tmp 3) 5, type := 0, pos := "writer.go:62", after := #[], guard := none }, { dst := some 61, op := Go.Op.load 23 (Go.Operand.tmp 60), type := 23, pos := "writer.go:62", after := #[{ on := 1, ground := Go.Ground.data }], guard := none }, { dst := some 62, op := Go.Op.indexAddr 23 (Go.Operand.tmp 61) (Go.Operand.const (Go.Value.int Go.IntKind.i64 0)), type := 0, pos := "writer.go:62", after := #[{ on := 2, ground := Go.Ground.data }], guard := none }, { dst := some 63, op := Go.Op.load 25 (Go.Operand.tmp 62), type := 25, pos := "writer.go:62", after := #[{ on := 3, ground := Go.Ground.data }], guard := none }, { dst := some 64, op := Go.Op.fieldAddr 25 (Go.Operand.tmp 3) 5, type := 0, pos := "writer.go:62", after := #[], guard := none }, { dst := some 65, op := Go.Op.load 23 (Go.Operand.tmp 64), type := 23, pos := "writer.go:62", after := #[{ on := 5, ground := Go.Ground.data }], guard := none }, { dst := some 66, op := Go.Op.indexAddr 23 (Go.Operand.tmp 65) (Go.Operand.const (Go.Value.int Go.IntKind.i64 0)), type := 0, pos := "writer.go:62", after := #[{ on := 6, ground := Go.Ground.data }], guard := none }, { dst := some 67, op := Go.Op.load 25 (Go.Operand.tmp 66), type := 25, pos := "writer.go:62", after := #[{ on := 7, ground := Go.Ground.data }], guard := none }, { dst := some 68, op := Go.Op.call { callee := Go.Callee.value (Go.Operand.func 75), args := #[Go.Operand.tmp 67], argTypes := #[25] }, type := 4, pos := "writer.go:62", after := #[{ on := 8, ground := Go.Ground.data }], guard := none }, { dst := some 69, op := Go.Op.call { callee := Go.Callee.value (Go.Operand.func 74), args := #[Go.Operand.tmp 59, Go.Operand.tmp 63, Go.Operand.tmp 68], argTypes := #[115, 25, 4] }, type := 0, pos := "writer.go:62", after := #[{ on := 0, ground := Go.Ground.data }, { on := 4, ground := Go.Ground.data }, { on := 9, ground := Go.Ground.data }, { on := 9, ground := Go.Ground.chain }], guard := none }] true).wp Tryz.prog Q { tmps := #[.pointer (some ⟨R, 0, none⟩), t1, t2, .pointer (some ⟨X, 0, none⟩), t4, t5, t6, t7, t8, t9, t10, t11, t12, t13, t14, t15, t16, t17, t18, t19, t20, t21, t22, t23, t24, t25, t26, t27, t28, t29, t30, t31, t32, t33, t34, t35, t36, t37, t38, t39, t40, t41, t42, t43, t44, t45, t46, t47, t48, t49, t50, t51, t52, t53, t54, t55, t56, t57, t58, t59, t60, t61, t62, t63, t64, t65, t66, t67, t68, t69, t70, t71, t72, t73, t74, t75, t76, t77, t78, t79, t80, t81, t82, t83, t84, t85, t86, t87, t88, t89, t90, t91, t92, t93, t94, t95, t96, t97, t98, t99, t100, t101, t102, t103, t104, t105, t106, t107, t108, t109, t110, t111, t112, t113, t114, t115, t116, t117, t118, t119, t120, t121, t122, t123, t124, t125, t126, t127, t128, t129, t130, t131, t132, t133, t134, t135, t136, t137, t138, t139, t140, t141, t142, t143, t144, t145, t146, t147], defers := [] } A := by
  have HEND : Hid (∀ W : World, Wg B R L W → Kpw B R A W → Q .normal { tmps := #[.pointer (some ⟨R, 0, none⟩), t1, t2, .pointer (some ⟨X, 0, none⟩), t4, t5, t6, t7, t8, t9, t10, t11, t12, t13, t14, t15, t16, t17, t18, t19, t20, t21, t22, t23, t24, t25, t26, t27, t28, t29, t30, t31, t32, t33, t34, t35, t36, t37, t38, t39, t40, t41, t42, t43, t44, t45, t46, t47, t48, t49, t50, t51, t52, t53, t54, t55, t56, t57, t58, .pointer (some ⟨R, 0, none⟩), .pointer (some ⟨X, 5, none⟩), .slice (some ⟨b, o, none⟩) 1 kc, .pointer (some ⟨b, o, none⟩), .agg #[.int .i64 kx, .string (tx cx), .int .i64 lox, .int .i64 hix, .slice wax wnx wcx, .slice kax knx kcx], .pointer (some ⟨X, 5, none⟩), .slice (some ⟨b, o, none⟩) 1 kc, .pointer (some ⟨b, o, none⟩), .agg #[.int .i64 kx, .string (tx cx), .int .i64 lox, .int .i64 hix, .slice wax wnx wcx, .slice kax knx kcx], .bool bb, .tuple #[], t70, t71, t72, t73, t74, t75, t76, t77, t78, t79, t80, t81, t82, t83, t84, t85, t86, t87, t88, t89, t90, t91, t92, t93, t94, t95, t96, t97, t98, t99, t100, t101, t102, t103, t104, t105, t106, t107, t108, t109, t110, t111, t112, t113, t114, t115, t116, t117, t118, t119, t120, t121, t122, t123, t124, t125, t126, t127, t128, t129, t130, t131, t132, t133, t134, t135, t136, t137, t138, t139, t140, t141, t142, t143, t144, t145, t146, t147], defers := [] } W) := hEnd
  have HENP : Hid (∀ (a : Act) (W : World), a.defers = [] → ¬ (wrs [] L).length ≤ 65536 → Below B A W → Q (.panic (chn 4 0)) a W) := hEnP
  have H_hk : Hid (∀ W : World, Kpw B R A W → W.cell? ⟨X, 5, none⟩ = some (.slice (some ⟨b, o, none⟩) 1 kc)) := hk
  have H_u0 : Hid (∀ W : World, Kpw B R A W → W.cell? ⟨b, o, none⟩ = some (.int .i64 kx)) := u0
  have H_u1 : Hid (∀ W : World, Kpw B R A W → W.cell? ⟨b, o + 1, none⟩ = some (.string (tx cx))) := u1
  have H_u2 : Hid (∀ W : World, Kpw B R A W → W.cell? ⟨b, o + 2, none⟩ = some (.int .i64 lox)) := u2
  have H_u3 : Hid (∀ W : World, Kpw B R A W → W.cell? ⟨b, o + 3, none⟩ = some (.int .i64 hix)) := u3
  have H_u4 : Hid (∀ W : World, Kpw B R A W → W.cell? ⟨b, o + 4, none⟩ = some (.slice wax wnx wcx)) := u4
  have H_u5 : Hid (∀ W : World, Kpw B R A W → W.cell? ⟨b, o + 5, none⟩ = some (.slice kax knx kcx)) := u5
  have H_hI : Hid (∀ W : World, Below A.heap.size A W → Calls Tryz.prog 75 #[.agg #[.int .i64 kx, .string (tx cx), .int .i64 lox, .int .i64 hix, .slice wax wnx wcx, .slice kax knx kcx]] W fun e W' => e = .returned (.bool bb) ∧ Below W.heap.size W W') := hI
  have H_hP : Hid (∀ W : World, Below A.heap.size A W → Calls Tryz.prog 74 #[.pointer (some ⟨R, 0, none⟩), .agg #[.int .i64 kx, .string (tx cx), .int .i64 lox, .int .i64 hix, .slice wax wnx wcx, .slice kax knx kcx], .bool bb] W (WgP B R W L)) := hP
  have G0 : Hid (Below A.heap.size A A.drew) := (Below.refl _ _).drew
  clear hEnd hEnP hk u0 u1 u2 u3 u4 u5 hI hP
  refine wp_region_any (by kernel_rfl) ?_
  change wpAny _ _ _ _ _ _ _ (World.drew _)
  obtain ⟨V0, hV0⟩ : ∃ V0, A.drew = V0 := ⟨_, rfl⟩
  rw [hV0] at G0 ⊢
  clear hV0
  refine wpAny_of_J (S := fun W => Kpw B R A W) (J := fun _ => true) _ _ _ _ ?_
  refine wpAnyJ_take (i := 0) (oi := { dst := some 59, op := Go.Op.move (Go.Operand.tmp 0), type := 115, pos := "writer.go:62", after := #[], guard := none }) (v := .pointer (some ⟨R, 0, none⟩)) rfl rfl (waits_of (by kernel_rfl)) (by kernel_rfl) (by kernel_rfl) (by kernel_rfl) (fun _ _ _ h => hQp _ _ _ _ _ h) (Or.inl ⟨by rfl, fun W hS => ?_⟩) (kpw_of hB G0.out) ?_
  · go_simp
  simp only [Act.put, List.setIfInBounds_toArray, List.set_cons_zero, List.set_cons_succ]
  refine wpAnyJ_take (i := 1) (oi := { dst := some 60, op := Go.Op.fieldAddr 25 (Go.Operand.tmp 3) 5, type := 0, pos := "writer.go:62", after := #[], guard := none }) (v := .pointer (some ⟨X, 5, none⟩)) rfl rfl (waits_of (by kernel_rfl)) (by kernel_rfl) (by kernel_rfl) (by kernel_rfl) (fun _ _ _ h => hQp _ _ _ _ _ h) (Or.inl ⟨by rfl, fun W hS => ?_⟩) (kpw_of hB G0.out) ?_
  · go_simp
  simp only [Act.put, List.setIfInBounds_toArray, List.set_cons_zero, List.set_cons_succ]
  refine wpAnyJ_take (i := 2) (oi := { dst := some 61, op := Go.Op.load 23 (Go.Operand.tmp 60), type := 23, pos := "writer.go:62", after := #[{ on := 1, ground := Go.Ground.data }], guard := none }) (v := .slice (some ⟨b, o, none⟩) 1 kc) rfl rfl (waits_of (by kernel_rfl)) (by kernel_rfl) (by kernel_rfl) (by kernel_rfl) (fun _ _ _ h => hQp _ _ _ _ _ h) (Or.inl ⟨by rfl, fun W hS => ?_⟩) (kpw_of hB G0.out) ?_
  · have z := H_hk.out W hS; go_simp
  simp only [Act.put, List.setIfInBounds_toArray, List.set_cons_zero, List.set_cons_succ]
  refine wpAnyJ_take (i := 3) (oi := { dst := some 62, op := Go.Op.indexAddr 23 (Go.Operand.tmp 61) (Go.Operand.const (Go.Value.int Go.IntKind.i64 0)), type := 0, pos := "writer.go:62", after := #[{ on := 2, ground := Go.Ground.data }], guard := none }) (v := .pointer (some ⟨b, o, none⟩)) rfl rfl (waits_of (by kernel_rfl)) (by kernel_rfl) (by kernel_rfl) (by kernel_rfl) (fun _ _ _ h => hQp _ _ _ _ _ h) (Or.inl ⟨by rfl, fun W hS => ?_⟩) (kpw_of hB G0.out) ?_
  · go_simp
  simp only [Act.put, List.setIfInBounds_toArray, List.set_cons_zero, List.set_cons_succ]
  refine wpAnyJ_take (i := 4) (oi := { dst := some 63, op := Go.Op.load 25 (Go.Operand.tmp 62), type := 25, pos := "writer.go:62", after := #[{ on := 3, ground := Go.Ground.data }], guard := none }) (v := .agg #[.int .i64 kx, .string (tx cx), .int .i64 lox, .int .i64 hix, .slice wax wnx wcx, .slice kax knx kcx]) rfl rfl (waits_of (by kernel_rfl)) (by kernel_rfl) (by kernel_rfl) (by kernel_rfl) (fun _ _ _ h => hQp _ _ _ _ _ h) (Or.inl ⟨by rfl, fun W hS => ?_⟩) (kpw_of hB G0.out) ?_
  · have zu0 := H_u0.out W hS; have zu1 := H_u1.out W hS; have zu2 := H_u2.out W hS; have zu3 := H_u3.out W hS; have zu4 := H_u4.out W hS; have zu5 := H_u5.out W hS; go_simp
  simp only [Act.put, List.setIfInBounds_toArray, List.set_cons_zero, List.set_cons_succ]
  refine wpAnyJ_take (i := 5) (oi := { dst := some 64, op := Go.Op.fieldAddr 25 (Go.Operand.tmp 3) 5, type := 0, pos := "writer.go:62", after := #[], guard := none }) (v := .pointer (some ⟨X, 5, none⟩)) rfl rfl (waits_of (by kernel_rfl)) (by kernel_rfl) (by kernel_rfl) (by kernel_rfl) (fun _ _ _ h => hQp _ _ _ _ _ h) (Or.inl ⟨by rfl, fun W hS => ?_⟩) (kpw_of hB G0.out) ?_
  · go_simp
  simp only [Act.put, List.setIfInBounds_toArray, List.set_cons_zero, List.set_cons_succ]
  refine wpAnyJ_take (i := 6) (oi := { dst := some 65, op := Go.Op.load 23 (Go.Operand.tmp 64), type := 23, pos := "writer.go:62", after := #[{ on := 5, ground := Go.Ground.data }], guard := none }) (v := .slice (some ⟨b, o, none⟩) 1 kc) rfl rfl (waits_of (by kernel_rfl)) (by kernel_rfl) (by kernel_rfl) (by kernel_rfl) (fun _ _ _ h => hQp _ _ _ _ _ h) (Or.inl ⟨by rfl, fun W hS => ?_⟩) (kpw_of hB G0.out) ?_
  · have z := H_hk.out W hS; go_simp
  simp only [Act.put, List.setIfInBounds_toArray, List.set_cons_zero, List.set_cons_succ]
  refine wpAnyJ_take (i := 7) (oi := { dst := some 66, op := Go.Op.indexAddr 23 (Go.Operand.tmp 65) (Go.Operand.const (Go.Value.int Go.IntKind.i64 0)), type := 0, pos := "writer.go:62", after := #[{ on := 6, ground := Go.Ground.data }], guard := none }) (v := .pointer (some ⟨b, o, none⟩)) rfl rfl (waits_of (by kernel_rfl)) (by kernel_rfl) (by kernel_rfl) (by kernel_rfl) (fun _ _ _ h => hQp _ _ _ _ _ h) (Or.inl ⟨by rfl, fun W hS => ?_⟩) (kpw_of hB G0.out) ?_
  · go_simp
  simp only [Act.put, List.setIfInBounds_toArray, List.set_cons_zero, List.set_cons_succ]
  refine wpAnyJ_take (i := 8) (oi := { dst := some 67, op := Go.Op.load 25 (Go.Operand.tmp 66), type := 25, pos := "writer.go:62", after := #[{ on := 7, ground := Go.Ground.data }], guard := none }) (v := .agg #[.int .i64 kx, .string (tx cx), .int .i64 lox, .int .i64 hix, .slice wax wnx wcx, .slice kax knx kcx]) rfl rfl (waits_of (by kernel_rfl)) (by kernel_rfl) (by kernel_rfl) (by kernel_rfl) (fun _ _ _ h => hQp _ _ _ _ _ h) (Or.inl ⟨by rfl, fun W hS => ?_⟩) (kpw_of hB G0.out) ?_
  · have zu0 := H_u0.out W hS; have zu1 := H_u1.out W hS; have zu2 := H_u2.out W hS; have zu3 := H_u3.out W hS; have zu4 := H_u4.out W hS; have zu5 := H_u5.out W hS; go_simp
  simp only [Act.put, List.setIfInBounds_toArray, List.set_cons_zero, List.set_cons_succ]
  refine wpAnyJ_ready (rs := [9]) (by kernel_rfl) (by simp) ?_
  refine AllJ.cons (o := { dst := some 68, op := Go.Op.call { callee := Go.Callee.value (Go.Operand.func 75), args := #[Go.Operand.tmp 67], argTypes := #[25] }, type := 4, pos := "writer.go:62", after := #[{ on := 8, ground := Go.Ground.data }], guard := none }) rfl (fun K hK => ?_) AllJ.nil
  have kk := H_hI.out V0 G0.out
  go_simp
  go_at_call 75
  refine kk.mono ?_
  rintro e1 W1 ⟨rfl, hW⟩
  have G1 : Hid (Below A.heap.size A W1) := bt G0.out hW
  clear hW kk
  refine hK.out _ _ (fun _ => (kpw_of hB G1.out)) ?_
  clear hK K
  try simp only [Act.put, List.setIfInBounds_toArray, List.set_cons_zero, List.set_cons_succ]
  refine wpAnyJ_ready (rs := [10]) (by kernel_rfl) (by simp) ?_
  refine AllJ.cons (o := { dst := some 69, op := Go.Op.call { callee := Go.Callee.value (Go.Operand.func 74), args := #[Go.Operand.tmp 59, Go.Operand.tmp 63, Go.Operand.tmp 68], argTypes := #[115, 25, 4] }, type := 0, pos := "writer.go:62", after := #[{ on := 0, ground := Go.Ground.data }, { on := 4, ground := Go.Ground.data }, { on := 9, ground := Go.Ground.data }, { on := 9, ground := Go.Ground.chain }], guard := none }) rfl (fun K hK => ?_) AllJ.nil
  have kk := H_hP.out W1 G1.out
  go_simp
  go_at_call 74
  refine kk.mono ?_
  rintro e1 W9 (⟨rfl, hw9, hk9⟩ | ⟨rfl, hn9, hb9⟩)
  · have S9 : Kpw B R A W9 := (kpw_of hB G1.out).trans hk9
    refine hK.out _ _ (fun _ => S9) ?_
    clear hK K kk
    try simp only [Act.put, List.setIfInBounds_toArray, List.set_cons_zero, List.set_cons_succ]
    exact wpAnyJ_done (by kernel_rfl) (HEND.out W9 hw9 S9) _
  · exact HENP.out _ _ rfl hn9 ((G1.out.mono hB).trans hb9)
set_option maxRecDepth 100000 in
set_option maxHeartbeats 1000000 in
theorem q25t {Q : Exit → Act → World → Prop} (hQp : ∀ c a d v w, Q (.panic c) (Act.put a d v) w → Q (.panic c) a w) (t1 t2 t4 t5 t6 t7 t8 t9 t10 t11 t12 t13 t14 t15 t16 t17 t18 t19 t20 t21 t22 t23 t24 t25 t26 t27 t28 t29 t30 t31 t32 t33 t34 t35 t36 t37 t38 t39 t40 t41 t42 t43 t44 t45 t46 t47 t48 t49 t50 t51 t52 t53 t54 t55 t56 t57 t58 t59 t60 t61 t62 t63 t64 t65 t66 t67 t68 t69 t70 t71 t72 t73 t74 t75 t76 t77 t78 t79 t80 t81 t82 t83 t84 t85 t86 t87 t88 t89 t90 t91 t92 t93 t94 t95 t96 t97 t98 t99 t100 t101 t102 t103 t104 t105 t106 t107 t108 t109 t110 t111 t112 t113 t114 t115 t116 t117 t118 t119 t120 t121 t122 t123 t124 t125 t126 t127 t128 t129 t130 t131 t132 t133 t134 t135 t136 t137 t138 t139 t140 t141 t142 t143 t144 t145 t146 t147 : Value) (A : World) (B R : Nat) (hB : B ≤ A.heap.size) (X b o kc : Nat) (kx : Int) (cx : By) (lox hix : Int) (wax : Option Addr) (wnx wcx : Nat) (kax : Option Addr) (knx kcx : Nat) (L : List By)
    (hk : ∀ W : World, Kpw B R A W → W.cell? ⟨X, 5, none⟩ = some (.slice (some ⟨b, o, none⟩) 1 kc))
    (u0 : ∀ W : World, Kpw B R A W → W.cell? ⟨b, o, none⟩ = some (.int .i64 kx))
    (u1 : ∀ W : World, Kpw B R A W → W.cell? ⟨b, o + 1, none⟩ = some (.string (tx cx)))
    (u2 : ∀ W : World, Kpw B R A W → W.cell? ⟨b, o + 2, none⟩ = some (.int .i64 lox))
    (u3 : ∀ W : World, Kpw B R A W → W.cell? ⟨b, o + 3, none⟩ = some (.int .i64 hix))
    (u4 : ∀ W : World, Kpw B R A W → W.cell? ⟨b, o + 4, none⟩ = some (.slice wax wnx wcx))
    (u5 : ∀ W : World, Kpw B R A W → W.cell? ⟨b, o + 5, none⟩ = some (.slice kax knx kcx))
    (hI : ∀ W : World, Below A.heap.size A W → Calls Tryz.prog 75 #[.agg #[.int .i64 kx, .string (tx cx), .int .i64 lox, .int .i64 hix, .slice wax wnx wcx, .slice kax knx kcx]] W fun e W' => e = .returned (.bool true) ∧ Below W.heap.size W W')
    (hP : ∀ W : World, Below A.heap.size A W → Calls Tryz.prog 74 #[.pointer (some ⟨R, 0, none⟩), .agg #[.int .i64 kx, .string (tx cx), .int .i64 lox, .int .i64 hix, .slice wax wnx wcx, .slice kax knx kcx], .bool true] W (WgP B R W L))
    (hEnd : ∀ W : World, Wg B R L W → Kpw B R A W → Q .normal { tmps := #[.pointer (some ⟨R, 0, none⟩), t1, t2, .pointer (some ⟨X, 0, none⟩), t4, t5, t6, t7, t8, t9, t10, t11, t12, t13, t14, t15, t16, t17, t18, t19, t20, t21, t22, t23, t24, t25, t26, t27, t28, t29, t30, t31, t32, t33, t34, t35, t36, t37, t38, t39, t40, t41, t42, t43, t44, t45, t46, t47, t48, t49, t50, t51, t52, t53, t54, t55, t56, t57, t58, t59, t60, t61, t62, t63, t64, t65, t66, t67, t68, t69, t70, t71, t72, t73, t74, t75, t76, t77, t78, t79, t80, t81, t82, t83, t84, t85, t86, t87, t88, t89, t90, t91, t92, t93, t94, t95, t96, t97, t98, t99, t100, t101, t102, t103, t104, t105, .pointer (some ⟨R, 0, none⟩), .pointer (some ⟨X, 5, none⟩), .slice (some ⟨b, o, none⟩) 1 kc, .pointer (some ⟨b, o, none⟩), .agg #[.int .i64 kx, .string (tx cx), .int .i64 lox, .int .i64 hix, .slice wax wnx wcx, .slice kax knx kcx], .pointer (some ⟨X, 5, none⟩), .slice (some ⟨b, o, none⟩) 1 kc, .pointer (some ⟨b, o, none⟩), .agg #[.int .i64 kx, .string (tx cx), .int .i64 lox, .int .i64 hix, .slice wax wnx wcx, .slice kax knx kcx], .bool true, .bool true, undef, undef, undef, undef, undef, undef, .bool true, .tuple #[], t125, t126, t127, t128, t129, t130, t131, t132, t133, t134, t135, t136, t137, t138, t139, t140, t141, t142, t143, t144, t145, t146, t147], defers := [] } W) (hEnP : ∀ (a : Act) (W : World), a.defers = [] → ¬ (wrs [] L).length ≤ 65536 → Below B A W → Q (.panic (chn 4 0)) a W) :
    (Code.region 25 #[{ dst := some 106, op := Go.Op.move (Go.Operand.tmp 0), type := 115, pos := "writer.go:73", after := #[], guard := none }, { dst := some 107, op := Go.Op.fieldAddr 25 (Go.Operand.tmp 3) 5, type := 0, pos := "writer.go:73", after := #[], guard := none }, { dst := some 108, op := Go.Op.load 23 (Go.Operand.tmp 107), type := 23, pos := "writer.go:73", after := #[{ on := 1, ground := Go.Ground.data }], guard := none }, { dst := some 109, op := Go.Op.indexAddr 23 (Go.Operand.tmp 108) (Go.Operand.const (Go.Value.int Go.IntKind.i64 0)), type := 0, pos := "writer.go:73", after := #[{ on := 2, ground := Go.Ground.data }], guard := none }, { dst := some 110, op := Go.Op.load 25 (Go.Operand.tmp 109), type := 25, pos := "writer.go:73", after := #[{ on := 3, ground := Go.Ground.data }], guard := none }, { dst := some 111, op := Go.Op.fieldAddr 25 (Go.Operand.tmp 3) 5, type := 0, pos := "writer.go:73", after := #[], guard := none }, { dst := some 112, op := Go.Op.load 23 (Go.Operand.tmp 111), type := 23, pos := "writer.go:73", after := #[{ on := 5, ground := Go.Ground.data }], guard := none }, { dst := some 113, op := Go.Op.indexAddr 23 (Go.Operand.tmp 112) (Go.Operand.const (Go.Value.int Go.IntKind.i64 0)), type := 0, pos := "writer.go:73", after := #[{ on := 6, ground := Go.Ground.data }], guard := none }, { dst := some 114, op := Go.Op.load 25 (Go.Operand.tmp 113), type := 25, pos := "writer.go:73", after := #[{ on := 7, ground := Go.Ground.data }], guard := none }, { dst := some 115, op := Go.Op.call { callee := Go.Callee.value (Go.Operand.func 75), args := #[Go.Operand.tmp 114], argTypes := #[25] }, type := 4, pos := "writer.go:73", after := #[{ on := 8, ground := Go.Ground.data }], guard := none }, { dst := some 116, op := Go.Op.move (Go.Operand.tmp 115), type := 4, pos := "writer.go:73", after := #[{ on := 9, ground := Go.Ground.data }, { on := 9, ground := Go.Ground.chain }], guard := none }, { dst := some 117, op := Go.Op.fieldAddr 25 (Go.Operand.tmp 3) 5, type := 0, pos := "writer.go:73", after := #[{ on := 10, ground := Go.Ground.guard }], guard := some (10, false) }, { dst := some 118, op := Go.Op.load 23 (Go.Operand.tmp 117), type := 23, pos := "writer.go:73", after := #[{ on := 11, ground := Go.Ground.data }, { on := 10, ground := Go.Ground.guard }], guard := some (10, false) }, { dst := some 119, op := Go.Op.indexAddr 23 (Go.Operand.tmp 118) (Go.Operand.const (Go.Value.int Go.IntKind.i64 0)), type := 0, pos := "writer.go:73", after := #[{ on := 12, ground := Go.Ground.data }, { on := 10, ground := Go.Ground.guard }], guard := some (10, false) }, { dst := some 120, op := Go.Op.fieldAddr 25 (Go.Operand.tmp 119) 0, type := 0, pos := "writer.go:73", after := #[{ on := 13, ground := Go.Ground.data }, { on := 10, ground := Go.Ground.guard }], guard := some (10, false) }, { dst := some 121, op := Go.Op.load 3 (Go.Operand.tmp 120), type := 3, pos := "writer.go:73", after := #[{ on := 14, ground := Go.Ground.data }, { on := 10, ground := Go.Ground.guard }], guard := some (10, false) }, { dst := some 122, op := Go.Op.binOp Go.BinOp.eql 3 (Go.Operand.tmp 121) (Go.Operand.const (Go.Value.int Go.IntKind.i64 6)) 3, type := 4, pos := "writer.go:73", after := #[{ on := 15, ground := Go.Ground.data }, { on := 10, ground := Go.Ground.guard }], guard := some (10, false) }, { dst := some 123, op := Go.Op.pick (Go.Operand.tmp 116) (Go.Operand.const (Go.Value.bool true)) (Go.Operand.tmp 122), type := 4, pos := "writer.go:73", after := #[{ on := 10, ground := Go.Ground.data }, { on := 16, ground := Go.Ground.data }], guard := none }, { dst := some 124, op := Go.Op.call { callee := Go.Callee.value (Go.Operand.func 74), args := #[Go.Operand.tmp 106, Go.Operand.tmp 110, Go.Operand.tmp 123], argTypes := #[115, 25, 4] }, type := 0, pos := "writer.go:73", after := #[{ on := 0, ground := Go.Ground.data }, { on := 4, ground := Go.Ground.data }, { on := 17, ground := Go.Ground.data }, { on := 10, ground := Go.Ground.chain }], guard := none }] true).wp Tryz.prog Q { tmps := #[.pointer (some ⟨R, 0, none⟩), t1, t2, .pointer (some ⟨X, 0, none⟩), t4, t5, t6, t7, t8, t9, t10, t11, t12, t13, t14, t15, t16, t17, t18, t19, t20, t21, t22, t23, t24, t25, t26, t27, t28, t29, t30, t31, t32, t33, t34, t35, t36, t37, t38, t39, t40, t41, t42, t43, t44, t45, t46, t47, t48, t49, t50, t51, t52, t53, t54, t55, t56, t57, t58, t59, t60, t61, t62, t63, t64, t65, t66, t67, t68, t69, t70, t71, t72, t73, t74, t75, t76, t77, t78, t79, t80, t81, t82, t83, t84, t85, t86, t87, t88, t89, t90, t91, t92, t93, t94, t95, t96, t97, t98, t99, t100, t101, t102, t103, t104, t105, t106, t107, t108, t109, t110, t111, t112, t113, t114, t115, t116, t117, t118, t119, t120, t121, t122, t123, t124, t125, t126, t127, t128, t129, t130, t131, t132, t133, t134, t135, t136, t137, t138, t139, t140, t141, t142, t143, t144, t145, t146, t147], defers := [] } A := by
  have HEND : Hid (∀ W : World, Wg B R L W → Kpw B R A W → Q .normal { tmps := #[.pointer (some ⟨R, 0, none⟩), t1, t2, .pointer (some ⟨X, 0, none⟩), t4, t5, t6, t7, t8, t9, t10, t11, t12, t13, t14, t15, t16, t17, t18, t19, t20, t21, t22, t23, t24, t25, t26, t27, t28, t29, t30, t31, t32, t33, t34, t35, t36, t37, t38, t39, t40, t41, t42, t43, t44, t45, t46, t47, t48, t49, t50, t51, t52, t53, t54, t55, t56, t57, t58, t59, t60, t61, t62, t63, t64, t65, t66, t67, t68, t69, t70, t71, t72, t73, t74, t75, t76, t77, t78, t79, t80, t81, t82, t83, t84, t85, t86, t87, t88, t89, t90, t91, t92, t93, t94, t95, t96, t97, t98, t99, t100, t101, t102, t103, t104, t105, .pointer (some ⟨R, 0, none⟩), .pointer (some ⟨X, 5, none⟩), .slice (some ⟨b, o, none⟩) 1 kc, .pointer (some ⟨b, o, none⟩), .agg #[.int .i64 kx, .string (tx cx), .int .i64 lox, .int .i64 hix, .slice wax wnx wcx, .slice kax knx kcx], .pointer (some ⟨X, 5, none⟩), .slice (some ⟨b, o, none⟩) 1 kc, .pointer (some ⟨b, o, none⟩), .agg #[.int .i64 kx, .string (tx cx), .int .i64 lox, .int .i64 hix, .slice wax wnx wcx, .slice kax knx kcx], .bool true, .bool true, undef, undef, undef, undef, undef, undef, .bool true, .tuple #[], t125, t126, t127, t128, t129, t130, t131, t132, t133, t134, t135, t136, t137, t138, t139, t140, t141, t142, t143, t144, t145, t146, t147], defers := [] } W) := hEnd
  have HENP : Hid (∀ (a : Act) (W : World), a.defers = [] → ¬ (wrs [] L).length ≤ 65536 → Below B A W → Q (.panic (chn 4 0)) a W) := hEnP
  have H_hk : Hid (∀ W : World, Kpw B R A W → W.cell? ⟨X, 5, none⟩ = some (.slice (some ⟨b, o, none⟩) 1 kc)) := hk
  have H_u0 : Hid (∀ W : World, Kpw B R A W → W.cell? ⟨b, o, none⟩ = some (.int .i64 kx)) := u0
  have H_u1 : Hid (∀ W : World, Kpw B R A W → W.cell? ⟨b, o + 1, none⟩ = some (.string (tx cx))) := u1
  have H_u2 : Hid (∀ W : World, Kpw B R A W → W.cell? ⟨b, o + 2, none⟩ = some (.int .i64 lox)) := u2
  have H_u3 : Hid (∀ W : World, Kpw B R A W → W.cell? ⟨b, o + 3, none⟩ = some (.int .i64 hix)) := u3
  have H_u4 : Hid (∀ W : World, Kpw B R A W → W.cell? ⟨b, o + 4, none⟩ = some (.slice wax wnx wcx)) := u4
  have H_u5 : Hid (∀ W : World, Kpw B R A W → W.cell? ⟨b, o + 5, none⟩ = some (.slice kax knx kcx)) := u5
  have H_hI : Hid (∀ W : World, Below A.heap.size A W → Calls Tryz.prog 75 #[.agg #[.int .i64 kx, .string (tx cx), .int .i64 lox, .int .i64 hix, .slice wax wnx wcx, .slice kax knx kcx]] W fun e W' => e = .returned (.bool true) ∧ Below W.heap.size W W') := hI
  have H_hP : Hid (∀ W : World, Below A.heap.size A W → Calls Tryz.prog 74 #[.pointer (some ⟨R, 0, none⟩), .agg #[.int .i64 kx, .string (tx cx), .int .i64 lox, .int .i64 hix, .slice wax wnx wcx, .slice kax knx kcx], .bool true] W (WgP B R W L)) := hP
  have G0 : Hid (Below A.heap.size A A.drew) := (Below.refl _ _).drew
  clear hEnd hEnP hk u0 u1 u2 u3 u4 u5 hI hP
  refine wp_region_any (by kernel_rfl) ?_
  change wpAny _ _ _ _ _ _ _ (World.drew _)
  obtain ⟨V0, hV0⟩ : ∃ V0, A.drew = V0 := ⟨_, rfl⟩
  rw [hV0] at G0 ⊢
  clear hV0
  refine wpAny_of_J (S := fun W => Kpw B R A W) (J := fun _ => true) _ _ _ _ ?_
  refine wpAnyJ_take (i := 0) (oi := { dst := some 106, op := Go.Op.move (Go.Operand.tmp 0), type := 115, pos := "writer.go:73", after := #[], guard := none }) (v := .pointer (some ⟨R, 0, none⟩)) rfl rfl (waits_of (by kernel_rfl)) (by kernel_rfl) (by kernel_rfl) (by kernel_rfl) (fun _ _ _ h => hQp _ _ _ _ _ h) (Or.inl ⟨by rfl, fun W hS => ?_⟩) (kpw_of hB G0.out) ?_
  · go_simp
  simp only [Act.put, List.setIfInBounds_toArray, List.set_cons_zero, List.set_cons_succ]
  refine wpAnyJ_take (i := 1) (oi := { dst := some 107, op := Go.Op.fieldAddr 25 (Go.Operand.tmp 3) 5, type := 0, pos := "writer.go:73", after := #[], guard := none }) (v := .pointer (some ⟨X, 5, none⟩)) rfl rfl (waits_of (by kernel_rfl)) (by kernel_rfl) (by kernel_rfl) (by kernel_rfl) (fun _ _ _ h => hQp _ _ _ _ _ h) (Or.inl ⟨by rfl, fun W hS => ?_⟩) (kpw_of hB G0.out) ?_
  · go_simp
  simp only [Act.put, List.setIfInBounds_toArray, List.set_cons_zero, List.set_cons_succ]
  refine wpAnyJ_take (i := 2) (oi := { dst := some 108, op := Go.Op.load 23 (Go.Operand.tmp 107), type := 23, pos := "writer.go:73", after := #[{ on := 1, ground := Go.Ground.data }], guard := none }) (v := .slice (some ⟨b, o, none⟩) 1 kc) rfl rfl (waits_of (by kernel_rfl)) (by kernel_rfl) (by kernel_rfl) (by kernel_rfl) (fun _ _ _ h => hQp _ _ _ _ _ h) (Or.inl ⟨by rfl, fun W hS => ?_⟩) (kpw_of hB G0.out) ?_
  · have z := H_hk.out W hS; go_simp
  simp only [Act.put, List.setIfInBounds_toArray, List.set_cons_zero, List.set_cons_succ]
  refine wpAnyJ_take (i := 3) (oi := { dst := some 109, op := Go.Op.indexAddr 23 (Go.Operand.tmp 108) (Go.Operand.const (Go.Value.int Go.IntKind.i64 0)), type := 0, pos := "writer.go:73", after := #[{ on := 2, ground := Go.Ground.data }], guard := none }) (v := .pointer (some ⟨b, o, none⟩)) rfl rfl (waits_of (by kernel_rfl)) (by kernel_rfl) (by kernel_rfl) (by kernel_rfl) (fun _ _ _ h => hQp _ _ _ _ _ h) (Or.inl ⟨by rfl, fun W hS => ?_⟩) (kpw_of hB G0.out) ?_
  · go_simp
  simp only [Act.put, List.setIfInBounds_toArray, List.set_cons_zero, List.set_cons_succ]
  refine wpAnyJ_take (i := 4) (oi := { dst := some 110, op := Go.Op.load 25 (Go.Operand.tmp 109), type := 25, pos := "writer.go:73", after := #[{ on := 3, ground := Go.Ground.data }], guard := none }) (v := .agg #[.int .i64 kx, .string (tx cx), .int .i64 lox, .int .i64 hix, .slice wax wnx wcx, .slice kax knx kcx]) rfl rfl (waits_of (by kernel_rfl)) (by kernel_rfl) (by kernel_rfl) (by kernel_rfl) (fun _ _ _ h => hQp _ _ _ _ _ h) (Or.inl ⟨by rfl, fun W hS => ?_⟩) (kpw_of hB G0.out) ?_
  · have zu0 := H_u0.out W hS; have zu1 := H_u1.out W hS; have zu2 := H_u2.out W hS; have zu3 := H_u3.out W hS; have zu4 := H_u4.out W hS; have zu5 := H_u5.out W hS; go_simp
  simp only [Act.put, List.setIfInBounds_toArray, List.set_cons_zero, List.set_cons_succ]
  refine wpAnyJ_take (i := 5) (oi := { dst := some 111, op := Go.Op.fieldAddr 25 (Go.Operand.tmp 3) 5, type := 0, pos := "writer.go:73", after := #[], guard := none }) (v := .pointer (some ⟨X, 5, none⟩)) rfl rfl (waits_of (by kernel_rfl)) (by kernel_rfl) (by kernel_rfl) (by kernel_rfl) (fun _ _ _ h => hQp _ _ _ _ _ h) (Or.inl ⟨by rfl, fun W hS => ?_⟩) (kpw_of hB G0.out) ?_
  · go_simp
  simp only [Act.put, List.setIfInBounds_toArray, List.set_cons_zero, List.set_cons_succ]
  refine wpAnyJ_take (i := 6) (oi := { dst := some 112, op := Go.Op.load 23 (Go.Operand.tmp 111), type := 23, pos := "writer.go:73", after := #[{ on := 5, ground := Go.Ground.data }], guard := none }) (v := .slice (some ⟨b, o, none⟩) 1 kc) rfl rfl (waits_of (by kernel_rfl)) (by kernel_rfl) (by kernel_rfl) (by kernel_rfl) (fun _ _ _ h => hQp _ _ _ _ _ h) (Or.inl ⟨by rfl, fun W hS => ?_⟩) (kpw_of hB G0.out) ?_
  · have z := H_hk.out W hS; go_simp
  simp only [Act.put, List.setIfInBounds_toArray, List.set_cons_zero, List.set_cons_succ]
  refine wpAnyJ_take (i := 7) (oi := { dst := some 113, op := Go.Op.indexAddr 23 (Go.Operand.tmp 112) (Go.Operand.const (Go.Value.int Go.IntKind.i64 0)), type := 0, pos := "writer.go:73", after := #[{ on := 6, ground := Go.Ground.data }], guard := none }) (v := .pointer (some ⟨b, o, none⟩)) rfl rfl (waits_of (by kernel_rfl)) (by kernel_rfl) (by kernel_rfl) (by kernel_rfl) (fun _ _ _ h => hQp _ _ _ _ _ h) (Or.inl ⟨by rfl, fun W hS => ?_⟩) (kpw_of hB G0.out) ?_
  · go_simp
  simp only [Act.put, List.setIfInBounds_toArray, List.set_cons_zero, List.set_cons_succ]
  refine wpAnyJ_take (i := 8) (oi := { dst := some 114, op := Go.Op.load 25 (Go.Operand.tmp 113), type := 25, pos := "writer.go:73", after := #[{ on := 7, ground := Go.Ground.data }], guard := none }) (v := .agg #[.int .i64 kx, .string (tx cx), .int .i64 lox, .int .i64 hix, .slice wax wnx wcx, .slice kax knx kcx]) rfl rfl (waits_of (by kernel_rfl)) (by kernel_rfl) (by kernel_rfl) (by kernel_rfl) (fun _ _ _ h => hQp _ _ _ _ _ h) (Or.inl ⟨by rfl, fun W hS => ?_⟩) (kpw_of hB G0.out) ?_
  · have zu0 := H_u0.out W hS; have zu1 := H_u1.out W hS; have zu2 := H_u2.out W hS; have zu3 := H_u3.out W hS; have zu4 := H_u4.out W hS; have zu5 := H_u5.out W hS; go_simp
  simp only [Act.put, List.setIfInBounds_toArray, List.set_cons_zero, List.set_cons_succ]
  refine wpAnyJ_ready (rs := [9]) (by kernel_rfl) (by simp) ?_
  refine AllJ.cons (o := { dst := some 115, op := Go.Op.call { callee := Go.Callee.value (Go.Operand.func 75), args := #[Go.Operand.tmp 114], argTypes := #[25] }, type := 4, pos := "writer.go:73", after := #[{ on := 8, ground := Go.Ground.data }], guard := none }) rfl (fun K hK => ?_) AllJ.nil
  have kk := H_hI.out V0 G0.out
  go_simp
  go_at_call 75
  refine kk.mono ?_
  rintro e1 W1 ⟨rfl, hW⟩
  have G1 : Hid (Below A.heap.size A W1) := bt G0.out hW
  clear hW kk
  refine hK.out _ _ (fun _ => (kpw_of hB G1.out)) ?_
  clear hK K
  try simp only [Act.put, List.setIfInBounds_toArray, List.set_cons_zero, List.set_cons_succ]
  refine wpAnyJ_take (i := 10) (oi := { dst := some 116, op := Go.Op.move (Go.Operand.tmp 115), type := 4, pos := "writer.go:73", after := #[{ on := 9, ground := Go.Ground.data }, { on := 9, ground := Go.Ground.chain }], guard := none }) (v := .bool true) rfl rfl (waits_of (by kernel_rfl)) (by kernel_rfl) (by kernel_rfl) (by kernel_rfl) (fun _ _ _ h => hQp _ _ _ _ _ h) (Or.inl ⟨by rfl, fun W hS => ?_⟩) (kpw_of hB G1.out) ?_
  · go_simp
  simp only [Act.put, List.setIfInBounds_toArray, List.set_cons_zero, List.set_cons_succ]
  refine wpAnyJ_take (i := 11) (oi := { dst := some 117, op := Go.Op.fieldAddr 25 (Go.Operand.tmp 3) 5, type := 0, pos := "writer.go:73", after := #[{ on := 10, ground := Go.Ground.guard }], guard := some (10, false) }) (v := undef) rfl rfl (waits_of (by kernel_rfl)) (by kernel_rfl) (by kernel_rfl) (by kernel_rfl) (fun _ _ _ h => hQp _ _ _ _ _ h) (Or.inr ⟨by rfl, rfl⟩) (kpw_of hB G1.out) ?_
  simp only [Act.put, List.setIfInBounds_toArray, List.set_cons_zero, List.set_cons_succ]
  refine wpAnyJ_take (i := 12) (oi := { dst := some 118, op := Go.Op.load 23 (Go.Operand.tmp 117), type := 23, pos := "writer.go:73", after := #[{ on := 11, ground := Go.Ground.data }, { on := 10, ground := Go.Ground.guard }], guard := some (10, false) }) (v := undef) rfl rfl (waits_of (by kernel_rfl)) (by kernel_rfl) (by kernel_rfl) (by kernel_rfl) (fun _ _ _ h => hQp _ _ _ _ _ h) (Or.inr ⟨by rfl, rfl⟩) (kpw_of hB G1.out) ?_
  simp only [Act.put, List.setIfInBounds_toArray, List.set_cons_zero, List.set_cons_succ]
  refine wpAnyJ_take (i := 13) (oi := { dst := some 119, op := Go.Op.indexAddr 23 (Go.Operand.tmp 118) (Go.Operand.const (Go.Value.int Go.IntKind.i64 0)), type := 0, pos := "writer.go:73", after := #[{ on := 12, ground := Go.Ground.data }, { on := 10, ground := Go.Ground.guard }], guard := some (10, false) }) (v := undef) rfl rfl (waits_of (by kernel_rfl)) (by kernel_rfl) (by kernel_rfl) (by kernel_rfl) (fun _ _ _ h => hQp _ _ _ _ _ h) (Or.inr ⟨by rfl, rfl⟩) (kpw_of hB G1.out) ?_
  simp only [Act.put, List.setIfInBounds_toArray, List.set_cons_zero, List.set_cons_succ]
  refine wpAnyJ_take (i := 14) (oi := { dst := some 120, op := Go.Op.fieldAddr 25 (Go.Operand.tmp 119) 0, type := 0, pos := "writer.go:73", after := #[{ on := 13, ground := Go.Ground.data }, { on := 10, ground := Go.Ground.guard }], guard := some (10, false) }) (v := undef) rfl rfl (waits_of (by kernel_rfl)) (by kernel_rfl) (by kernel_rfl) (by kernel_rfl) (fun _ _ _ h => hQp _ _ _ _ _ h) (Or.inr ⟨by rfl, rfl⟩) (kpw_of hB G1.out) ?_
  simp only [Act.put, List.setIfInBounds_toArray, List.set_cons_zero, List.set_cons_succ]
  refine wpAnyJ_take (i := 15) (oi := { dst := some 121, op := Go.Op.load 3 (Go.Operand.tmp 120), type := 3, pos := "writer.go:73", after := #[{ on := 14, ground := Go.Ground.data }, { on := 10, ground := Go.Ground.guard }], guard := some (10, false) }) (v := undef) rfl rfl (waits_of (by kernel_rfl)) (by kernel_rfl) (by kernel_rfl) (by kernel_rfl) (fun _ _ _ h => hQp _ _ _ _ _ h) (Or.inr ⟨by rfl, rfl⟩) (kpw_of hB G1.out) ?_
  simp only [Act.put, List.setIfInBounds_toArray, List.set_cons_zero, List.set_cons_succ]
  refine wpAnyJ_take (i := 16) (oi := { dst := some 122, op := Go.Op.binOp Go.BinOp.eql 3 (Go.Operand.tmp 121) (Go.Operand.const (Go.Value.int Go.IntKind.i64 6)) 3, type := 4, pos := "writer.go:73", after := #[{ on := 15, ground := Go.Ground.data }, { on := 10, ground := Go.Ground.guard }], guard := some (10, false) }) (v := undef) rfl rfl (waits_of (by kernel_rfl)) (by kernel_rfl) (by kernel_rfl) (by kernel_rfl) (fun _ _ _ h => hQp _ _ _ _ _ h) (Or.inr ⟨by rfl, rfl⟩) (kpw_of hB G1.out) ?_
  simp only [Act.put, List.setIfInBounds_toArray, List.set_cons_zero, List.set_cons_succ]
  refine wpAnyJ_take (i := 17) (oi := { dst := some 123, op := Go.Op.pick (Go.Operand.tmp 116) (Go.Operand.const (Go.Value.bool true)) (Go.Operand.tmp 122), type := 4, pos := "writer.go:73", after := #[{ on := 10, ground := Go.Ground.data }, { on := 16, ground := Go.Ground.data }], guard := none }) (v := .bool true) rfl rfl (waits_of (by kernel_rfl)) (by kernel_rfl) (by kernel_rfl) (by kernel_rfl) (fun _ _ _ h => hQp _ _ _ _ _ h) (Or.inl ⟨by rfl, fun W hS => ?_⟩) (kpw_of hB G1.out) ?_
  · go_simp
  simp only [Act.put, List.setIfInBounds_toArray, List.set_cons_zero, List.set_cons_succ]
  refine wpAnyJ_ready (rs := [18]) (by kernel_rfl) (by simp) ?_
  refine AllJ.cons (o := { dst := some 124, op := Go.Op.call { callee := Go.Callee.value (Go.Operand.func 74), args := #[Go.Operand.tmp 106, Go.Operand.tmp 110, Go.Operand.tmp 123], argTypes := #[115, 25, 4] }, type := 0, pos := "writer.go:73", after := #[{ on := 0, ground := Go.Ground.data }, { on := 4, ground := Go.Ground.data }, { on := 17, ground := Go.Ground.data }, { on := 10, ground := Go.Ground.chain }], guard := none }) rfl (fun K hK => ?_) AllJ.nil
  have kk := H_hP.out W1 G1.out
  go_simp
  go_at_call 74
  refine kk.mono ?_
  rintro e1 W9 (⟨rfl, hw9, hk9⟩ | ⟨rfl, hn9, hb9⟩)
  · have S9 : Kpw B R A W9 := (kpw_of hB G1.out).trans hk9
    refine hK.out _ _ (fun _ => S9) ?_
    clear hK K kk
    try simp only [Act.put, List.setIfInBounds_toArray, List.set_cons_zero, List.set_cons_succ]
    exact wpAnyJ_done (by kernel_rfl) (HEND.out W9 hw9 S9) _
  · exact HENP.out _ _ rfl hn9 ((G1.out.mono hB).trans hb9)
set_option maxRecDepth 100000 in
set_option maxHeartbeats 1000000 in
theorem q25f {Q : Exit → Act → World → Prop} (hQp : ∀ c a d v w, Q (.panic c) (Act.put a d v) w → Q (.panic c) a w) (t1 t2 t4 t5 t6 t7 t8 t9 t10 t11 t12 t13 t14 t15 t16 t17 t18 t19 t20 t21 t22 t23 t24 t25 t26 t27 t28 t29 t30 t31 t32 t33 t34 t35 t36 t37 t38 t39 t40 t41 t42 t43 t44 t45 t46 t47 t48 t49 t50 t51 t52 t53 t54 t55 t56 t57 t58 t59 t60 t61 t62 t63 t64 t65 t66 t67 t68 t69 t70 t71 t72 t73 t74 t75 t76 t77 t78 t79 t80 t81 t82 t83 t84 t85 t86 t87 t88 t89 t90 t91 t92 t93 t94 t95 t96 t97 t98 t99 t100 t101 t102 t103 t104 t105 t106 t107 t108 t109 t110 t111 t112 t113 t114 t115 t116 t117 t118 t119 t120 t121 t122 t123 t124 t125 t126 t127 t128 t129 t130 t131 t132 t133 t134 t135 t136 t137 t138 t139 t140 t141 t142 t143 t144 t145 t146 t147 : Value) (A : World) (B R : Nat) (hB : B ≤ A.heap.size) (X b o kc : Nat) (kx : Int) (cx : By) (lox hix : Int) (wax : Option Addr) (wnx wcx : Nat) (kax : Option Addr) (knx kcx : Nat) (L : List By) (b6 : Bool) (h6 : (kx == 6) = b6)
    (hk : ∀ W : World, Kpw B R A W → W.cell? ⟨X, 5, none⟩ = some (.slice (some ⟨b, o, none⟩) 1 kc))
    (u0 : ∀ W : World, Kpw B R A W → W.cell? ⟨b, o, none⟩ = some (.int .i64 kx))
    (u1 : ∀ W : World, Kpw B R A W → W.cell? ⟨b, o + 1, none⟩ = some (.string (tx cx)))
    (u2 : ∀ W : World, Kpw B R A W → W.cell? ⟨b, o + 2, none⟩ = some (.int .i64 lox))
    (u3 : ∀ W : World, Kpw B R A W → W.cell? ⟨b, o + 3, none⟩ = some (.int .i64 hix))
    (u4 : ∀ W : World, Kpw B R A W → W.cell? ⟨b, o + 4, none⟩ = some (.slice wax wnx wcx))
    (u5 : ∀ W : World, Kpw B R A W → W.cell? ⟨b, o + 5, none⟩ = some (.slice kax knx kcx))
    (hI : ∀ W : World, Below A.heap.size A W → Calls Tryz.prog 75 #[.agg #[.int .i64 kx, .string (tx cx), .int .i64 lox, .int .i64 hix, .slice wax wnx wcx, .slice kax knx kcx]] W fun e W' => e = .returned (.bool false) ∧ Below W.heap.size W W')
    (hP : ∀ W : World, Below A.heap.size A W → Calls Tryz.prog 74 #[.pointer (some ⟨R, 0, none⟩), .agg #[.int .i64 kx, .string (tx cx), .int .i64 lox, .int .i64 hix, .slice wax wnx wcx, .slice kax knx kcx], .bool b6] W (WgP B R W L))
    (hEnd : ∀ W : World, Wg B R L W → Kpw B R A W → Q .normal { tmps := #[.pointer (some ⟨R, 0, none⟩), t1, t2, .pointer (some ⟨X, 0, none⟩), t4, t5, t6, t7, t8, t9, t10, t11, t12, t13, t14, t15, t16, t17, t18, t19, t20, t21, t22, t23, t24, t25, t26, t27, t28, t29, t30, t31, t32, t33, t34, t35, t36, t37, t38, t39, t40, t41, t42, t43, t44, t45, t46, t47, t48, t49, t50, t51, t52, t53, t54, t55, t56, t57, t58, t59, t60, t61, t62, t63, t64, t65, t66, t67, t68, t69, t70, t71, t72, t73, t74, t75, t76, t77, t78, t79, t80, t81, t82, t83, t84, t85, t86, t87, t88, t89, t90, t91, t92, t93, t94, t95, t96, t97, t98, t99, t100, t101, t102, t103, t104, t105, .pointer (some ⟨R, 0, none⟩), .pointer (some ⟨X, 5, none⟩), .slice (some ⟨b, o, none⟩) 1 kc, .pointer (some ⟨b, o, none⟩), .agg #[.int .i64 kx, .string (tx cx), .int .i64 lox, .int .i64 hix, .slice wax wnx wcx, .slice kax knx kcx], .pointer (some ⟨X, 5, none⟩), .slice (some ⟨b, o, none⟩) 1 kc, .pointer (some ⟨b, o, none⟩), .agg #[.int .i64 kx, .string (tx cx), .int .i64 lox, .int .i64 hix, .slice wax wnx wcx, .slice kax knx kcx], .bool false, .bool false, .pointer (some ⟨X, 5, none⟩), .slice (some ⟨b, o, none⟩) 1 kc, .pointer (some ⟨b, o, none⟩), .pointer (some ⟨b, o, none⟩), .int .i64 kx, .bool b6, .bool b6, .tuple #[], t125, t126, t127, t128, t129, t130, t131, t132, t133, t134, t135, t136, t137, t138, t139, t140, t141, t142, t143, t144, t145, t146, t147], defers := [] } W) (hEnP : ∀ (a : Act) (W : World), a.defers = [] → ¬ (wrs [] L).length ≤ 65536 → Below B A W → Q (.panic (chn 4 0)) a W) :
    (Code.region 25 #[{ dst := some 106, op := Go.Op.move (Go.Operand.tmp 0), type := 115, pos := "writer.go:73", after := #[], guard := none }, { dst := some 107, op := Go.Op.fieldAddr 25 (Go.Operand.tmp 3) 5, type := 0, pos := "writer.go:73", after := #[], guard := none }, { dst := some 108, op := Go.Op.load 23 (Go.Operand.tmp 107), type := 23, pos := "writer.go:73", after := #[{ on := 1, ground := Go.Ground.data }], guard := none }, { dst := some 109, op := Go.Op.indexAddr 23 (Go.Operand.tmp 108) (Go.Operand.const (Go.Value.int Go.IntKind.i64 0)), type := 0, pos := "writer.go:73", after := #[{ on := 2, ground := Go.Ground.data }], guard := none }, { dst := some 110, op := Go.Op.load 25 (Go.Operand.tmp 109), type := 25, pos := "writer.go:73", after := #[{ on := 3, ground := Go.Ground.data }], guard := none }, { dst := some 111, op := Go.Op.fieldAddr 25 (Go.Operand.tmp 3) 5, type := 0, pos := "writer.go:73", after := #[], guard := none }, { dst := some 112, op := Go.Op.load 23 (Go.Operand.tmp 111), type := 23, pos := "writer.go:73", after := #[{ on := 5, ground := Go.Ground.data }], guard := none }, { dst := some 113, op := Go.Op.indexAddr 23 (Go.Operand.tmp 112) (Go.Operand.const (Go.Value.int Go.IntKind.i64 0)), type := 0, pos := "writer.go:73", after := #[{ on := 6, ground := Go.Ground.data }], guard := none }, { dst := some 114, op := Go.Op.load 25 (Go.Operand.tmp 113), type := 25, pos := "writer.go:73", after := #[{ on := 7, ground := Go.Ground.data }], guard := none }, { dst := some 115, op := Go.Op.call { callee := Go.Callee.value (Go.Operand.func 75), args := #[Go.Operand.tmp 114], argTypes := #[25] }, type := 4, pos := "writer.go:73", after := #[{ on := 8, ground := Go.Ground.data }], guard := none }, { dst := some 116, op := Go.Op.move (Go.Operand.tmp 115), type := 4, pos := "writer.go:73", after := #[{ on := 9, ground := Go.Ground.data }, { on := 9, ground := Go.Ground.chain }], guard := none }, { dst := some 117, op := Go.Op.fieldAddr 25 (Go.Operand.tmp 3) 5, type := 0, pos := "writer.go:73", after := #[{ on := 10, ground := Go.Ground.guard }], guard := some (10, false) }, { dst := some 118, op := Go.Op.load 23 (Go.Operand.tmp 117), type := 23, pos := "writer.go:73", after := #[{ on := 11, ground := Go.Ground.data }, { on := 10, ground := Go.Ground.guard }], guard := some (10, false) }, { dst := some 119, op := Go.Op.indexAddr 23 (Go.Operand.tmp 118) (Go.Operand.const (Go.Value.int Go.IntKind.i64 0)), type := 0, pos := "writer.go:73", after := #[{ on := 12, ground := Go.Ground.data }, { on := 10, ground := Go.Ground.guard }], guard := some (10, false) }, { dst := some 120, op := Go.Op.fieldAddr 25 (Go.Operand.tmp 119) 0, type := 0, pos := "writer.go:73", after := #[{ on := 13, ground := Go.Ground.data }, { on := 10, ground := Go.Ground.guard }], guard := some (10, false) }, { dst := some 121, op := Go.Op.load 3 (Go.Operand.tmp 120), type := 3, pos := "writer.go:73", after := #[{ on := 14, ground := Go.Ground.data }, { on := 10, ground := Go.Ground.guard }], guard := some (10, false) }, { dst := some 122, op := Go.Op.binOp Go.BinOp.eql 3 (Go.Operand.tmp 121) (Go.Operand.const (Go.Value.int Go.IntKind.i64 6)) 3, type := 4, pos := "writer.go:73", after := #[{ on := 15, ground := Go.Ground.data }, { on := 10, ground := Go.Ground.guard }], guard := some (10, false) }, { dst := some 123, op := Go.Op.pick (Go.Operand.tmp 116) (Go.Operand.const (Go.Value.bool true)) (Go.Operand.tmp 122), type := 4, pos := "writer.go:73", after := #[{ on := 10, ground := Go.Ground.data }, { on := 16, ground := Go.Ground.data }], guard := none }, { dst := some 124, op := Go.Op.call { callee := Go.Callee.value (Go.Operand.func 74), args := #[Go.Operand.tmp 106, Go.Operand.tmp 110, Go.Operand.tmp 123], argTypes := #[115, 25, 4] }, type := 0, pos := "writer.go:73", after := #[{ on := 0, ground := Go.Ground.data }, { on := 4, ground := Go.Ground.data }, { on := 17, ground := Go.Ground.data }, { on := 10, ground := Go.Ground.chain }], guard := none }] true).wp Tryz.prog Q { tmps := #[.pointer (some ⟨R, 0, none⟩), t1, t2, .pointer (some ⟨X, 0, none⟩), t4, t5, t6, t7, t8, t9, t10, t11, t12, t13, t14, t15, t16, t17, t18, t19, t20, t21, t22, t23, t24, t25, t26, t27, t28, t29, t30, t31, t32, t33, t34, t35, t36, t37, t38, t39, t40, t41, t42, t43, t44, t45, t46, t47, t48, t49, t50, t51, t52, t53, t54, t55, t56, t57, t58, t59, t60, t61, t62, t63, t64, t65, t66, t67, t68, t69, t70, t71, t72, t73, t74, t75, t76, t77, t78, t79, t80, t81, t82, t83, t84, t85, t86, t87, t88, t89, t90, t91, t92, t93, t94, t95, t96, t97, t98, t99, t100, t101, t102, t103, t104, t105, t106, t107, t108, t109, t110, t111, t112, t113, t114, t115, t116, t117, t118, t119, t120, t121, t122, t123, t124, t125, t126, t127, t128, t129, t130, t131, t132, t133, t134, t135, t136, t137, t138, t139, t140, t141, t142, t143, t144, t145, t146, t147], defers := [] } A := by
  have HEND : Hid (∀ W : World, Wg B R L W → Kpw B R A W → Q .normal { tmps := #[.pointer (some ⟨R, 0, none⟩), t1, t2, .pointer (some ⟨X, 0, none⟩), t4, t5, t6, t7, t8, t9, t10, t11, t12, t13, t14, t15, t16, t17, t18, t19, t20, t21, t22, t23, t24, t25, t26, t27, t28, t29, t30, t31, t32, t33, t34, t35, t36, t37, t38, t39, t40, t41, t42, t43, t44, t45, t46, t47, t48, t49, t50, t51, t52, t53, t54, t55, t56, t57, t58, t59, t60, t61, t62, t63, t64, t65, t66, t67, t68, t69, t70, t71, t72, t73, t74, t75, t76, t77, t78, t79, t80, t81, t82, t83, t84, t85, t86, t87, t88, t89, t90, t91, t92, t93, t94, t95, t96, t97, t98, t99, t100, t101, t102, t103, t104, t105, .pointer (some ⟨R, 0, none⟩), .pointer (some ⟨X, 5, none⟩), .slice (some ⟨b, o, none⟩) 1 kc, .pointer (some ⟨b, o, none⟩), .agg #[.int .i64 kx, .string (tx cx), .int .i64 lox, .int .i64 hix, .slice wax wnx wcx, .slice kax knx kcx], .pointer (some ⟨X, 5, none⟩), .slice (some ⟨b, o, none⟩) 1 kc, .pointer (some ⟨b, o, none⟩), .agg #[.int .i64 kx, .string (tx cx), .int .i64 lox, .int .i64 hix, .slice wax wnx wcx, .slice kax knx kcx], .bool false, .bool false, .pointer (some ⟨X, 5, none⟩), .slice (some ⟨b, o, none⟩) 1 kc, .pointer (some ⟨b, o, none⟩), .pointer (some ⟨b, o, none⟩), .int .i64 kx, .bool b6, .bool b6, .tuple #[], t125, t126, t127, t128, t129, t130, t131, t132, t133, t134, t135, t136, t137, t138, t139, t140, t141, t142, t143, t144, t145, t146, t147], defers := [] } W) := hEnd
  have HENP : Hid (∀ (a : Act) (W : World), a.defers = [] → ¬ (wrs [] L).length ≤ 65536 → Below B A W → Q (.panic (chn 4 0)) a W) := hEnP
  have H_hk : Hid (∀ W : World, Kpw B R A W → W.cell? ⟨X, 5, none⟩ = some (.slice (some ⟨b, o, none⟩) 1 kc)) := hk
  have H_u0 : Hid (∀ W : World, Kpw B R A W → W.cell? ⟨b, o, none⟩ = some (.int .i64 kx)) := u0
  have H_u1 : Hid (∀ W : World, Kpw B R A W → W.cell? ⟨b, o + 1, none⟩ = some (.string (tx cx))) := u1
  have H_u2 : Hid (∀ W : World, Kpw B R A W → W.cell? ⟨b, o + 2, none⟩ = some (.int .i64 lox)) := u2
  have H_u3 : Hid (∀ W : World, Kpw B R A W → W.cell? ⟨b, o + 3, none⟩ = some (.int .i64 hix)) := u3
  have H_u4 : Hid (∀ W : World, Kpw B R A W → W.cell? ⟨b, o + 4, none⟩ = some (.slice wax wnx wcx)) := u4
  have H_u5 : Hid (∀ W : World, Kpw B R A W → W.cell? ⟨b, o + 5, none⟩ = some (.slice kax knx kcx)) := u5
  have H_hI : Hid (∀ W : World, Below A.heap.size A W → Calls Tryz.prog 75 #[.agg #[.int .i64 kx, .string (tx cx), .int .i64 lox, .int .i64 hix, .slice wax wnx wcx, .slice kax knx kcx]] W fun e W' => e = .returned (.bool false) ∧ Below W.heap.size W W') := hI
  have H_hP : Hid (∀ W : World, Below A.heap.size A W → Calls Tryz.prog 74 #[.pointer (some ⟨R, 0, none⟩), .agg #[.int .i64 kx, .string (tx cx), .int .i64 lox, .int .i64 hix, .slice wax wnx wcx, .slice kax knx kcx], .bool b6] W (WgP B R W L)) := hP
  have G0 : Hid (Below A.heap.size A A.drew) := (Below.refl _ _).drew
  clear hEnd hEnP hk u0 u1 u2 u3 u4 u5 hI hP
  refine wp_region_any (by kernel_rfl) ?_
  change wpAny _ _ _ _ _ _ _ (World.drew _)
  obtain ⟨V0, hV0⟩ : ∃ V0, A.drew = V0 := ⟨_, rfl⟩
  rw [hV0] at G0 ⊢
  clear hV0
  refine wpAny_of_J (S := fun W => Kpw B R A W) (J := fun _ => true) _ _ _ _ ?_
  refine wpAnyJ_take (i := 0) (oi := { dst := some 106, op := Go.Op.move (Go.Operand.tmp 0), type := 115, pos := "writer.go:73", after := #[], guard := none }) (v := .pointer (some ⟨R, 0, none⟩)) rfl rfl (waits_of (by kernel_rfl)) (by kernel_rfl) (by kernel_rfl) (by kernel_rfl) (fun _ _ _ h => hQp _ _ _ _ _ h) (Or.inl ⟨by rfl, fun W hS => ?_⟩) (kpw_of hB G0.out) ?_
  · go_simp
  simp only [Act.put, List.setIfInBounds_toArray, List.set_cons_zero, List.set_cons_succ]
  refine wpAnyJ_take (i := 1) (oi := { dst := some 107, op := Go.Op.fieldAddr 25 (Go.Operand.tmp 3) 5, type := 0, pos := "writer.go:73", after := #[], guard := none }) (v := .pointer (some ⟨X, 5, none⟩)) rfl rfl (waits_of (by kernel_rfl)) (by kernel_rfl) (by kernel_rfl) (by kernel_rfl) (fun _ _ _ h => hQp _ _ _ _ _ h) (Or.inl ⟨by rfl, fun W hS => ?_⟩) (kpw_of hB G0.out) ?_
  · go_simp
  simp only [Act.put, List.setIfInBounds_toArray, List.set_cons_zero, List.set_cons_succ]
  refine wpAnyJ_take (i := 2) (oi := { dst := some 108, op := Go.Op.load 23 (Go.Operand.tmp 107), type := 23, pos := "writer.go:73", after := #[{ on := 1, ground := Go.Ground.data }], guard := none }) (v := .slice (some ⟨b, o, none⟩) 1 kc) rfl rfl (waits_of (by kernel_rfl)) (by kernel_rfl) (by kernel_rfl) (by kernel_rfl) (fun _ _ _ h => hQp _ _ _ _ _ h) (Or.inl ⟨by rfl, fun W hS => ?_⟩) (kpw_of hB G0.out) ?_
  · have z := H_hk.out W hS; go_simp
  simp only [Act.put, List.setIfInBounds_toArray, List.set_cons_zero, List.set_cons_succ]
  refine wpAnyJ_take (i := 3) (oi := { dst := some 109, op := Go.Op.indexAddr 23 (Go.Operand.tmp 108) (Go.Operand.const (Go.Value.int Go.IntKind.i64 0)), type := 0, pos := "writer.go:73", after := #[{ on := 2, ground := Go.Ground.data }], guard := none }) (v := .pointer (some ⟨b, o, none⟩)) rfl rfl (waits_of (by kernel_rfl)) (by kernel_rfl) (by kernel_rfl) (by kernel_rfl) (fun _ _ _ h => hQp _ _ _ _ _ h) (Or.inl ⟨by rfl, fun W hS => ?_⟩) (kpw_of hB G0.out) ?_
  · go_simp
  simp only [Act.put, List.setIfInBounds_toArray, List.set_cons_zero, List.set_cons_succ]
  refine wpAnyJ_take (i := 4) (oi := { dst := some 110, op := Go.Op.load 25 (Go.Operand.tmp 109), type := 25, pos := "writer.go:73", after := #[{ on := 3, ground := Go.Ground.data }], guard := none }) (v := .agg #[.int .i64 kx, .string (tx cx), .int .i64 lox, .int .i64 hix, .slice wax wnx wcx, .slice kax knx kcx]) rfl rfl (waits_of (by kernel_rfl)) (by kernel_rfl) (by kernel_rfl) (by kernel_rfl) (fun _ _ _ h => hQp _ _ _ _ _ h) (Or.inl ⟨by rfl, fun W hS => ?_⟩) (kpw_of hB G0.out) ?_
  · have zu0 := H_u0.out W hS; have zu1 := H_u1.out W hS; have zu2 := H_u2.out W hS; have zu3 := H_u3.out W hS; have zu4 := H_u4.out W hS; have zu5 := H_u5.out W hS; go_simp
  simp only [Act.put, List.setIfInBounds_toArray, List.set_cons_zero, List.set_cons_succ]
  refine wpAnyJ_take (i := 5) (oi := { dst := some 111, op := Go.Op.fieldAddr 25 (Go.Operand.tmp 3) 5, type := 0, pos := "writer.go:73", after := #[], guard := none }) (v := .pointer (some ⟨X, 5, none⟩)) rfl rfl (waits_of (by kernel_rfl)) (by kernel_rfl) (by kernel_rfl) (by kernel_rfl) (fun _ _ _ h => hQp _ _ _ _ _ h) (Or.inl ⟨by rfl, fun W hS => ?_⟩) (kpw_of hB G0.out) ?_
  · go_simp
  simp only [Act.put, List.setIfInBounds_toArray, List.set_cons_zero, List.set_cons_succ]
  refine wpAnyJ_take (i := 6) (oi := { dst := some 112, op := Go.Op.load 23 (Go.Operand.tmp 111), type := 23, pos := "writer.go:73", after := #[{ on := 5, ground := Go.Ground.data }], guard := none }) (v := .slice (some ⟨b, o, none⟩) 1 kc) rfl rfl (waits_of (by kernel_rfl)) (by kernel_rfl) (by kernel_rfl) (by kernel_rfl) (fun _ _ _ h => hQp _ _ _ _ _ h) (Or.inl ⟨by rfl, fun W hS => ?_⟩) (kpw_of hB G0.out) ?_
  · have z := H_hk.out W hS; go_simp
  simp only [Act.put, List.setIfInBounds_toArray, List.set_cons_zero, List.set_cons_succ]
  refine wpAnyJ_take (i := 7) (oi := { dst := some 113, op := Go.Op.indexAddr 23 (Go.Operand.tmp 112) (Go.Operand.const (Go.Value.int Go.IntKind.i64 0)), type := 0, pos := "writer.go:73", after := #[{ on := 6, ground := Go.Ground.data }], guard := none }) (v := .pointer (some ⟨b, o, none⟩)) rfl rfl (waits_of (by kernel_rfl)) (by kernel_rfl) (by kernel_rfl) (by kernel_rfl) (fun _ _ _ h => hQp _ _ _ _ _ h) (Or.inl ⟨by rfl, fun W hS => ?_⟩) (kpw_of hB G0.out) ?_
  · go_simp
  simp only [Act.put, List.setIfInBounds_toArray, List.set_cons_zero, List.set_cons_succ]
  refine wpAnyJ_take (i := 8) (oi := { dst := some 114, op := Go.Op.load 25 (Go.Operand.tmp 113), type := 25, pos := "writer.go:73", after := #[{ on := 7, ground := Go.Ground.data }], guard := none }) (v := .agg #[.int .i64 kx, .string (tx cx), .int .i64 lox, .int .i64 hix, .slice wax wnx wcx, .slice kax knx kcx]) rfl rfl (waits_of (by kernel_rfl)) (by kernel_rfl) (by kernel_rfl) (by kernel_rfl) (fun _ _ _ h => hQp _ _ _ _ _ h) (Or.inl ⟨by rfl, fun W hS => ?_⟩) (kpw_of hB G0.out) ?_
  · have zu0 := H_u0.out W hS; have zu1 := H_u1.out W hS; have zu2 := H_u2.out W hS; have zu3 := H_u3.out W hS; have zu4 := H_u4.out W hS; have zu5 := H_u5.out W hS; go_simp
  simp only [Act.put, List.setIfInBounds_toArray, List.set_cons_zero, List.set_cons_succ]
  refine wpAnyJ_ready (rs := [9]) (by kernel_rfl) (by simp) ?_
  refine AllJ.cons (o := { dst := some 115, op := Go.Op.call { callee := Go.Callee.value (Go.Operand.func 75), args := #[Go.Operand.tmp 114], argTypes := #[25] }, type := 4, pos := "writer.go:73", after := #[{ on := 8, ground := Go.Ground.data }], guard := none }) rfl (fun K hK => ?_) AllJ.nil
  have kk := H_hI.out V0 G0.out
  go_simp
  go_at_call 75
  refine kk.mono ?_
  rintro e1 W1 ⟨rfl, hW⟩
  have G1 : Hid (Below A.heap.size A W1) := bt G0.out hW
  clear hW kk
  refine hK.out _ _ (fun _ => (kpw_of hB G1.out)) ?_
  clear hK K
  try simp only [Act.put, List.setIfInBounds_toArray, List.set_cons_zero, List.set_cons_succ]
  refine wpAnyJ_take (i := 10) (oi := { dst := some 116, op := Go.Op.move (Go.Operand.tmp 115), type := 4, pos := "writer.go:73", after := #[{ on := 9, ground := Go.Ground.data }, { on := 9, ground := Go.Ground.chain }], guard := none }) (v := .bool false) rfl rfl (waits_of (by kernel_rfl)) (by kernel_rfl) (by kernel_rfl) (by kernel_rfl) (fun _ _ _ h => hQp _ _ _ _ _ h) (Or.inl ⟨by rfl, fun W hS => ?_⟩) (kpw_of hB G1.out) ?_
  · go_simp
  simp only [Act.put, List.setIfInBounds_toArray, List.set_cons_zero, List.set_cons_succ]
  refine wpAnyJ_take (i := 11) (oi := { dst := some 117, op := Go.Op.fieldAddr 25 (Go.Operand.tmp 3) 5, type := 0, pos := "writer.go:73", after := #[{ on := 10, ground := Go.Ground.guard }], guard := some (10, false) }) (v := .pointer (some ⟨X, 5, none⟩)) rfl rfl (waits_of (by kernel_rfl)) (by kernel_rfl) (by kernel_rfl) (by kernel_rfl) (fun _ _ _ h => hQp _ _ _ _ _ h) (Or.inl ⟨by rfl, fun W hS => ?_⟩) (kpw_of hB G1.out) ?_
  · go_simp
  simp only [Act.put, List.setIfInBounds_toArray, List.set_cons_zero, List.set_cons_succ]
  refine wpAnyJ_take (i := 12) (oi := { dst := some 118, op := Go.Op.load 23 (Go.Operand.tmp 117), type := 23, pos := "writer.go:73", after := #[{ on := 11, ground := Go.Ground.data }, { on := 10, ground := Go.Ground.guard }], guard := some (10, false) }) (v := .slice (some ⟨b, o, none⟩) 1 kc) rfl rfl (waits_of (by kernel_rfl)) (by kernel_rfl) (by kernel_rfl) (by kernel_rfl) (fun _ _ _ h => hQp _ _ _ _ _ h) (Or.inl ⟨by rfl, fun W hS => ?_⟩) (kpw_of hB G1.out) ?_
  · have z := H_hk.out W hS; go_simp
  simp only [Act.put, List.setIfInBounds_toArray, List.set_cons_zero, List.set_cons_succ]
  refine wpAnyJ_take (i := 13) (oi := { dst := some 119, op := Go.Op.indexAddr 23 (Go.Operand.tmp 118) (Go.Operand.const (Go.Value.int Go.IntKind.i64 0)), type := 0, pos := "writer.go:73", after := #[{ on := 12, ground := Go.Ground.data }, { on := 10, ground := Go.Ground.guard }], guard := some (10, false) }) (v := .pointer (some ⟨b, o, none⟩)) rfl rfl (waits_of (by kernel_rfl)) (by kernel_rfl) (by kernel_rfl) (by kernel_rfl) (fun _ _ _ h => hQp _ _ _ _ _ h) (Or.inl ⟨by rfl, fun W hS => ?_⟩) (kpw_of hB G1.out) ?_
  · go_simp
  simp only [Act.put, List.setIfInBounds_toArray, List.set_cons_zero, List.set_cons_succ]
  refine wpAnyJ_take (i := 14) (oi := { dst := some 120, op := Go.Op.fieldAddr 25 (Go.Operand.tmp 119) 0, type := 0, pos := "writer.go:73", after := #[{ on := 13, ground := Go.Ground.data }, { on := 10, ground := Go.Ground.guard }], guard := some (10, false) }) (v := .pointer (some ⟨b, o, none⟩)) rfl rfl (waits_of (by kernel_rfl)) (by kernel_rfl) (by kernel_rfl) (by kernel_rfl) (fun _ _ _ h => hQp _ _ _ _ _ h) (Or.inl ⟨by rfl, fun W hS => ?_⟩) (kpw_of hB G1.out) ?_
  · go_simp
  simp only [Act.put, List.setIfInBounds_toArray, List.set_cons_zero, List.set_cons_succ]
  refine wpAnyJ_take (i := 15) (oi := { dst := some 121, op := Go.Op.load 3 (Go.Operand.tmp 120), type := 3, pos := "writer.go:73", after := #[{ on := 14, ground := Go.Ground.data }, { on := 10, ground := Go.Ground.guard }], guard := some (10, false) }) (v := .int .i64 kx) rfl rfl (waits_of (by kernel_rfl)) (by kernel_rfl) (by kernel_rfl) (by kernel_rfl) (fun _ _ _ h => hQp _ _ _ _ _ h) (Or.inl ⟨by rfl, fun W hS => ?_⟩) (kpw_of hB G1.out) ?_
  · have z := H_u0.out W hS; go_simp
  simp only [Act.put, List.setIfInBounds_toArray, List.set_cons_zero, List.set_cons_succ]
  refine wpAnyJ_take (i := 16) (oi := { dst := some 122, op := Go.Op.binOp Go.BinOp.eql 3 (Go.Operand.tmp 121) (Go.Operand.const (Go.Value.int Go.IntKind.i64 6)) 3, type := 4, pos := "writer.go:73", after := #[{ on := 15, ground := Go.Ground.data }, { on := 10, ground := Go.Ground.guard }], guard := some (10, false) }) (v := .bool b6) rfl rfl (waits_of (by kernel_rfl)) (by kernel_rfl) (by kernel_rfl) (by kernel_rfl) (fun _ _ _ h => hQp _ _ _ _ _ h) (Or.inl ⟨by rfl, fun W hS => ?_⟩) (kpw_of hB G1.out) ?_
  · go_simp
  simp only [Act.put, List.setIfInBounds_toArray, List.set_cons_zero, List.set_cons_succ]
  refine wpAnyJ_take (i := 17) (oi := { dst := some 123, op := Go.Op.pick (Go.Operand.tmp 116) (Go.Operand.const (Go.Value.bool true)) (Go.Operand.tmp 122), type := 4, pos := "writer.go:73", after := #[{ on := 10, ground := Go.Ground.data }, { on := 16, ground := Go.Ground.data }], guard := none }) (v := .bool b6) rfl rfl (waits_of (by kernel_rfl)) (by kernel_rfl) (by kernel_rfl) (by kernel_rfl) (fun _ _ _ h => hQp _ _ _ _ _ h) (Or.inl ⟨by rfl, fun W hS => ?_⟩) (kpw_of hB G1.out) ?_
  · go_simp
  simp only [Act.put, List.setIfInBounds_toArray, List.set_cons_zero, List.set_cons_succ]
  refine wpAnyJ_ready (rs := [18]) (by kernel_rfl) (by simp) ?_
  refine AllJ.cons (o := { dst := some 124, op := Go.Op.call { callee := Go.Callee.value (Go.Operand.func 74), args := #[Go.Operand.tmp 106, Go.Operand.tmp 110, Go.Operand.tmp 123], argTypes := #[115, 25, 4] }, type := 0, pos := "writer.go:73", after := #[{ on := 0, ground := Go.Ground.data }, { on := 4, ground := Go.Ground.data }, { on := 17, ground := Go.Ground.data }, { on := 10, ground := Go.Ground.chain }], guard := none }) rfl (fun K hK => ?_) AllJ.nil
  have kk := H_hP.out W1 G1.out
  go_simp
  go_at_call 74
  refine kk.mono ?_
  rintro e1 W9 (⟨rfl, hw9, hk9⟩ | ⟨rfl, hn9, hb9⟩)
  · have S9 : Kpw B R A W9 := (kpw_of hB G1.out).trans hk9
    refine hK.out _ _ (fun _ => S9) ?_
    clear hK K kk
    try simp only [Act.put, List.setIfInBounds_toArray, List.set_cons_zero, List.set_cons_succ]
    exact wpAnyJ_done (by kernel_rfl) (HEND.out W9 hw9 S9) _
  · exact HENP.out _ _ rfl hn9 ((G1.out.mono hB).trans hb9)
end Go.Proofs.YtidfkencjdjkbaaGreatDoor

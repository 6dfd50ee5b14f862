import Derived.Test.YtpmioeamdhdokaaGreatQr03
namespace Go.Proofs.YtpmioeamdhdokaaGreat
open Go.RowKit Go.Shelf Go.Proofs.YtpmioeamdhdokaaGreat.Ds

set_option maxRecDepth 100000 in
set_option maxHeartbeats 8000000 in
theorem region17 {Q : Exit → Act → World → Prop} (hQp : ∀ c a d v w, Q (.panic c) (Act.put a d v) w → Q (.panic c) a w) (t0 t1 t2 t4 t6 t7 t8 t9 t10 t11 t12 t13 t14 t16 t17 t18 t19 t20 t21 t22 t23 t24 t25 t26 t27 t28 t29 t30 t31 t32 t33 t34 t35 t36 t37 t38 t39 t40 t41 t42 t43 t44 t45 t46 t47 t48 t49 t50 t51 t52 t53 t54 t55 t56 t57 t58 t59 t60 t61 t62 t63 t64 t65 t66 t67 t68 t69 t70 t71 t72 t73 t74 t75 t76 t77 t78 t79 t80 t81 t82 t83 t84 t85 t86 t87 t88 t89 t90 t91 t92 t93 t94 t95 t96 t97 t98 t99 t100 t101 t102 t103 t104 t105 t106 t107 t108 t109 t110 t111 t112 t113 t114 t115 t116 t117 t118 t119 t120 t121 t122 t123 t124 t125 t126 t127 t128 t129 t130 t131 t132 t133 t134 t135 t136 t137 t138 t139 t140 t141 t142 t143 t144 t145 t146 t147 t148 t149 t150 t151 t152 t153 t154 t155 t156 t157 t158 t159 t160 t161 t162 t163 t164 t165 t166 t167 t168 t169 t170 t171 t172 t173 t174 t175 t176 t177 t178 t179 t180 t181 t182 t183 t184 t185 : Value) (A : World) (qb k L : Nat) (v0 : Int) (v1 : ByteArray) (v2 v3 : Int) (a4 : Option Addr) (n4 c4 : Nat) (a5 : Option Addr) (n5 c5 : Nat) (u d lo hi : Int) (hL : L ≤ 9) (hk : k ≤ 4611686018427387904)
    (hC : ∀ W, Below A.heap.size A W → W.cell? ⟨qb, 0, none⟩ = some (.int .i64 v0) ∧ W.cell? ⟨qb, 1, none⟩ = some (.string v1) ∧ W.cell? ⟨qb, 2, none⟩ = some (.int .i64 v2) ∧ W.cell? ⟨qb, 3, none⟩ = some (.int .i64 v3) ∧ W.cell? ⟨qb, 4, none⟩ = some (.slice a4 n4 c4) ∧ W.cell? ⟨qb, 5, none⟩ = some (.slice a5 n5 c5) ∧ W.cell? ⟨qb, 6, none⟩ = some (.int .i64 u) ∧ W.cell? ⟨qb, 7, none⟩ = some (.int .i64 d) ∧ W.cell? ⟨qb, 8, none⟩ = some (.int .i64 lo) ∧ W.cell? ⟨qb, 9, none⟩ = some (.int .i64 hi))
    (hEnd : ∀ (u75 u76 u77 u78 u79 u80 u81 u82 u83 u84 u85 u86 : Value) (b1 : Nat) (xa : Option Addr) (xc : Nat) (Wf : World), Below A.heap.size A Wf → Owb Wf b1 54 [.string ⟨#[112]⟩, .int .i64 v0, .string v1, .int .i64 v2, .int .i64 v3, .slice a4 n4 c4, .slice a5 n5 c5, .int .i64 u, .int .i64 d, .int .i64 lo, .int .i64 hi, .slice xa (dg k L).length xc] → A.heap.size ≤ b1 → (xa = none → xc = 0) → (∀ m, m < A.heap.size → Ints Wf Wf.heap.size m (.slice xa (dg k L).length xc) (dg k L)) → Q .normal { tmps := #[t0, t1, t2, .int .i64 (L : Int), t4, .pointer (some ⟨qb, 0, none⟩), t6, t7, t8, t9, t10, t11, t12, t13, t14, .int .i64 (k : Int), .pointer (some ⟨b1, 0, none⟩), t17, t18, t19, t20, t21, t22, t23, t24, t25, t26, t27, t28, t29, t30, t31, t32, t33, t34, t35, t36, t37, t38, t39, t40, t41, t42, t43, t44, t45, t46, t47, t48, t49, t50, t51, t52, t53, t54, t55, t56, t57, t58, t59, t60, t61, t62, t63, t64, t65, t66, t67, t68, t69, t70, t71, t72, t73, t74, u75, u76, u77, u78, u79, u80, u81, u82, u83, u84, u85, u86, t87, t88, t89, t90, t91, t92, t93, t94, t95, t96, t97, t98, t99, t100, t101, t102, t103, t104, t105, t106, t107, t108, t109, t110, t111, t112, t113, t114, t115, t116, t117, t118, t119, t120, t121, t122, t123, t124, t125, t126, t127, t128, t129, t130, t131, t132, t133, t134, t135, t136, t137, t138, t139, t140, t141, t142, t143, t144, t145, t146, t147, t148, t149, t150, t151, t152, t153, t154, t155, t156, t157, t158, t159, t160, t161, t162, t163, t164, t165, t166, t167, t168, t169, t170, t171, t172, t173, t174, t175, t176, t177, t178, t179, t180, t181, t182, t183, t184, t185], defers := [] } Wf) :
    (Code.region 17 #[{ dst := some 75, op := Op.fieldAddr 71 (Operand.tmp 5) 0, type := 0, pos := "top.go:214", after := #[], guard := none }, { dst := some 76, op := Op.load 52 (Operand.tmp 75), type := 52, pos := "top.go:214", after := #[{ on := 0, ground := Ground.data }], guard := none }, { dst := some 77, op := Op.fieldAddr 71 (Operand.tmp 5) 1, type := 0, pos := "top.go:214", after := #[], guard := none }, { dst := some 78, op := Op.load 37 (Operand.tmp 77), type := 37, pos := "top.go:214", after := #[{ on := 2, ground := Ground.data }], guard := none }, { dst := some 79, op := Op.fieldAddr 71 (Operand.tmp 5) 2, type := 0, pos := "top.go:214", after := #[], guard := none }, { dst := some 80, op := Op.load 3 (Operand.tmp 79), type := 3, pos := "top.go:214", after := #[{ on := 4, ground := Ground.data }], guard := none }, { dst := some 81, op := Op.fieldAddr 71 (Operand.tmp 5) 3, type := 0, pos := "top.go:214", after := #[], guard := none }, { dst := some 82, op := Op.load 3 (Operand.tmp 81), type := 3, pos := "top.go:214", after := #[{ on := 6, ground := Ground.data }], guard := none }, { dst := some 83, op := Op.move (Operand.tmp 15), type := 3, pos := "top.go:214", after := #[], guard := none }, { dst := some 84, op := Op.move (Operand.tmp 3), type := 3, pos := "top.go:214", after := #[], guard := none }, { dst := some 85, op := Op.call { callee := Callee.value (Operand.func 24), args := #[Operand.tmp 83, Operand.tmp 84], argTypes := #[3, 3] }, type := 35, pos := "top.go:214", after := #[{ on := 8, ground := Ground.data }, { on := 9, ground := Ground.data }], guard := none }, { dst := some 86, op := Op.build 54 #[(0, Operand.const (Value.string { data := #[112] })), (1, Operand.tmp 76), (2, Operand.tmp 78), (3, Operand.tmp 80), (4, Operand.tmp 82), (5, Operand.tmp 85)], type := 54, pos := "top.go:214", after := #[{ on := 1, ground := Ground.data }, { on := 3, ground := Ground.data }, { on := 5, ground := Ground.data }, { on := 7, ground := Ground.data }, { on := 10, ground := Ground.data }], guard := none }, { dst := some 16, op := Op.alloc 54, type := 0, pos := "top.go:214", after := #[], guard := none }, { dst := none, op := Op.store 54 (Operand.tmp 16) (Operand.tmp 86), type := 0, pos := "top.go:214", after := #[{ on := 12, ground := Ground.data }, { on := 11, ground := Ground.data }, { on := 10, ground := Ground.chain }, { on := 0, ground := Ground.phase }, { on := 1, ground := Ground.phase }, { on := 2, ground := Ground.phase }, { on := 3, ground := Ground.phase }, { on := 4, ground := Ground.phase }, { on := 5, ground := Ground.phase }, { on := 6, ground := Ground.phase }, { on := 7, ground := Ground.phase }, { on := 8, ground := Ground.phase }, { on := 9, ground := Ground.phase }, { on := 10, ground := Ground.phase }, { on := 11, ground := Ground.phase }, { on := 12, ground := Ground.phase }], guard := none }] true).wp Tryz.prog Q { tmps := #[t0, t1, t2, .int .i64 (L : Int), t4, .pointer (some ⟨qb, 0, none⟩), t6, t7, t8, t9, t10, t11, t12, t13, t14, .int .i64 (k : Int), t16, t17, t18, t19, t20, t21, t22, t23, t24, t25, t26, t27, t28, t29, t30, t31, t32, t33, t34, t35, t36, t37, t38, t39, t40, t41, t42, t43, t44, t45, t46, t47, t48, t49, t50, t51, t52, t53, t54, t55, t56, t57, t58, t59, t60, t61, t62, t63, t64, t65, t66, t67, t68, t69, t70, t71, t72, t73, t74, t75, t76, t77, t78, t79, t80, t81, t82, t83, t84, t85, t86, t87, t88, t89, t90, t91, t92, t93, t94, t95, t96, t97, t98, t99, t100, t101, t102, t103, t104, t105, t106, t107, t108, t109, t110, t111, t112, t113, t114, t115, t116, t117, t118, t119, t120, t121, t122, t123, t124, t125, t126, t127, t128, t129, t130, t131, t132, t133, t134, t135, t136, t137, t138, t139, t140, t141, t142, t143, t144, t145, t146, t147, t148, t149, t150, t151, t152, t153, t154, t155, t156, t157, t158, t159, t160, t161, t162, t163, t164, t165, t166, t167, t168, t169, t170, t171, t172, t173, t174, t175, t176, t177, t178, t179, t180, t181, t182, t183, t184, t185], defers := [] } A := by
  have HEND : Hid (∀ (u75 u76 u77 u78 u79 u80 u81 u82 u83 u84 u85 u86 : Value) (b1 : Nat) (xa : Option Addr) (xc : Nat) (Wf : World), Below A.heap.size A Wf → Owb Wf b1 54 [.string ⟨#[112]⟩, .int .i64 v0, .string v1, .int .i64 v2, .int .i64 v3, .slice a4 n4 c4, .slice a5 n5 c5, .int .i64 u, .int .i64 d, .int .i64 lo, .int .i64 hi, .slice xa (dg k L).length xc] → A.heap.size ≤ b1 → (xa = none → xc = 0) → (∀ m, m < A.heap.size → Ints Wf Wf.heap.size m (.slice xa (dg k L).length xc) (dg k L)) → Q .normal { tmps := #[t0, t1, t2, .int .i64 (L : Int), t4, .pointer (some ⟨qb, 0, none⟩), t6, t7, t8, t9, t10, t11, t12, t13, t14, .int .i64 (k : Int), .pointer (some ⟨b1, 0, none⟩), t17, t18, t19, t20, t21, t22, t23, t24, t25, t26, t27, t28, t29, t30, t31, t32, t33, t34, t35, t36, t37, t38, t39, t40, t41, t42, t43, t44, t45, t46, t47, t48, t49, t50, t51, t52, t53, t54, t55, t56, t57, t58, t59, t60, t61, t62, t63, t64, t65, t66, t67, t68, t69, t70, t71, t72, t73, t74, u75, u76, u77, u78, u79, u80, u81, u82, u83, u84, u85, u86, t87, t88, t89, t90, t91, t92, t93, t94, t95, t96, t97, t98, t99, t100, t101, t102, t103, t104, t105, t106, t107, t108, t109, t110, t111, t112, t113, t114, t115, t116, t117, t118, t119, t120, t121, t122, t123, t124, t125, t126, t127, t128, t129, t130, t131, t132, t133, t134, t135, t136, t137, t138, t139, t140, t141, t142, t143, t144, t145, t146, t147, t148, t149, t150, t151, t152, t153, t154, t155, t156, t157, t158, t159, t160, t161, t162, t163, t164, t165, t166, t167, t168, t169, t170, t171, t172, t173, t174, t175, t176, t177, t178, t179, t180, t181, t182, t183, t184, t185], defers := [] } Wf) := hEnd
  have HC : Hid (∀ W, Below A.heap.size A W → W.cell? ⟨qb, 0, none⟩ = some (.int .i64 v0) ∧ W.cell? ⟨qb, 1, none⟩ = some (.string v1) ∧ W.cell? ⟨qb, 2, none⟩ = some (.int .i64 v2) ∧ W.cell? ⟨qb, 3, none⟩ = some (.int .i64 v3) ∧ W.cell? ⟨qb, 4, none⟩ = some (.slice a4 n4 c4) ∧ W.cell? ⟨qb, 5, none⟩ = some (.slice a5 n5 c5) ∧ W.cell? ⟨qb, 6, none⟩ = some (.int .i64 u) ∧ W.cell? ⟨qb, 7, none⟩ = some (.int .i64 d) ∧ W.cell? ⟨qb, 8, none⟩ = some (.int .i64 lo) ∧ W.cell? ⟨qb, 9, none⟩ = some (.int .i64 hi)) := hC
  have G0 : Hid (Below A.heap.size A A.drew) := (Below.refl _ _).drew
  have HD : Hid (∀ W : World, Calls Tryz.prog 24 #[.int .i64 (k : Int), .int .i64 (L : Int)] W fun e w' => (∃ a c, e = .returned (.slice a (dg k L).length c) ∧ (a = none → c = 0) ∧ ∀ m, m < W.heap.size → Ints w' w'.heap.size m (.slice a (dg k L).length c) (dg k L)) ∧ Below W.heap.size W w') := fun W => digits_any k L W hL hk
  clear hEnd hC
  refine wp_region_any (by kernel_rfl) ?_
  change wpAny _ _ _ _ _ _ _ (World.drew _)
  obtain ⟨V0, hV0⟩ : ∃ V0, A.drew = V0 := ⟨_, rfl⟩
  rw [hV0] at G0 ⊢
  clear hV0
  have L0 : Hid (A.heap.size ≤ V0.heap.size) := G0.out.size
  refine K.P.wpAny_of_J (S := fun W => Below A.heap.size A W) (J := fun _ => true) _ _ _ _ ?_
  refine K.P.wpAnyJ_take (i := 0) (oi := { dst := some 75, op := Op.fieldAddr 71 (Operand.tmp 5) 0, type := 0, pos := "top.go:214", after := #[], guard := none }) (v := .pointer (some ⟨qb, 0, none⟩)) rfl rfl (K.P.waits_of (by kernel_rfl)) (by kernel_rfl) (by kernel_rfl) (by kernel_rfl) (fun _ _ _ h => hQp _ _ _ _ _ h) (Or.inl ⟨by rfl, fun W hS => ?_⟩) G0.out ?_
  · go_simp
  simp only [Act.put, List.setIfInBounds_toArray, List.set_cons_zero, List.set_cons_succ]
  refine K.P.wpAnyJ_take (i := 1) (oi := { dst := some 76, op := Op.load 52 (Operand.tmp 75), type := 52, pos := "top.go:214", after := #[{ on := 0, ground := Ground.data }], guard := none }) (v := .agg #[.int .i64 v0, .string v1, .int .i64 v2, .int .i64 v3, .slice a4 n4 c4, .slice a5 n5 c5]) rfl rfl (K.P.waits_of (by kernel_rfl)) (by kernel_rfl) (by kernel_rfl) (by kernel_rfl) (fun _ _ _ h => hQp _ _ _ _ _ h) (Or.inl ⟨by rfl, fun W hS => ?_⟩) G0.out ?_
  · obtain ⟨z0, z1, z2, z3, z4, z5, z6, z7, z8, z9⟩ := HC.out W hS; go_simp
  simp only [Act.put, List.setIfInBounds_toArray, List.set_cons_zero, List.set_cons_succ]
  refine K.P.wpAnyJ_take (i := 2) (oi := { dst := some 77, op := Op.fieldAddr 71 (Operand.tmp 5) 1, type := 0, pos := "top.go:214", after := #[], guard := none }) (v := .pointer (some ⟨qb, 6, none⟩)) rfl rfl (K.P.waits_of (by kernel_rfl)) (by kernel_rfl) (by kernel_rfl) (by kernel_rfl) (fun _ _ _ h => hQp _ _ _ _ _ h) (Or.inl ⟨by rfl, fun W hS => ?_⟩) G0.out ?_
  · go_simp
  simp only [Act.put, List.setIfInBounds_toArray, List.set_cons_zero, List.set_cons_succ]
  refine K.P.wpAnyJ_take (i := 3) (oi := { dst := some 78, op := Op.load 37 (Operand.tmp 77), type := 37, pos := "top.go:214", after := #[{ on := 2, ground := Ground.data }], guard := none }) (v := .agg #[.int .i64 u, .int .i64 d]) rfl rfl (K.P.waits_of (by kernel_rfl)) (by kernel_rfl) (by kernel_rfl) (by kernel_rfl) (fun _ _ _ h => hQp _ _ _ _ _ h) (Or.inl ⟨by rfl, fun W hS => ?_⟩) G0.out ?_
  · obtain ⟨z0, z1, z2, z3, z4, z5, z6, z7, z8, z9⟩ := HC.out W hS; go_simp
  simp only [Act.put, List.setIfInBounds_toArray, List.set_cons_zero, List.set_cons_succ]
  refine K.P.wpAnyJ_take (i := 4) (oi := { dst := some 79, op := Op.fieldAddr 71 (Operand.tmp 5) 2, type := 0, pos := "top.go:214", after := #[], guard := none }) (v := .pointer (some ⟨qb, 8, none⟩)) rfl rfl (K.P.waits_of (by kernel_rfl)) (by kernel_rfl) (by kernel_rfl) (by kernel_rfl) (fun _ _ _ h => hQp _ _ _ _ _ h) (Or.inl ⟨by rfl, fun W hS => ?_⟩) G0.out ?_
  · go_simp
  simp only [Act.put, List.setIfInBounds_toArray, List.set_cons_zero, List.set_cons_succ]
  refine K.P.wpAnyJ_take (i := 5) (oi := { dst := some 80, op := Op.load 3 (Operand.tmp 79), type := 3, pos := "top.go:214", after := #[{ on := 4, ground := Ground.data }], guard := none }) (v := .int .i64 lo) rfl rfl (K.P.waits_of (by kernel_rfl)) (by kernel_rfl) (by kernel_rfl) (by kernel_rfl) (fun _ _ _ h => hQp _ _ _ _ _ h) (Or.inl ⟨by rfl, fun W hS => ?_⟩) G0.out ?_
  · obtain ⟨z0, z1, z2, z3, z4, z5, z6, z7, z8, z9⟩ := HC.out W hS; go_simp
  simp only [Act.put, List.setIfInBounds_toArray, List.set_cons_zero, List.set_cons_succ]
  refine K.P.wpAnyJ_take (i := 6) (oi := { dst := some 81, op := Op.fieldAddr 71 (Operand.tmp 5) 3, type := 0, pos := "top.go:214", after := #[], guard := none }) (v := .pointer (some ⟨qb, 9, none⟩)) rfl rfl (K.P.waits_of (by kernel_rfl)) (by kernel_rfl) (by kernel_rfl) (by kernel_rfl) (fun _ _ _ h => hQp _ _ _ _ _ h) (Or.inl ⟨by rfl, fun W hS => ?_⟩) G0.out ?_
  · go_simp
  simp only [Act.put, List.setIfInBounds_toArray, List.set_cons_zero, List.set_cons_succ]
  refine K.P.wpAnyJ_take (i := 7) (oi := { dst := some 82, op := Op.load 3 (Operand.tmp 81), type := 3, pos := "top.go:214", after := #[{ on := 6, ground := Ground.data }], guard := none }) (v := .int .i64 hi) rfl rfl (K.P.waits_of (by kernel_rfl)) (by kernel_rfl) (by kernel_rfl) (by kernel_rfl) (fun _ _ _ h => hQp _ _ _ _ _ h) (Or.inl ⟨by rfl, fun W hS => ?_⟩) G0.out ?_
  · obtain ⟨z0, z1, z2, z3, z4, z5, z6, z7, z8, z9⟩ := HC.out W hS; go_simp
  simp only [Act.put, List.setIfInBounds_toArray, List.set_cons_zero, List.set_cons_succ]
  refine K.P.wpAnyJ_take (i := 8) (oi := { dst := some 83, op := Op.move (Operand.tmp 15), type := 3, pos := "top.go:214", after := #[], guard := none }) (v := .int .i64 (k : Int)) rfl rfl (K.P.waits_of (by kernel_rfl)) (by kernel_rfl) (by kernel_rfl) (by kernel_rfl) (fun _ _ _ h => hQp _ _ _ _ _ h) (Or.inl ⟨by rfl, fun W hS => ?_⟩) G0.out ?_
  · go_simp
  simp only [Act.put, List.setIfInBounds_toArray, List.set_cons_zero, List.set_cons_succ]
  refine K.P.wpAnyJ_take (i := 9) (oi := { dst := some 84, op := Op.move (Operand.tmp 3), type := 3, pos := "top.go:214", after := #[], guard := none }) (v := .int .i64 (L : Int)) rfl rfl (K.P.waits_of (by kernel_rfl)) (by kernel_rfl) (by kernel_rfl) (by kernel_rfl) (fun _ _ _ h => hQp _ _ _ _ _ h) (Or.inl ⟨by rfl, fun W hS => ?_⟩) G0.out ?_
  · go_simp
  simp only [Act.put, List.setIfInBounds_toArray, List.set_cons_zero, List.set_cons_succ]
  refine K.P.wpAnyJ_ready (rs := [10, 12]) (by kernel_rfl) (by simp) ?_
  refine K.P.AllJ.cons (o := { dst := some 85, op := Op.call { callee := Callee.value (Operand.func 24), args := #[Operand.tmp 83, Operand.tmp 84], argTypes := #[3, 3] }, type := 35, pos := "top.go:214", after := #[{ on := 8, ground := Ground.data }, { on := 9, ground := Ground.data }], guard := none }) rfl (fun K hK => ?_) (K.P.AllJ.cons (o := { dst := some 16, op := Op.alloc 54, type := 0, pos := "top.go:214", after := #[], guard := none }) rfl (fun K hK => ?_) K.P.AllJ.nil)
  ·
    have kk := HD.out V0
    go_simp
    go_at_call 24
    refine kk.mono ?_
    rintro e1 V1 ⟨⟨xa, xc, rfl, hxc, hI⟩, hb⟩
    have G1 : Hid (Below A.heap.size A V1) := G0.out.trans (hb.mono G0.out.size)
    have L1 : Hid (V0.heap.size ≤ V1.heap.size) := hb.size
    have HXC : Hid (xa = none → xc = 0) := hxc
    have I1 : Hid (∀ m, m < V0.heap.size → Ints V1 V1.heap.size m (.slice xa (dg k L).length xc) (dg k L)) := hI
    refine hK.out _ _ (fun _ => G1.out) ?_
    clear hK K
    try simp only [Act.put, List.setIfInBounds_toArray, List.set_cons_zero, List.set_cons_succ]
    refine K.P.wpAnyJ_take (i := 11) (oi := { dst := some 86, op := Op.build 54 #[(0, Operand.const (Value.string { data := #[112] })), (1, Operand.tmp 76), (2, Operand.tmp 78), (3, Operand.tmp 80), (4, Operand.tmp 82), (5, Operand.tmp 85)], type := 54, pos := "top.go:214", after := #[{ on := 1, ground := Ground.data }, { on := 3, ground := Ground.data }, { on := 5, ground := Ground.data }, { on := 7, ground := Ground.data }, { on := 10, ground := Ground.data }], guard := none }) (v := .agg ([.string ⟨#[112]⟩, .int .i64 v0, .string v1, .int .i64 v2, .int .i64 v3, .slice a4 n4 c4, .slice a5 n5 c5, .int .i64 u, .int .i64 d, .int .i64 lo, .int .i64 hi, .slice xa (dg k L).length xc]).toArray) rfl rfl (K.P.waits_of (by kernel_rfl)) (by kernel_rfl) (by kernel_rfl) (by kernel_rfl) (fun _ _ _ h => hQp _ _ _ _ _ h) (yieldsIf_build6 rfl 54 0 1 2 3 4 5 (.const (.string ⟨#[112]⟩)) (.tmp 76) (.tmp 78) (.tmp 80) (.tmp 82) (.tmp 85) rfl (.string ⟨#[112]⟩) (.agg #[.int .i64 v0, .string v1, .int .i64 v2, .int .i64 v3, .slice a4 n4 c4, .slice a5 n5 c5]) (.agg #[.int .i64 u, .int .i64 d]) (.int .i64 lo) (.int .i64 hi) (.slice xa (dg k L).length xc) rfl rfl rfl rfl rfl rfl _ (bl54 k L xa xc v0 v1 v2 v3 a4 n4 c4 a5 n5 c5 u d lo hi)) G1.out ?_
    simp only [Act.put, List.setIfInBounds_toArray, List.set_cons_zero, List.set_cons_succ]
    refine K.P.wpAnyJ_ready (rs := [12]) (by kernel_rfl) (by simp) ?_
    refine K.P.AllJ.cons (o := { dst := some 16, op := Op.alloc 54, type := 0, pos := "top.go:214", after := #[], guard := none }) rfl (fun K hK => ?_) K.P.AllJ.nil
    go_simp
    obtain ⟨V2, hV2⟩ : ∃ V2, V1.alloc (.cells #[.string ⟨#[]⟩, .int .i64 0, .string ⟨#[]⟩, .int .i64 0, .int .i64 0, .slice none 0 0, .slice none 0 0, .int .i64 0, .int .i64 0, .int .i64 0, .int .i64 0, .slice none 0 0] 54) = V2 := ⟨_, rfl⟩
    have G2 : Hid (Below A.heap.size A V2) := hV2 ▸ bal G1.out _
    have N2 : Hid (Owb V2 V1.heap.size 54 [.string ⟨#[]⟩, .int .i64 0, .string ⟨#[]⟩, .int .i64 0, .int .i64 0, .slice none 0 0, .slice none 0 0, .int .i64 0, .int .i64 0, .int .i64 0, .int .i64 0, .slice none 0 0]) := hV2 ▸ Owb.new _ _ _
    have Z2 : Hid (V2.heap.size = V1.heap.size + 1) := by rw [Hid, ← hV2]; simp
    have B2 : Hid (Below V1.heap.size V1 V2) := hV2 ▸ ba _ _
    rw [hV2]
    clear hV2
    refine hK.out _ _ (fun _ => G2.out) ?_
    clear hK K
    try simp only [Act.put, List.setIfInBounds_toArray, List.set_cons_zero, List.set_cons_succ]
    refine K.P.wpAnyJ_ready (rs := [13]) (by kernel_rfl) (by simp) ?_
    refine K.P.AllJ.cons (o := { dst := none, op := Op.store 54 (Operand.tmp 16) (Operand.tmp 86), type := 0, pos := "top.go:214", after := #[{ on := 12, ground := Ground.data }, { on := 11, ground := Ground.data }, { on := 10, ground := Ground.chain }, { on := 0, ground := Ground.phase }, { on := 1, ground := Ground.phase }, { on := 2, ground := Ground.phase }, { on := 3, ground := Ground.phase }, { on := 4, ground := Ground.phase }, { on := 5, ground := Ground.phase }, { on := 6, ground := Ground.phase }, { on := 7, ground := Ground.phase }, { on := 8, ground := Ground.phase }, { on := 9, ground := Ground.phase }, { on := 10, ground := Ground.phase }, { on := 11, ground := Ground.phase }, { on := 12, ground := Ground.phase }], guard := none }) rfl (fun K hK => ?_) K.P.AllJ.nil
    rw [if_pos (by rfl)]
    refine wp_store_row 54 _ _ rfl (V1.heap.size) ([.string ⟨#[112]⟩, .int .i64 v0, .string v1, .int .i64 v2, .int .i64 v3, .slice a4 n4 c4, .slice a5 n5 c5, .int .i64 u, .int .i64 d, .int .i64 lo, .int .i64 hi, .slice xa (dg k L).length xc]).toArray rfl rfl 54 _ N2.out infos54 rfl (all_oneCell_toArray (one54 k L xa xc v0 v1 v2 v3 a4 n4 c4 a5 n5 c5 u d lo hi)) ?_
    obtain ⟨U, hU⟩ : ∃ U, V2.setRow (V1.heap.size) ([.string ⟨#[112]⟩, .int .i64 v0, .string v1, .int .i64 v2, .int .i64 v3, .slice a4 n4 c4, .slice a5 n5 c5, .int .i64 u, .int .i64 d, .int .i64 lo, .int .i64 hi, .slice xa (dg k L).length xc]).toArray = U := ⟨_, rfl⟩
    have GU : Hid (Below A.heap.size A U) := hU ▸ below_row G2.out (by have := L0.out; have := L1.out; have := Z2.out; omega) _
    have FU : Hid (Owb U (V1.heap.size) 54 [.string ⟨#[112]⟩, .int .i64 v0, .string v1, .int .i64 v2, .int .i64 v3, .slice a4 n4 c4, .slice a5 n5 c5, .int .i64 u, .int .i64 d, .int .i64 lo, .int .i64 hi, .slice xa (dg k L).length xc]) := hU ▸ N2.out.set _
    have IU : Hid (∀ m, m < A.heap.size → Ints U U.heap.size m (.slice xa (dg k L).length xc) (dg k L)) := fun m hm => (I1.out m (by have := L0.out; omega)).at2 (hU ▸ below_row B2.out (Nat.le_refl _) _)
    rw [hU]
    clear hU
    refine hK.out _ _ (fun _ => GU.out) ?_
    clear hK K
    try simp only [Act.put]
    exact K.P.wpAnyJ_done (by kernel_rfl) (HEND.out _ _ _ _ _ _ _ _ _ _ _ _ _ _ _ U GU.out FU.out (by have := L0.out; have := L1.out; have := Z2.out; omega) HXC.out IU.out) _
  ·
    go_simp
    obtain ⟨V1, hV1⟩ : ∃ V1, V0.alloc (.cells #[.string ⟨#[]⟩, .int .i64 0, .string ⟨#[]⟩, .int .i64 0, .int .i64 0, .slice none 0 0, .slice none 0 0, .int .i64 0, .int .i64 0, .int .i64 0, .int .i64 0, .slice none 0 0] 54) = V1 := ⟨_, rfl⟩
    have G1 : Hid (Below A.heap.size A V1) := hV1 ▸ bal G0.out _
    have N1 : Hid (Owb V1 V0.heap.size 54 [.string ⟨#[]⟩, .int .i64 0, .string ⟨#[]⟩, .int .i64 0, .int .i64 0, .slice none 0 0, .slice none 0 0, .int .i64 0, .int .i64 0, .int .i64 0, .int .i64 0, .slice none 0 0]) := hV1 ▸ Owb.new _ _ _
    have Z1 : Hid (V1.heap.size = V0.heap.size + 1) := by rw [Hid, ← hV1]; simp
    have B1 : Hid (Below V0.heap.size V0 V1) := hV1 ▸ ba _ _
    rw [hV1]
    clear hV1
    refine hK.out _ _ (fun _ => G1.out) ?_
    clear hK K
    try simp only [Act.put, List.setIfInBounds_toArray, List.set_cons_zero, List.set_cons_succ]
    refine K.P.wpAnyJ_ready (rs := [10]) (by kernel_rfl) (by simp) ?_
    refine K.P.AllJ.cons (o := { dst := some 85, op := Op.call { callee := Callee.value (Operand.func 24), args := #[Operand.tmp 83, Operand.tmp 84], argTypes := #[3, 3] }, type := 35, pos := "top.go:214", after := #[{ on := 8, ground := Ground.data }, { on := 9, ground := Ground.data }], guard := none }) rfl (fun K hK => ?_) K.P.AllJ.nil
    have kk := HD.out V1
    go_simp
    go_at_call 24
    refine kk.mono ?_
    rintro e1 V2 ⟨⟨xa, xc, rfl, hxc, hI⟩, hb⟩
    have G2 : Hid (Below A.heap.size A V2) := G1.out.trans (hb.mono G1.out.size)
    have L2 : Hid (V1.heap.size ≤ V2.heap.size) := hb.size
    have HXC : Hid (xa = none → xc = 0) := hxc
    have I2 : Hid (∀ m, m < V1.heap.size → Ints V2 V2.heap.size m (.slice xa (dg k L).length xc) (dg k L)) := hI
    have M2 : Hid (Owb V2 V0.heap.size 54 [.string ⟨#[]⟩, .int .i64 0, .string ⟨#[]⟩, .int .i64 0, .int .i64 0, .slice none 0 0, .slice none 0 0, .int .i64 0, .int .i64 0, .int .i64 0, .int .i64 0, .slice none 0 0]) := (hb.block _ N1.out.lt).trans N1.out
    refine hK.out _ _ (fun _ => G2.out) ?_
    clear hK K
    try simp only [Act.put, List.setIfInBounds_toArray, List.set_cons_zero, List.set_cons_succ]
    refine K.P.wpAnyJ_take (i := 11) (oi := { dst := some 86, op := Op.build 54 #[(0, Operand.const (Value.string { data := #[112] })), (1, Operand.tmp 76), (2, Operand.tmp 78), (3, Operand.tmp 80), (4, Operand.tmp 82), (5, Operand.tmp 85)], type := 54, pos := "top.go:214", after := #[{ on := 1, ground := Ground.data }, { on := 3, ground := Ground.data }, { on := 5, ground := Ground.data }, { on := 7, ground := Ground.data }, { on := 10, ground := Ground.data }], guard := none }) (v := .agg ([.string ⟨#[112]⟩, .int .i64 v0, .string v1, .int .i64 v2, .int .i64 v3, .slice a4 n4 c4, .slice a5 n5 c5, .int .i64 u, .int .i64 d, .int .i64 lo, .int .i64 hi, .slice xa (dg k L).length xc]).toArray) rfl rfl (K.P.waits_of (by kernel_rfl)) (by kernel_rfl) (by kernel_rfl) (by kernel_rfl) (fun _ _ _ h => hQp _ _ _ _ _ h) (yieldsIf_build6 rfl 54 0 1 2 3 4 5 (.const (.string ⟨#[112]⟩)) (.tmp 76) (.tmp 78) (.tmp 80) (.tmp 82) (.tmp 85) rfl (.string ⟨#[112]⟩) (.agg #[.int .i64 v0, .string v1, .int .i64 v2, .int .i64 v3, .slice a4 n4 c4, .slice a5 n5 c5]) (.agg #[.int .i64 u, .int .i64 d]) (.int .i64 lo) (.int .i64 hi) (.slice xa (dg k L).length xc) rfl rfl rfl rfl rfl rfl _ (bl54 k L xa xc v0 v1 v2 v3 a4 n4 c4 a5 n5 c5 u d lo hi)) G2.out ?_
    simp only [Act.put, List.setIfInBounds_toArray, List.set_cons_zero, List.set_cons_succ]
    refine K.P.wpAnyJ_ready (rs := [13]) (by kernel_rfl) (by simp) ?_
    refine K.P.AllJ.cons (o := { dst := none, op := Op.store 54 (Operand.tmp 16) (Operand.tmp 86), type := 0, pos := "top.go:214", after := #[{ on := 12, ground := Ground.data }, { on := 11, ground := Ground.data }, { on := 10, ground := Ground.chain }, { on := 0, ground := Ground.phase }, { on := 1, ground := Ground.phase }, { on := 2, ground := Ground.phase }, { on := 3, ground := Ground.phase }, { on := 4, ground := Ground.phase }, { on := 5, ground := Ground.phase }, { on := 6, ground := Ground.phase }, { on := 7, ground := Ground.phase }, { on := 8, ground := Ground.phase }, { on := 9, ground := Ground.phase }, { on := 10, ground := Ground.phase }, { on := 11, ground := Ground.phase }, { on := 12, ground := Ground.phase }], guard := none }) rfl (fun K hK => ?_) K.P.AllJ.nil
    rw [if_pos (by rfl)]
    refine wp_store_row 54 _ _ rfl (V0.heap.size) ([.string ⟨#[112]⟩, .int .i64 v0, .string v1, .int .i64 v2, .int .i64 v3, .slice a4 n4 c4, .slice a5 n5 c5, .int .i64 u, .int .i64 d, .int .i64 lo, .int .i64 hi, .slice xa (dg k L).length xc]).toArray rfl rfl 54 _ M2.out infos54 rfl (all_oneCell_toArray (one54 k L xa xc v0 v1 v2 v3 a4 n4 c4 a5 n5 c5 u d lo hi)) ?_
    obtain ⟨U, hU⟩ : ∃ U, V2.setRow (V0.heap.size) ([.string ⟨#[112]⟩, .int .i64 v0, .string v1, .int .i64 v2, .int .i64 v3, .slice a4 n4 c4, .slice a5 n5 c5, .int .i64 u, .int .i64 d, .int .i64 lo, .int .i64 hi, .slice xa (dg k L).length xc]).toArray = U := ⟨_, rfl⟩
    have GU : Hid (Below A.heap.size A U) := hU ▸ below_row G2.out (by have := L0.out; have := L2.out; have := Z1.out; omega) _
    have FU : Hid (Owb U (V0.heap.size) 54 [.string ⟨#[112]⟩, .int .i64 v0, .string v1, .int .i64 v2, .int .i64 v3, .slice a4 n4 c4, .slice a5 n5 c5, .int .i64 u, .int .i64 d, .int .i64 lo, .int .i64 hi, .slice xa (dg k L).length xc]) := hU ▸ M2.out.set _
    have IU : Hid (∀ m, m < A.heap.size → Ints U U.heap.size m (.slice xa (dg k L).length xc) (dg k L)) := fun m hm => hU ▸ ints_row I2.out (by have := Z1.out; omega) _ m (by have := L0.out; have := Z1.out; omega)
    rw [hU]
    clear hU
    refine hK.out _ _ (fun _ => GU.out) ?_
    clear hK K
    try simp only [Act.put]
    exact K.P.wpAnyJ_done (by kernel_rfl) (HEND.out _ _ _ _ _ _ _ _ _ _ _ _ _ _ _ U GU.out FU.out (by have := L0.out; have := L2.out; have := Z1.out; omega) HXC.out IU.out) _

end Go.Proofs.YtpmioeamdhdokaaGreat

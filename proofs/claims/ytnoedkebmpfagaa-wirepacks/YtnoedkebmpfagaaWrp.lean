import Derived.Test.YtnoedkebmpfagaaWri
import Derived.Test.YtnoedkebmpfagaaWpl
import Derived.Test.YtnoedkebmpfagaaRgj
/-
  The reference's Pack: its region 3 (a byte, a text, a number: in any order).
-/
namespace Go.Proofs.Ytnoedkebmpfagaa
open Go.RowKit Wc

set_option maxRecDepth 100000 in
set_option maxHeartbeats 4000000 in
theorem region3 {Q : Exit → Act → World → Prop} (hQp : ∀ c a d v w, Q (.panic c) (Act.put a d v) w → Q (.panic c) a w) (t0 t2 t3 t4 t5 t6 t7 t8 t9 t10 t11 t12 t13 t14 t15 t16 t17 t18 t19 t20 t21 t22 t23 t24 t25 t26 t27 t28 t29 t30 t31 t32 t33 t34 t35 t36 t37 t38 t39 t40 t41 t42 t43 t44 t45 t46 t47 t48 t49 t50 t51 t52 t53 t54 t55 t56 t57 t58 t59 t60 t61 t62 t63 t64 t65 t66 t67 t68 t69 t70 t71 t72 t73 t74 t75 t76 t77 t78 : Value) (A : World) (b : Nat) (k n y : Int) (S T U B P1 P2 : ByteArray)
    (hy : IntKind.u8.wrap k = y) (a1 : B ++ T = P1) (a2 : P1 ++ U = P2) (l1 : ¬ (9223372036854775807 < B.size + T.size)) (l2 : ¬ (9223372036854775807 < P1.size + U.size))
    (hC : ∀ W, Below A.heap.size A W → W.cell? ⟨b, 0, none⟩ = some (.int .i64 k) ∧ W.cell? ⟨b, 1, none⟩ = some (.string S) ∧ W.cell? ⟨b, 2, none⟩ = some (.int .i64 n))
    (h21 : ∀ W : World, Calls Try.prog 21 #[.string S] W fun e w' => e = .returned (.string T) ∧ Below W.heap.size W w') (h22 : ∀ W : World, Calls Try.prog 22 #[.int .i64 n] W fun e w' => e = .returned (.string U) ∧ Below W.heap.size W w') (hcg : ∀ (N : Nat) (w1 : World), w1.cell? ⟨N, 0, none⟩ = some (.int .u8 y) → (convert 47 9 (.slice (some ⟨N, 0, none⟩) 1 1)).run Try.prog w1 = .ok (.string B) w1)
    (hEnd : ∀ (g : Nat) (X : World), Below A.heap.size A X → Q .normal { tmps := #[t0, .pointer (some ⟨b, 0, none⟩), t2, t3, .string P2, t5, t6, t7, t8, t9, .pointer (some ⟨b, 0, none⟩), .int .i64 k, .int .u8 y, .slice (some ⟨g, 0, none⟩) 1 1, .string B, .pointer (some ⟨b, 1, none⟩), .string S, .string T, .string P1, .pointer (some ⟨b, 2, none⟩), .int .i64 n, .string U, .string P2, t23, t24, t25, t26, t27, t28, t29, t30, t31, t32, t33, t34, t35, t36, t37, t38, t39, t40, t41, t42, t43, t44, t45, t46, t47, t48, t49, t50, t51, t52, t53, t54, t55, t56, t57, t58, t59, t60, t61, t62, t63, t64, t65, t66, t67, t68, t69, t70, t71, t72, t73, t74, t75, t76, t77, t78], defers := [] } X) :
    (Code.region 3 #[{ dst := some 10, op := Go.Op.fieldAddr 27 (Go.Operand.tmp 1) 0, type := 0, pos := "ref.go:39", after := #[], guard := none }, { dst := some 11, op := Go.Op.load 3 (Go.Operand.tmp 10), type := 3, pos := "ref.go:39", after := #[{ on := 0, ground := Go.Ground.data }], guard := none }, { dst := some 12, op := Go.Op.convert 3 5 (Go.Operand.tmp 11), type := 5, pos := "ref.go:39", after := #[{ on := 1, ground := Go.Ground.data }], guard := none }, { dst := some 13, op := Go.Op.buildSlice 47 1 #[(0, Go.Operand.tmp 12)], type := 47, pos := "ref.go:39", after := #[{ on := 2, ground := Go.Ground.data }], guard := none }, { dst := some 14, op := Go.Op.convert 47 9 (Go.Operand.tmp 13), type := 9, pos := "ref.go:39", after := #[{ on := 3, ground := Go.Ground.data }], guard := none }, { dst := some 15, op := Go.Op.fieldAddr 27 (Go.Operand.tmp 1) 1, type := 0, pos := "ref.go:39", after := #[], guard := none }, { dst := some 16, op := Go.Op.load 9 (Go.Operand.tmp 15), type := 9, pos := "ref.go:39", after := #[{ on := 5, ground := Go.Ground.data }], guard := none }, { dst := some 17, op := Go.Op.call { callee := Go.Callee.value (Go.Operand.func 21), args := #[Go.Operand.tmp 16], argTypes := #[9] }, type := 9, pos := "ref.go:39", after := #[{ on := 6, ground := Go.Ground.data }], guard := none }, { dst := some 18, op := Go.Op.binOp Go.BinOp.add 9 (Go.Operand.tmp 14) (Go.Operand.tmp 17) 9, type := 9, pos := "ref.go:39", after := #[{ on := 4, ground := Go.Ground.data }, { on := 7, ground := Go.Ground.data }], guard := none }, { dst := some 19, op := Go.Op.fieldAddr 27 (Go.Operand.tmp 1) 2, type := 0, pos := "ref.go:39", after := #[], guard := none }, { dst := some 20, op := Go.Op.load 3 (Go.Operand.tmp 19), type := 3, pos := "ref.go:39", after := #[{ on := 9, ground := Go.Ground.data }], guard := none }, { dst := some 21, op := Go.Op.call { callee := Go.Callee.value (Go.Operand.func 22), args := #[Go.Operand.tmp 20], argTypes := #[3] }, type := 9, pos := "ref.go:39", after := #[{ on := 10, ground := Go.Ground.data }, { on := 7, ground := Go.Ground.chain }], guard := none }, { dst := some 22, op := Go.Op.binOp Go.BinOp.add 9 (Go.Operand.tmp 18) (Go.Operand.tmp 21) 9, type := 9, pos := "ref.go:39", after := #[{ on := 8, ground := Go.Ground.data }, { on := 11, ground := Go.Ground.data }], guard := none }, { dst := some 4, op := Go.Op.assign (Go.Operand.tmp 22), type := 9, pos := "ref.go:39", after := #[{ on := 12, ground := Go.Ground.data }, { on := 11, ground := Go.Ground.chain }, { on := 0, ground := Go.Ground.phase }, { on := 1, ground := Go.Ground.phase }, { on := 2, ground := Go.Ground.phase }, { on := 3, ground := Go.Ground.phase }, { on := 4, ground := Go.Ground.phase }, { on := 5, ground := Go.Ground.phase }, { on := 6, ground := Go.Ground.phase }, { on := 7, ground := Go.Ground.phase }, { on := 8, ground := Go.Ground.phase }, { on := 9, ground := Go.Ground.phase }, { on := 10, ground := Go.Ground.phase }, { on := 11, ground := Go.Ground.phase }, { on := 12, ground := Go.Ground.phase }], guard := none }] true).wp Try.prog Q { tmps := #[t0, .pointer (some ⟨b, 0, none⟩), t2, t3, t4, t5, t6, t7, t8, t9, t10, t11, t12, t13, t14, t15, t16, t17, t18, t19, t20, t21, t22, t23, t24, t25, t26, t27, t28, t29, t30, t31, t32, t33, t34, t35, t36, t37, t38, t39, t40, t41, t42, t43, t44, t45, t46, t47, t48, t49, t50, t51, t52, t53, t54, t55, t56, t57, t58, t59, t60, t61, t62, t63, t64, t65, t66, t67, t68, t69, t70, t71, t72, t73, t74, t75, t76, t77, t78], defers := [] } A := by
  have HEND : Hid (∀ (g : Nat) (X : World), Below A.heap.size A X → Q .normal { tmps := #[t0, .pointer (some ⟨b, 0, none⟩), t2, t3, .string P2, t5, t6, t7, t8, t9, .pointer (some ⟨b, 0, none⟩), .int .i64 k, .int .u8 y, .slice (some ⟨g, 0, none⟩) 1 1, .string B, .pointer (some ⟨b, 1, none⟩), .string S, .string T, .string P1, .pointer (some ⟨b, 2, none⟩), .int .i64 n, .string U, .string P2, t23, t24, t25, t26, t27, t28, t29, t30, t31, t32, t33, t34, t35, t36, t37, t38, t39, t40, t41, t42, t43, t44, t45, t46, t47, t48, t49, t50, t51, t52, t53, t54, t55, t56, t57, t58, t59, t60, t61, t62, t63, t64, t65, t66, t67, t68, t69, t70, t71, t72, t73, t74, t75, t76, t77, t78], defers := [] } X) := hEnd
  have HC : Hid (∀ W, Below A.heap.size A W → W.cell? ⟨b, 0, none⟩ = some (.int .i64 k) ∧ W.cell? ⟨b, 1, none⟩ = some (.string S) ∧ W.cell? ⟨b, 2, none⟩ = some (.int .i64 n)) := hC
  have H21 : Hid (∀ W : World, Calls Try.prog 21 #[.string S] W fun e w' => e = .returned (.string T) ∧ Below W.heap.size W w') := h21
  have H22 : Hid (∀ W : World, Calls Try.prog 22 #[.int .i64 n] W fun e w' => e = .returned (.string U) ∧ Below W.heap.size W w') := h22
  have HCG : Hid (∀ (N : Nat) (w1 : World), w1.cell? ⟨N, 0, none⟩ = some (.int .u8 y) → (convert 47 9 (.slice (some ⟨N, 0, none⟩) 1 1)).run Try.prog w1 = .ok (.string B) w1) := hcg
  have G0 : Hid (Below A.heap.size A A.drew) := (Below.refl _ _).drew
  clear hEnd hC h21 h22 hcg
  refine wp_region_any (by kernel_rfl) ?_
  change wpAny _ _ _ _ _ _ _ (World.drew _)
  obtain ⟨V0, hV0⟩ : ∃ V0, A.drew = V0 := ⟨_, rfl⟩
  rw [hV0] at G0 ⊢
  clear hV0
  refine wpAny_of_J (S := fun W => Below A.heap.size A W) (J := fun _ => true) _ _ _ _ ?_
  refine wpAnyJ_take (i := 0) (oi := { dst := some 10, op := Go.Op.fieldAddr 27 (Go.Operand.tmp 1) 0, type := 0, pos := "ref.go:39", after := #[], guard := none }) (v := .pointer (some ⟨b, 0, none⟩)) rfl rfl (waits_of (by kernel_rfl)) (by kernel_rfl) (by kernel_rfl) (by kernel_rfl) (fun _ _ _ h => hQp _ _ _ _ _ h) (Or.inl ⟨by rfl, fun W hS => ?_⟩) G0.out ?_
  · go_simp
  simp only [Act.put, List.setIfInBounds_toArray, List.set_cons_zero, List.set_cons_succ]
  refine wpAnyJ_take (i := 1) (oi := { dst := some 11, op := Go.Op.load 3 (Go.Operand.tmp 10), type := 3, pos := "ref.go:39", after := #[{ on := 0, ground := Go.Ground.data }], guard := none }) (v := .int .i64 k) rfl rfl (waits_of (by kernel_rfl)) (by kernel_rfl) (by kernel_rfl) (by kernel_rfl) (fun _ _ _ h => hQp _ _ _ _ _ h) (Or.inl ⟨by rfl, fun W hS => ?_⟩) G0.out ?_
  · obtain ⟨z0, z1, z2⟩ := HC.out W hS; go_simp
  simp only [Act.put, List.setIfInBounds_toArray, List.set_cons_zero, List.set_cons_succ]
  refine wpAnyJ_take (i := 2) (oi := { dst := some 12, op := Go.Op.convert 3 5 (Go.Operand.tmp 11), type := 5, pos := "ref.go:39", after := #[{ on := 1, ground := Go.Ground.data }], guard := none }) (v := .int .u8 y) rfl rfl (waits_of (by kernel_rfl)) (by kernel_rfl) (by kernel_rfl) (by kernel_rfl) (fun _ _ _ h => hQp _ _ _ _ _ h) (Or.inl ⟨by rfl, fun W hS => ?_⟩) G0.out ?_
  · go_simp
  simp only [Act.put, List.setIfInBounds_toArray, List.set_cons_zero, List.set_cons_succ]
  refine wpAnyJ_take (i := 5) (oi := { dst := some 15, op := Go.Op.fieldAddr 27 (Go.Operand.tmp 1) 1, type := 0, pos := "ref.go:39", after := #[], guard := none }) (v := .pointer (some ⟨b, 1, none⟩)) rfl rfl (waits_of (by kernel_rfl)) (by kernel_rfl) (by kernel_rfl) (by kernel_rfl) (fun _ _ _ h => hQp _ _ _ _ _ h) (Or.inl ⟨by rfl, fun W hS => ?_⟩) G0.out ?_
  · go_simp
  simp only [Act.put, List.setIfInBounds_toArray, List.set_cons_zero, List.set_cons_succ]
  refine wpAnyJ_take (i := 6) (oi := { dst := some 16, op := Go.Op.load 9 (Go.Operand.tmp 15), type := 9, pos := "ref.go:39", after := #[{ on := 5, ground := Go.Ground.data }], guard := none }) (v := .string S) rfl rfl (waits_of (by kernel_rfl)) (by kernel_rfl) (by kernel_rfl) (by kernel_rfl) (fun _ _ _ h => hQp _ _ _ _ _ h) (Or.inl ⟨by rfl, fun W hS => ?_⟩) G0.out ?_
  · obtain ⟨z0, z1, z2⟩ := HC.out W hS; go_simp
  simp only [Act.put, List.setIfInBounds_toArray, List.set_cons_zero, List.set_cons_succ]
  refine wpAnyJ_take (i := 9) (oi := { dst := some 19, op := Go.Op.fieldAddr 27 (Go.Operand.tmp 1) 2, type := 0, pos := "ref.go:39", after := #[], guard := none }) (v := .pointer (some ⟨b, 2, none⟩)) rfl rfl (waits_of (by kernel_rfl)) (by kernel_rfl) (by kernel_rfl) (by kernel_rfl) (fun _ _ _ h => hQp _ _ _ _ _ h) (Or.inl ⟨by rfl, fun W hS => ?_⟩) G0.out ?_
  · go_simp
  simp only [Act.put, List.setIfInBounds_toArray, List.set_cons_zero, List.set_cons_succ]
  refine wpAnyJ_take (i := 10) (oi := { dst := some 20, op := Go.Op.load 3 (Go.Operand.tmp 19), type := 3, pos := "ref.go:39", after := #[{ on := 9, ground := Go.Ground.data }], guard := none }) (v := .int .i64 n) rfl rfl (waits_of (by kernel_rfl)) (by kernel_rfl) (by kernel_rfl) (by kernel_rfl) (fun _ _ _ h => hQp _ _ _ _ _ h) (Or.inl ⟨by rfl, fun W hS => ?_⟩) G0.out ?_
  · obtain ⟨z0, z1, z2⟩ := HC.out W hS; go_simp
  simp only [Act.put, List.setIfInBounds_toArray, List.set_cons_zero, List.set_cons_succ]
  refine wpAnyJ_ready (rs := [3, 7]) (by kernel_rfl) (by simp) ?_
  refine AllJ.cons (o := { dst := some 13, op := Go.Op.buildSlice 47 1 #[(0, Go.Operand.tmp 12)], type := 47, pos := "ref.go:39", after := #[{ on := 2, ground := Go.Ground.data }], guard := none }) rfl (fun K hK => ?_) (AllJ.cons (o := { dst := some 17, op := Go.Op.call { callee := Go.Callee.value (Go.Operand.func 21), args := #[Go.Operand.tmp 16], argTypes := #[9] }, type := 9, pos := "ref.go:39", after := #[{ on := 6, ground := Go.Ground.data }], guard := none }) rfl (fun K hK => ?_) (AllJ.nil))
  ·
    go_simp
    have G1 : Hid (Below A.heap.size A (V0.alloc (.cells #[.int .u8 y] 5))) := bal G0.out _
    have x1 : (V0.alloc (.cells #[.int .u8 y] 5)).cell? ⟨V0.heap.size, 0, none⟩ = some (.int .u8 y) := by simp [go_sem]
    have y1 : V0.heap.size < (V0.alloc (.cells #[.int .u8 y] 5)).heap.size := by simp
    refine hK.out _ _ (fun _ => G1.out) ?_
    clear hK K
    try simp only [Act.put, List.setIfInBounds_toArray, List.set_cons_zero, List.set_cons_succ]
    obtain ⟨V1, hV1⟩ : ∃ X, (V0.alloc (.cells #[.int .u8 y] 5)) = X := ⟨_, rfl⟩
    obtain ⟨g1, hg1⟩ : ∃ X, V0.heap.size = X := ⟨_, rfl⟩
    rw [hV1, hg1] at x1 y1
    rw [hV1] at G1 ⊢
    try rw [hg1]
    clear hV1 hg1
    refine wpAnyJ_ready (rs := [4, 7]) (by kernel_rfl) (by simp) ?_
    refine AllJ.cons (o := { dst := some 14, op := Go.Op.convert 47 9 (Go.Operand.tmp 13), type := 9, pos := "ref.go:39", after := #[{ on := 3, ground := Go.Ground.data }], guard := none }) rfl (fun K hK => ?_) (AllJ.cons (o := { dst := some 17, op := Go.Op.call { callee := Go.Callee.value (Go.Operand.func 21), args := #[Go.Operand.tmp 16], argTypes := #[9] }, type := 9, pos := "ref.go:39", after := #[{ on := 6, ground := Go.Ground.data }], guard := none }) rfl (fun K hK => ?_) (AllJ.nil))
    ·
      have hcv := HCG.out g1 _ x1
      go_simp
      refine hK.out _ _ (fun _ => G1.out) ?_
      clear hK K
      try simp only [Act.put, List.setIfInBounds_toArray, List.set_cons_zero, List.set_cons_succ]
      refine wpAnyJ_ready (rs := [7]) (by kernel_rfl) (by simp) ?_
      refine AllJ.cons (o := { dst := some 17, op := Go.Op.call { callee := Go.Callee.value (Go.Operand.func 21), args := #[Go.Operand.tmp 16], argTypes := #[9] }, type := 9, pos := "ref.go:39", after := #[{ on := 6, ground := Go.Ground.data }], guard := none }) rfl (fun K hK => ?_) (AllJ.nil)
      ·
        have kk := H21.out V1
        go_simp
        go_at_call 21
        refine kk.mono ?_
        rintro e1 V3 ⟨rfl, hb3⟩
        clear kk
        have G3 : Hid (Below A.heap.size A V3) := G1.out.trans (hb3.mono G1.out.size)
        refine hK.out _ _ (fun _ => G3.out) ?_
        clear hK K
        try simp only [Act.put, List.setIfInBounds_toArray, List.set_cons_zero, List.set_cons_succ]
        refine wpAnyJ_take (i := 8) (oi := { dst := some 18, op := Go.Op.binOp Go.BinOp.add 9 (Go.Operand.tmp 14) (Go.Operand.tmp 17) 9, type := 9, pos := "ref.go:39", after := #[{ on := 4, ground := Go.Ground.data }, { on := 7, ground := Go.Ground.data }], guard := none }) (v := .string P1) rfl rfl (waits_of (by kernel_rfl)) (by kernel_rfl) (by kernel_rfl) (by kernel_rfl) (fun _ _ _ h => hQp _ _ _ _ _ h) (Or.inl ⟨by rfl, fun W hS => ?_⟩) G3.out ?_
        · go_simp
        simp only [Act.put, List.setIfInBounds_toArray, List.set_cons_zero, List.set_cons_succ]
        refine wpAnyJ_ready (rs := [11]) (by kernel_rfl) (by simp) ?_
        refine AllJ.cons (o := { dst := some 21, op := Go.Op.call { callee := Go.Callee.value (Go.Operand.func 22), args := #[Go.Operand.tmp 20], argTypes := #[3] }, type := 9, pos := "ref.go:39", after := #[{ on := 10, ground := Go.Ground.data }, { on := 7, ground := Go.Ground.chain }], guard := none }) rfl (fun K hK => ?_) (AllJ.nil)
        ·
          have kk := H22.out V3
          go_simp
          go_at_call 22
          refine kk.mono ?_
          rintro e1 V4 ⟨rfl, hb4⟩
          clear kk
          have G4 : Hid (Below A.heap.size A V4) := G3.out.trans (hb4.mono G3.out.size)
          refine hK.out _ _ (fun _ => G4.out) ?_
          clear hK K
          try simp only [Act.put, List.setIfInBounds_toArray, List.set_cons_zero, List.set_cons_succ]
          refine wpAnyJ_take (i := 12) (oi := { dst := some 22, op := Go.Op.binOp Go.BinOp.add 9 (Go.Operand.tmp 18) (Go.Operand.tmp 21) 9, type := 9, pos := "ref.go:39", after := #[{ on := 8, ground := Go.Ground.data }, { on := 11, ground := Go.Ground.data }], guard := none }) (v := .string P2) rfl rfl (waits_of (by kernel_rfl)) (by kernel_rfl) (by kernel_rfl) (by kernel_rfl) (fun _ _ _ h => hQp _ _ _ _ _ h) (Or.inl ⟨by rfl, fun W hS => ?_⟩) G4.out ?_
          · go_simp
          simp only [Act.put, List.setIfInBounds_toArray, List.set_cons_zero, List.set_cons_succ]
          refine wpAnyJ_take (i := 13) (oi := { dst := some 4, op := Go.Op.assign (Go.Operand.tmp 22), type := 9, pos := "ref.go:39", after := #[{ on := 12, ground := Go.Ground.data }, { on := 11, ground := Go.Ground.chain }, { on := 0, ground := Go.Ground.phase }, { on := 1, ground := Go.Ground.phase }, { on := 2, ground := Go.Ground.phase }, { on := 3, ground := Go.Ground.phase }, { on := 4, ground := Go.Ground.phase }, { on := 5, ground := Go.Ground.phase }, { on := 6, ground := Go.Ground.phase }, { on := 7, ground := Go.Ground.phase }, { on := 8, ground := Go.Ground.phase }, { on := 9, ground := Go.Ground.phase }, { on := 10, ground := Go.Ground.phase }, { on := 11, ground := Go.Ground.phase }, { on := 12, ground := Go.Ground.phase }], guard := none }) (v := .string P2) rfl rfl (waits_of (by kernel_rfl)) (by kernel_rfl) (by kernel_rfl) (by kernel_rfl) (fun _ _ _ h => hQp _ _ _ _ _ h) (Or.inl ⟨by rfl, fun W hS => ?_⟩) G4.out ?_
          · go_simp
          simp only [Act.put, List.setIfInBounds_toArray, List.set_cons_zero, List.set_cons_succ]
          exact wpAnyJ_done (by kernel_rfl) (HEND.out _ _ G4.out) _
    ·
      have kk := H21.out V1
      go_simp
      go_at_call 21
      refine kk.mono ?_
      rintro e1 V5 ⟨rfl, hb5⟩
      clear kk
      have G5 : Hid (Below A.heap.size A V5) := G1.out.trans (hb5.mono G1.out.size)
      have x5 : V5.cell? ⟨g1, 0, none⟩ = some (.int .u8 y) := (hb5.cell (p := ⟨g1, 0, none⟩) y1).trans x1
      have y5 : g1 < V5.heap.size := Nat.lt_of_lt_of_le y1 hb5.size
      refine hK.out _ _ (fun _ => G5.out) ?_
      clear hK K
      try simp only [Act.put, List.setIfInBounds_toArray, List.set_cons_zero, List.set_cons_succ]
      refine wpAnyJ_ready (rs := [4, 11]) (by kernel_rfl) (by simp) ?_
      refine AllJ.cons (o := { dst := some 14, op := Go.Op.convert 47 9 (Go.Operand.tmp 13), type := 9, pos := "ref.go:39", after := #[{ on := 3, ground := Go.Ground.data }], guard := none }) rfl (fun K hK => ?_) (AllJ.cons (o := { dst := some 21, op := Go.Op.call { callee := Go.Callee.value (Go.Operand.func 22), args := #[Go.Operand.tmp 20], argTypes := #[3] }, type := 9, pos := "ref.go:39", after := #[{ on := 10, ground := Go.Ground.data }, { on := 7, ground := Go.Ground.chain }], guard := none }) rfl (fun K hK => ?_) (AllJ.nil))
      ·
        have hcv := HCG.out g1 _ x5
        go_simp
        refine hK.out _ _ (fun _ => G5.out) ?_
        clear hK K
        try simp only [Act.put, List.setIfInBounds_toArray, List.set_cons_zero, List.set_cons_succ]
        refine wpAnyJ_take (i := 8) (oi := { dst := some 18, op := Go.Op.binOp Go.BinOp.add 9 (Go.Operand.tmp 14) (Go.Operand.tmp 17) 9, type := 9, pos := "ref.go:39", after := #[{ on := 4, ground := Go.Ground.data }, { on := 7, ground := Go.Ground.data }], guard := none }) (v := .string P1) rfl rfl (waits_of (by kernel_rfl)) (by kernel_rfl) (by kernel_rfl) (by kernel_rfl) (fun _ _ _ h => hQp _ _ _ _ _ h) (Or.inl ⟨by rfl, fun W hS => ?_⟩) G5.out ?_
        · go_simp
        simp only [Act.put, List.setIfInBounds_toArray, List.set_cons_zero, List.set_cons_succ]
        refine wpAnyJ_ready (rs := [11]) (by kernel_rfl) (by simp) ?_
        refine AllJ.cons (o := { dst := some 21, op := Go.Op.call { callee := Go.Callee.value (Go.Operand.func 22), args := #[Go.Operand.tmp 20], argTypes := #[3] }, type := 9, pos := "ref.go:39", after := #[{ on := 10, ground := Go.Ground.data }, { on := 7, ground := Go.Ground.chain }], guard := none }) rfl (fun K hK => ?_) (AllJ.nil)
        ·
          have kk := H22.out V5
          go_simp
          go_at_call 22
          refine kk.mono ?_
          rintro e1 V7 ⟨rfl, hb7⟩
          clear kk
          have G7 : Hid (Below A.heap.size A V7) := G5.out.trans (hb7.mono G5.out.size)
          refine hK.out _ _ (fun _ => G7.out) ?_
          clear hK K
          try simp only [Act.put, List.setIfInBounds_toArray, List.set_cons_zero, List.set_cons_succ]
          refine wpAnyJ_take (i := 12) (oi := { dst := some 22, op := Go.Op.binOp Go.BinOp.add 9 (Go.Operand.tmp 18) (Go.Operand.tmp 21) 9, type := 9, pos := "ref.go:39", after := #[{ on := 8, ground := Go.Ground.data }, { on := 11, ground := Go.Ground.data }], guard := none }) (v := .string P2) rfl rfl (waits_of (by kernel_rfl)) (by kernel_rfl) (by kernel_rfl) (by kernel_rfl) (fun _ _ _ h => hQp _ _ _ _ _ h) (Or.inl ⟨by rfl, fun W hS => ?_⟩) G7.out ?_
          · go_simp
          simp only [Act.put, List.setIfInBounds_toArray, List.set_cons_zero, List.set_cons_succ]
          refine wpAnyJ_take (i := 13) (oi := { dst := some 4, op := Go.Op.assign (Go.Operand.tmp 22), type := 9, pos := "ref.go:39", after := #[{ on := 12, ground := Go.Ground.data }, { on := 11, ground := Go.Ground.chain }, { on := 0, ground := Go.Ground.phase }, { on := 1, ground := Go.Ground.phase }, { on := 2, ground := Go.Ground.phase }, { on := 3, ground := Go.Ground.phase }, { on := 4, ground := Go.Ground.phase }, { on := 5, ground := Go.Ground.phase }, { on := 6, ground := Go.Ground.phase }, { on := 7, ground := Go.Ground.phase }, { on := 8, ground := Go.Ground.phase }, { on := 9, ground := Go.Ground.phase }, { on := 10, ground := Go.Ground.phase }, { on := 11, ground := Go.Ground.phase }, { on := 12, ground := Go.Ground.phase }], guard := none }) (v := .string P2) rfl rfl (waits_of (by kernel_rfl)) (by kernel_rfl) (by kernel_rfl) (by kernel_rfl) (fun _ _ _ h => hQp _ _ _ _ _ h) (Or.inl ⟨by rfl, fun W hS => ?_⟩) G7.out ?_
          · go_simp
          simp only [Act.put, List.setIfInBounds_toArray, List.set_cons_zero, List.set_cons_succ]
          exact wpAnyJ_done (by kernel_rfl) (HEND.out _ _ G7.out) _
      ·
        have kk := H22.out V5
        go_simp
        go_at_call 22
        refine kk.mono ?_
        rintro e1 V8 ⟨rfl, hb8⟩
        clear kk
        have G8 : Hid (Below A.heap.size A V8) := G5.out.trans (hb8.mono G5.out.size)
        have x8 : V8.cell? ⟨g1, 0, none⟩ = some (.int .u8 y) := (hb8.cell (p := ⟨g1, 0, none⟩) y5).trans x5
        have y8 : g1 < V8.heap.size := Nat.lt_of_lt_of_le y5 hb8.size
        refine hK.out _ _ (fun _ => G8.out) ?_
        clear hK K
        try simp only [Act.put, List.setIfInBounds_toArray, List.set_cons_zero, List.set_cons_succ]
        refine wpAnyJ_ready (rs := [4]) (by kernel_rfl) (by simp) ?_
        refine AllJ.cons (o := { dst := some 14, op := Go.Op.convert 47 9 (Go.Operand.tmp 13), type := 9, pos := "ref.go:39", after := #[{ on := 3, ground := Go.Ground.data }], guard := none }) rfl (fun K hK => ?_) (AllJ.nil)
        ·
          have hcv := HCG.out g1 _ x8
          go_simp
          refine hK.out _ _ (fun _ => G8.out) ?_
          clear hK K
          try simp only [Act.put, List.setIfInBounds_toArray, List.set_cons_zero, List.set_cons_succ]
          refine wpAnyJ_take (i := 8) (oi := { dst := some 18, op := Go.Op.binOp Go.BinOp.add 9 (Go.Operand.tmp 14) (Go.Operand.tmp 17) 9, type := 9, pos := "ref.go:39", after := #[{ on := 4, ground := Go.Ground.data }, { on := 7, ground := Go.Ground.data }], guard := none }) (v := .string P1) rfl rfl (waits_of (by kernel_rfl)) (by kernel_rfl) (by kernel_rfl) (by kernel_rfl) (fun _ _ _ h => hQp _ _ _ _ _ h) (Or.inl ⟨by rfl, fun W hS => ?_⟩) G8.out ?_
          · go_simp
          simp only [Act.put, List.setIfInBounds_toArray, List.set_cons_zero, List.set_cons_succ]
          refine wpAnyJ_take (i := 12) (oi := { dst := some 22, op := Go.Op.binOp Go.BinOp.add 9 (Go.Operand.tmp 18) (Go.Operand.tmp 21) 9, type := 9, pos := "ref.go:39", after := #[{ on := 8, ground := Go.Ground.data }, { on := 11, ground := Go.Ground.data }], guard := none }) (v := .string P2) rfl rfl (waits_of (by kernel_rfl)) (by kernel_rfl) (by kernel_rfl) (by kernel_rfl) (fun _ _ _ h => hQp _ _ _ _ _ h) (Or.inl ⟨by rfl, fun W hS => ?_⟩) G8.out ?_
          · go_simp
          simp only [Act.put, List.setIfInBounds_toArray, List.set_cons_zero, List.set_cons_succ]
          refine wpAnyJ_take (i := 13) (oi := { dst := some 4, op := Go.Op.assign (Go.Operand.tmp 22), type := 9, pos := "ref.go:39", after := #[{ on := 12, ground := Go.Ground.data }, { on := 11, ground := Go.Ground.chain }, { on := 0, ground := Go.Ground.phase }, { on := 1, ground := Go.Ground.phase }, { on := 2, ground := Go.Ground.phase }, { on := 3, ground := Go.Ground.phase }, { on := 4, ground := Go.Ground.phase }, { on := 5, ground := Go.Ground.phase }, { on := 6, ground := Go.Ground.phase }, { on := 7, ground := Go.Ground.phase }, { on := 8, ground := Go.Ground.phase }, { on := 9, ground := Go.Ground.phase }, { on := 10, ground := Go.Ground.phase }, { on := 11, ground := Go.Ground.phase }, { on := 12, ground := Go.Ground.phase }], guard := none }) (v := .string P2) rfl rfl (waits_of (by kernel_rfl)) (by kernel_rfl) (by kernel_rfl) (by kernel_rfl) (fun _ _ _ h => hQp _ _ _ _ _ h) (Or.inl ⟨by rfl, fun W hS => ?_⟩) G8.out ?_
          · go_simp
          simp only [Act.put, List.setIfInBounds_toArray, List.set_cons_zero, List.set_cons_succ]
          exact wpAnyJ_done (by kernel_rfl) (HEND.out _ _ G8.out) _
  ·
    have kk := H21.out V0
    go_simp
    go_at_call 21
    refine kk.mono ?_
    rintro e1 V10 ⟨rfl, hb10⟩
    clear kk
    have G10 : Hid (Below A.heap.size A V10) := G0.out.trans (hb10.mono G0.out.size)
    refine hK.out _ _ (fun _ => G10.out) ?_
    clear hK K
    try simp only [Act.put, List.setIfInBounds_toArray, List.set_cons_zero, List.set_cons_succ]
    refine wpAnyJ_ready (rs := [3, 11]) (by kernel_rfl) (by simp) ?_
    refine AllJ.cons (o := { dst := some 13, op := Go.Op.buildSlice 47 1 #[(0, Go.Operand.tmp 12)], type := 47, pos := "ref.go:39", after := #[{ on := 2, ground := Go.Ground.data }], guard := none }) rfl (fun K hK => ?_) (AllJ.cons (o := { dst := some 21, op := Go.Op.call { callee := Go.Callee.value (Go.Operand.func 22), args := #[Go.Operand.tmp 20], argTypes := #[3] }, type := 9, pos := "ref.go:39", after := #[{ on := 10, ground := Go.Ground.data }, { on := 7, ground := Go.Ground.chain }], guard := none }) rfl (fun K hK => ?_) (AllJ.nil))
    ·
      go_simp
      have G11 : Hid (Below A.heap.size A (V10.alloc (.cells #[.int .u8 y] 5))) := bal G10.out _
      have x11 : (V10.alloc (.cells #[.int .u8 y] 5)).cell? ⟨V10.heap.size, 0, none⟩ = some (.int .u8 y) := by simp [go_sem]
      have y11 : V10.heap.size < (V10.alloc (.cells #[.int .u8 y] 5)).heap.size := by simp
      refine hK.out _ _ (fun _ => G11.out) ?_
      clear hK K
      try simp only [Act.put, List.setIfInBounds_toArray, List.set_cons_zero, List.set_cons_succ]
      obtain ⟨V11, hV11⟩ : ∃ X, (V10.alloc (.cells #[.int .u8 y] 5)) = X := ⟨_, rfl⟩
      obtain ⟨g11, hg11⟩ : ∃ X, V10.heap.size = X := ⟨_, rfl⟩
      rw [hV11, hg11] at x11 y11
      rw [hV11] at G11 ⊢
      try rw [hg11]
      clear hV11 hg11
      refine wpAnyJ_ready (rs := [4, 11]) (by kernel_rfl) (by simp) ?_
      refine AllJ.cons (o := { dst := some 14, op := Go.Op.convert 47 9 (Go.Operand.tmp 13), type := 9, pos := "ref.go:39", after := #[{ on := 3, ground := Go.Ground.data }], guard := none }) rfl (fun K hK => ?_) (AllJ.cons (o := { dst := some 21, op := Go.Op.call { callee := Go.Callee.value (Go.Operand.func 22), args := #[Go.Operand.tmp 20], argTypes := #[3] }, type := 9, pos := "ref.go:39", after := #[{ on := 10, ground := Go.Ground.data }, { on := 7, ground := Go.Ground.chain }], guard := none }) rfl (fun K hK => ?_) (AllJ.nil))
      ·
        have hcv := HCG.out g11 _ x11
        go_simp
        refine hK.out _ _ (fun _ => G11.out) ?_
        clear hK K
        try simp only [Act.put, List.setIfInBounds_toArray, List.set_cons_zero, List.set_cons_succ]
        refine wpAnyJ_take (i := 8) (oi := { dst := some 18, op := Go.Op.binOp Go.BinOp.add 9 (Go.Operand.tmp 14) (Go.Operand.tmp 17) 9, type := 9, pos := "ref.go:39", after := #[{ on := 4, ground := Go.Ground.data }, { on := 7, ground := Go.Ground.data }], guard := none }) (v := .string P1) rfl rfl (waits_of (by kernel_rfl)) (by kernel_rfl) (by kernel_rfl) (by kernel_rfl) (fun _ _ _ h => hQp _ _ _ _ _ h) (Or.inl ⟨by rfl, fun W hS => ?_⟩) G11.out ?_
        · go_simp
        simp only [Act.put, List.setIfInBounds_toArray, List.set_cons_zero, List.set_cons_succ]
        refine wpAnyJ_ready (rs := [11]) (by kernel_rfl) (by simp) ?_
        refine AllJ.cons (o := { dst := some 21, op := Go.Op.call { callee := Go.Callee.value (Go.Operand.func 22), args := #[Go.Operand.tmp 20], argTypes := #[3] }, type := 9, pos := "ref.go:39", after := #[{ on := 10, ground := Go.Ground.data }, { on := 7, ground := Go.Ground.chain }], guard := none }) rfl (fun K hK => ?_) (AllJ.nil)
        ·
          have kk := H22.out V11
          go_simp
          go_at_call 22
          refine kk.mono ?_
          rintro e1 V13 ⟨rfl, hb13⟩
          clear kk
          have G13 : Hid (Below A.heap.size A V13) := G11.out.trans (hb13.mono G11.out.size)
          refine hK.out _ _ (fun _ => G13.out) ?_
          clear hK K
          try simp only [Act.put, List.setIfInBounds_toArray, List.set_cons_zero, List.set_cons_succ]
          refine wpAnyJ_take (i := 12) (oi := { dst := some 22, op := Go.Op.binOp Go.BinOp.add 9 (Go.Operand.tmp 18) (Go.Operand.tmp 21) 9, type := 9, pos := "ref.go:39", after := #[{ on := 8, ground := Go.Ground.data }, { on := 11, ground := Go.Ground.data }], guard := none }) (v := .string P2) rfl rfl (waits_of (by kernel_rfl)) (by kernel_rfl) (by kernel_rfl) (by kernel_rfl) (fun _ _ _ h => hQp _ _ _ _ _ h) (Or.inl ⟨by rfl, fun W hS => ?_⟩) G13.out ?_
          · go_simp
          simp only [Act.put, List.setIfInBounds_toArray, List.set_cons_zero, List.set_cons_succ]
          refine wpAnyJ_take (i := 13) (oi := { dst := some 4, op := Go.Op.assign (Go.Operand.tmp 22), type := 9, pos := "ref.go:39", after := #[{ on := 12, ground := Go.Ground.data }, { on := 11, ground := Go.Ground.chain }, { on := 0, ground := Go.Ground.phase }, { on := 1, ground := Go.Ground.phase }, { on := 2, ground := Go.Ground.phase }, { on := 3, ground := Go.Ground.phase }, { on := 4, ground := Go.Ground.phase }, { on := 5, ground := Go.Ground.phase }, { on := 6, ground := Go.Ground.phase }, { on := 7, ground := Go.Ground.phase }, { on := 8, ground := Go.Ground.phase }, { on := 9, ground := Go.Ground.phase }, { on := 10, ground := Go.Ground.phase }, { on := 11, ground := Go.Ground.phase }, { on := 12, ground := Go.Ground.phase }], guard := none }) (v := .string P2) rfl rfl (waits_of (by kernel_rfl)) (by kernel_rfl) (by kernel_rfl) (by kernel_rfl) (fun _ _ _ h => hQp _ _ _ _ _ h) (Or.inl ⟨by rfl, fun W hS => ?_⟩) G13.out ?_
          · go_simp
          simp only [Act.put, List.setIfInBounds_toArray, List.set_cons_zero, List.set_cons_succ]
          exact wpAnyJ_done (by kernel_rfl) (HEND.out _ _ G13.out) _
      ·
        have kk := H22.out V11
        go_simp
        go_at_call 22
        refine kk.mono ?_
        rintro e1 V14 ⟨rfl, hb14⟩
        clear kk
        have G14 : Hid (Below A.heap.size A V14) := G11.out.trans (hb14.mono G11.out.size)
        have x14 : V14.cell? ⟨g11, 0, none⟩ = some (.int .u8 y) := (hb14.cell (p := ⟨g11, 0, none⟩) y11).trans x11
        have y14 : g11 < V14.heap.size := Nat.lt_of_lt_of_le y11 hb14.size
        refine hK.out _ _ (fun _ => G14.out) ?_
        clear hK K
        try simp only [Act.put, List.setIfInBounds_toArray, List.set_cons_zero, List.set_cons_succ]
        refine wpAnyJ_ready (rs := [4]) (by kernel_rfl) (by simp) ?_
        refine AllJ.cons (o := { dst := some 14, op := Go.Op.convert 47 9 (Go.Operand.tmp 13), type := 9, pos := "ref.go:39", after := #[{ on := 3, ground := Go.Ground.data }], guard := none }) rfl (fun K hK => ?_) (AllJ.nil)
        ·
          have hcv := HCG.out g11 _ x14
          go_simp
          refine hK.out _ _ (fun _ => G14.out) ?_
          clear hK K
          try simp only [Act.put, List.setIfInBounds_toArray, List.set_cons_zero, List.set_cons_succ]
          refine wpAnyJ_take (i := 8) (oi := { dst := some 18, op := Go.Op.binOp Go.BinOp.add 9 (Go.Operand.tmp 14) (Go.Operand.tmp 17) 9, type := 9, pos := "ref.go:39", after := #[{ on := 4, ground := Go.Ground.data }, { on := 7, ground := Go.Ground.data }], guard := none }) (v := .string P1) rfl rfl (waits_of (by kernel_rfl)) (by kernel_rfl) (by kernel_rfl) (by kernel_rfl) (fun _ _ _ h => hQp _ _ _ _ _ h) (Or.inl ⟨by rfl, fun W hS => ?_⟩) G14.out ?_
          · go_simp
          simp only [Act.put, List.setIfInBounds_toArray, List.set_cons_zero, List.set_cons_succ]
          refine wpAnyJ_take (i := 12) (oi := { dst := some 22, op := Go.Op.binOp Go.BinOp.add 9 (Go.Operand.tmp 18) (Go.Operand.tmp 21) 9, type := 9, pos := "ref.go:39", after := #[{ on := 8, ground := Go.Ground.data }, { on := 11, ground := Go.Ground.data }], guard := none }) (v := .string P2) rfl rfl (waits_of (by kernel_rfl)) (by kernel_rfl) (by kernel_rfl) (by kernel_rfl) (fun _ _ _ h => hQp _ _ _ _ _ h) (Or.inl ⟨by rfl, fun W hS => ?_⟩) G14.out ?_
          · go_simp
          simp only [Act.put, List.setIfInBounds_toArray, List.set_cons_zero, List.set_cons_succ]
          refine wpAnyJ_take (i := 13) (oi := { dst := some 4, op := Go.Op.assign (Go.Operand.tmp 22), type := 9, pos := "ref.go:39", after := #[{ on := 12, ground := Go.Ground.data }, { on := 11, ground := Go.Ground.chain }, { on := 0, ground := Go.Ground.phase }, { on := 1, ground := Go.Ground.phase }, { on := 2, ground := Go.Ground.phase }, { on := 3, ground := Go.Ground.phase }, { on := 4, ground := Go.Ground.phase }, { on := 5, ground := Go.Ground.phase }, { on := 6, ground := Go.Ground.phase }, { on := 7, ground := Go.Ground.phase }, { on := 8, ground := Go.Ground.phase }, { on := 9, ground := Go.Ground.phase }, { on := 10, ground := Go.Ground.phase }, { on := 11, ground := Go.Ground.phase }, { on := 12, ground := Go.Ground.phase }], guard := none }) (v := .string P2) rfl rfl (waits_of (by kernel_rfl)) (by kernel_rfl) (by kernel_rfl) (by kernel_rfl) (fun _ _ _ h => hQp _ _ _ _ _ h) (Or.inl ⟨by rfl, fun W hS => ?_⟩) G14.out ?_
          · go_simp
          simp only [Act.put, List.setIfInBounds_toArray, List.set_cons_zero, List.set_cons_succ]
          exact wpAnyJ_done (by kernel_rfl) (HEND.out _ _ G14.out) _
    ·
      have kk := H22.out V10
      go_simp
      go_at_call 22
      refine kk.mono ?_
      rintro e1 V16 ⟨rfl, hb16⟩
      clear kk
      have G16 : Hid (Below A.heap.size A V16) := G10.out.trans (hb16.mono G10.out.size)
      refine hK.out _ _ (fun _ => G16.out) ?_
      clear hK K
      try simp only [Act.put, List.setIfInBounds_toArray, List.set_cons_zero, List.set_cons_succ]
      refine wpAnyJ_ready (rs := [3]) (by kernel_rfl) (by simp) ?_
      refine AllJ.cons (o := { dst := some 13, op := Go.Op.buildSlice 47 1 #[(0, Go.Operand.tmp 12)], type := 47, pos := "ref.go:39", after := #[{ on := 2, ground := Go.Ground.data }], guard := none }) rfl (fun K hK => ?_) (AllJ.nil)
      ·
        go_simp
        have G17 : Hid (Below A.heap.size A (V16.alloc (.cells #[.int .u8 y] 5))) := bal G16.out _
        have x17 : (V16.alloc (.cells #[.int .u8 y] 5)).cell? ⟨V16.heap.size, 0, none⟩ = some (.int .u8 y) := by simp [go_sem]
        have y17 : V16.heap.size < (V16.alloc (.cells #[.int .u8 y] 5)).heap.size := by simp
        refine hK.out _ _ (fun _ => G17.out) ?_
        clear hK K
        try simp only [Act.put, List.setIfInBounds_toArray, List.set_cons_zero, List.set_cons_succ]
        obtain ⟨V17, hV17⟩ : ∃ X, (V16.alloc (.cells #[.int .u8 y] 5)) = X := ⟨_, rfl⟩
        obtain ⟨g17, hg17⟩ : ∃ X, V16.heap.size = X := ⟨_, rfl⟩
        rw [hV17, hg17] at x17 y17
        rw [hV17] at G17 ⊢
        try rw [hg17]
        clear hV17 hg17
        refine wpAnyJ_ready (rs := [4]) (by kernel_rfl) (by simp) ?_
        refine AllJ.cons (o := { dst := some 14, op := Go.Op.convert 47 9 (Go.Operand.tmp 13), type := 9, pos := "ref.go:39", after := #[{ on := 3, ground := Go.Ground.data }], guard := none }) rfl (fun K hK => ?_) (AllJ.nil)
        ·
          have hcv := HCG.out g17 _ x17
          go_simp
          refine hK.out _ _ (fun _ => G17.out) ?_
          clear hK K
          try simp only [Act.put, List.setIfInBounds_toArray, List.set_cons_zero, List.set_cons_succ]
          refine wpAnyJ_take (i := 8) (oi := { dst := some 18, op := Go.Op.binOp Go.BinOp.add 9 (Go.Operand.tmp 14) (Go.Operand.tmp 17) 9, type := 9, pos := "ref.go:39", after := #[{ on := 4, ground := Go.Ground.data }, { on := 7, ground := Go.Ground.data }], guard := none }) (v := .string P1) rfl rfl (waits_of (by kernel_rfl)) (by kernel_rfl) (by kernel_rfl) (by kernel_rfl) (fun _ _ _ h => hQp _ _ _ _ _ h) (Or.inl ⟨by rfl, fun W hS => ?_⟩) G17.out ?_
          · go_simp
          simp only [Act.put, List.setIfInBounds_toArray, List.set_cons_zero, List.set_cons_succ]
          refine wpAnyJ_take (i := 12) (oi := { dst := some 22, op := Go.Op.binOp Go.BinOp.add 9 (Go.Operand.tmp 18) (Go.Operand.tmp 21) 9, type := 9, pos := "ref.go:39", after := #[{ on := 8, ground := Go.Ground.data }, { on := 11, ground := Go.Ground.data }], guard := none }) (v := .string P2) rfl rfl (waits_of (by kernel_rfl)) (by kernel_rfl) (by kernel_rfl) (by kernel_rfl) (fun _ _ _ h => hQp _ _ _ _ _ h) (Or.inl ⟨by rfl, fun W hS => ?_⟩) G17.out ?_
          · go_simp
          simp only [Act.put, List.setIfInBounds_toArray, List.set_cons_zero, List.set_cons_succ]
          refine wpAnyJ_take (i := 13) (oi := { dst := some 4, op := Go.Op.assign (Go.Operand.tmp 22), type := 9, pos := "ref.go:39", after := #[{ on := 12, ground := Go.Ground.data }, { on := 11, ground := Go.Ground.chain }, { on := 0, ground := Go.Ground.phase }, { on := 1, ground := Go.Ground.phase }, { on := 2, ground := Go.Ground.phase }, { on := 3, ground := Go.Ground.phase }, { on := 4, ground := Go.Ground.phase }, { on := 5, ground := Go.Ground.phase }, { on := 6, ground := Go.Ground.phase }, { on := 7, ground := Go.Ground.phase }, { on := 8, ground := Go.Ground.phase }, { on := 9, ground := Go.Ground.phase }, { on := 10, ground := Go.Ground.phase }, { on := 11, ground := Go.Ground.phase }, { on := 12, ground := Go.Ground.phase }], guard := none }) (v := .string P2) rfl rfl (waits_of (by kernel_rfl)) (by kernel_rfl) (by kernel_rfl) (by kernel_rfl) (fun _ _ _ h => hQp _ _ _ _ _ h) (Or.inl ⟨by rfl, fun W hS => ?_⟩) G17.out ?_
          · go_simp
          simp only [Act.put, List.setIfInBounds_toArray, List.set_cons_zero, List.set_cons_succ]
          exact wpAnyJ_done (by kernel_rfl) (HEND.out _ _ G17.out) _
end Go.Proofs.Ytnoedkebmpfagaa

import Derived.Test.YtidfkencjdjkbaaGreatDoorQo06
/-
  PACKAGE speech: numbers that are refused (regions that throw).
-/
namespace Go.Proofs.YtidfkencjdjkbaaGreatDoor
open Go.RowKit Sp

set_option maxRecDepth 100000 in
set_option maxHeartbeats 1000000 in
theorem num2a {Q : Exit → Act → World → Prop} (hQp : ∀ c a d v w, Q (.panic c) (Act.put a d v) w → Q (.panic c) a w) (t1 t2 t4 t5 t6 t7 t8 t9 t10 t11 t12 t13 t14 t15 t16 t17 t18 t19 t20 t21 t22 t23 t24 t25 t26 t27 t28 t29 t30 t31 t32 t33 t34 t35 t36 t37 t38 t39 t40 t41 t42 t43 t44 t45 t46 : Value) (A : World) (R : Nat) (x : By) (nd : Nat) (at' : Int) (hnd : nd = 0)
    (hD : ∀ W : World, Below A.heap.size A W → Calls Tryz.prog 81 #[.string (tx x)] W fun e W' => e = .returned (.int .i64 (nd : Int)) ∧ W' = W)
    (hM : ∀ W : World, Below A.heap.size A W → Calls Tryz.prog 23 #[ptR R, .bool false, .int .i64 2] W fun e W' => e = .panicked (chn 2 at') ∧ W' = W)
    (hEnd : ∀ (a : Act) (W : World), a.defers = [] → Below A.heap.size A W → Q (.panic (chn 2 at')) a W) :
    (Code.region 2 #[{ dst := some 10, op := Op.move (Operand.tmp 0), type := 95, pos := "reader.go:145", after := #[], guard := none }, { dst := some 11, op := Op.nilCheck (Operand.tmp 10), type := 0, pos := "reader.go:145", after := #[{ on := 0, ground := Ground.data }], guard := none }, { dst := some 12, op := Op.fieldAddr 61 (Operand.tmp 11) 0, type := 0, pos := "reader.go:145", after := #[{ on := 1, ground := Ground.data }], guard := none }, { dst := some 13, op := Op.move (Operand.tmp 3), type := 9, pos := "reader.go:145", after := #[], guard := none }, { dst := some 14, op := Op.call { callee := Callee.value (Operand.func 81), args := #[Operand.tmp 13], argTypes := #[9] }, type := 3, pos := "reader.go:145", after := #[{ on := 3, ground := Ground.data }], guard := none }, { dst := some 15, op := Op.binOp BinOp.gtr 3 (Operand.tmp 14) (Operand.const (Value.int IntKind.i64 0)) 3, type := 4, pos := "reader.go:145", after := #[{ on := 4, ground := Ground.data }], guard := none }, { dst := some 16, op := Op.move (Operand.tmp 15), type := 4, pos := "reader.go:145", after := #[{ on := 5, ground := Ground.data }, { on := 4, ground := Ground.chain }], guard := none }, { dst := some 17, op := Op.move (Operand.tmp 3), type := 9, pos := "reader.go:145", after := #[{ on := 6, ground := Ground.guard }], guard := some (6, true) }, { dst := some 18, op := Op.index 9 (Operand.tmp 17) (Operand.const (Value.int IntKind.i64 0)), type := 5, pos := "reader.go:145", after := #[{ on := 7, ground := Ground.data }, { on := 6, ground := Ground.guard }], guard := some (6, true) }, { dst := some 19, op := Op.binOp BinOp.neq 5 (Operand.tmp 18) (Operand.const (Value.int IntKind.u8 48)) 5, type := 4, pos := "reader.go:145", after := #[{ on := 8, ground := Ground.data }, { on := 6, ground := Ground.guard }], guard := some (6, true) }, { dst := some 20, op := Op.move (Operand.tmp 19), type := 4, pos := "reader.go:145", after := #[{ on := 9, ground := Ground.data }, { on := 6, ground := Ground.chain }, { on := 6, ground := Ground.guard }], guard := some (6, true) }, { dst := some 21, op := Op.move (Operand.tmp 3), type := 9, pos := "reader.go:145", after := #[{ on := 10, ground := Ground.guard }], guard := some (10, false) }, { dst := some 22, op := Op.call { callee := Callee.builtin Builtin.len, args := #[Operand.tmp 21], argTypes := #[9] }, type := 3, pos := "reader.go:145", after := #[{ on := 11, ground := Ground.data }, { on := 10, ground := Ground.guard }], guard := some (10, false) }, { dst := some 23, op := Op.binOp BinOp.eql 3 (Operand.tmp 22) (Operand.const (Value.int IntKind.i64 1)) 3, type := 4, pos := "reader.go:145", after := #[{ on := 12, ground := Ground.data }, { on := 10, ground := Ground.guard }], guard := some (10, false) }, { dst := some 24, op := Op.pick (Operand.tmp 20) (Operand.const (Value.bool true)) (Operand.tmp 23), type := 4, pos := "reader.go:145", after := #[{ on := 10, ground := Ground.data }, { on := 13, ground := Ground.data }, { on := 6, ground := Ground.guard }], guard := some (6, true) }, { dst := some 25, op := Op.pick (Operand.tmp 16) (Operand.tmp 24) (Operand.const (Value.bool false)), type := 4, pos := "reader.go:145", after := #[{ on := 6, ground := Ground.data }, { on := 14, ground := Ground.data }], guard := none }, { dst := some 26, op := Op.call { callee := Callee.value (Operand.func 23), args := #[Operand.tmp 12, Operand.tmp 25, Operand.const (Value.int IntKind.i64 2)], argTypes := #[59, 4, 26] }, type := 0, pos := "reader.go:145", after := #[{ on := 2, ground := Ground.data }, { on := 15, ground := Ground.data }, { on := 10, ground := Ground.chain }], guard := none }] true).wp Tryz.prog Q { tmps := #[ptR R, t1, t2, .string (tx x), t4, t5, t6, t7, t8, t9, t10, t11, t12, t13, t14, t15, t16, t17, t18, t19, t20, t21, t22, t23, t24, t25, t26, t27, t28, t29, t30, t31, t32, t33, t34, t35, t36, t37, t38, t39, t40, t41, t42, t43, t44, t45, t46], defers := [] } A := by
  have HEND : Hid (∀ (a : Act) (W : World), a.defers = [] → Below A.heap.size A W → Q (.panic (chn 2 at')) a W) := hEnd
  have H_hD : Hid (∀ W : World, Below A.heap.size A W → Calls Tryz.prog 81 #[.string (tx x)] W fun e W' => e = .returned (.int .i64 (nd : Int)) ∧ W' = W) := hD
  have H_hM : Hid (∀ W : World, Below A.heap.size A W → Calls Tryz.prog 23 #[ptR R, .bool false, .int .i64 2] W fun e W' => e = .panicked (chn 2 at') ∧ W' = W) := hM
  have G0 : Hid (Below A.heap.size A A.drew) := (Below.refl _ _).drew
  clear hEnd hD hM
  refine wp_region_any (by kernel_rfl) ?_
  change wpAny _ _ _ _ _ _ _ (World.drew _)
  obtain ⟨V0, hV0⟩ : ∃ V0, A.drew = V0 := ⟨_, rfl⟩
  rw [hV0] at G0 ⊢
  clear hV0
  refine wpAny_of_J (S := fun W => Below A.heap.size A W) (J := fun _ => true) _ _ _ _ ?_
  subst hnd
  refine wpAnyJ_take (i := 0) (oi := { dst := some 10, op := Op.move (Operand.tmp 0), type := 95, pos := "reader.go:145", after := #[], guard := none }) (v := ptR R) rfl rfl (waits_of (by kernel_rfl)) (by kernel_rfl) (by kernel_rfl) (by kernel_rfl) (fun _ _ _ h => hQp _ _ _ _ _ h) (Or.inl ⟨by rfl, fun W hS => ?_⟩) G0.out ?_
  · go_simp
  simp only [Act.put, List.setIfInBounds_toArray, List.set_cons_zero, List.set_cons_succ]
  refine wpAnyJ_take (i := 1) (oi := { dst := some 11, op := Op.nilCheck (Operand.tmp 10), type := 0, pos := "reader.go:145", after := #[{ on := 0, ground := Ground.data }], guard := none }) (v := .pointer (some ⟨R, 0, none⟩)) rfl rfl (waits_of (by kernel_rfl)) (by kernel_rfl) (by kernel_rfl) (by kernel_rfl) (fun _ _ _ h => hQp _ _ _ _ _ h) (Or.inl ⟨by rfl, fun W hS => ?_⟩) G0.out ?_
  · go_simp
  simp only [Act.put, List.setIfInBounds_toArray, List.set_cons_zero, List.set_cons_succ]
  refine wpAnyJ_take (i := 2) (oi := { dst := some 12, op := Op.fieldAddr 61 (Operand.tmp 11) 0, type := 0, pos := "reader.go:145", after := #[{ on := 1, ground := Ground.data }], guard := none }) (v := .pointer (some ⟨R, 0, none⟩)) rfl rfl (waits_of (by kernel_rfl)) (by kernel_rfl) (by kernel_rfl) (by kernel_rfl) (fun _ _ _ h => hQp _ _ _ _ _ h) (Or.inl ⟨by rfl, fun W hS => ?_⟩) G0.out ?_
  · go_simp
  simp only [Act.put, List.setIfInBounds_toArray, List.set_cons_zero, List.set_cons_succ]
  refine wpAnyJ_take (i := 3) (oi := { dst := some 13, op := Op.move (Operand.tmp 3), type := 9, pos := "reader.go:145", after := #[], guard := none }) (v := .string (tx x)) rfl rfl (waits_of (by kernel_rfl)) (by kernel_rfl) (by kernel_rfl) (by kernel_rfl) (fun _ _ _ h => hQp _ _ _ _ _ h) (Or.inl ⟨by rfl, fun W hS => ?_⟩) G0.out ?_
  · go_simp
  simp only [Act.put, List.setIfInBounds_toArray, List.set_cons_zero, List.set_cons_succ]
  refine wpAnyJ_ready (rs := [4]) (by kernel_rfl) (by simp) ?_
  refine AllJ.cons (o := { dst := some 14, op := Op.call { callee := Callee.value (Operand.func 81), args := #[Operand.tmp 13], argTypes := #[9] }, type := 3, pos := "reader.go:145", after := #[{ on := 3, ground := Ground.data }], guard := none }) rfl (fun K hK => ?_) AllJ.nil
  have kk := H_hD.out V0 G0.out
  go_simp
  go_at_call 81
  refine kk.mono ?_
  rintro e1 W1 ⟨rfl, hW1⟩
  subst hW1
  clear kk
  refine hK.out _ _ (fun _ => G0.out) ?_
  clear hK K
  try simp only [Act.put, List.setIfInBounds_toArray, List.set_cons_zero, List.set_cons_succ]
  refine wpAnyJ_take (i := 5) (oi := { dst := some 15, op := Op.binOp BinOp.gtr 3 (Operand.tmp 14) (Operand.const (Value.int IntKind.i64 0)) 3, type := 4, pos := "reader.go:145", after := #[{ on := 4, ground := Ground.data }], guard := none }) (v := .bool false) rfl rfl (waits_of (by kernel_rfl)) (by kernel_rfl) (by kernel_rfl) (by kernel_rfl) (fun _ _ _ h => hQp _ _ _ _ _ h) (Or.inl ⟨by rfl, fun W hS => ?_⟩) G0.out ?_
  · go_simp
  simp only [Act.put, List.setIfInBounds_toArray, List.set_cons_zero, List.set_cons_succ]
  refine wpAnyJ_take (i := 6) (oi := { dst := some 16, op := Op.move (Operand.tmp 15), type := 4, pos := "reader.go:145", after := #[{ on := 5, ground := Ground.data }, { on := 4, ground := Ground.chain }], guard := none }) (v := .bool false) rfl rfl (waits_of (by kernel_rfl)) (by kernel_rfl) (by kernel_rfl) (by kernel_rfl) (fun _ _ _ h => hQp _ _ _ _ _ h) (Or.inl ⟨by rfl, fun W hS => ?_⟩) G0.out ?_
  · go_simp
  simp only [Act.put, List.setIfInBounds_toArray, List.set_cons_zero, List.set_cons_succ]
  refine wpAnyJ_take (i := 7) (oi := { dst := some 17, op := Op.move (Operand.tmp 3), type := 9, pos := "reader.go:145", after := #[{ on := 6, ground := Ground.guard }], guard := some (6, true) }) (v := undef) rfl rfl (waits_of (by kernel_rfl)) (by kernel_rfl) (by kernel_rfl) (by kernel_rfl) (fun _ _ _ h => hQp _ _ _ _ _ h) (Or.inr ⟨by rfl, rfl⟩) G0.out ?_
  simp only [Act.put, List.setIfInBounds_toArray, List.set_cons_zero, List.set_cons_succ]
  refine wpAnyJ_take (i := 8) (oi := { dst := some 18, op := Op.index 9 (Operand.tmp 17) (Operand.const (Value.int IntKind.i64 0)), type := 5, pos := "reader.go:145", after := #[{ on := 7, ground := Ground.data }, { on := 6, ground := Ground.guard }], guard := some (6, true) }) (v := undef) rfl rfl (waits_of (by kernel_rfl)) (by kernel_rfl) (by kernel_rfl) (by kernel_rfl) (fun _ _ _ h => hQp _ _ _ _ _ h) (Or.inr ⟨by rfl, rfl⟩) G0.out ?_
  simp only [Act.put, List.setIfInBounds_toArray, List.set_cons_zero, List.set_cons_succ]
  refine wpAnyJ_take (i := 9) (oi := { dst := some 19, op := Op.binOp BinOp.neq 5 (Operand.tmp 18) (Operand.const (Value.int IntKind.u8 48)) 5, type := 4, pos := "reader.go:145", after := #[{ on := 8, ground := Ground.data }, { on := 6, ground := Ground.guard }], guard := some (6, true) }) (v := undef) rfl rfl (waits_of (by kernel_rfl)) (by kernel_rfl) (by kernel_rfl) (by kernel_rfl) (fun _ _ _ h => hQp _ _ _ _ _ h) (Or.inr ⟨by rfl, rfl⟩) G0.out ?_
  simp only [Act.put, List.setIfInBounds_toArray, List.set_cons_zero, List.set_cons_succ]
  refine wpAnyJ_take (i := 10) (oi := { dst := some 20, op := Op.move (Operand.tmp 19), type := 4, pos := "reader.go:145", after := #[{ on := 9, ground := Ground.data }, { on := 6, ground := Ground.chain }, { on := 6, ground := Ground.guard }], guard := some (6, true) }) (v := undef) rfl rfl (waits_of (by kernel_rfl)) (by kernel_rfl) (by kernel_rfl) (by kernel_rfl) (fun _ _ _ h => hQp _ _ _ _ _ h) (Or.inr ⟨by rfl, rfl⟩) G0.out ?_
  simp only [Act.put, List.setIfInBounds_toArray, List.set_cons_zero, List.set_cons_succ]
  refine wpAnyJ_take (i := 11) (oi := { dst := some 21, op := Op.move (Operand.tmp 3), type := 9, pos := "reader.go:145", after := #[{ on := 10, ground := Ground.guard }], guard := some (10, false) }) (v := undef) rfl rfl (waits_of (by kernel_rfl)) (by kernel_rfl) (by kernel_rfl) (by kernel_rfl) (fun _ _ _ h => hQp _ _ _ _ _ h) (Or.inr ⟨by rfl, rfl⟩) G0.out ?_
  simp only [Act.put, List.setIfInBounds_toArray, List.set_cons_zero, List.set_cons_succ]
  refine wpAnyJ_take (i := 12) (oi := { dst := some 22, op := Op.call { callee := Callee.builtin Builtin.len, args := #[Operand.tmp 21], argTypes := #[9] }, type := 3, pos := "reader.go:145", after := #[{ on := 11, ground := Ground.data }, { on := 10, ground := Ground.guard }], guard := some (10, false) }) (v := undef) rfl rfl (waits_of (by kernel_rfl)) (by kernel_rfl) (by kernel_rfl) (by kernel_rfl) (fun _ _ _ h => hQp _ _ _ _ _ h) (Or.inr ⟨by rfl, rfl⟩) G0.out ?_
  simp only [Act.put, List.setIfInBounds_toArray, List.set_cons_zero, List.set_cons_succ]
  refine wpAnyJ_take (i := 13) (oi := { dst := some 23, op := Op.binOp BinOp.eql 3 (Operand.tmp 22) (Operand.const (Value.int IntKind.i64 1)) 3, type := 4, pos := "reader.go:145", after := #[{ on := 12, ground := Ground.data }, { on := 10, ground := Ground.guard }], guard := some (10, false) }) (v := undef) rfl rfl (waits_of (by kernel_rfl)) (by kernel_rfl) (by kernel_rfl) (by kernel_rfl) (fun _ _ _ h => hQp _ _ _ _ _ h) (Or.inr ⟨by rfl, rfl⟩) G0.out ?_
  simp only [Act.put, List.setIfInBounds_toArray, List.set_cons_zero, List.set_cons_succ]
  refine wpAnyJ_take (i := 14) (oi := { dst := some 24, op := Op.pick (Operand.tmp 20) (Operand.const (Value.bool true)) (Operand.tmp 23), type := 4, pos := "reader.go:145", after := #[{ on := 10, ground := Ground.data }, { on := 13, ground := Ground.data }, { on := 6, ground := Ground.guard }], guard := some (6, true) }) (v := undef) rfl rfl (waits_of (by kernel_rfl)) (by kernel_rfl) (by kernel_rfl) (by kernel_rfl) (fun _ _ _ h => hQp _ _ _ _ _ h) (Or.inr ⟨by rfl, rfl⟩) G0.out ?_
  simp only [Act.put, List.setIfInBounds_toArray, List.set_cons_zero, List.set_cons_succ]
  refine wpAnyJ_take (i := 15) (oi := { dst := some 25, op := Op.pick (Operand.tmp 16) (Operand.tmp 24) (Operand.const (Value.bool false)), type := 4, pos := "reader.go:145", after := #[{ on := 6, ground := Ground.data }, { on := 14, ground := Ground.data }], guard := none }) (v := .bool false) rfl rfl (waits_of (by kernel_rfl)) (by kernel_rfl) (by kernel_rfl) (by kernel_rfl) (fun _ _ _ h => hQp _ _ _ _ _ h) (Or.inl ⟨by rfl, fun W hS => ?_⟩) G0.out ?_
  · go_simp
  simp only [Act.put, List.setIfInBounds_toArray, List.set_cons_zero, List.set_cons_succ]
  refine wpAnyJ_ready (rs := [16]) (by kernel_rfl) (by simp) ?_
  refine AllJ.cons (o := { dst := some 26, op := Op.call { callee := Callee.value (Operand.func 23), args := #[Operand.tmp 12, Operand.tmp 25, Operand.const (Value.int IntKind.i64 2)], argTypes := #[59, 4, 26] }, type := 0, pos := "reader.go:145", after := #[{ on := 2, ground := Ground.data }, { on := 15, ground := Ground.data }, { on := 10, ground := Ground.chain }], guard := none }) rfl (fun K hK => ?_) AllJ.nil
  have kk := H_hM.out W1 G0.out
  go_simp
  go_at_call 23
  refine kk.mono ?_
  rintro e1 W1 ⟨rfl, hW1⟩
  subst hW1
  clear kk
  exact HEND.out _ _ rfl G0.out

set_option maxRecDepth 100000 in
set_option maxHeartbeats 1000000 in
theorem num2c {Q : Exit → Act → World → Prop} (hQp : ∀ c a d v w, Q (.panic c) (Act.put a d v) w → Q (.panic c) a w) (t1 t2 t4 t5 t6 t7 t8 t9 t10 t11 t12 t13 t14 t15 t16 t17 t18 t19 t20 t21 t22 t23 t24 t25 t26 t27 t28 t29 t30 t31 t32 t33 t34 t35 t36 t37 t38 t39 t40 t41 t42 t43 t44 t45 t46 : Value) (A : World) (R : Nat) (b : UInt8) (x : By) (nd : Nat) (at' : Int) (hnd : 0 < nd)
    (hD : ∀ W : World, Below A.heap.size A W → Calls Tryz.prog 81 #[.string (tx (48 :: b :: x))] W fun e W' => e = .returned (.int .i64 (nd : Int)) ∧ W' = W)
    (hM : ∀ W : World, Below A.heap.size A W → Calls Tryz.prog 23 #[ptR R, .bool false, .int .i64 2] W fun e W' => e = .panicked (chn 2 at') ∧ W' = W)
    (hEnd : ∀ (a : Act) (W : World), a.defers = [] → Below A.heap.size A W → Q (.panic (chn 2 at')) a W) :
    (Code.region 2 #[{ dst := some 10, op := Op.move (Operand.tmp 0), type := 95, pos := "reader.go:145", after := #[], guard := none }, { dst := some 11, op := Op.nilCheck (Operand.tmp 10), type := 0, pos := "reader.go:145", after := #[{ on := 0, ground := Ground.data }], guard := none }, { dst := some 12, op := Op.fieldAddr 61 (Operand.tmp 11) 0, type := 0, pos := "reader.go:145", after := #[{ on := 1, ground := Ground.data }], guard := none }, { dst := some 13, op := Op.move (Operand.tmp 3), type := 9, pos := "reader.go:145", after := #[], guard := none }, { dst := some 14, op := Op.call { callee := Callee.value (Operand.func 81), args := #[Operand.tmp 13], argTypes := #[9] }, type := 3, pos := "reader.go:145", after := #[{ on := 3, ground := Ground.data }], guard := none }, { dst := some 15, op := Op.binOp BinOp.gtr 3 (Operand.tmp 14) (Operand.const (Value.int IntKind.i64 0)) 3, type := 4, pos := "reader.go:145", after := #[{ on := 4, ground := Ground.data }], guard := none }, { dst := some 16, op := Op.move (Operand.tmp 15), type := 4, pos := "reader.go:145", after := #[{ on := 5, ground := Ground.data }, { on := 4, ground := Ground.chain }], guard := none }, { dst := some 17, op := Op.move (Operand.tmp 3), type := 9, pos := "reader.go:145", after := #[{ on := 6, ground := Ground.guard }], guard := some (6, true) }, { dst := some 18, op := Op.index 9 (Operand.tmp 17) (Operand.const (Value.int IntKind.i64 0)), type := 5, pos := "reader.go:145", after := #[{ on := 7, ground := Ground.data }, { on := 6, ground := Ground.guard }], guard := some (6, true) }, { dst := some 19, op := Op.binOp BinOp.neq 5 (Operand.tmp 18) (Operand.const (Value.int IntKind.u8 48)) 5, type := 4, pos := "reader.go:145", after := #[{ on := 8, ground := Ground.data }, { on := 6, ground := Ground.guard }], guard := some (6, true) }, { dst := some 20, op := Op.move (Operand.tmp 19), type := 4, pos := "reader.go:145", after := #[{ on := 9, ground := Ground.data }, { on := 6, ground := Ground.chain }, { on := 6, ground := Ground.guard }], guard := some (6, true) }, { dst := some 21, op := Op.move (Operand.tmp 3), type := 9, pos := "reader.go:145", after := #[{ on := 10, ground := Ground.guard }], guard := some (10, false) }, { dst := some 22, op := Op.call { callee := Callee.builtin Builtin.len, args := #[Operand.tmp 21], argTypes := #[9] }, type := 3, pos := "reader.go:145", after := #[{ on := 11, ground := Ground.data }, { on := 10, ground := Ground.guard }], guard := some (10, false) }, { dst := some 23, op := Op.binOp BinOp.eql 3 (Operand.tmp 22) (Operand.const (Value.int IntKind.i64 1)) 3, type := 4, pos := "reader.go:145", after := #[{ on := 12, ground := Ground.data }, { on := 10, ground := Ground.guard }], guard := some (10, false) }, { dst := some 24, op := Op.pick (Operand.tmp 20) (Operand.const (Value.bool true)) (Operand.tmp 23), type := 4, pos := "reader.go:145", after := #[{ on := 10, ground := Ground.data }, { on := 13, ground := Ground.data }, { on := 6, ground := Ground.guard }], guard := some (6, true) }, { dst := some 25, op := Op.pick (Operand.tmp 16) (Operand.tmp 24) (Operand.const (Value.bool false)), type := 4, pos := "reader.go:145", after := #[{ on := 6, ground := Ground.data }, { on := 14, ground := Ground.data }], guard := none }, { dst := some 26, op := Op.call { callee := Callee.value (Operand.func 23), args := #[Operand.tmp 12, Operand.tmp 25, Operand.const (Value.int IntKind.i64 2)], argTypes := #[59, 4, 26] }, type := 0, pos := "reader.go:145", after := #[{ on := 2, ground := Ground.data }, { on := 15, ground := Ground.data }, { on := 10, ground := Ground.chain }], guard := none }] true).wp Tryz.prog Q { tmps := #[ptR R, t1, t2, .string (tx (48 :: b :: x)), t4, t5, t6, t7, t8, t9, t10, t11, t12, t13, t14, t15, t16, t17, t18, t19, t20, t21, t22, t23, t24, t25, t26, t27, t28, t29, t30, t31, t32, t33, t34, t35, t36, t37, t38, t39, t40, t41, t42, t43, t44, t45, t46], defers := [] } A := by
  have HEND : Hid (∀ (a : Act) (W : World), a.defers = [] → Below A.heap.size A W → Q (.panic (chn 2 at')) a W) := hEnd
  have H_hD : Hid (∀ W : World, Below A.heap.size A W → Calls Tryz.prog 81 #[.string (tx (48 :: b :: x))] W fun e W' => e = .returned (.int .i64 (nd : Int)) ∧ W' = W) := hD
  have H_hM : Hid (∀ W : World, Below A.heap.size A W → Calls Tryz.prog 23 #[ptR R, .bool false, .int .i64 2] W fun e W' => e = .panicked (chn 2 at') ∧ W' = W) := hM
  have G0 : Hid (Below A.heap.size A A.drew) := (Below.refl _ _).drew
  clear hEnd hD hM
  refine wp_region_any (by kernel_rfl) ?_
  change wpAny _ _ _ _ _ _ _ (World.drew _)
  obtain ⟨V0, hV0⟩ : ∃ V0, A.drew = V0 := ⟨_, rfl⟩
  rw [hV0] at G0 ⊢
  clear hV0
  refine wpAny_of_J (S := fun W => Below A.heap.size A W) (J := fun _ => true) _ _ _ _ ?_
  have hnd4 : decide (0 < nd) = true := by simpa using hnd
  have hnd5 : (0 : Int) < (nd : Int) := by omega
  have e0 : ∀ h, (tx (48 :: b :: x))[0]'h = 48 := fun _ => rfl
  refine wpAnyJ_take (i := 0) (oi := { dst := some 10, op := Op.move (Operand.tmp 0), type := 95, pos := "reader.go:145", after := #[], guard := none }) (v := ptR R) rfl rfl (waits_of (by kernel_rfl)) (by kernel_rfl) (by kernel_rfl) (by kernel_rfl) (fun _ _ _ h => hQp _ _ _ _ _ h) (Or.inl ⟨by rfl, fun W hS => ?_⟩) G0.out ?_
  · go_simp
  simp only [Act.put, List.setIfInBounds_toArray, List.set_cons_zero, List.set_cons_succ]
  refine wpAnyJ_take (i := 1) (oi := { dst := some 11, op := Op.nilCheck (Operand.tmp 10), type := 0, pos := "reader.go:145", after := #[{ on := 0, ground := Ground.data }], guard := none }) (v := .pointer (some ⟨R, 0, none⟩)) rfl rfl (waits_of (by kernel_rfl)) (by kernel_rfl) (by kernel_rfl) (by kernel_rfl) (fun _ _ _ h => hQp _ _ _ _ _ h) (Or.inl ⟨by rfl, fun W hS => ?_⟩) G0.out ?_
  · go_simp
  simp only [Act.put, List.setIfInBounds_toArray, List.set_cons_zero, List.set_cons_succ]
  refine wpAnyJ_take (i := 2) (oi := { dst := some 12, op := Op.fieldAddr 61 (Operand.tmp 11) 0, type := 0, pos := "reader.go:145", after := #[{ on := 1, ground := Ground.data }], guard := none }) (v := .pointer (some ⟨R, 0, none⟩)) rfl rfl (waits_of (by kernel_rfl)) (by kernel_rfl) (by kernel_rfl) (by kernel_rfl) (fun _ _ _ h => hQp _ _ _ _ _ h) (Or.inl ⟨by rfl, fun W hS => ?_⟩) G0.out ?_
  · go_simp
  simp only [Act.put, List.setIfInBounds_toArray, List.set_cons_zero, List.set_cons_succ]
  refine wpAnyJ_take (i := 3) (oi := { dst := some 13, op := Op.move (Operand.tmp 3), type := 9, pos := "reader.go:145", after := #[], guard := none }) (v := .string (tx (48 :: b :: x))) rfl rfl (waits_of (by kernel_rfl)) (by kernel_rfl) (by kernel_rfl) (by kernel_rfl) (fun _ _ _ h => hQp _ _ _ _ _ h) (Or.inl ⟨by rfl, fun W hS => ?_⟩) G0.out ?_
  · go_simp
  simp only [Act.put, List.setIfInBounds_toArray, List.set_cons_zero, List.set_cons_succ]
  refine wpAnyJ_ready (rs := [4]) (by kernel_rfl) (by simp) ?_
  refine AllJ.cons (o := { dst := some 14, op := Op.call { callee := Callee.value (Operand.func 81), args := #[Operand.tmp 13], argTypes := #[9] }, type := 3, pos := "reader.go:145", after := #[{ on := 3, ground := Ground.data }], guard := none }) rfl (fun K hK => ?_) AllJ.nil
  have kk := H_hD.out V0 G0.out
  go_simp
  go_at_call 81
  refine kk.mono ?_
  rintro e1 W1 ⟨rfl, hW1⟩
  subst hW1
  clear kk
  refine hK.out _ _ (fun _ => G0.out) ?_
  clear hK K
  try simp only [Act.put, List.setIfInBounds_toArray, List.set_cons_zero, List.set_cons_succ]
  refine wpAnyJ_take (i := 5) (oi := { dst := some 15, op := Op.binOp BinOp.gtr 3 (Operand.tmp 14) (Operand.const (Value.int IntKind.i64 0)) 3, type := 4, pos := "reader.go:145", after := #[{ on := 4, ground := Ground.data }], guard := none }) (v := .bool true) rfl rfl (waits_of (by kernel_rfl)) (by kernel_rfl) (by kernel_rfl) (by kernel_rfl) (fun _ _ _ h => hQp _ _ _ _ _ h) (Or.inl ⟨by rfl, fun W hS => ?_⟩) G0.out ?_
  · go_simp
  simp only [Act.put, List.setIfInBounds_toArray, List.set_cons_zero, List.set_cons_succ]
  refine wpAnyJ_take (i := 6) (oi := { dst := some 16, op := Op.move (Operand.tmp 15), type := 4, pos := "reader.go:145", after := #[{ on := 5, ground := Ground.data }, { on := 4, ground := Ground.chain }], guard := none }) (v := .bool true) rfl rfl (waits_of (by kernel_rfl)) (by kernel_rfl) (by kernel_rfl) (by kernel_rfl) (fun _ _ _ h => hQp _ _ _ _ _ h) (Or.inl ⟨by rfl, fun W hS => ?_⟩) G0.out ?_
  · go_simp
  simp only [Act.put, List.setIfInBounds_toArray, List.set_cons_zero, List.set_cons_succ]
  refine wpAnyJ_take (i := 7) (oi := { dst := some 17, op := Op.move (Operand.tmp 3), type := 9, pos := "reader.go:145", after := #[{ on := 6, ground := Ground.guard }], guard := some (6, true) }) (v := .string (tx (48 :: b :: x))) rfl rfl (waits_of (by kernel_rfl)) (by kernel_rfl) (by kernel_rfl) (by kernel_rfl) (fun _ _ _ h => hQp _ _ _ _ _ h) (Or.inl ⟨by rfl, fun W hS => ?_⟩) G0.out ?_
  · go_simp
  simp only [Act.put, List.setIfInBounds_toArray, List.set_cons_zero, List.set_cons_succ]
  refine wpAnyJ_take (i := 8) (oi := { dst := some 18, op := Op.index 9 (Operand.tmp 17) (Operand.const (Value.int IntKind.i64 0)), type := 5, pos := "reader.go:145", after := #[{ on := 7, ground := Ground.data }, { on := 6, ground := Ground.guard }], guard := some (6, true) }) (v := .int .u8 48) rfl rfl (waits_of (by kernel_rfl)) (by kernel_rfl) (by kernel_rfl) (by kernel_rfl) (fun _ _ _ h => hQp _ _ _ _ _ h) (Or.inl ⟨by rfl, fun W hS => ?_⟩) G0.out ?_
  · go_simp; intro hq; omega
  simp only [Act.put, List.setIfInBounds_toArray, List.set_cons_zero, List.set_cons_succ]
  refine wpAnyJ_take (i := 9) (oi := { dst := some 19, op := Op.binOp BinOp.neq 5 (Operand.tmp 18) (Operand.const (Value.int IntKind.u8 48)) 5, type := 4, pos := "reader.go:145", after := #[{ on := 8, ground := Ground.data }, { on := 6, ground := Ground.guard }], guard := some (6, true) }) (v := .bool false) rfl rfl (waits_of (by kernel_rfl)) (by kernel_rfl) (by kernel_rfl) (by kernel_rfl) (fun _ _ _ h => hQp _ _ _ _ _ h) (Or.inl ⟨by rfl, fun W hS => ?_⟩) G0.out ?_
  · go_simp
  simp only [Act.put, List.setIfInBounds_toArray, List.set_cons_zero, List.set_cons_succ]
  refine wpAnyJ_take (i := 10) (oi := { dst := some 20, op := Op.move (Operand.tmp 19), type := 4, pos := "reader.go:145", after := #[{ on := 9, ground := Ground.data }, { on := 6, ground := Ground.chain }, { on := 6, ground := Ground.guard }], guard := some (6, true) }) (v := .bool false) rfl rfl (waits_of (by kernel_rfl)) (by kernel_rfl) (by kernel_rfl) (by kernel_rfl) (fun _ _ _ h => hQp _ _ _ _ _ h) (Or.inl ⟨by rfl, fun W hS => ?_⟩) G0.out ?_
  · go_simp
  simp only [Act.put, List.setIfInBounds_toArray, List.set_cons_zero, List.set_cons_succ]
  refine wpAnyJ_take (i := 11) (oi := { dst := some 21, op := Op.move (Operand.tmp 3), type := 9, pos := "reader.go:145", after := #[{ on := 10, ground := Ground.guard }], guard := some (10, false) }) (v := .string (tx (48 :: b :: x))) rfl rfl (waits_of (by kernel_rfl)) (by kernel_rfl) (by kernel_rfl) (by kernel_rfl) (fun _ _ _ h => hQp _ _ _ _ _ h) (Or.inl ⟨by rfl, fun W hS => ?_⟩) G0.out ?_
  · go_simp
  simp only [Act.put, List.setIfInBounds_toArray, List.set_cons_zero, List.set_cons_succ]
  refine wpAnyJ_take (i := 12) (oi := { dst := some 22, op := Op.call { callee := Callee.builtin Builtin.len, args := #[Operand.tmp 21], argTypes := #[9] }, type := 3, pos := "reader.go:145", after := #[{ on := 11, ground := Ground.data }, { on := 10, ground := Ground.guard }], guard := some (10, false) }) (v := .int .i64 ((x.length : Int) + 1 + 1)) rfl rfl (waits_of (by kernel_rfl)) (by kernel_rfl) (by kernel_rfl) (by kernel_rfl) (fun _ _ _ h => hQp _ _ _ _ _ h) (Or.inl ⟨by rfl, fun W hS => ?_⟩) G0.out ?_
  · go_simp
  simp only [Act.put, List.setIfInBounds_toArray, List.set_cons_zero, List.set_cons_succ]
  refine wpAnyJ_take (i := 13) (oi := { dst := some 23, op := Op.binOp BinOp.eql 3 (Operand.tmp 22) (Operand.const (Value.int IntKind.i64 1)) 3, type := 4, pos := "reader.go:145", after := #[{ on := 12, ground := Ground.data }, { on := 10, ground := Ground.guard }], guard := some (10, false) }) (v := .bool false) rfl rfl (waits_of (by kernel_rfl)) (by kernel_rfl) (by kernel_rfl) (by kernel_rfl) (fun _ _ _ h => hQp _ _ _ _ _ h) (Or.inl ⟨by rfl, fun W hS => ?_⟩) G0.out ?_
  · go_simp; omega
  simp only [Act.put, List.setIfInBounds_toArray, List.set_cons_zero, List.set_cons_succ]
  refine wpAnyJ_take (i := 14) (oi := { dst := some 24, op := Op.pick (Operand.tmp 20) (Operand.const (Value.bool true)) (Operand.tmp 23), type := 4, pos := "reader.go:145", after := #[{ on := 10, ground := Ground.data }, { on := 13, ground := Ground.data }, { on := 6, ground := Ground.guard }], guard := some (6, true) }) (v := .bool false) rfl rfl (waits_of (by kernel_rfl)) (by kernel_rfl) (by kernel_rfl) (by kernel_rfl) (fun _ _ _ h => hQp _ _ _ _ _ h) (Or.inl ⟨by rfl, fun W hS => ?_⟩) G0.out ?_
  · go_simp
  simp only [Act.put, List.setIfInBounds_toArray, List.set_cons_zero, List.set_cons_succ]
  refine wpAnyJ_take (i := 15) (oi := { dst := some 25, op := Op.pick (Operand.tmp 16) (Operand.tmp 24) (Operand.const (Value.bool false)), type := 4, pos := "reader.go:145", after := #[{ on := 6, ground := Ground.data }, { on := 14, ground := Ground.data }], guard := none }) (v := .bool false) rfl rfl (waits_of (by kernel_rfl)) (by kernel_rfl) (by kernel_rfl) (by kernel_rfl) (fun _ _ _ h => hQp _ _ _ _ _ h) (Or.inl ⟨by rfl, fun W hS => ?_⟩) G0.out ?_
  · go_simp
  simp only [Act.put, List.setIfInBounds_toArray, List.set_cons_zero, List.set_cons_succ]
  refine wpAnyJ_ready (rs := [16]) (by kernel_rfl) (by simp) ?_
  refine AllJ.cons (o := { dst := some 26, op := Op.call { callee := Callee.value (Operand.func 23), args := #[Operand.tmp 12, Operand.tmp 25, Operand.const (Value.int IntKind.i64 2)], argTypes := #[59, 4, 26] }, type := 0, pos := "reader.go:145", after := #[{ on := 2, ground := Ground.data }, { on := 15, ground := Ground.data }, { on := 10, ground := Ground.chain }], guard := none }) rfl (fun K hK => ?_) AllJ.nil
  have kk := H_hM.out W1 G0.out
  go_simp
  go_at_call 23
  refine kk.mono ?_
  rintro e1 W1 ⟨rfl, hW1⟩
  subst hW1
  clear kk
  exact HEND.out _ _ rfl G0.out

set_option maxRecDepth 100000 in
set_option maxHeartbeats 1000000 in
theorem num4a {Q : Exit → Act → World → Prop} (hQp : ∀ c a d v w, Q (.panic c) (Act.put a d v) w → Q (.panic c) a w) (t1 t2 t3 t6 t7 t8 t9 t10 t11 t12 t13 t14 t15 t16 t17 t18 t19 t20 t21 t22 t23 t24 t25 t26 t27 t28 t29 t30 t31 t32 t33 t34 t35 t36 t37 t38 t39 t40 t41 t42 t43 t44 t45 t46 : Value) (A : World) (R : Nat) (v : Int) (at' : Int) (hv : ¬ v ≤ 1048576)
    (hM : ∀ W : World, Below A.heap.size A W → Calls Tryz.prog 23 #[ptR R, .bool false, .int .i64 3] W fun e W' => e = .panicked (chn 3 at') ∧ W' = W)
    (hEnd : ∀ (a : Act) (W : World), a.defers = [] → Below A.heap.size A W → Q (.panic (chn 3 at')) a W) :
    (Code.region 4 #[{ dst := some 32, op := Op.move (Operand.tmp 0), type := 95, pos := "reader.go:147", after := #[], guard := none }, { dst := some 33, op := Op.nilCheck (Operand.tmp 32), type := 0, pos := "reader.go:147", after := #[{ on := 0, ground := Ground.data }], guard := none }, { dst := some 34, op := Op.fieldAddr 61 (Operand.tmp 33) 0, type := 0, pos := "reader.go:147", after := #[{ on := 1, ground := Ground.data }], guard := none }, { dst := some 35, op := Op.move (Operand.tmp 5), type := 133, pos := "reader.go:147", after := #[], guard := none }, { dst := some 36, op := Op.binOp BinOp.eql 133 (Operand.tmp 35) (Operand.const Value.nilIface) 133, type := 4, pos := "reader.go:147", after := #[{ on := 3, ground := Ground.data }], guard := none }, { dst := some 37, op := Op.move (Operand.tmp 36), type := 4, pos := "reader.go:147", after := #[{ on := 4, ground := Ground.data }], guard := none }, { dst := some 38, op := Op.move (Operand.tmp 4), type := 3, pos := "reader.go:147", after := #[{ on := 5, ground := Ground.guard }], guard := some (5, true) }, { dst := some 39, op := Op.binOp BinOp.leq 3 (Operand.tmp 38) (Operand.const (Value.int IntKind.i64 1048576)) 3, type := 4, pos := "reader.go:147", after := #[{ on := 6, ground := Ground.data }, { on := 5, ground := Ground.guard }], guard := some (5, true) }, { dst := some 40, op := Op.pick (Operand.tmp 37) (Operand.tmp 39) (Operand.const (Value.bool false)), type := 4, pos := "reader.go:147", after := #[{ on := 5, ground := Ground.data }, { on := 7, ground := Ground.data }], guard := none }, { dst := some 41, op := Op.call { callee := Callee.value (Operand.func 23), args := #[Operand.tmp 34, Operand.tmp 40, Operand.const (Value.int IntKind.i64 3)], argTypes := #[59, 4, 26] }, type := 0, pos := "reader.go:147", after := #[{ on := 2, ground := Ground.data }, { on := 8, ground := Ground.data }, { on := 5, ground := Ground.chain }], guard := none }] true).wp Tryz.prog Q { tmps := #[ptR R, t1, t2, t3, .int .i64 v, .nilIface, t6, t7, t8, t9, t10, t11, t12, t13, t14, t15, t16, t17, t18, t19, t20, t21, t22, t23, t24, t25, t26, t27, t28, t29, t30, t31, t32, t33, t34, t35, t36, t37, t38, t39, t40, t41, t42, t43, t44, t45, t46], defers := [] } A := by
  have HEND : Hid (∀ (a : Act) (W : World), a.defers = [] → Below A.heap.size A W → Q (.panic (chn 3 at')) a W) := hEnd
  have H_hM : Hid (∀ W : World, Below A.heap.size A W → Calls Tryz.prog 23 #[ptR R, .bool false, .int .i64 3] W fun e W' => e = .panicked (chn 3 at') ∧ W' = W) := hM
  have G0 : Hid (Below A.heap.size A A.drew) := (Below.refl _ _).drew
  clear hEnd hM
  refine wp_region_any (by kernel_rfl) ?_
  change wpAny _ _ _ _ _ _ _ (World.drew _)
  obtain ⟨V0, hV0⟩ : ∃ V0, A.drew = V0 := ⟨_, rfl⟩
  rw [hV0] at G0 ⊢
  clear hV0
  refine wpAny_of_J (S := fun W => Below A.heap.size A W) (J := fun _ => true) _ _ _ _ ?_
  refine wpAnyJ_take (i := 0) (oi := { dst := some 32, op := Op.move (Operand.tmp 0), type := 95, pos := "reader.go:147", after := #[], guard := none }) (v := ptR R) rfl rfl (waits_of (by kernel_rfl)) (by kernel_rfl) (by kernel_rfl) (by kernel_rfl) (fun _ _ _ h => hQp _ _ _ _ _ h) (Or.inl ⟨by rfl, fun W hS => ?_⟩) G0.out ?_
  · go_simp
  simp only [Act.put, List.setIfInBounds_toArray, List.set_cons_zero, List.set_cons_succ]
  refine wpAnyJ_take (i := 1) (oi := { dst := some 33, op := Op.nilCheck (Operand.tmp 32), type := 0, pos := "reader.go:147", after := #[{ on := 0, ground := Ground.data }], guard := none }) (v := .pointer (some ⟨R, 0, none⟩)) rfl rfl (waits_of (by kernel_rfl)) (by kernel_rfl) (by kernel_rfl) (by kernel_rfl) (fun _ _ _ h => hQp _ _ _ _ _ h) (Or.inl ⟨by rfl, fun W hS => ?_⟩) G0.out ?_
  · go_simp
  simp only [Act.put, List.setIfInBounds_toArray, List.set_cons_zero, List.set_cons_succ]
  refine wpAnyJ_take (i := 2) (oi := { dst := some 34, op := Op.fieldAddr 61 (Operand.tmp 33) 0, type := 0, pos := "reader.go:147", after := #[{ on := 1, ground := Ground.data }], guard := none }) (v := .pointer (some ⟨R, 0, none⟩)) rfl rfl (waits_of (by kernel_rfl)) (by kernel_rfl) (by kernel_rfl) (by kernel_rfl) (fun _ _ _ h => hQp _ _ _ _ _ h) (Or.inl ⟨by rfl, fun W hS => ?_⟩) G0.out ?_
  · go_simp
  simp only [Act.put, List.setIfInBounds_toArray, List.set_cons_zero, List.set_cons_succ]
  refine wpAnyJ_take (i := 3) (oi := { dst := some 35, op := Op.move (Operand.tmp 5), type := 133, pos := "reader.go:147", after := #[], guard := none }) (v := .nilIface) rfl rfl (waits_of (by kernel_rfl)) (by kernel_rfl) (by kernel_rfl) (by kernel_rfl) (fun _ _ _ h => hQp _ _ _ _ _ h) (Or.inl ⟨by rfl, fun W hS => ?_⟩) G0.out ?_
  · go_simp
  simp only [Act.put, List.setIfInBounds_toArray, List.set_cons_zero, List.set_cons_succ]
  refine wpAnyJ_take (i := 4) (oi := { dst := some 36, op := Op.binOp BinOp.eql 133 (Operand.tmp 35) (Operand.const Value.nilIface) 133, type := 4, pos := "reader.go:147", after := #[{ on := 3, ground := Ground.data }], guard := none }) (v := .bool true) rfl rfl (waits_of (by kernel_rfl)) (by kernel_rfl) (by kernel_rfl) (by kernel_rfl) (fun _ _ _ h => hQp _ _ _ _ _ h) (Or.inl ⟨by rfl, fun W hS => ?_⟩) G0.out ?_
  · go_simp
  simp only [Act.put, List.setIfInBounds_toArray, List.set_cons_zero, List.set_cons_succ]
  refine wpAnyJ_take (i := 5) (oi := { dst := some 37, op := Op.move (Operand.tmp 36), type := 4, pos := "reader.go:147", after := #[{ on := 4, ground := Ground.data }], guard := none }) (v := .bool true) rfl rfl (waits_of (by kernel_rfl)) (by kernel_rfl) (by kernel_rfl) (by kernel_rfl) (fun _ _ _ h => hQp _ _ _ _ _ h) (Or.inl ⟨by rfl, fun W hS => ?_⟩) G0.out ?_
  · go_simp
  simp only [Act.put, List.setIfInBounds_toArray, List.set_cons_zero, List.set_cons_succ]
  refine wpAnyJ_take (i := 6) (oi := { dst := some 38, op := Op.move (Operand.tmp 4), type := 3, pos := "reader.go:147", after := #[{ on := 5, ground := Ground.guard }], guard := some (5, true) }) (v := .int .i64 v) rfl rfl (waits_of (by kernel_rfl)) (by kernel_rfl) (by kernel_rfl) (by kernel_rfl) (fun _ _ _ h => hQp _ _ _ _ _ h) (Or.inl ⟨by rfl, fun W hS => ?_⟩) G0.out ?_
  · go_simp
  simp only [Act.put, List.setIfInBounds_toArray, List.set_cons_zero, List.set_cons_succ]
  refine wpAnyJ_take (i := 7) (oi := { dst := some 39, op := Op.binOp BinOp.leq 3 (Operand.tmp 38) (Operand.const (Value.int IntKind.i64 1048576)) 3, type := 4, pos := "reader.go:147", after := #[{ on := 6, ground := Ground.data }, { on := 5, ground := Ground.guard }], guard := some (5, true) }) (v := .bool false) rfl rfl (waits_of (by kernel_rfl)) (by kernel_rfl) (by kernel_rfl) (by kernel_rfl) (fun _ _ _ h => hQp _ _ _ _ _ h) (Or.inl ⟨by rfl, fun W hS => ?_⟩) G0.out ?_
  · go_simp
  simp only [Act.put, List.setIfInBounds_toArray, List.set_cons_zero, List.set_cons_succ]
  refine wpAnyJ_take (i := 8) (oi := { dst := some 40, op := Op.pick (Operand.tmp 37) (Operand.tmp 39) (Operand.const (Value.bool false)), type := 4, pos := "reader.go:147", after := #[{ on := 5, ground := Ground.data }, { on := 7, ground := Ground.data }], guard := none }) (v := .bool false) rfl rfl (waits_of (by kernel_rfl)) (by kernel_rfl) (by kernel_rfl) (by kernel_rfl) (fun _ _ _ h => hQp _ _ _ _ _ h) (Or.inl ⟨by rfl, fun W hS => ?_⟩) G0.out ?_
  · go_simp
  simp only [Act.put, List.setIfInBounds_toArray, List.set_cons_zero, List.set_cons_succ]
  refine wpAnyJ_ready (rs := [9]) (by kernel_rfl) (by simp) ?_
  refine AllJ.cons (o := { dst := some 41, op := Op.call { callee := Callee.value (Operand.func 23), args := #[Operand.tmp 34, Operand.tmp 40, Operand.const (Value.int IntKind.i64 3)], argTypes := #[59, 4, 26] }, type := 0, pos := "reader.go:147", after := #[{ on := 2, ground := Ground.data }, { on := 8, ground := Ground.data }, { on := 5, ground := Ground.chain }], guard := none }) rfl (fun K hK => ?_) AllJ.nil
  have kk := H_hM.out V0 G0.out
  go_simp
  go_at_call 23
  refine kk.mono ?_
  rintro e1 W1 ⟨rfl, hW1⟩
  subst hW1
  clear kk
  exact HEND.out _ _ rfl G0.out

set_option maxRecDepth 100000 in
set_option maxHeartbeats 1000000 in
theorem num4b {Q : Exit → Act → World → Prop} (hQp : ∀ c a d v w, Q (.panic c) (Act.put a d v) w → Q (.panic c) a w) (t1 t2 t3 t6 t7 t8 t9 t10 t11 t12 t13 t14 t15 t16 t17 t18 t19 t20 t21 t22 t23 t24 t25 t26 t27 t28 t29 t30 t31 t32 t33 t34 t35 t36 t37 t38 t39 t40 t41 t42 t43 t44 t45 t46 : Value) (A : World) (R : Nat) (v : Int) (y : Value) (at' : Int)
    (hM : ∀ W : World, Below A.heap.size A W → Calls Tryz.prog 23 #[ptR R, .bool false, .int .i64 3] W fun e W' => e = .panicked (chn 3 at') ∧ W' = W)
    (hEnd : ∀ (a : Act) (W : World), a.defers = [] → Below A.heap.size A W → Q (.panic (chn 3 at')) a W) :
    (Code.region 4 #[{ dst := some 32, op := Op.move (Operand.tmp 0), type := 95, pos := "reader.go:147", after := #[], guard := none }, { dst := some 33, op := Op.nilCheck (Operand.tmp 32), type := 0, pos := "reader.go:147", after := #[{ on := 0, ground := Ground.data }], guard := none }, { dst := some 34, op := Op.fieldAddr 61 (Operand.tmp 33) 0, type := 0, pos := "reader.go:147", after := #[{ on := 1, ground := Ground.data }], guard := none }, { dst := some 35, op := Op.move (Operand.tmp 5), type := 133, pos := "reader.go:147", after := #[], guard := none }, { dst := some 36, op := Op.binOp BinOp.eql 133 (Operand.tmp 35) (Operand.const Value.nilIface) 133, type := 4, pos := "reader.go:147", after := #[{ on := 3, ground := Ground.data }], guard := none }, { dst := some 37, op := Op.move (Operand.tmp 36), type := 4, pos := "reader.go:147", after := #[{ on := 4, ground := Ground.data }], guard := none }, { dst := some 38, op := Op.move (Operand.tmp 4), type := 3, pos := "reader.go:147", after := #[{ on := 5, ground := Ground.guard }], guard := some (5, true) }, { dst := some 39, op := Op.binOp BinOp.leq 3 (Operand.tmp 38) (Operand.const (Value.int IntKind.i64 1048576)) 3, type := 4, pos := "reader.go:147", after := #[{ on := 6, ground := Ground.data }, { on := 5, ground := Ground.guard }], guard := some (5, true) }, { dst := some 40, op := Op.pick (Operand.tmp 37) (Operand.tmp 39) (Operand.const (Value.bool false)), type := 4, pos := "reader.go:147", after := #[{ on := 5, ground := Ground.data }, { on := 7, ground := Ground.data }], guard := none }, { dst := some 41, op := Op.call { callee := Callee.value (Operand.func 23), args := #[Operand.tmp 34, Operand.tmp 40, Operand.const (Value.int IntKind.i64 3)], argTypes := #[59, 4, 26] }, type := 0, pos := "reader.go:147", after := #[{ on := 2, ground := Ground.data }, { on := 8, ground := Ground.data }, { on := 5, ground := Ground.chain }], guard := none }] true).wp Tryz.prog Q { tmps := #[ptR R, t1, t2, t3, .int .i64 v, .iface 167 y, t6, t7, t8, t9, t10, t11, t12, t13, t14, t15, t16, t17, t18, t19, t20, t21, t22, t23, t24, t25, t26, t27, t28, t29, t30, t31, t32, t33, t34, t35, t36, t37, t38, t39, t40, t41, t42, t43, t44, t45, t46], defers := [] } A := by
  have HEND : Hid (∀ (a : Act) (W : World), a.defers = [] → Below A.heap.size A W → Q (.panic (chn 3 at')) a W) := hEnd
  have H_hM : Hid (∀ W : World, Below A.heap.size A W → Calls Tryz.prog 23 #[ptR R, .bool false, .int .i64 3] W fun e W' => e = .panicked (chn 3 at') ∧ W' = W) := hM
  have G0 : Hid (Below A.heap.size A A.drew) := (Below.refl _ _).drew
  clear hEnd hM
  refine wp_region_any (by kernel_rfl) ?_
  change wpAny _ _ _ _ _ _ _ (World.drew _)
  obtain ⟨V0, hV0⟩ : ∃ V0, A.drew = V0 := ⟨_, rfl⟩
  rw [hV0] at G0 ⊢
  clear hV0
  refine wpAny_of_J (S := fun W => Below A.heap.size A W) (J := fun _ => true) _ _ _ _ ?_
  have hq : ∀ u : World, (binOp .eql 133 (.iface 167 y) .nilIface).run Tryz.prog u = .ok (.bool false) u := fun u => by
    have h : ∀ d : Nat, (Op.equalIn (d + 1) 133 (.iface 167 y) .nilIface).run Tryz.prog u = .ok false u := fun d => by simp [Op.equalIn, run_underlying Tryz.underlying133]
    simp only [binOp]
    simp [Op.equal, Op.maxDepth, h 9999]
  refine wpAnyJ_take (i := 0) (oi := { dst := some 32, op := Op.move (Operand.tmp 0), type := 95, pos := "reader.go:147", after := #[], guard := none }) (v := ptR R) rfl rfl (waits_of (by kernel_rfl)) (by kernel_rfl) (by kernel_rfl) (by kernel_rfl) (fun _ _ _ h => hQp _ _ _ _ _ h) (Or.inl ⟨by rfl, fun W hS => ?_⟩) G0.out ?_
  · go_simp
  simp only [Act.put, List.setIfInBounds_toArray, List.set_cons_zero, List.set_cons_succ]
  refine wpAnyJ_take (i := 1) (oi := { dst := some 33, op := Op.nilCheck (Operand.tmp 32), type := 0, pos := "reader.go:147", after := #[{ on := 0, ground := Ground.data }], guard := none }) (v := .pointer (some ⟨R, 0, none⟩)) rfl rfl (waits_of (by kernel_rfl)) (by kernel_rfl) (by kernel_rfl) (by kernel_rfl) (fun _ _ _ h => hQp _ _ _ _ _ h) (Or.inl ⟨by rfl, fun W hS => ?_⟩) G0.out ?_
  · go_simp
  simp only [Act.put, List.setIfInBounds_toArray, List.set_cons_zero, List.set_cons_succ]
  refine wpAnyJ_take (i := 2) (oi := { dst := some 34, op := Op.fieldAddr 61 (Operand.tmp 33) 0, type := 0, pos := "reader.go:147", after := #[{ on := 1, ground := Ground.data }], guard := none }) (v := .pointer (some ⟨R, 0, none⟩)) rfl rfl (waits_of (by kernel_rfl)) (by kernel_rfl) (by kernel_rfl) (by kernel_rfl) (fun _ _ _ h => hQp _ _ _ _ _ h) (Or.inl ⟨by rfl, fun W hS => ?_⟩) G0.out ?_
  · go_simp
  simp only [Act.put, List.setIfInBounds_toArray, List.set_cons_zero, List.set_cons_succ]
  refine wpAnyJ_take (i := 3) (oi := { dst := some 35, op := Op.move (Operand.tmp 5), type := 133, pos := "reader.go:147", after := #[], guard := none }) (v := .iface 167 y) rfl rfl (waits_of (by kernel_rfl)) (by kernel_rfl) (by kernel_rfl) (by kernel_rfl) (fun _ _ _ h => hQp _ _ _ _ _ h) (Or.inl ⟨by rfl, fun W hS => ?_⟩) G0.out ?_
  · go_simp
  simp only [Act.put, List.setIfInBounds_toArray, List.set_cons_zero, List.set_cons_succ]
  refine wpAnyJ_take (i := 4) (oi := { dst := some 36, op := Op.binOp BinOp.eql 133 (Operand.tmp 35) (Operand.const Value.nilIface) 133, type := 4, pos := "reader.go:147", after := #[{ on := 3, ground := Ground.data }], guard := none }) (v := .bool false) rfl rfl (waits_of (by kernel_rfl)) (by kernel_rfl) (by kernel_rfl) (by kernel_rfl) (fun _ _ _ h => hQp _ _ _ _ _ h) (Or.inl ⟨by rfl, fun W hS => ?_⟩) G0.out ?_
  · go_simp
  simp only [Act.put, List.setIfInBounds_toArray, List.set_cons_zero, List.set_cons_succ]
  refine wpAnyJ_take (i := 5) (oi := { dst := some 37, op := Op.move (Operand.tmp 36), type := 4, pos := "reader.go:147", after := #[{ on := 4, ground := Ground.data }], guard := none }) (v := .bool false) rfl rfl (waits_of (by kernel_rfl)) (by kernel_rfl) (by kernel_rfl) (by kernel_rfl) (fun _ _ _ h => hQp _ _ _ _ _ h) (Or.inl ⟨by rfl, fun W hS => ?_⟩) G0.out ?_
  · go_simp
  simp only [Act.put, List.setIfInBounds_toArray, List.set_cons_zero, List.set_cons_succ]
  refine wpAnyJ_take (i := 6) (oi := { dst := some 38, op := Op.move (Operand.tmp 4), type := 3, pos := "reader.go:147", after := #[{ on := 5, ground := Ground.guard }], guard := some (5, true) }) (v := undef) rfl rfl (waits_of (by kernel_rfl)) (by kernel_rfl) (by kernel_rfl) (by kernel_rfl) (fun _ _ _ h => hQp _ _ _ _ _ h) (Or.inr ⟨by rfl, rfl⟩) G0.out ?_
  simp only [Act.put, List.setIfInBounds_toArray, List.set_cons_zero, List.set_cons_succ]
  refine wpAnyJ_take (i := 7) (oi := { dst := some 39, op := Op.binOp BinOp.leq 3 (Operand.tmp 38) (Operand.const (Value.int IntKind.i64 1048576)) 3, type := 4, pos := "reader.go:147", after := #[{ on := 6, ground := Ground.data }, { on := 5, ground := Ground.guard }], guard := some (5, true) }) (v := undef) rfl rfl (waits_of (by kernel_rfl)) (by kernel_rfl) (by kernel_rfl) (by kernel_rfl) (fun _ _ _ h => hQp _ _ _ _ _ h) (Or.inr ⟨by rfl, rfl⟩) G0.out ?_
  simp only [Act.put, List.setIfInBounds_toArray, List.set_cons_zero, List.set_cons_succ]
  refine wpAnyJ_take (i := 8) (oi := { dst := some 40, op := Op.pick (Operand.tmp 37) (Operand.tmp 39) (Operand.const (Value.bool false)), type := 4, pos := "reader.go:147", after := #[{ on := 5, ground := Ground.data }, { on := 7, ground := Ground.data }], guard := none }) (v := .bool false) rfl rfl (waits_of (by kernel_rfl)) (by kernel_rfl) (by kernel_rfl) (by kernel_rfl) (fun _ _ _ h => hQp _ _ _ _ _ h) (Or.inl ⟨by rfl, fun W hS => ?_⟩) G0.out ?_
  · go_simp
  simp only [Act.put, List.setIfInBounds_toArray, List.set_cons_zero, List.set_cons_succ]
  refine wpAnyJ_ready (rs := [9]) (by kernel_rfl) (by simp) ?_
  refine AllJ.cons (o := { dst := some 41, op := Op.call { callee := Callee.value (Operand.func 23), args := #[Operand.tmp 34, Operand.tmp 40, Operand.const (Value.int IntKind.i64 3)], argTypes := #[59, 4, 26] }, type := 0, pos := "reader.go:147", after := #[{ on := 2, ground := Ground.data }, { on := 8, ground := Ground.data }, { on := 5, ground := Ground.chain }], guard := none }) rfl (fun K hK => ?_) AllJ.nil
  have kk := H_hM.out V0 G0.out
  go_simp
  go_at_call 23
  refine kk.mono ?_
  rintro e1 W1 ⟨rfl, hW1⟩
  subst hW1
  clear kk
  exact HEND.out _ _ rfl G0.out

end Go.Proofs.YtidfkencjdjkbaaGreatDoor

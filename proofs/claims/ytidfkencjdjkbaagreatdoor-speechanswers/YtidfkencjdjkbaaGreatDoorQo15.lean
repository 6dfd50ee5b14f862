import Derived.Test.YtidfkencjdjkbaaGreatDoorQo13
import Derived.Test.YtidfkencjdjkbaaGreatDoorQo14
/-
  PACKAGE speech: one more pick, one more sign (regions that draw their order).
-/
namespace Go.Proofs.YtidfkencjdjkbaaGreatDoor
open Go.RowKit Sp

set_option maxRecDepth 100000 in
set_option maxHeartbeats 1000000 in
theorem pik7 {Q : Exit → Act → World → Prop} (hQp : ∀ c a d v w, Q (.panic c) (Act.put a d v) w → Q (.panic c) a w) (t1 t2 t3 t4 t6 t7 t8 t9 t10 t11 t12 t13 t14 t15 t16 t17 t18 t19 t20 t21 t22 t23 t24 t25 t26 t27 t28 t29 t30 t31 t32 t33 t34 t35 : Value) (A : World) (R b5 P0 : Nat) (xk : Int) (xc : By) (xl xh : Int) (xa4 : Option Addr) (xn4 xc4 : Nat) (xa5 : Option Addr) (xn5 xc5 : Nat) (n : Int) (qs : List Pc) (m : Value) (h5 : b5 ≠ R) (hRA : R < A.heap.size)
    (hC : Bx A b5 [.int .i64 xk, .string (tx xc), .int .i64 xl, .int .i64 xh, .slice xa4 xn4 xc4, .slice xa5 xn5 xc5])
    (hN : ∀ W : World, Below A.heap.size A W → Calls Tryz.prog 104 #[ptR R] W (fun e W' => (e = .returned (.int .i64 n) ∧ Rdr W' R P0 qs m) ∧ W.grownBy W' (some R)))
    (hEnd : ∀ (u26 u27 u28 u29 u30 : Value) (V : World) (g5 : Nat), A.grownBy V (some R) → Rdr V R P0 qs m → Bx V b5 [.int .i64 xk, .string (tx xc), .int .i64 xl, .int .i64 xh, .slice xa4 xn4 xc4, .slice xa5 xn5 xc5] → Bx V g5 [.int .i64 xk, .string (tx xc), .int .i64 xl, .int .i64 xh, .slice xa4 xn4 xc4, .slice xa5 xn5 xc5] → A.heap.size ≤ g5 → Q .normal { tmps := #[ptR R, t1, t2, t3, t4, .pointer (some ⟨b5, 0, none⟩), t6, t7, t8, t9, t10, t11, t12, t13, t14, t15, t16, t17, t18, t19, t20, t21, t22, t23, t24, t25, u26, u27, u28, u29, u30, t31, t32, t33, t34, t35], defers := [] } (set6 V b5 (.int .i64 9) (.string ⟨#[]⟩) (.int .i64 n) (.int .i64 0) (.slice none 0 0) (.slice (some ⟨g5, 0, none⟩) 1 1))) :
    (Code.region 7 #[{ dst := some 26, op := Op.move (Operand.tmp 0), type := 95, pos := "reader.go:47", after := #[], guard := none }, { dst := some 27, op := Op.call { callee := Callee.value (Operand.func 104), args := #[Operand.tmp 26], argTypes := #[95] }, type := 3, pos := "reader.go:47", after := #[{ on := 0, ground := Ground.data }], guard := none }, { dst := some 28, op := Op.load 25 (Operand.tmp 5), type := 25, pos := "reader.go:47", after := #[], guard := none }, { dst := some 29, op := Op.buildSlice 23 1 #[(0, Operand.tmp 28)], type := 23, pos := "reader.go:47", after := #[{ on := 2, ground := Ground.data }], guard := none }, { dst := some 30, op := Op.build 25 #[(0, Operand.const (Value.int IntKind.i64 9)), (2, Operand.tmp 27), (5, Operand.tmp 29)], type := 25, pos := "reader.go:47", after := #[{ on := 1, ground := Ground.data }, { on := 3, ground := Ground.data }], guard := none }, { dst := none, op := Op.store 25 (Operand.tmp 5) (Operand.tmp 30), type := 0, pos := "reader.go:47", after := #[{ on := 4, ground := Ground.data }, { on := 1, ground := Ground.chain }, { on := 0, ground := Ground.phase }, { on := 1, ground := Ground.phase }, { on := 2, ground := Ground.phase }, { on := 3, ground := Ground.phase }, { on := 4, ground := Ground.phase }], guard := none }] true).wp Tryz.prog Q { tmps := #[ptR R, t1, t2, t3, t4, .pointer (some ⟨b5, 0, none⟩), t6, t7, t8, t9, t10, t11, t12, t13, t14, t15, t16, t17, t18, t19, t20, t21, t22, t23, t24, t25, t26, t27, t28, t29, t30, t31, t32, t33, t34, t35], defers := [] } A := by
  have HEND : Hid (∀ (u26 u27 u28 u29 u30 : Value) (V : World) (g5 : Nat), A.grownBy V (some R) → Rdr V R P0 qs m → Bx V b5 [.int .i64 xk, .string (tx xc), .int .i64 xl, .int .i64 xh, .slice xa4 xn4 xc4, .slice xa5 xn5 xc5] → Bx V g5 [.int .i64 xk, .string (tx xc), .int .i64 xl, .int .i64 xh, .slice xa4 xn4 xc4, .slice xa5 xn5 xc5] → A.heap.size ≤ g5 → Q .normal { tmps := #[ptR R, t1, t2, t3, t4, .pointer (some ⟨b5, 0, none⟩), t6, t7, t8, t9, t10, t11, t12, t13, t14, t15, t16, t17, t18, t19, t20, t21, t22, t23, t24, t25, u26, u27, u28, u29, u30, t31, t32, t33, t34, t35], defers := [] } (set6 V b5 (.int .i64 9) (.string ⟨#[]⟩) (.int .i64 n) (.int .i64 0) (.slice none 0 0) (.slice (some ⟨g5, 0, none⟩) 1 1))) := hEnd
  have H_hN : Hid (∀ W : World, Below A.heap.size A W → Calls Tryz.prog 104 #[ptR R] W (fun e W' => (e = .returned (.int .i64 n) ∧ Rdr W' R P0 qs m) ∧ W.grownBy W' (some R))) := hN
  have G0 : Hid (Bx A.drew b5 [.int .i64 xk, .string (tx xc), .int .i64 xl, .int .i64 xh, .slice xa4 xn4 xc4, .slice xa5 xn5 xc5]) := hC.at (Below.refl _ _).drew
  have D0 : Hid (Below A.heap.size A A.drew) := (Below.refl _ _).drew
  clear hEnd hN
  refine wp_region_any (by kernel_rfl) ?_
  change wpAny _ _ _ _ _ _ _ (World.drew _)
  obtain ⟨V0, hV0⟩ : ∃ V0, A.drew = V0 := ⟨_, rfl⟩
  rw [hV0] at G0 D0 ⊢
  clear hV0
  refine wpAny_of_J (S := fun W => Bx W b5 [.int .i64 xk, .string (tx xc), .int .i64 xl, .int .i64 xh, .slice xa4 xn4 xc4, .slice xa5 xn5 xc5]) (J := fun i => i != 5) _ _ _ _ ?_
  refine wpAnyJ_take (i := 0) (oi := { dst := some 26, op := Op.move (Operand.tmp 0), type := 95, pos := "reader.go:47", after := #[], guard := none }) (v := ptR R) rfl rfl (waits_of (by kernel_rfl)) (by kernel_rfl) (by kernel_rfl) (by kernel_rfl) (fun _ _ _ h => hQp _ _ _ _ _ h) (Or.inl ⟨by rfl, fun W hS => ?_⟩) G0.out ?_
  · go_simp
  simp only [Act.put, List.setIfInBounds_toArray, List.set_cons_zero, List.set_cons_succ]
  refine wpAnyJ_take (i := 2) (oi := { dst := some 28, op := Op.load 25 (Operand.tmp 5), type := 25, pos := "reader.go:47", after := #[], guard := none }) (v := .agg #[.int .i64 xk, .string (tx xc), .int .i64 xl, .int .i64 xh, .slice xa4 xn4 xc4, .slice xa5 xn5 xc5]) rfl rfl (waits_of (by kernel_rfl)) (by kernel_rfl) (by kernel_rfl) (by kernel_rfl) (fun _ _ _ h => hQp _ _ _ _ _ h) (Or.inl ⟨by rfl, fun W hS => ?_⟩) G0.out ?_
  · have z0 := (hS 0 _ rfl).c; have z1 := (hS 1 _ rfl).c; have z2 := (hS 2 _ rfl).c; have z3 := (hS 3 _ rfl).c; have z4 := (hS 4 _ rfl).c; have z5 := (hS 5 _ rfl).c; go_simp
  simp only [Act.put, List.setIfInBounds_toArray, List.set_cons_zero, List.set_cons_succ]
  refine wpAnyJ_ready (rs := [1, 3]) (by kernel_rfl) (by simp) ?_
  refine AllJ.cons (o := { dst := some 27, op := Op.call { callee := Callee.value (Operand.func 104), args := #[Operand.tmp 26], argTypes := #[95] }, type := 3, pos := "reader.go:47", after := #[{ on := 0, ground := Ground.data }], guard := none }) rfl (fun K hK => ?_) (AllJ.cons (o := { dst := some 29, op := Op.buildSlice 23 1 #[(0, Operand.tmp 28)], type := 23, pos := "reader.go:47", after := #[{ on := 2, ground := Ground.data }], guard := none }) rfl (fun K hK => ?_) AllJ.nil)
  ·
    have SS : Hid (Bx V0 b5 [.int .i64 xk, .string (tx xc), .int .i64 xl, .int .i64 xh, .slice xa4 xn4 xc4, .slice xa5 xn5 xc5]) := G0.out
    have kk := H_hN.out V0 D0.out
    go_simp
    go_at_call 104
    refine kk.mono ?_
    rintro e1 X1 ⟨⟨rfl, hrd⟩, hg⟩
    have S1 : Hid (Bx X1 b5 [.int .i64 xk, .string (tx xc), .int .i64 xl, .int .i64 xh, .slice xa4 xn4 xc4, .slice xa5 xn5 xc5]) := SS.out.gb hg h5
    have E1 : Hid (A.grownBy X1 (some R)) := gb_trans (gb_below D0.out) hg
    have L1 : Hid (V0.heap.size ≤ X1.heap.size) := hg.size
    have HRD1 : Hid (Rdr X1 R P0 qs m) := hrd
    clear kk
    refine hK.out _ _ (fun _ => S1.out) ?_
    clear hK K
    try simp only [Act.put, List.setIfInBounds_toArray, List.set_cons_zero, List.set_cons_succ]
    refine wpAnyJ_ready (rs := [3]) (by kernel_rfl) (by simp) ?_
    refine AllJ.cons (o := { dst := some 29, op := Op.buildSlice 23 1 #[(0, Operand.tmp 28)], type := 23, pos := "reader.go:47", after := #[{ on := 2, ground := Ground.data }], guard := none }) rfl (fun K hK => ?_) AllJ.nil
    go_simp
    obtain ⟨V2, hV2⟩ : ∃ V2, X1.alloc (.cells #[.int .i64 xk, .string (tx xc), .int .i64 xl, .int .i64 xh, .slice xa4 xn4 xc4, .slice xa5 xn5 xc5] 25) = V2 := ⟨_, rfl⟩
    have hb2 : Below X1.heap.size X1 V2 := hV2 ▸ ba _ _
    have S2 : Hid (Bx V2 b5 [.int .i64 xk, .string (tx xc), .int .i64 xl, .int .i64 xh, .slice xa4 xn4 xc4, .slice xa5 xn5 xc5]) := S1.out.at hb2
    have N2 : Hid (Bx V2 X1.heap.size [.int .i64 xk, .string (tx xc), .int .i64 xl, .int .i64 xh, .slice xa4 xn4 xc4, .slice xa5 xn5 xc5]) := hV2 ▸ Bx.new X1 [.int .i64 xk, .string (tx xc), .int .i64 xl, .int .i64 xh, .slice xa4 xn4 xc4, .slice xa5 xn5 xc5] 25 rfl
    have HRD2 : Hid (Rdr V2 R P0 qs m) := HRD1.out.at hb2
    rw [hV2]
    clear hV2
    refine hK.out _ _ (fun _ => S2.out) ?_
    clear hK K
    try simp only [Act.put, List.setIfInBounds_toArray, List.set_cons_zero, List.set_cons_succ]
    refine wpAnyJ_take (i := 4) (oi := { dst := some 30, op := Op.build 25 #[(0, Operand.const (Value.int IntKind.i64 9)), (2, Operand.tmp 27), (5, Operand.tmp 29)], type := 25, pos := "reader.go:47", after := #[{ on := 1, ground := Ground.data }, { on := 3, ground := Ground.data }], guard := none }) (v := .agg #[.int .i64 9, .string ⟨#[]⟩, .int .i64 n, .int .i64 0, .slice none 0 0, .slice (some ⟨X1.heap.size, 0, none⟩) 1 1]) rfl rfl (waits_of (by kernel_rfl)) (by kernel_rfl) (by kernel_rfl) (by kernel_rfl) (fun _ _ _ h => hQp _ _ _ _ _ h) (Or.inl ⟨by rfl, fun W hS => ?_⟩) S2.out ?_
    · go_simp
    simp only [Act.put, List.setIfInBounds_toArray, List.set_cons_zero, List.set_cons_succ]
    refine wpAnyJ_ready (rs := [5]) (by kernel_rfl) (by simp) ?_
    refine AllJ.cons (o := { dst := none, op := Op.store 25 (Operand.tmp 5) (Operand.tmp 30), type := 0, pos := "reader.go:47", after := #[{ on := 4, ground := Ground.data }, { on := 1, ground := Ground.chain }, { on := 0, ground := Ground.phase }, { on := 1, ground := Ground.phase }, { on := 2, ground := Ground.phase }, { on := 3, ground := Ground.phase }, { on := 4, ground := Ground.phase }], guard := none }) rfl (fun K hK => ?_) AllJ.nil
    have z0 := (S2.out 0 _ rfl).c
    have y0 := (S2.out 0 _ rfl).f
    have z1 := (S2.out 1 _ rfl).c
    have y1 := (S2.out 1 _ rfl).f
    have z2 := (S2.out 2 _ rfl).c
    have y2 := (S2.out 2 _ rfl).f
    have z3 := (S2.out 3 _ rfl).c
    have y3 := (S2.out 3 _ rfl).f
    have z4 := (S2.out 4 _ rfl).c
    have y4 := (S2.out 4 _ rfl).f
    have z5 := (S2.out 5 _ rfl).c
    have y5 := (S2.out 5 _ rfl).f
    go_simp
    clear z0 y0 z1 y1 z2 y2 z3 y3 z4 y4 z5 y5
    have GU : Hid (A.grownBy V2 (some R)) := gb_trans E1.out (gb_below hb2)
    obtain ⟨U, hU⟩ : ∃ U, set6 V2 b5 (.int .i64 9) (.string ⟨#[]⟩) (.int .i64 n) (.int .i64 0) (.slice none 0 0) (.slice (some ⟨X1.heap.size, 0, none⟩) 1 1) = U := ⟨_, rfl⟩
    have HF : Hid (∀ u26 u27 u28 u29 u30 : Value, Q .normal { tmps := #[ptR R, t1, t2, t3, t4, .pointer (some ⟨b5, 0, none⟩), t6, t7, t8, t9, t10, t11, t12, t13, t14, t15, t16, t17, t18, t19, t20, t21, t22, t23, t24, t25, u26, u27, u28, u29, u30, t31, t32, t33, t34, t35], defers := [] } U) := fun u26 u27 u28 u29 u30 => hU ▸ HEND.out u26 u27 u28 u29 u30 V2 (X1.heap.size) GU.out HRD2.out S2.out N2.out E1.out.size
    unfold set6 at hU
    rw [hU]
    clear hU
    refine hK.out _ _ (fun h => by cases h) ?_
    clear hK K
    try simp only [Act.put]
    exact wpAnyJ_done (by kernel_rfl) (HF.out _ _ _ _ _) _
  ·
    go_simp
    obtain ⟨V1, hV1⟩ : ∃ V1, V0.alloc (.cells #[.int .i64 xk, .string (tx xc), .int .i64 xl, .int .i64 xh, .slice xa4 xn4 xc4, .slice xa5 xn5 xc5] 25) = V1 := ⟨_, rfl⟩
    have hb1 : Below V0.heap.size V0 V1 := hV1 ▸ ba _ _
    have SS : Hid (Bx V1 b5 [.int .i64 xk, .string (tx xc), .int .i64 xl, .int .i64 xh, .slice xa4 xn4 xc4, .slice xa5 xn5 xc5]) := G0.out.at hb1
    have N1 : Hid (Bx V1 V0.heap.size [.int .i64 xk, .string (tx xc), .int .i64 xl, .int .i64 xh, .slice xa4 xn4 xc4, .slice xa5 xn5 xc5]) := hV1 ▸ Bx.new V0 [.int .i64 xk, .string (tx xc), .int .i64 xl, .int .i64 xh, .slice xa4 xn4 xc4, .slice xa5 xn5 xc5] 25 rfl
    have D1 : Hid (Below A.heap.size A V1) := bt D0.out hb1
    rw [hV1]
    clear hV1
    refine hK.out _ _ (fun _ => SS.out) ?_
    clear hK K
    try simp only [Act.put, List.setIfInBounds_toArray, List.set_cons_zero, List.set_cons_succ]
    refine wpAnyJ_ready (rs := [1]) (by kernel_rfl) (by simp) ?_
    refine AllJ.cons (o := { dst := some 27, op := Op.call { callee := Callee.value (Operand.func 104), args := #[Operand.tmp 26], argTypes := #[95] }, type := 3, pos := "reader.go:47", after := #[{ on := 0, ground := Ground.data }], guard := none }) rfl (fun K hK => ?_) AllJ.nil
    have kk := H_hN.out V1 D1.out
    go_simp
    go_at_call 104
    refine kk.mono ?_
    rintro e1 X2 ⟨⟨rfl, hrd⟩, hg⟩
    have S2 : Hid (Bx X2 b5 [.int .i64 xk, .string (tx xc), .int .i64 xl, .int .i64 xh, .slice xa4 xn4 xc4, .slice xa5 xn5 xc5]) := SS.out.gb hg h5
    have E2 : Hid (A.grownBy X2 (some R)) := gb_trans (gb_below D1.out) hg
    have L2 : Hid (V1.heap.size ≤ X2.heap.size) := hg.size
    have HRD2 : Hid (Rdr X2 R P0 qs m) := hrd
    clear kk
    refine hK.out _ _ (fun _ => S2.out) ?_
    clear hK K
    try simp only [Act.put, List.setIfInBounds_toArray, List.set_cons_zero, List.set_cons_succ]
    refine wpAnyJ_take (i := 4) (oi := { dst := some 30, op := Op.build 25 #[(0, Operand.const (Value.int IntKind.i64 9)), (2, Operand.tmp 27), (5, Operand.tmp 29)], type := 25, pos := "reader.go:47", after := #[{ on := 1, ground := Ground.data }, { on := 3, ground := Ground.data }], guard := none }) (v := .agg #[.int .i64 9, .string ⟨#[]⟩, .int .i64 n, .int .i64 0, .slice none 0 0, .slice (some ⟨V0.heap.size, 0, none⟩) 1 1]) rfl rfl (waits_of (by kernel_rfl)) (by kernel_rfl) (by kernel_rfl) (by kernel_rfl) (fun _ _ _ h => hQp _ _ _ _ _ h) (Or.inl ⟨by rfl, fun W hS => ?_⟩) S2.out ?_
    · go_simp
    simp only [Act.put, List.setIfInBounds_toArray, List.set_cons_zero, List.set_cons_succ]
    refine wpAnyJ_ready (rs := [5]) (by kernel_rfl) (by simp) ?_
    refine AllJ.cons (o := { dst := none, op := Op.store 25 (Operand.tmp 5) (Operand.tmp 30), type := 0, pos := "reader.go:47", after := #[{ on := 4, ground := Ground.data }, { on := 1, ground := Ground.chain }, { on := 0, ground := Ground.phase }, { on := 1, ground := Ground.phase }, { on := 2, ground := Ground.phase }, { on := 3, ground := Ground.phase }, { on := 4, ground := Ground.phase }], guard := none }) rfl (fun K hK => ?_) AllJ.nil
    have z0 := (S2.out 0 _ rfl).c
    have y0 := (S2.out 0 _ rfl).f
    have z1 := (S2.out 1 _ rfl).c
    have y1 := (S2.out 1 _ rfl).f
    have z2 := (S2.out 2 _ rfl).c
    have y2 := (S2.out 2 _ rfl).f
    have z3 := (S2.out 3 _ rfl).c
    have y3 := (S2.out 3 _ rfl).f
    have z4 := (S2.out 4 _ rfl).c
    have y4 := (S2.out 4 _ rfl).f
    have z5 := (S2.out 5 _ rfl).c
    have y5 := (S2.out 5 _ rfl).f
    go_simp
    clear z0 y0 z1 y1 z2 y2 z3 y3 z4 y4 z5 y5
    have GU : Hid (A.grownBy X2 (some R)) := E2.out
    obtain ⟨U, hU⟩ : ∃ U, set6 X2 b5 (.int .i64 9) (.string ⟨#[]⟩) (.int .i64 n) (.int .i64 0) (.slice none 0 0) (.slice (some ⟨V0.heap.size, 0, none⟩) 1 1) = U := ⟨_, rfl⟩
    have HF : Hid (∀ u26 u27 u28 u29 u30 : Value, Q .normal { tmps := #[ptR R, t1, t2, t3, t4, .pointer (some ⟨b5, 0, none⟩), t6, t7, t8, t9, t10, t11, t12, t13, t14, t15, t16, t17, t18, t19, t20, t21, t22, t23, t24, t25, u26, u27, u28, u29, u30, t31, t32, t33, t34, t35], defers := [] } U) := fun u26 u27 u28 u29 u30 => hU ▸ HEND.out u26 u27 u28 u29 u30 X2 (V0.heap.size) GU.out HRD2.out S2.out (N1.out.gb hg (by have := D0.out.size; have := hRA; omega)) D0.out.size
    unfold set6 at hU
    rw [hU]
    clear hU
    refine hK.out _ _ (fun h => by cases h) ?_
    clear hK K
    try simp only [Act.put]
    exact wpAnyJ_done (by kernel_rfl) (HF.out _ _ _ _ _) _

set_option maxRecDepth 100000 in
set_option maxHeartbeats 1000000 in
theorem pik7e {Q : Exit → Act → World → Prop} (hQp : ∀ c a d v w, Q (.panic c) (Act.put a d v) w → Q (.panic c) a w) (t1 t2 t3 t4 t6 t7 t8 t9 t10 t11 t12 t13 t14 t15 t16 t17 t18 t19 t20 t21 t22 t23 t24 t25 t26 t27 t28 t29 t30 t31 t32 t33 t34 t35 : Value) (A : World) (R b5 : Nat) (xk : Int) (xc : By) (xl xh : Int) (xa4 : Option Addr) (xn4 xc4 : Nat) (xa5 : Option Addr) (xn5 xc5 : Nat) (ec ea : Int)
    (hC : Bx A b5 [.int .i64 xk, .string (tx xc), .int .i64 xl, .int .i64 xh, .slice xa4 xn4 xc4, .slice xa5 xn5 xc5])
    (hN : ∀ W : World, Below A.heap.size A W → Calls Tryz.prog 104 #[ptR R] W (fun e W' => e = .panicked (chn ec ea) ∧ W.grownBy W' (some R)))
    (hEnd : ∀ (a : Act) (W : World), a.defers = [] → A.grownBy W (some R) → Q (.panic (chn ec ea)) a W) :
    (Code.region 7 #[{ dst := some 26, op := Op.move (Operand.tmp 0), type := 95, pos := "reader.go:47", after := #[], guard := none }, { dst := some 27, op := Op.call { callee := Callee.value (Operand.func 104), args := #[Operand.tmp 26], argTypes := #[95] }, type := 3, pos := "reader.go:47", after := #[{ on := 0, ground := Ground.data }], guard := none }, { dst := some 28, op := Op.load 25 (Operand.tmp 5), type := 25, pos := "reader.go:47", after := #[], guard := none }, { dst := some 29, op := Op.buildSlice 23 1 #[(0, Operand.tmp 28)], type := 23, pos := "reader.go:47", after := #[{ on := 2, ground := Ground.data }], guard := none }, { dst := some 30, op := Op.build 25 #[(0, Operand.const (Value.int IntKind.i64 9)), (2, Operand.tmp 27), (5, Operand.tmp 29)], type := 25, pos := "reader.go:47", after := #[{ on := 1, ground := Ground.data }, { on := 3, ground := Ground.data }], guard := none }, { dst := none, op := Op.store 25 (Operand.tmp 5) (Operand.tmp 30), type := 0, pos := "reader.go:47", after := #[{ on := 4, ground := Ground.data }, { on := 1, ground := Ground.chain }, { on := 0, ground := Ground.phase }, { on := 1, ground := Ground.phase }, { on := 2, ground := Ground.phase }, { on := 3, ground := Ground.phase }, { on := 4, ground := Ground.phase }], guard := none }] true).wp Tryz.prog Q { tmps := #[ptR R, t1, t2, t3, t4, .pointer (some ⟨b5, 0, none⟩), t6, t7, t8, t9, t10, t11, t12, t13, t14, t15, t16, t17, t18, t19, t20, t21, t22, t23, t24, t25, t26, t27, t28, t29, t30, t31, t32, t33, t34, t35], defers := [] } A := by
  have HEND : Hid (∀ (a : Act) (W : World), a.defers = [] → A.grownBy W (some R) → Q (.panic (chn ec ea)) a W) := hEnd
  have H_hN : Hid (∀ W : World, Below A.heap.size A W → Calls Tryz.prog 104 #[ptR R] W (fun e W' => e = .panicked (chn ec ea) ∧ W.grownBy W' (some R))) := hN
  have G0 : Hid (Bx A.drew b5 [.int .i64 xk, .string (tx xc), .int .i64 xl, .int .i64 xh, .slice xa4 xn4 xc4, .slice xa5 xn5 xc5]) := hC.at (Below.refl _ _).drew
  have D0 : Hid (Below A.heap.size A A.drew) := (Below.refl _ _).drew
  clear hEnd hN
  refine wp_region_any (by kernel_rfl) ?_
  change wpAny _ _ _ _ _ _ _ (World.drew _)
  obtain ⟨V0, hV0⟩ : ∃ V0, A.drew = V0 := ⟨_, rfl⟩
  rw [hV0] at G0 D0 ⊢
  clear hV0
  refine wpAny_of_J (S := fun W => Bx W b5 [.int .i64 xk, .string (tx xc), .int .i64 xl, .int .i64 xh, .slice xa4 xn4 xc4, .slice xa5 xn5 xc5]) (J := fun i => i != 5) _ _ _ _ ?_
  refine wpAnyJ_take (i := 0) (oi := { dst := some 26, op := Op.move (Operand.tmp 0), type := 95, pos := "reader.go:47", after := #[], guard := none }) (v := ptR R) rfl rfl (waits_of (by kernel_rfl)) (by kernel_rfl) (by kernel_rfl) (by kernel_rfl) (fun _ _ _ h => hQp _ _ _ _ _ h) (Or.inl ⟨by rfl, fun W hS => ?_⟩) G0.out ?_
  · go_simp
  simp only [Act.put, List.setIfInBounds_toArray, List.set_cons_zero, List.set_cons_succ]
  refine wpAnyJ_take (i := 2) (oi := { dst := some 28, op := Op.load 25 (Operand.tmp 5), type := 25, pos := "reader.go:47", after := #[], guard := none }) (v := .agg #[.int .i64 xk, .string (tx xc), .int .i64 xl, .int .i64 xh, .slice xa4 xn4 xc4, .slice xa5 xn5 xc5]) rfl rfl (waits_of (by kernel_rfl)) (by kernel_rfl) (by kernel_rfl) (by kernel_rfl) (fun _ _ _ h => hQp _ _ _ _ _ h) (Or.inl ⟨by rfl, fun W hS => ?_⟩) G0.out ?_
  · have z0 := (hS 0 _ rfl).c; have z1 := (hS 1 _ rfl).c; have z2 := (hS 2 _ rfl).c; have z3 := (hS 3 _ rfl).c; have z4 := (hS 4 _ rfl).c; have z5 := (hS 5 _ rfl).c; go_simp
  simp only [Act.put, List.setIfInBounds_toArray, List.set_cons_zero, List.set_cons_succ]
  refine wpAnyJ_ready (rs := [1, 3]) (by kernel_rfl) (by simp) ?_
  refine AllJ.cons (o := { dst := some 27, op := Op.call { callee := Callee.value (Operand.func 104), args := #[Operand.tmp 26], argTypes := #[95] }, type := 3, pos := "reader.go:47", after := #[{ on := 0, ground := Ground.data }], guard := none }) rfl (fun K hK => ?_) (AllJ.cons (o := { dst := some 29, op := Op.buildSlice 23 1 #[(0, Operand.tmp 28)], type := 23, pos := "reader.go:47", after := #[{ on := 2, ground := Ground.data }], guard := none }) rfl (fun K hK => ?_) AllJ.nil)
  ·
    have SS : Hid (Bx V0 b5 [.int .i64 xk, .string (tx xc), .int .i64 xl, .int .i64 xh, .slice xa4 xn4 xc4, .slice xa5 xn5 xc5]) := G0.out
    have kk := H_hN.out V0 D0.out
    go_simp
    go_at_call 104
    refine kk.mono ?_
    rintro e1 X1 ⟨rfl, hg⟩
    exact HEND.out _ _ rfl (gb_trans (gb_below D0.out) hg)
  ·
    go_simp
    obtain ⟨V1, hV1⟩ : ∃ V1, V0.alloc (.cells #[.int .i64 xk, .string (tx xc), .int .i64 xl, .int .i64 xh, .slice xa4 xn4 xc4, .slice xa5 xn5 xc5] 25) = V1 := ⟨_, rfl⟩
    have hb1 : Below V0.heap.size V0 V1 := hV1 ▸ ba _ _
    have SS : Hid (Bx V1 b5 [.int .i64 xk, .string (tx xc), .int .i64 xl, .int .i64 xh, .slice xa4 xn4 xc4, .slice xa5 xn5 xc5]) := G0.out.at hb1
    have N1 : Hid (Bx V1 V0.heap.size [.int .i64 xk, .string (tx xc), .int .i64 xl, .int .i64 xh, .slice xa4 xn4 xc4, .slice xa5 xn5 xc5]) := hV1 ▸ Bx.new V0 [.int .i64 xk, .string (tx xc), .int .i64 xl, .int .i64 xh, .slice xa4 xn4 xc4, .slice xa5 xn5 xc5] 25 rfl
    have D1 : Hid (Below A.heap.size A V1) := bt D0.out hb1
    rw [hV1]
    clear hV1
    refine hK.out _ _ (fun _ => SS.out) ?_
    clear hK K
    try simp only [Act.put, List.setIfInBounds_toArray, List.set_cons_zero, List.set_cons_succ]
    refine wpAnyJ_ready (rs := [1]) (by kernel_rfl) (by simp) ?_
    refine AllJ.cons (o := { dst := some 27, op := Op.call { callee := Callee.value (Operand.func 104), args := #[Operand.tmp 26], argTypes := #[95] }, type := 3, pos := "reader.go:47", after := #[{ on := 0, ground := Ground.data }], guard := none }) rfl (fun K hK => ?_) AllJ.nil
    have kk := H_hN.out V1 D1.out
    go_simp
    go_at_call 104
    refine kk.mono ?_
    rintro e1 X2 ⟨rfl, hg⟩
    exact HEND.out _ _ rfl (gb_trans (gb_below D1.out) hg)

set_option maxRecDepth 100000 in
set_option maxHeartbeats 1000000 in
theorem qus10 {Q : Exit → Act → World → Prop} (hQp : ∀ c a d v w, Q (.panic c) (Act.put a d v) w → Q (.panic c) a w) (t2 t3 t4 t6 t8 t9 t10 t11 t12 t13 t14 t15 t16 t17 t18 t19 t20 t21 t22 t23 t24 t25 t26 t27 t28 t29 t30 t31 t32 t33 t34 t35 t36 t37 t38 t39 t40 t41 t42 t43 t44 : Value) (A : World) (R b5 P0 : Nat) (lv kd : Int) (xk : Int) (xc : By) (xl xh : Int) (xa4 : Option Addr) (xn4 xc4 : Nat) (xa5 : Option Addr) (xn5 xc5 : Nat) (a2 : Qu) (qs : List Pc) (m : Value) (h5 : b5 ≠ R)
    (hC : Bx A b5 [.int .i64 xk, .string (tx xc), .int .i64 xl, .int .i64 xh, .slice xa4 xn4 xc4, .slice xa5 xn5 xc5])
    (hN : ∀ W : World, Below A.heap.size A W → Calls Tryz.prog 47 #[ptR R, .int .i64 lv] W (RdP W R P0 m (VQ W.heap.size) (.ok (a2, qs))))
    (hEnd : ∀ (u37 u38 u39 u40 u41 u42 u43 : Value) (yk : Int) (yc : By) (yl yh : Int) (ya4 : Option Addr) (yn4 yc4 : Nat) (ya5 : Option Addr) (yn5 yc5 : Nat) (V : World) (g5 lo : Nat), A.grownBy V (some R) → Rdr V R P0 qs m → Bx V b5 [.int .i64 xk, .string (tx xc), .int .i64 xl, .int .i64 xh, .slice xa4 xn4 xc4, .slice xa5 xn5 xc5] → Bx V g5 ([.int .i64 xk, .string (tx xc), .int .i64 xl, .int .i64 xh, .slice xa4 xn4 xc4, .slice xa5 xn5 xc5] ++ [.int .i64 yk, .string (tx yc), .int .i64 yl, .int .i64 yh, .slice ya4 yn4 yc4, .slice ya5 yn5 yc5]) → A.heap.size ≤ g5 → QV lo V a2 [.int .i64 yk, .string (tx yc), .int .i64 yl, .int .i64 yh, .slice ya4 yn4 yc4, .slice ya5 yn5 yc5] → A.heap.size ≤ lo → Q .normal { tmps := #[ptR R, .int .i64 lv, t2, t3, t4, .pointer (some ⟨b5, 0, none⟩), t6, .int .i64 kd, t8, t9, t10, t11, t12, t13, t14, t15, t16, t17, t18, t19, t20, t21, t22, t23, t24, t25, t26, t27, t28, t29, t30, t31, t32, t33, t34, t35, t36, u37, u38, u39, u40, u41, u42, u43, t44], defers := [] } (set6 V b5 (.int .i64 kd) (.string ⟨#[]⟩) (.int .i64 0) (.int .i64 0) (.slice none 0 0) (.slice (some ⟨g5, 0, none⟩) 2 2))) :
    (Code.region 10 #[{ dst := some 37, op := Op.move (Operand.tmp 7), type := 3, pos := "reader.go:26", after := #[], guard := none }, { dst := some 38, op := Op.load 25 (Operand.tmp 5), type := 25, pos := "reader.go:26", after := #[], guard := none }, { dst := some 39, op := Op.move (Operand.tmp 0), type := 95, pos := "reader.go:26", after := #[], guard := none }, { dst := some 40, op := Op.move (Operand.tmp 1), type := 3, pos := "reader.go:26", after := #[], guard := none }, { dst := some 41, op := Op.call { callee := Callee.value (Operand.func 47), args := #[Operand.tmp 39, Operand.tmp 40], argTypes := #[95, 3] }, type := 25, pos := "reader.go:26", after := #[{ on := 2, ground := Ground.data }, { on := 3, ground := Ground.data }], guard := none }, { dst := some 42, op := Op.buildSlice 23 2 #[(0, Operand.tmp 38), (1, Operand.tmp 41)], type := 23, pos := "reader.go:26", after := #[{ on := 1, ground := Ground.data }, { on := 4, ground := Ground.data }], guard := none }, { dst := some 43, op := Op.build 25 #[(0, Operand.tmp 37), (5, Operand.tmp 42)], type := 25, pos := "reader.go:26", after := #[{ on := 0, ground := Ground.data }, { on := 5, ground := Ground.data }], guard := none }, { dst := none, op := Op.store 25 (Operand.tmp 5) (Operand.tmp 43), type := 0, pos := "reader.go:26", after := #[{ on := 6, ground := Ground.data }, { on := 4, ground := Ground.chain }, { on := 0, ground := Ground.phase }, { on := 1, ground := Ground.phase }, { on := 2, ground := Ground.phase }, { on := 3, ground := Ground.phase }, { on := 4, ground := Ground.phase }, { on := 5, ground := Ground.phase }, { on := 6, ground := Ground.phase }], guard := none }] true).wp Tryz.prog Q { tmps := #[ptR R, .int .i64 lv, t2, t3, t4, .pointer (some ⟨b5, 0, none⟩), t6, .int .i64 kd, t8, t9, t10, t11, t12, t13, t14, t15, t16, t17, t18, t19, t20, t21, t22, t23, t24, t25, t26, t27, t28, t29, t30, t31, t32, t33, t34, t35, t36, t37, t38, t39, t40, t41, t42, t43, t44], defers := [] } A := by
  have HEND : Hid (∀ (u37 u38 u39 u40 u41 u42 u43 : Value) (yk : Int) (yc : By) (yl yh : Int) (ya4 : Option Addr) (yn4 yc4 : Nat) (ya5 : Option Addr) (yn5 yc5 : Nat) (V : World) (g5 lo : Nat), A.grownBy V (some R) → Rdr V R P0 qs m → Bx V b5 [.int .i64 xk, .string (tx xc), .int .i64 xl, .int .i64 xh, .slice xa4 xn4 xc4, .slice xa5 xn5 xc5] → Bx V g5 ([.int .i64 xk, .string (tx xc), .int .i64 xl, .int .i64 xh, .slice xa4 xn4 xc4, .slice xa5 xn5 xc5] ++ [.int .i64 yk, .string (tx yc), .int .i64 yl, .int .i64 yh, .slice ya4 yn4 yc4, .slice ya5 yn5 yc5]) → A.heap.size ≤ g5 → QV lo V a2 [.int .i64 yk, .string (tx yc), .int .i64 yl, .int .i64 yh, .slice ya4 yn4 yc4, .slice ya5 yn5 yc5] → A.heap.size ≤ lo → Q .normal { tmps := #[ptR R, .int .i64 lv, t2, t3, t4, .pointer (some ⟨b5, 0, none⟩), t6, .int .i64 kd, t8, t9, t10, t11, t12, t13, t14, t15, t16, t17, t18, t19, t20, t21, t22, t23, t24, t25, t26, t27, t28, t29, t30, t31, t32, t33, t34, t35, t36, u37, u38, u39, u40, u41, u42, u43, t44], defers := [] } (set6 V b5 (.int .i64 kd) (.string ⟨#[]⟩) (.int .i64 0) (.int .i64 0) (.slice none 0 0) (.slice (some ⟨g5, 0, none⟩) 2 2))) := hEnd
  have H_hN : Hid (∀ W : World, Below A.heap.size A W → Calls Tryz.prog 47 #[ptR R, .int .i64 lv] W (RdP W R P0 m (VQ W.heap.size) (.ok (a2, qs)))) := hN
  have G0 : Hid (Bx A.drew b5 [.int .i64 xk, .string (tx xc), .int .i64 xl, .int .i64 xh, .slice xa4 xn4 xc4, .slice xa5 xn5 xc5]) := hC.at (Below.refl _ _).drew
  have D0 : Hid (Below A.heap.size A A.drew) := (Below.refl _ _).drew
  clear hEnd hN
  refine wp_region_any (by kernel_rfl) ?_
  change wpAny _ _ _ _ _ _ _ (World.drew _)
  obtain ⟨V0, hV0⟩ : ∃ V0, A.drew = V0 := ⟨_, rfl⟩
  rw [hV0] at G0 D0 ⊢
  clear hV0
  refine wpAny_of_J (S := fun W => Bx W b5 [.int .i64 xk, .string (tx xc), .int .i64 xl, .int .i64 xh, .slice xa4 xn4 xc4, .slice xa5 xn5 xc5]) (J := fun i => i != 7) _ _ _ _ ?_
  refine wpAnyJ_take (i := 0) (oi := { dst := some 37, op := Op.move (Operand.tmp 7), type := 3, pos := "reader.go:26", after := #[], guard := none }) (v := .int .i64 kd) rfl rfl (waits_of (by kernel_rfl)) (by kernel_rfl) (by kernel_rfl) (by kernel_rfl) (fun _ _ _ h => hQp _ _ _ _ _ h) (Or.inl ⟨by rfl, fun W hS => ?_⟩) G0.out ?_
  · go_simp
  simp only [Act.put, List.setIfInBounds_toArray, List.set_cons_zero, List.set_cons_succ]
  refine wpAnyJ_take (i := 1) (oi := { dst := some 38, op := Op.load 25 (Operand.tmp 5), type := 25, pos := "reader.go:26", after := #[], guard := none }) (v := .agg #[.int .i64 xk, .string (tx xc), .int .i64 xl, .int .i64 xh, .slice xa4 xn4 xc4, .slice xa5 xn5 xc5]) rfl rfl (waits_of (by kernel_rfl)) (by kernel_rfl) (by kernel_rfl) (by kernel_rfl) (fun _ _ _ h => hQp _ _ _ _ _ h) (Or.inl ⟨by rfl, fun W hS => ?_⟩) G0.out ?_
  · have z0 := (hS 0 _ rfl).c; have z1 := (hS 1 _ rfl).c; have z2 := (hS 2 _ rfl).c; have z3 := (hS 3 _ rfl).c; have z4 := (hS 4 _ rfl).c; have z5 := (hS 5 _ rfl).c; go_simp
  simp only [Act.put, List.setIfInBounds_toArray, List.set_cons_zero, List.set_cons_succ]
  refine wpAnyJ_take (i := 2) (oi := { dst := some 39, op := Op.move (Operand.tmp 0), type := 95, pos := "reader.go:26", after := #[], guard := none }) (v := ptR R) rfl rfl (waits_of (by kernel_rfl)) (by kernel_rfl) (by kernel_rfl) (by kernel_rfl) (fun _ _ _ h => hQp _ _ _ _ _ h) (Or.inl ⟨by rfl, fun W hS => ?_⟩) G0.out ?_
  · go_simp
  simp only [Act.put, List.setIfInBounds_toArray, List.set_cons_zero, List.set_cons_succ]
  refine wpAnyJ_take (i := 3) (oi := { dst := some 40, op := Op.move (Operand.tmp 1), type := 3, pos := "reader.go:26", after := #[], guard := none }) (v := .int .i64 lv) rfl rfl (waits_of (by kernel_rfl)) (by kernel_rfl) (by kernel_rfl) (by kernel_rfl) (fun _ _ _ h => hQp _ _ _ _ _ h) (Or.inl ⟨by rfl, fun W hS => ?_⟩) G0.out ?_
  · go_simp
  simp only [Act.put, List.setIfInBounds_toArray, List.set_cons_zero, List.set_cons_succ]
  refine wpAnyJ_ready (rs := [4]) (by kernel_rfl) (by simp) ?_
  refine AllJ.cons (o := { dst := some 41, op := Op.call { callee := Callee.value (Operand.func 47), args := #[Operand.tmp 39, Operand.tmp 40], argTypes := #[95, 3] }, type := 25, pos := "reader.go:26", after := #[{ on := 2, ground := Ground.data }, { on := 3, ground := Ground.data }], guard := none }) rfl (fun K hK => ?_) AllJ.nil
  have kk := H_hN.out V0 D0.out
  go_simp
  go_at_call 47
  refine kk.mono ?_
  rintro e1 X1 ⟨⟨⟨v, rfl, cs, rfl, hqv⟩, hrd⟩, hg⟩
  obtain ⟨yk, yc, yl, yh, ya4, yn4, yc4, ya5, yn5, yc5, rfl⟩ := hqv.six
  have S1 : Hid (Bx X1 b5 [.int .i64 xk, .string (tx xc), .int .i64 xl, .int .i64 xh, .slice xa4 xn4 xc4, .slice xa5 xn5 xc5]) := G0.out.gb hg h5
  have E1 : Hid (A.grownBy X1 (some R)) := gb_trans (gb_below D0.out) hg
  have HRD1 : Hid (Rdr X1 R P0 qs m) := hrd
  have HQ1 : Hid (QV V0.heap.size X1 a2 [.int .i64 yk, .string (tx yc), .int .i64 yl, .int .i64 yh, .slice ya4 yn4 yc4, .slice ya5 yn5 yc5]) := hqv
  clear kk hqv hrd hg
  refine hK.out _ _ (fun _ => S1.out) ?_
  clear hK K
  try simp only [Act.put, List.setIfInBounds_toArray, List.set_cons_zero, List.set_cons_succ]
  refine wpAnyJ_ready (rs := [5]) (by kernel_rfl) (by simp) ?_
  refine AllJ.cons (o := { dst := some 42, op := Op.buildSlice 23 2 #[(0, Operand.tmp 38), (1, Operand.tmp 41)], type := 23, pos := "reader.go:26", after := #[{ on := 1, ground := Ground.data }, { on := 4, ground := Ground.data }], guard := none }) rfl (fun K hK => ?_) AllJ.nil
  go_simp
  obtain ⟨V2, hV2⟩ : ∃ V2, X1.alloc (.cells #[.int .i64 xk, .string (tx xc), .int .i64 xl, .int .i64 xh, .slice xa4 xn4 xc4, .slice xa5 xn5 xc5, .int .i64 yk, .string (tx yc), .int .i64 yl, .int .i64 yh, .slice ya4 yn4 yc4, .slice ya5 yn5 yc5] 25) = V2 := ⟨_, rfl⟩
  have hb2 : Below X1.heap.size X1 V2 := hV2 ▸ ba _ _
  have S2 : Hid (Bx V2 b5 [.int .i64 xk, .string (tx xc), .int .i64 xl, .int .i64 xh, .slice xa4 xn4 xc4, .slice xa5 xn5 xc5]) := S1.out.at hb2
  have N2 : Hid (Bx V2 X1.heap.size ([.int .i64 xk, .string (tx xc), .int .i64 xl, .int .i64 xh, .slice xa4 xn4 xc4, .slice xa5 xn5 xc5] ++ [.int .i64 yk, .string (tx yc), .int .i64 yl, .int .i64 yh, .slice ya4 yn4 yc4, .slice ya5 yn5 yc5])) := by
    rw [Hid, ← hV2]
    exact Bx.new X1 [.int .i64 xk, .string (tx xc), .int .i64 xl, .int .i64 xh, .slice xa4 xn4 xc4, .slice xa5 xn5 xc5, .int .i64 yk, .string (tx yc), .int .i64 yl, .int .i64 yh, .slice ya4 yn4 yc4, .slice ya5 yn5 yc5] 25 rfl
  have HRD2 : Hid (Rdr V2 R P0 qs m) := HRD1.out.at hb2
  have HQ2 : Hid (QV V0.heap.size V2 a2 [.int .i64 yk, .string (tx yc), .int .i64 yl, .int .i64 yh, .slice ya4 yn4 yc4, .slice ya5 yn5 yc5]) := QV.kp (Kp.bl hb2) a2 HQ1.out
  rw [hV2]
  clear hV2
  refine hK.out _ _ (fun _ => S2.out) ?_
  clear hK K
  try simp only [Act.put, List.setIfInBounds_toArray, List.set_cons_zero, List.set_cons_succ]
  refine wpAnyJ_take (i := 6) (oi := { dst := some 43, op := Op.build 25 #[(0, Operand.tmp 37), (5, Operand.tmp 42)], type := 25, pos := "reader.go:26", after := #[{ on := 0, ground := Ground.data }, { on := 5, ground := Ground.data }], guard := none }) (v := .agg #[.int .i64 kd, .string ⟨#[]⟩, .int .i64 0, .int .i64 0, .slice none 0 0, .slice (some ⟨X1.heap.size, 0, none⟩) 2 2]) rfl rfl (waits_of (by kernel_rfl)) (by kernel_rfl) (by kernel_rfl) (by kernel_rfl) (fun _ _ _ h => hQp _ _ _ _ _ h) (Or.inl ⟨by rfl, fun W hS => ?_⟩) S2.out ?_
  · go_simp
  simp only [Act.put, List.setIfInBounds_toArray, List.set_cons_zero, List.set_cons_succ]
  refine wpAnyJ_ready (rs := [7]) (by kernel_rfl) (by simp) ?_
  refine AllJ.cons (o := { dst := none, op := Op.store 25 (Operand.tmp 5) (Operand.tmp 43), type := 0, pos := "reader.go:26", after := #[{ on := 6, ground := Ground.data }, { on := 4, ground := Ground.chain }, { on := 0, ground := Ground.phase }, { on := 1, ground := Ground.phase }, { on := 2, ground := Ground.phase }, { on := 3, ground := Ground.phase }, { on := 4, ground := Ground.phase }, { on := 5, ground := Ground.phase }, { on := 6, ground := Ground.phase }], guard := none }) rfl (fun K hK => ?_) AllJ.nil
  have z0 := (S2.out 0 _ rfl).c
  have y0 := (S2.out 0 _ rfl).f
  have z1 := (S2.out 1 _ rfl).c
  have y1 := (S2.out 1 _ rfl).f
  have z2 := (S2.out 2 _ rfl).c
  have y2 := (S2.out 2 _ rfl).f
  have z3 := (S2.out 3 _ rfl).c
  have y3 := (S2.out 3 _ rfl).f
  have z4 := (S2.out 4 _ rfl).c
  have y4 := (S2.out 4 _ rfl).f
  have z5 := (S2.out 5 _ rfl).c
  have y5 := (S2.out 5 _ rfl).f
  go_simp
  clear z0 y0 z1 y1 z2 y2 z3 y3 z4 y4 z5 y5
  obtain ⟨U, hU⟩ : ∃ U, set6 V2 b5 (.int .i64 kd) (.string ⟨#[]⟩) (.int .i64 0) (.int .i64 0) (.slice none 0 0) (.slice (some ⟨X1.heap.size, 0, none⟩) 2 2) = U := ⟨_, rfl⟩
  have HF : Hid (∀ u37 u38 u39 u40 u41 u42 u43 : Value, Q .normal { tmps := #[ptR R, .int .i64 lv, t2, t3, t4, .pointer (some ⟨b5, 0, none⟩), t6, .int .i64 kd, t8, t9, t10, t11, t12, t13, t14, t15, t16, t17, t18, t19, t20, t21, t22, t23, t24, t25, t26, t27, t28, t29, t30, t31, t32, t33, t34, t35, t36, u37, u38, u39, u40, u41, u42, u43, t44], defers := [] } U) := fun u37 u38 u39 u40 u41 u42 u43 => hU ▸ HEND.out u37 u38 u39 u40 u41 u42 u43 yk yc yl yh ya4 yn4 yc4 ya5 yn5 yc5 V2 X1.heap.size V0.heap.size (gb_trans E1.out (gb_below hb2)) HRD2.out S2.out N2.out E1.out.size HQ2.out D0.out.size
  unfold set6 at hU
  rw [hU]
  clear hU
  refine hK.out _ _ (fun h => by cases h) ?_
  clear hK K
  try simp only [Act.put]
  exact wpAnyJ_done (by kernel_rfl) (HF.out _ _ _ _ _ _ _) _

set_option maxRecDepth 100000 in
set_option maxHeartbeats 1000000 in
theorem qus10e {Q : Exit → Act → World → Prop} (hQp : ∀ c a d v w, Q (.panic c) (Act.put a d v) w → Q (.panic c) a w) (t2 t3 t4 t6 t8 t9 t10 t11 t12 t13 t14 t15 t16 t17 t18 t19 t20 t21 t22 t23 t24 t25 t26 t27 t28 t29 t30 t31 t32 t33 t34 t35 t36 t37 t38 t39 t40 t41 t42 t43 t44 : Value) (A : World) (R b5 : Nat) (lv kd : Int) (xk : Int) (xc : By) (xl xh : Int) (xa4 : Option Addr) (xn4 xc4 : Nat) (xa5 : Option Addr) (xn5 xc5 : Nat) (ec ea : Int)
    (hC : Bx A b5 [.int .i64 xk, .string (tx xc), .int .i64 xl, .int .i64 xh, .slice xa4 xn4 xc4, .slice xa5 xn5 xc5])
    (hN : ∀ W : World, Below A.heap.size A W → Calls Tryz.prog 47 #[ptR R, .int .i64 lv] W (fun e W' => e = .panicked (chn ec ea) ∧ W.grownBy W' (some R)))
    (hEnd : ∀ (a : Act) (W : World), a.defers = [] → A.grownBy W (some R) → Q (.panic (chn ec ea)) a W) :
    (Code.region 10 #[{ dst := some 37, op := Op.move (Operand.tmp 7), type := 3, pos := "reader.go:26", after := #[], guard := none }, { dst := some 38, op := Op.load 25 (Operand.tmp 5), type := 25, pos := "reader.go:26", after := #[], guard := none }, { dst := some 39, op := Op.move (Operand.tmp 0), type := 95, pos := "reader.go:26", after := #[], guard := none }, { dst := some 40, op := Op.move (Operand.tmp 1), type := 3, pos := "reader.go:26", after := #[], guard := none }, { dst := some 41, op := Op.call { callee := Callee.value (Operand.func 47), args := #[Operand.tmp 39, Operand.tmp 40], argTypes := #[95, 3] }, type := 25, pos := "reader.go:26", after := #[{ on := 2, ground := Ground.data }, { on := 3, ground := Ground.data }], guard := none }, { dst := some 42, op := Op.buildSlice 23 2 #[(0, Operand.tmp 38), (1, Operand.tmp 41)], type := 23, pos := "reader.go:26", after := #[{ on := 1, ground := Ground.data }, { on := 4, ground := Ground.data }], guard := none }, { dst := some 43, op := Op.build 25 #[(0, Operand.tmp 37), (5, Operand.tmp 42)], type := 25, pos := "reader.go:26", after := #[{ on := 0, ground := Ground.data }, { on := 5, ground := Ground.data }], guard := none }, { dst := none, op := Op.store 25 (Operand.tmp 5) (Operand.tmp 43), type := 0, pos := "reader.go:26", after := #[{ on := 6, ground := Ground.data }, { on := 4, ground := Ground.chain }, { on := 0, ground := Ground.phase }, { on := 1, ground := Ground.phase }, { on := 2, ground := Ground.phase }, { on := 3, ground := Ground.phase }, { on := 4, ground := Ground.phase }, { on := 5, ground := Ground.phase }, { on := 6, ground := Ground.phase }], guard := none }] true).wp Tryz.prog Q { tmps := #[ptR R, .int .i64 lv, t2, t3, t4, .pointer (some ⟨b5, 0, none⟩), t6, .int .i64 kd, t8, t9, t10, t11, t12, t13, t14, t15, t16, t17, t18, t19, t20, t21, t22, t23, t24, t25, t26, t27, t28, t29, t30, t31, t32, t33, t34, t35, t36, t37, t38, t39, t40, t41, t42, t43, t44], defers := [] } A := by
  have HEND : Hid (∀ (a : Act) (W : World), a.defers = [] → A.grownBy W (some R) → Q (.panic (chn ec ea)) a W) := hEnd
  have H_hN : Hid (∀ W : World, Below A.heap.size A W → Calls Tryz.prog 47 #[ptR R, .int .i64 lv] W (fun e W' => e = .panicked (chn ec ea) ∧ W.grownBy W' (some R))) := hN
  have G0 : Hid (Bx A.drew b5 [.int .i64 xk, .string (tx xc), .int .i64 xl, .int .i64 xh, .slice xa4 xn4 xc4, .slice xa5 xn5 xc5]) := hC.at (Below.refl _ _).drew
  have D0 : Hid (Below A.heap.size A A.drew) := (Below.refl _ _).drew
  clear hEnd hN
  refine wp_region_any (by kernel_rfl) ?_
  change wpAny _ _ _ _ _ _ _ (World.drew _)
  obtain ⟨V0, hV0⟩ : ∃ V0, A.drew = V0 := ⟨_, rfl⟩
  rw [hV0] at G0 D0 ⊢
  clear hV0
  refine wpAny_of_J (S := fun W => Bx W b5 [.int .i64 xk, .string (tx xc), .int .i64 xl, .int .i64 xh, .slice xa4 xn4 xc4, .slice xa5 xn5 xc5]) (J := fun i => i != 7) _ _ _ _ ?_
  refine wpAnyJ_take (i := 0) (oi := { dst := some 37, op := Op.move (Operand.tmp 7), type := 3, pos := "reader.go:26", after := #[], guard := none }) (v := .int .i64 kd) rfl rfl (waits_of (by kernel_rfl)) (by kernel_rfl) (by kernel_rfl) (by kernel_rfl) (fun _ _ _ h => hQp _ _ _ _ _ h) (Or.inl ⟨by rfl, fun W hS => ?_⟩) G0.out ?_
  · go_simp
  simp only [Act.put, List.setIfInBounds_toArray, List.set_cons_zero, List.set_cons_succ]
  refine wpAnyJ_take (i := 1) (oi := { dst := some 38, op := Op.load 25 (Operand.tmp 5), type := 25, pos := "reader.go:26", after := #[], guard := none }) (v := .agg #[.int .i64 xk, .string (tx xc), .int .i64 xl, .int .i64 xh, .slice xa4 xn4 xc4, .slice xa5 xn5 xc5]) rfl rfl (waits_of (by kernel_rfl)) (by kernel_rfl) (by kernel_rfl) (by kernel_rfl) (fun _ _ _ h => hQp _ _ _ _ _ h) (Or.inl ⟨by rfl, fun W hS => ?_⟩) G0.out ?_
  · have z0 := (hS 0 _ rfl).c; have z1 := (hS 1 _ rfl).c; have z2 := (hS 2 _ rfl).c; have z3 := (hS 3 _ rfl).c; have z4 := (hS 4 _ rfl).c; have z5 := (hS 5 _ rfl).c; go_simp
  simp only [Act.put, List.setIfInBounds_toArray, List.set_cons_zero, List.set_cons_succ]
  refine wpAnyJ_take (i := 2) (oi := { dst := some 39, op := Op.move (Operand.tmp 0), type := 95, pos := "reader.go:26", after := #[], guard := none }) (v := ptR R) rfl rfl (waits_of (by kernel_rfl)) (by kernel_rfl) (by kernel_rfl) (by kernel_rfl) (fun _ _ _ h => hQp _ _ _ _ _ h) (Or.inl ⟨by rfl, fun W hS => ?_⟩) G0.out ?_
  · go_simp
  simp only [Act.put, List.setIfInBounds_toArray, List.set_cons_zero, List.set_cons_succ]
  refine wpAnyJ_take (i := 3) (oi := { dst := some 40, op := Op.move (Operand.tmp 1), type := 3, pos := "reader.go:26", after := #[], guard := none }) (v := .int .i64 lv) rfl rfl (waits_of (by kernel_rfl)) (by kernel_rfl) (by kernel_rfl) (by kernel_rfl) (fun _ _ _ h => hQp _ _ _ _ _ h) (Or.inl ⟨by rfl, fun W hS => ?_⟩) G0.out ?_
  · go_simp
  simp only [Act.put, List.setIfInBounds_toArray, List.set_cons_zero, List.set_cons_succ]
  refine wpAnyJ_ready (rs := [4]) (by kernel_rfl) (by simp) ?_
  refine AllJ.cons (o := { dst := some 41, op := Op.call { callee := Callee.value (Operand.func 47), args := #[Operand.tmp 39, Operand.tmp 40], argTypes := #[95, 3] }, type := 25, pos := "reader.go:26", after := #[{ on := 2, ground := Ground.data }, { on := 3, ground := Ground.data }], guard := none }) rfl (fun K hK => ?_) AllJ.nil
  have kk := H_hN.out V0 D0.out
  go_simp
  go_at_call 47
  refine kk.mono ?_
  rintro e1 X1 ⟨rfl, hg⟩
  exact HEND.out _ _ rfl (gb_trans (gb_below D0.out) hg)

end Go.Proofs.YtidfkencjdjkbaaGreatDoor

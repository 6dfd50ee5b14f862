import Derived.Test.YtidfkencjdjkbaaGreatDoorQn22
import Derived.Test.YtidfkencjdjkbaaGreatDoorQn20
import Derived.Test.YtidfkencjdjkbaaGreatDoorQn07
/-
  The document's own answer, chapter 15, Print: tests as texts.
-/
namespace Go.Proofs.YtidfkencjdjkbaaGreatDoor
open Go.RowKit Sp
open Go.Lib (decDigits itoa)

theorem sgn_cell (V : World) {j : Nat} {sg : By} (h : sigs[j]? = some sg) : (V.alloc (.cells #[.string ⟨#[61]⟩, .string ⟨#[60]⟩, .string ⟨#[60, 61]⟩, .string ⟨#[62]⟩, .string ⟨#[62, 61]⟩, .string ⟨#[60, 62]⟩] 9)).cell? ⟨V.heap.size, j, none⟩ = some (.string (tx sg)) :=
  (Bx.new V (sigs.map fun s => Value.string (tx s)) 9 rfl j _ (by rw [List.getElem?_map, h]; rfl)).c
set_option maxRecDepth 100000 in
set_option maxHeartbeats 4000000 in
theorem tregion8 {Q : Exit → Act → World → Prop} (hQp : ∀ c a d v w, Q (.panic c) (Act.put a d v) w → Q (.panic c) a w) (t0 t1 t2 t4 t6 t7 t8 t9 t10 t11 t12 t13 t14 t15 t16 t17 t18 t19 t20 t21 t22 t23 t24 t25 t26 t27 t28 t29 t30 t31 t32 t33 t34 t35 t36 t37 : Value) (A : World) (b j : Nat) (d v : Int) (sg : By) (S0 C G U A1 A2 A3 A4 A5 : ByteArray)
    (hsg' : sigs[j]? = some sg) (hG : tx sg = G) (hj : j < 6) (hd : IntKind.i64.wrap (d - 1) = (j : Int))
    (a1 : S0 ++ C = A1) (a2 : A1 ++ ⟨#[32]⟩ = A2) (a3 : A2 ++ G = A3) (a4 : A3 ++ ⟨#[32]⟩ = A4) (a5 : A4 ++ U = A5)
    (l1 : ¬ (9223372036854775807 < S0.size + C.size)) (l2 : ¬ (9223372036854775807 < A1.size + 1)) (l3 : ¬ (9223372036854775807 < A2.size + G.size)) (l4 : ¬ (9223372036854775807 < A3.size + 1)) (l5 : ¬ (9223372036854775807 < A4.size + U.size))
    (hC : ∀ W, Below A.heap.size A W → W.cell? ⟨b, 0, none⟩ = some (.string C) ∧ W.cell? ⟨b, 1, none⟩ = some (.int .i64 d) ∧ W.cell? ⟨b, 2, none⟩ = some (.int .i64 v))
    (h40 : ∀ W : World, Calls Tryz.prog 40 #[.int .i64 v] W fun e w' => e = .returned (.string U) ∧ Below W.heap.size W w')
    (hEnd : ∀ (g : Nat) (X : World), Below A.heap.size A X → Q .normal { tmps := #[t0, t1, t2, .string A5, t4, .pointer (some ⟨b, 0, none⟩), t6, t7, t8, t9, t10, t11, t12, t13, t14, t15, t16, t17, t18, .string S0, .pointer (some ⟨b, 0, none⟩), .string C, .string A1, .string A2, .slice (some ⟨g, 0, none⟩) 6 6, .pointer (some ⟨b, 1, none⟩), .int .i64 d, .int .i64 (j : Int), .pointer (some ⟨g, j, none⟩), .string G, .string A3, .string A4, .pointer (some ⟨b, 2, none⟩), .int .i64 v, .string U, .string A5, t36, t37], defers := [] } X) :
    (Code.region 8 #[{ dst := some 19, op := Go.Op.move (Go.Operand.tmp 3), type := 9, pos := "ref.go:370", after := #[], guard := none }, { dst := some 20, op := Go.Op.fieldAddr 81 (Go.Operand.tmp 5) 0, type := 0, pos := "ref.go:370", after := #[], guard := none }, { dst := some 21, op := Go.Op.load 9 (Go.Operand.tmp 20), type := 9, pos := "ref.go:370", after := #[{ on := 1, ground := Go.Ground.data }], guard := none }, { dst := some 22, op := Go.Op.binOp Go.BinOp.add 9 (Go.Operand.tmp 19) (Go.Operand.tmp 21) 9, type := 9, pos := "ref.go:370", after := #[{ on := 0, ground := Go.Ground.data }, { on := 2, ground := Go.Ground.data }], guard := none }, { dst := some 23, op := Go.Op.binOp Go.BinOp.add 9 (Go.Operand.tmp 22) (Go.Operand.const (Go.Value.string { data := #[32] })) 9, type := 9, pos := "ref.go:370", after := #[{ on := 3, ground := Go.Ground.data }], guard := none }, { dst := some 24, op := Go.Op.buildSlice 121 6 #[(0, Go.Operand.const (Go.Value.string { data := #[61] })), (1, Go.Operand.const (Go.Value.string { data := #[60] })), (2, Go.Operand.const (Go.Value.string { data := #[60, 61] })), (3, Go.Operand.const (Go.Value.string { data := #[62] })), (4, Go.Operand.const (Go.Value.string { data := #[62, 61] })), (5, Go.Operand.const (Go.Value.string { data := #[60, 62] }))], type := 121, pos := "ref.go:370", after := #[], guard := none }, { dst := some 25, op := Go.Op.fieldAddr 81 (Go.Operand.tmp 5) 1, type := 0, pos := "ref.go:370", after := #[], guard := none }, { dst := some 26, op := Go.Op.load 3 (Go.Operand.tmp 25), type := 3, pos := "ref.go:370", after := #[{ on := 6, ground := Go.Ground.data }], guard := none }, { dst := some 27, op := Go.Op.binOp Go.BinOp.sub 3 (Go.Operand.tmp 26) (Go.Operand.const (Go.Value.int Go.IntKind.i64 1)) 3, type := 3, pos := "ref.go:370", after := #[{ on := 7, ground := Go.Ground.data }], guard := none }, { dst := some 28, op := Go.Op.indexAddr 121 (Go.Operand.tmp 24) (Go.Operand.tmp 27), type := 0, pos := "ref.go:370", after := #[{ on := 5, ground := Go.Ground.data }, { on := 8, ground := Go.Ground.data }], guard := none }, { dst := some 29, op := Go.Op.load 9 (Go.Operand.tmp 28), type := 9, pos := "ref.go:370", after := #[{ on := 9, ground := Go.Ground.data }], guard := none }, { dst := some 30, op := Go.Op.binOp Go.BinOp.add 9 (Go.Operand.tmp 23) (Go.Operand.tmp 29) 9, type := 9, pos := "ref.go:370", after := #[{ on := 4, ground := Go.Ground.data }, { on := 10, ground := Go.Ground.data }], guard := none }, { dst := some 31, op := Go.Op.binOp Go.BinOp.add 9 (Go.Operand.tmp 30) (Go.Operand.const (Go.Value.string { data := #[32] })) 9, type := 9, pos := "ref.go:370", after := #[{ on := 11, ground := Go.Ground.data }], guard := none }, { dst := some 32, op := Go.Op.fieldAddr 81 (Go.Operand.tmp 5) 2, type := 0, pos := "ref.go:370", after := #[], guard := none }, { dst := some 33, op := Go.Op.load 3 (Go.Operand.tmp 32), type := 3, pos := "ref.go:370", after := #[{ on := 13, ground := Go.Ground.data }], guard := none }, { dst := some 34, op := Go.Op.call { callee := Go.Callee.value (Go.Operand.func 40), args := #[Go.Operand.tmp 33], argTypes := #[3] }, type := 9, pos := "ref.go:370", after := #[{ on := 14, ground := Go.Ground.data }], guard := none }, { dst := some 35, op := Go.Op.binOp Go.BinOp.add 9 (Go.Operand.tmp 31) (Go.Operand.tmp 34) 9, type := 9, pos := "ref.go:370", after := #[{ on := 12, ground := Go.Ground.data }, { on := 15, ground := Go.Ground.data }], guard := none }, { dst := some 3, op := Go.Op.assign (Go.Operand.tmp 35), type := 9, pos := "ref.go:370", after := #[{ on := 16, ground := Go.Ground.data }, { on := 15, ground := Go.Ground.chain }, { on := 0, ground := Go.Ground.phase }, { on := 1, ground := Go.Ground.phase }, { on := 2, ground := Go.Ground.phase }, { on := 3, ground := Go.Ground.phase }, { on := 4, ground := Go.Ground.phase }, { on := 5, ground := Go.Ground.phase }, { on := 6, ground := Go.Ground.phase }, { on := 7, ground := Go.Ground.phase }, { on := 8, ground := Go.Ground.phase }, { on := 9, ground := Go.Ground.phase }, { on := 10, ground := Go.Ground.phase }, { on := 11, ground := Go.Ground.phase }, { on := 12, ground := Go.Ground.phase }, { on := 13, ground := Go.Ground.phase }, { on := 14, ground := Go.Ground.phase }, { on := 15, ground := Go.Ground.phase }, { on := 16, ground := Go.Ground.phase }], guard := none }] true).wp Tryz.prog Q { tmps := #[t0, t1, t2, .string S0, t4, .pointer (some ⟨b, 0, none⟩), t6, t7, t8, t9, t10, t11, t12, t13, t14, t15, t16, t17, t18, t19, t20, t21, t22, t23, t24, t25, t26, t27, t28, t29, t30, t31, t32, t33, t34, t35, t36, t37], defers := [] } A := by
  have hsg : ∀ V : World, (V.alloc (.cells #[.string ⟨#[61]⟩, .string ⟨#[60]⟩, .string ⟨#[60, 61]⟩, .string ⟨#[62]⟩, .string ⟨#[62, 61]⟩, .string ⟨#[60, 62]⟩] 9)).cell? ⟨V.heap.size, j, none⟩ = some (.string G) := fun V => hG ▸ sgn_cell V hsg'
  have HSG : Hid (∀ V : World, (V.alloc (.cells #[.string ⟨#[61]⟩, .string ⟨#[60]⟩, .string ⟨#[60, 61]⟩, .string ⟨#[62]⟩, .string ⟨#[62, 61]⟩, .string ⟨#[60, 62]⟩] 9)).cell? ⟨V.heap.size, j, none⟩ = some (.string G)) := hsg
  have hji : (j : Int) < 6 := by omega
  have HEND : Hid (∀ (g : Nat) (X : World), Below A.heap.size A X → Q .normal { tmps := #[t0, t1, t2, .string A5, t4, .pointer (some ⟨b, 0, none⟩), t6, t7, t8, t9, t10, t11, t12, t13, t14, t15, t16, t17, t18, .string S0, .pointer (some ⟨b, 0, none⟩), .string C, .string A1, .string A2, .slice (some ⟨g, 0, none⟩) 6 6, .pointer (some ⟨b, 1, none⟩), .int .i64 d, .int .i64 (j : Int), .pointer (some ⟨g, j, none⟩), .string G, .string A3, .string A4, .pointer (some ⟨b, 2, none⟩), .int .i64 v, .string U, .string A5, t36, t37], defers := [] } X) := hEnd
  have HC : Hid (∀ W, Below A.heap.size A W → W.cell? ⟨b, 0, none⟩ = some (.string C) ∧ W.cell? ⟨b, 1, none⟩ = some (.int .i64 d) ∧ W.cell? ⟨b, 2, none⟩ = some (.int .i64 v)) := hC
  have H40 : Hid (∀ W : World, Calls Tryz.prog 40 #[.int .i64 v] W fun e w' => e = .returned (.string U) ∧ Below W.heap.size W w') := h40
  have G0 : Hid (Below A.heap.size A A.drew) := (Below.refl _ _).drew
  clear hEnd hC h40 hsg' hG hsg
  refine wp_region_any (by kernel_rfl) ?_
  change wpAny _ _ _ _ _ _ _ (World.drew _)
  obtain ⟨V0, hV0⟩ : ∃ V0, A.drew = V0 := ⟨_, rfl⟩
  rw [hV0] at G0 ⊢
  clear hV0
  refine wpAny_of_J (S := fun W => Below A.heap.size A W) (J := fun _ => true) _ _ _ _ ?_
  refine wpAnyJ_take (i := 0) (oi := { dst := some 19, op := Go.Op.move (Go.Operand.tmp 3), type := 9, pos := "ref.go:370", after := #[], guard := none }) (v := .string S0) rfl rfl (waits_of (by kernel_rfl)) (by kernel_rfl) (by kernel_rfl) (by kernel_rfl) (fun _ _ _ h => hQp _ _ _ _ _ h) (Or.inl ⟨by rfl, fun W hS => ?_⟩) G0.out ?_
  · go_simp
  simp only [Act.put, List.setIfInBounds_toArray, List.set_cons_zero, List.set_cons_succ]
  refine wpAnyJ_take (i := 1) (oi := { dst := some 20, op := Go.Op.fieldAddr 81 (Go.Operand.tmp 5) 0, type := 0, pos := "ref.go:370", after := #[], guard := none }) (v := .pointer (some ⟨b, 0, none⟩)) rfl rfl (waits_of (by kernel_rfl)) (by kernel_rfl) (by kernel_rfl) (by kernel_rfl) (fun _ _ _ h => hQp _ _ _ _ _ h) (Or.inl ⟨by rfl, fun W hS => ?_⟩) G0.out ?_
  · go_simp
  simp only [Act.put, List.setIfInBounds_toArray, List.set_cons_zero, List.set_cons_succ]
  refine wpAnyJ_take (i := 2) (oi := { dst := some 21, op := Go.Op.load 9 (Go.Operand.tmp 20), type := 9, pos := "ref.go:370", after := #[{ on := 1, ground := Go.Ground.data }], guard := none }) (v := .string C) rfl rfl (waits_of (by kernel_rfl)) (by kernel_rfl) (by kernel_rfl) (by kernel_rfl) (fun _ _ _ h => hQp _ _ _ _ _ h) (Or.inl ⟨by rfl, fun W hS => ?_⟩) G0.out ?_
  · obtain ⟨z0, z1, z2⟩ := HC.out W hS; go_simp
  simp only [Act.put, List.setIfInBounds_toArray, List.set_cons_zero, List.set_cons_succ]
  refine wpAnyJ_take (i := 3) (oi := { dst := some 22, op := Go.Op.binOp Go.BinOp.add 9 (Go.Operand.tmp 19) (Go.Operand.tmp 21) 9, type := 9, pos := "ref.go:370", after := #[{ on := 0, ground := Go.Ground.data }, { on := 2, ground := Go.Ground.data }], guard := none }) (v := .string A1) rfl rfl (waits_of (by kernel_rfl)) (by kernel_rfl) (by kernel_rfl) (by kernel_rfl) (fun _ _ _ h => hQp _ _ _ _ _ h) (Or.inl ⟨by rfl, fun W hS => ?_⟩) G0.out ?_
  · go_simp
  simp only [Act.put, List.setIfInBounds_toArray, List.set_cons_zero, List.set_cons_succ]
  refine wpAnyJ_take (i := 4) (oi := { dst := some 23, op := Go.Op.binOp Go.BinOp.add 9 (Go.Operand.tmp 22) (Go.Operand.const (Go.Value.string { data := #[32] })) 9, type := 9, pos := "ref.go:370", after := #[{ on := 3, ground := Go.Ground.data }], guard := none }) (v := .string A2) rfl rfl (waits_of (by kernel_rfl)) (by kernel_rfl) (by kernel_rfl) (by kernel_rfl) (fun _ _ _ h => hQp _ _ _ _ _ h) (Or.inl ⟨by rfl, fun W hS => ?_⟩) G0.out ?_
  · go_simp
  simp only [Act.put, List.setIfInBounds_toArray, List.set_cons_zero, List.set_cons_succ]
  refine wpAnyJ_take (i := 6) (oi := { dst := some 25, op := Go.Op.fieldAddr 81 (Go.Operand.tmp 5) 1, type := 0, pos := "ref.go:370", after := #[], guard := none }) (v := .pointer (some ⟨b, 1, none⟩)) rfl rfl (waits_of (by kernel_rfl)) (by kernel_rfl) (by kernel_rfl) (by kernel_rfl) (fun _ _ _ h => hQp _ _ _ _ _ h) (Or.inl ⟨by rfl, fun W hS => ?_⟩) G0.out ?_
  · go_simp
  simp only [Act.put, List.setIfInBounds_toArray, List.set_cons_zero, List.set_cons_succ]
  refine wpAnyJ_take (i := 7) (oi := { dst := some 26, op := Go.Op.load 3 (Go.Operand.tmp 25), type := 3, pos := "ref.go:370", after := #[{ on := 6, ground := Go.Ground.data }], guard := none }) (v := .int .i64 d) rfl rfl (waits_of (by kernel_rfl)) (by kernel_rfl) (by kernel_rfl) (by kernel_rfl) (fun _ _ _ h => hQp _ _ _ _ _ h) (Or.inl ⟨by rfl, fun W hS => ?_⟩) G0.out ?_
  · obtain ⟨z0, z1, z2⟩ := HC.out W hS; go_simp
  simp only [Act.put, List.setIfInBounds_toArray, List.set_cons_zero, List.set_cons_succ]
  refine wpAnyJ_take (i := 8) (oi := { dst := some 27, op := Go.Op.binOp Go.BinOp.sub 3 (Go.Operand.tmp 26) (Go.Operand.const (Go.Value.int Go.IntKind.i64 1)) 3, type := 3, pos := "ref.go:370", after := #[{ on := 7, ground := Go.Ground.data }], guard := none }) (v := .int .i64 (j : Int)) rfl rfl (waits_of (by kernel_rfl)) (by kernel_rfl) (by kernel_rfl) (by kernel_rfl) (fun _ _ _ h => hQp _ _ _ _ _ h) (Or.inl ⟨by rfl, fun W hS => ?_⟩) G0.out ?_
  · go_simp
  simp only [Act.put, List.setIfInBounds_toArray, List.set_cons_zero, List.set_cons_succ]
  refine wpAnyJ_take (i := 13) (oi := { dst := some 32, op := Go.Op.fieldAddr 81 (Go.Operand.tmp 5) 2, type := 0, pos := "ref.go:370", after := #[], guard := none }) (v := .pointer (some ⟨b, 2, none⟩)) rfl rfl (waits_of (by kernel_rfl)) (by kernel_rfl) (by kernel_rfl) (by kernel_rfl) (fun _ _ _ h => hQp _ _ _ _ _ h) (Or.inl ⟨by rfl, fun W hS => ?_⟩) G0.out ?_
  · go_simp
  simp only [Act.put, List.setIfInBounds_toArray, List.set_cons_zero, List.set_cons_succ]
  refine wpAnyJ_take (i := 14) (oi := { dst := some 33, op := Go.Op.load 3 (Go.Operand.tmp 32), type := 3, pos := "ref.go:370", after := #[{ on := 13, ground := Go.Ground.data }], guard := none }) (v := .int .i64 v) rfl rfl (waits_of (by kernel_rfl)) (by kernel_rfl) (by kernel_rfl) (by kernel_rfl) (fun _ _ _ h => hQp _ _ _ _ _ h) (Or.inl ⟨by rfl, fun W hS => ?_⟩) G0.out ?_
  · obtain ⟨z0, z1, z2⟩ := HC.out W hS; go_simp
  simp only [Act.put, List.setIfInBounds_toArray, List.set_cons_zero, List.set_cons_succ]
  refine wpAnyJ_ready (rs := [5, 15]) (by kernel_rfl) (by simp) ?_
  refine AllJ.cons (o := { dst := some 24, op := Go.Op.buildSlice 121 6 #[(0, Go.Operand.const (Go.Value.string { data := #[61] })), (1, Go.Operand.const (Go.Value.string { data := #[60] })), (2, Go.Operand.const (Go.Value.string { data := #[60, 61] })), (3, Go.Operand.const (Go.Value.string { data := #[62] })), (4, Go.Operand.const (Go.Value.string { data := #[62, 61] })), (5, Go.Operand.const (Go.Value.string { data := #[60, 62] }))], type := 121, pos := "ref.go:370", after := #[], guard := none }) rfl (fun K hK => ?_) (AllJ.cons (o := { dst := some 34, op := Go.Op.call { callee := Go.Callee.value (Go.Operand.func 40), args := #[Go.Operand.tmp 33], argTypes := #[3] }, type := 9, pos := "ref.go:370", after := #[{ on := 14, ground := Go.Ground.data }], guard := none }) rfl (fun K hK => ?_) (AllJ.nil))
  ·
    go_simp
    have G1 : Hid (Below A.heap.size A (V0.alloc (.cells #[.string ⟨#[61]⟩, .string ⟨#[60]⟩, .string ⟨#[60, 61]⟩, .string ⟨#[62]⟩, .string ⟨#[62, 61]⟩, .string ⟨#[60, 62]⟩] 9))) := bal G0.out _
    have x1 : (V0.alloc (.cells #[.string ⟨#[61]⟩, .string ⟨#[60]⟩, .string ⟨#[60, 61]⟩, .string ⟨#[62]⟩, .string ⟨#[62, 61]⟩, .string ⟨#[60, 62]⟩] 9)).cell? ⟨V0.heap.size, j, none⟩ = some (.string G) := HSG.out V0
    have y1 : V0.heap.size < (V0.alloc (.cells #[.string ⟨#[61]⟩, .string ⟨#[60]⟩, .string ⟨#[60, 61]⟩, .string ⟨#[62]⟩, .string ⟨#[62, 61]⟩, .string ⟨#[60, 62]⟩] 9)).heap.size := by simp
    refine hK.out _ _ (fun _ => G1.out) ?_
    clear hK K
    try simp only [Act.put, List.setIfInBounds_toArray, List.set_cons_zero, List.set_cons_succ]
    obtain ⟨V1, hV1⟩ : ∃ X, (V0.alloc (.cells #[.string ⟨#[61]⟩, .string ⟨#[60]⟩, .string ⟨#[60, 61]⟩, .string ⟨#[62]⟩, .string ⟨#[62, 61]⟩, .string ⟨#[60, 62]⟩] 9)) = X := ⟨_, rfl⟩
    obtain ⟨g1, hg1⟩ : ∃ X, V0.heap.size = X := ⟨_, rfl⟩
    rw [hV1, hg1] at x1 y1
    rw [hV1] at G1 ⊢
    try rw [hg1]
    clear hV1 hg1
    refine wpAnyJ_take (i := 9) (oi := { dst := some 28, op := Go.Op.indexAddr 121 (Go.Operand.tmp 24) (Go.Operand.tmp 27), type := 0, pos := "ref.go:370", after := #[{ on := 5, ground := Go.Ground.data }, { on := 8, ground := Go.Ground.data }], guard := none }) (v := .pointer (some ⟨g1, j, none⟩)) rfl rfl (waits_of (by kernel_rfl)) (by kernel_rfl) (by kernel_rfl) (by kernel_rfl) (fun _ _ _ h => hQp _ _ _ _ _ h) (Or.inl ⟨by rfl, fun W hS => ?_⟩) G1.out ?_
    · go_simp
    simp only [Act.put, List.setIfInBounds_toArray, List.set_cons_zero, List.set_cons_succ]
    refine wpAnyJ_ready (rs := [10, 15]) (by kernel_rfl) (by simp) ?_
    refine AllJ.cons (o := { dst := some 29, op := Go.Op.load 9 (Go.Operand.tmp 28), type := 9, pos := "ref.go:370", after := #[{ on := 9, ground := Go.Ground.data }], guard := none }) rfl (fun K hK => ?_) (AllJ.cons (o := { dst := some 34, op := Go.Op.call { callee := Go.Callee.value (Go.Operand.func 40), args := #[Go.Operand.tmp 33], argTypes := #[3] }, type := 9, pos := "ref.go:370", after := #[{ on := 14, ground := Go.Ground.data }], guard := none }) rfl (fun K hK => ?_) (AllJ.nil))
    ·
      have xx := x1
      go_simp
      refine hK.out _ _ (fun _ => G1.out) ?_
      clear hK K
      try simp only [Act.put, List.setIfInBounds_toArray, List.set_cons_zero, List.set_cons_succ]
      refine wpAnyJ_take (i := 11) (oi := { dst := some 30, op := Go.Op.binOp Go.BinOp.add 9 (Go.Operand.tmp 23) (Go.Operand.tmp 29) 9, type := 9, pos := "ref.go:370", after := #[{ on := 4, ground := Go.Ground.data }, { on := 10, ground := Go.Ground.data }], guard := none }) (v := .string A3) rfl rfl (waits_of (by kernel_rfl)) (by kernel_rfl) (by kernel_rfl) (by kernel_rfl) (fun _ _ _ h => hQp _ _ _ _ _ h) (Or.inl ⟨by rfl, fun W hS => ?_⟩) G1.out ?_
      · go_simp
      simp only [Act.put, List.setIfInBounds_toArray, List.set_cons_zero, List.set_cons_succ]
      refine wpAnyJ_take (i := 12) (oi := { dst := some 31, op := Go.Op.binOp Go.BinOp.add 9 (Go.Operand.tmp 30) (Go.Operand.const (Go.Value.string { data := #[32] })) 9, type := 9, pos := "ref.go:370", after := #[{ on := 11, ground := Go.Ground.data }], guard := none }) (v := .string A4) rfl rfl (waits_of (by kernel_rfl)) (by kernel_rfl) (by kernel_rfl) (by kernel_rfl) (fun _ _ _ h => hQp _ _ _ _ _ h) (Or.inl ⟨by rfl, fun W hS => ?_⟩) G1.out ?_
      · go_simp
      simp only [Act.put, List.setIfInBounds_toArray, List.set_cons_zero, List.set_cons_succ]
      refine wpAnyJ_ready (rs := [15]) (by kernel_rfl) (by simp) ?_
      refine AllJ.cons (o := { dst := some 34, op := Go.Op.call { callee := Go.Callee.value (Go.Operand.func 40), args := #[Go.Operand.tmp 33], argTypes := #[3] }, type := 9, pos := "ref.go:370", after := #[{ on := 14, ground := Go.Ground.data }], guard := none }) rfl (fun K hK => ?_) (AllJ.nil)
      ·
        have kk := H40.out V1
        go_simp
        go_at_call 40
        refine kk.mono ?_
        rintro e1 V3 ⟨rfl, hb3⟩
        clear kk
        have G3 : Hid (Below A.heap.size A V3) := G1.out.trans (hb3.mono G1.out.size)
        refine hK.out _ _ (fun _ => G3.out) ?_
        clear hK K
        try simp only [Act.put, List.setIfInBounds_toArray, List.set_cons_zero, List.set_cons_succ]
        refine wpAnyJ_take (i := 16) (oi := { dst := some 35, op := Go.Op.binOp Go.BinOp.add 9 (Go.Operand.tmp 31) (Go.Operand.tmp 34) 9, type := 9, pos := "ref.go:370", after := #[{ on := 12, ground := Go.Ground.data }, { on := 15, ground := Go.Ground.data }], guard := none }) (v := .string A5) rfl rfl (waits_of (by kernel_rfl)) (by kernel_rfl) (by kernel_rfl) (by kernel_rfl) (fun _ _ _ h => hQp _ _ _ _ _ h) (Or.inl ⟨by rfl, fun W hS => ?_⟩) G3.out ?_
        · go_simp
        simp only [Act.put, List.setIfInBounds_toArray, List.set_cons_zero, List.set_cons_succ]
        refine wpAnyJ_take (i := 17) (oi := { dst := some 3, op := Go.Op.assign (Go.Operand.tmp 35), type := 9, pos := "ref.go:370", after := #[{ on := 16, ground := Go.Ground.data }, { on := 15, ground := Go.Ground.chain }, { on := 0, ground := Go.Ground.phase }, { on := 1, ground := Go.Ground.phase }, { on := 2, ground := Go.Ground.phase }, { on := 3, ground := Go.Ground.phase }, { on := 4, ground := Go.Ground.phase }, { on := 5, ground := Go.Ground.phase }, { on := 6, ground := Go.Ground.phase }, { on := 7, ground := Go.Ground.phase }, { on := 8, ground := Go.Ground.phase }, { on := 9, ground := Go.Ground.phase }, { on := 10, ground := Go.Ground.phase }, { on := 11, ground := Go.Ground.phase }, { on := 12, ground := Go.Ground.phase }, { on := 13, ground := Go.Ground.phase }, { on := 14, ground := Go.Ground.phase }, { on := 15, ground := Go.Ground.phase }, { on := 16, ground := Go.Ground.phase }], guard := none }) (v := .string A5) rfl rfl (waits_of (by kernel_rfl)) (by kernel_rfl) (by kernel_rfl) (by kernel_rfl) (fun _ _ _ h => hQp _ _ _ _ _ h) (Or.inl ⟨by rfl, fun W hS => ?_⟩) G3.out ?_
        · go_simp
        simp only [Act.put, List.setIfInBounds_toArray, List.set_cons_zero, List.set_cons_succ]
        exact wpAnyJ_done (by kernel_rfl) (HEND.out _ _ G3.out) _
    ·
      have kk := H40.out V1
      go_simp
      go_at_call 40
      refine kk.mono ?_
      rintro e1 V4 ⟨rfl, hb4⟩
      clear kk
      have G4 : Hid (Below A.heap.size A V4) := G1.out.trans (hb4.mono G1.out.size)
      have x4 : V4.cell? ⟨g1, j, none⟩ = some (.string G) := (hb4.cell (p := ⟨g1, j, none⟩) y1).trans x1
      have y4 : g1 < V4.heap.size := Nat.lt_of_lt_of_le y1 hb4.size
      refine hK.out _ _ (fun _ => G4.out) ?_
      clear hK K
      try simp only [Act.put, List.setIfInBounds_toArray, List.set_cons_zero, List.set_cons_succ]
      refine wpAnyJ_ready (rs := [10]) (by kernel_rfl) (by simp) ?_
      refine AllJ.cons (o := { dst := some 29, op := Go.Op.load 9 (Go.Operand.tmp 28), type := 9, pos := "ref.go:370", after := #[{ on := 9, ground := Go.Ground.data }], guard := none }) rfl (fun K hK => ?_) (AllJ.nil)
      ·
        have xx := x4
        go_simp
        refine hK.out _ _ (fun _ => G4.out) ?_
        clear hK K
        try simp only [Act.put, List.setIfInBounds_toArray, List.set_cons_zero, List.set_cons_succ]
        refine wpAnyJ_take (i := 11) (oi := { dst := some 30, op := Go.Op.binOp Go.BinOp.add 9 (Go.Operand.tmp 23) (Go.Operand.tmp 29) 9, type := 9, pos := "ref.go:370", after := #[{ on := 4, ground := Go.Ground.data }, { on := 10, ground := Go.Ground.data }], guard := none }) (v := .string A3) rfl rfl (waits_of (by kernel_rfl)) (by kernel_rfl) (by kernel_rfl) (by kernel_rfl) (fun _ _ _ h => hQp _ _ _ _ _ h) (Or.inl ⟨by rfl, fun W hS => ?_⟩) G4.out ?_
        · go_simp
        simp only [Act.put, List.setIfInBounds_toArray, List.set_cons_zero, List.set_cons_succ]
        refine wpAnyJ_take (i := 12) (oi := { dst := some 31, op := Go.Op.binOp Go.BinOp.add 9 (Go.Operand.tmp 30) (Go.Operand.const (Go.Value.string { data := #[32] })) 9, type := 9, pos := "ref.go:370", after := #[{ on := 11, ground := Go.Ground.data }], guard := none }) (v := .string A4) rfl rfl (waits_of (by kernel_rfl)) (by kernel_rfl) (by kernel_rfl) (by kernel_rfl) (fun _ _ _ h => hQp _ _ _ _ _ h) (Or.inl ⟨by rfl, fun W hS => ?_⟩) G4.out ?_
        · go_simp
        simp only [Act.put, List.setIfInBounds_toArray, List.set_cons_zero, List.set_cons_succ]
        refine wpAnyJ_take (i := 16) (oi := { dst := some 35, op := Go.Op.binOp Go.BinOp.add 9 (Go.Operand.tmp 31) (Go.Operand.tmp 34) 9, type := 9, pos := "ref.go:370", after := #[{ on := 12, ground := Go.Ground.data }, { on := 15, ground := Go.Ground.data }], guard := none }) (v := .string A5) rfl rfl (waits_of (by kernel_rfl)) (by kernel_rfl) (by kernel_rfl) (by kernel_rfl) (fun _ _ _ h => hQp _ _ _ _ _ h) (Or.inl ⟨by rfl, fun W hS => ?_⟩) G4.out ?_
        · go_simp
        simp only [Act.put, List.setIfInBounds_toArray, List.set_cons_zero, List.set_cons_succ]
        refine wpAnyJ_take (i := 17) (oi := { dst := some 3, op := Go.Op.assign (Go.Operand.tmp 35), type := 9, pos := "ref.go:370", after := #[{ on := 16, ground := Go.Ground.data }, { on := 15, ground := Go.Ground.chain }, { on := 0, ground := Go.Ground.phase }, { on := 1, ground := Go.Ground.phase }, { on := 2, ground := Go.Ground.phase }, { on := 3, ground := Go.Ground.phase }, { on := 4, ground := Go.Ground.phase }, { on := 5, ground := Go.Ground.phase }, { on := 6, ground := Go.Ground.phase }, { on := 7, ground := Go.Ground.phase }, { on := 8, ground := Go.Ground.phase }, { on := 9, ground := Go.Ground.phase }, { on := 10, ground := Go.Ground.phase }, { on := 11, ground := Go.Ground.phase }, { on := 12, ground := Go.Ground.phase }, { on := 13, ground := Go.Ground.phase }, { on := 14, ground := Go.Ground.phase }, { on := 15, ground := Go.Ground.phase }, { on := 16, ground := Go.Ground.phase }], guard := none }) (v := .string A5) rfl rfl (waits_of (by kernel_rfl)) (by kernel_rfl) (by kernel_rfl) (by kernel_rfl) (fun _ _ _ h => hQp _ _ _ _ _ h) (Or.inl ⟨by rfl, fun W hS => ?_⟩) G4.out ?_
        · go_simp
        simp only [Act.put, List.setIfInBounds_toArray, List.set_cons_zero, List.set_cons_succ]
        exact wpAnyJ_done (by kernel_rfl) (HEND.out _ _ G4.out) _
  ·
    have kk := H40.out V0
    go_simp
    go_at_call 40
    refine kk.mono ?_
    rintro e1 V6 ⟨rfl, hb6⟩
    clear kk
    have G6 : Hid (Below A.heap.size A V6) := G0.out.trans (hb6.mono G0.out.size)
    refine hK.out _ _ (fun _ => G6.out) ?_
    clear hK K
    try simp only [Act.put, List.setIfInBounds_toArray, List.set_cons_zero, List.set_cons_succ]
    refine wpAnyJ_ready (rs := [5]) (by kernel_rfl) (by simp) ?_
    refine AllJ.cons (o := { dst := some 24, op := Go.Op.buildSlice 121 6 #[(0, Go.Operand.const (Go.Value.string { data := #[61] })), (1, Go.Operand.const (Go.Value.string { data := #[60] })), (2, Go.Operand.const (Go.Value.string { data := #[60, 61] })), (3, Go.Operand.const (Go.Value.string { data := #[62] })), (4, Go.Operand.const (Go.Value.string { data := #[62, 61] })), (5, Go.Operand.const (Go.Value.string { data := #[60, 62] }))], type := 121, pos := "ref.go:370", after := #[], guard := none }) rfl (fun K hK => ?_) (AllJ.nil)
    ·
      go_simp
      have G7 : Hid (Below A.heap.size A (V6.alloc (.cells #[.string ⟨#[61]⟩, .string ⟨#[60]⟩, .string ⟨#[60, 61]⟩, .string ⟨#[62]⟩, .string ⟨#[62, 61]⟩, .string ⟨#[60, 62]⟩] 9))) := bal G6.out _
      have x7 : (V6.alloc (.cells #[.string ⟨#[61]⟩, .string ⟨#[60]⟩, .string ⟨#[60, 61]⟩, .string ⟨#[62]⟩, .string ⟨#[62, 61]⟩, .string ⟨#[60, 62]⟩] 9)).cell? ⟨V6.heap.size, j, none⟩ = some (.string G) := HSG.out V6
      have y7 : V6.heap.size < (V6.alloc (.cells #[.string ⟨#[61]⟩, .string ⟨#[60]⟩, .string ⟨#[60, 61]⟩, .string ⟨#[62]⟩, .string ⟨#[62, 61]⟩, .string ⟨#[60, 62]⟩] 9)).heap.size := by simp
      refine hK.out _ _ (fun _ => G7.out) ?_
      clear hK K
      try simp only [Act.put, List.setIfInBounds_toArray, List.set_cons_zero, List.set_cons_succ]
      obtain ⟨V7, hV7⟩ : ∃ X, (V6.alloc (.cells #[.string ⟨#[61]⟩, .string ⟨#[60]⟩, .string ⟨#[60, 61]⟩, .string ⟨#[62]⟩, .string ⟨#[62, 61]⟩, .string ⟨#[60, 62]⟩] 9)) = X := ⟨_, rfl⟩
      obtain ⟨g7, hg7⟩ : ∃ X, V6.heap.size = X := ⟨_, rfl⟩
      rw [hV7, hg7] at x7 y7
      rw [hV7] at G7 ⊢
      try rw [hg7]
      clear hV7 hg7
      refine wpAnyJ_take (i := 9) (oi := { dst := some 28, op := Go.Op.indexAddr 121 (Go.Operand.tmp 24) (Go.Operand.tmp 27), type := 0, pos := "ref.go:370", after := #[{ on := 5, ground := Go.Ground.data }, { on := 8, ground := Go.Ground.data }], guard := none }) (v := .pointer (some ⟨g7, j, none⟩)) rfl rfl (waits_of (by kernel_rfl)) (by kernel_rfl) (by kernel_rfl) (by kernel_rfl) (fun _ _ _ h => hQp _ _ _ _ _ h) (Or.inl ⟨by rfl, fun W hS => ?_⟩) G7.out ?_
      · go_simp
      simp only [Act.put, List.setIfInBounds_toArray, List.set_cons_zero, List.set_cons_succ]
      refine wpAnyJ_ready (rs := [10]) (by kernel_rfl) (by simp) ?_
      refine AllJ.cons (o := { dst := some 29, op := Go.Op.load 9 (Go.Operand.tmp 28), type := 9, pos := "ref.go:370", after := #[{ on := 9, ground := Go.Ground.data }], guard := none }) rfl (fun K hK => ?_) (AllJ.nil)
      ·
        have xx := x7
        go_simp
        refine hK.out _ _ (fun _ => G7.out) ?_
        clear hK K
        try simp only [Act.put, List.setIfInBounds_toArray, List.set_cons_zero, List.set_cons_succ]
        refine wpAnyJ_take (i := 11) (oi := { dst := some 30, op := Go.Op.binOp Go.BinOp.add 9 (Go.Operand.tmp 23) (Go.Operand.tmp 29) 9, type := 9, pos := "ref.go:370", after := #[{ on := 4, ground := Go.Ground.data }, { on := 10, ground := Go.Ground.data }], guard := none }) (v := .string A3) rfl rfl (waits_of (by kernel_rfl)) (by kernel_rfl) (by kernel_rfl) (by kernel_rfl) (fun _ _ _ h => hQp _ _ _ _ _ h) (Or.inl ⟨by rfl, fun W hS => ?_⟩) G7.out ?_
        · go_simp
        simp only [Act.put, List.setIfInBounds_toArray, List.set_cons_zero, List.set_cons_succ]
        refine wpAnyJ_take (i := 12) (oi := { dst := some 31, op := Go.Op.binOp Go.BinOp.add 9 (Go.Operand.tmp 30) (Go.Operand.const (Go.Value.string { data := #[32] })) 9, type := 9, pos := "ref.go:370", after := #[{ on := 11, ground := Go.Ground.data }], guard := none }) (v := .string A4) rfl rfl (waits_of (by kernel_rfl)) (by kernel_rfl) (by kernel_rfl) (by kernel_rfl) (fun _ _ _ h => hQp _ _ _ _ _ h) (Or.inl ⟨by rfl, fun W hS => ?_⟩) G7.out ?_
        · go_simp
        simp only [Act.put, List.setIfInBounds_toArray, List.set_cons_zero, List.set_cons_succ]
        refine wpAnyJ_take (i := 16) (oi := { dst := some 35, op := Go.Op.binOp Go.BinOp.add 9 (Go.Operand.tmp 31) (Go.Operand.tmp 34) 9, type := 9, pos := "ref.go:370", after := #[{ on := 12, ground := Go.Ground.data }, { on := 15, ground := Go.Ground.data }], guard := none }) (v := .string A5) rfl rfl (waits_of (by kernel_rfl)) (by kernel_rfl) (by kernel_rfl) (by kernel_rfl) (fun _ _ _ h => hQp _ _ _ _ _ h) (Or.inl ⟨by rfl, fun W hS => ?_⟩) G7.out ?_
        · go_simp
        simp only [Act.put, List.setIfInBounds_toArray, List.set_cons_zero, List.set_cons_succ]
        refine wpAnyJ_take (i := 17) (oi := { dst := some 3, op := Go.Op.assign (Go.Operand.tmp 35), type := 9, pos := "ref.go:370", after := #[{ on := 16, ground := Go.Ground.data }, { on := 15, ground := Go.Ground.chain }, { on := 0, ground := Go.Ground.phase }, { on := 1, ground := Go.Ground.phase }, { on := 2, ground := Go.Ground.phase }, { on := 3, ground := Go.Ground.phase }, { on := 4, ground := Go.Ground.phase }, { on := 5, ground := Go.Ground.phase }, { on := 6, ground := Go.Ground.phase }, { on := 7, ground := Go.Ground.phase }, { on := 8, ground := Go.Ground.phase }, { on := 9, ground := Go.Ground.phase }, { on := 10, ground := Go.Ground.phase }, { on := 11, ground := Go.Ground.phase }, { on := 12, ground := Go.Ground.phase }, { on := 13, ground := Go.Ground.phase }, { on := 14, ground := Go.Ground.phase }, { on := 15, ground := Go.Ground.phase }, { on := 16, ground := Go.Ground.phase }], guard := none }) (v := .string A5) rfl rfl (waits_of (by kernel_rfl)) (by kernel_rfl) (by kernel_rfl) (by kernel_rfl) (fun _ _ _ h => hQp _ _ _ _ _ h) (Or.inl ⟨by rfl, fun W hS => ?_⟩) G7.out ?_
        · go_simp
        simp only [Act.put, List.setIfInBounds_toArray, List.set_cons_zero, List.set_cons_succ]
        exact wpAnyJ_done (by kernel_rfl) (HEND.out _ _ G7.out) _
end Go.Proofs.YtidfkencjdjkbaaGreatDoor

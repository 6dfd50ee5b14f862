import Derived.Test.YtidfkencjdjkbaaGreatDoorQo08
/-
  PACKAGE speech: numbers with a sign, spans, names.
-/
namespace Go.Proofs.YtidfkencjdjkbaaGreatDoor
open Go.RowKit Sp

/-- what stays as it is while a text is read -/
structure Cx (w : World) (R b : Nat) : Prop where
  g : Glo w
  d : Wds w b
  n : b ≠ R
  r : 5 ≤ R
theorem Cx.gb {w w' : World} {R b : Nat} (h : Cx w R b) (hg : w.grownBy w' (some R)) : Cx w' R b := ⟨h.g.gb hg h.r, h.d.gb hg h.n, h.n, h.r⟩
theorem Cx.at {w w' : World} {R b : Nat} (h : Cx w R b) (hb : Below w.heap.size w w') : Cx w' R b := h.gb (gb_below hb)
/-- what a part of the grammar answers -/
def RdP {α : Type} (w : World) (R P0 : Nat) (m : Value) (V : World → α → Value → Prop) (r : PR α) (e : Ending) (w' : World) : Prop :=
  (match r with | .ok (n, qs) => (∃ v, e = .returned v ∧ V w' n v) ∧ Rdr w' R P0 qs m | .error (c, a) => e = .panicked (chn c a)) ∧ w.grownBy w' (some R)
abbrev VI : World → Int → Value → Prop := fun _ n v => v = .int .i64 n
theorem num_bd {ps qs : List Pc} {n : Int} (h : numP ps = .ok (n, qs)) : 0 ≤ n ∧ n ≤ 1048576 := by
  unfold numP at h
  split at h
  · split at h
    · injection h with h
      simp only [Prod.mk.injEq] at h
      omega
    · cases h
  · cases h

set_option maxRecDepth 100000 in
set_option maxHeartbeats 1000000 in
theorem sgn3 {Q : Exit → Act → World → Prop} (hQp : ∀ c a d v w, Q (.panic c) (Act.put a d v) w → Q (.panic c) a w) (t1 t2 t3 t4 t5 t6 t7 t8 t9 t10 t11 t12 t13 t14 t15 t16 t17 t18 t19 t20 t21 : Value) (A : World) (R : Nat) (at' : Int)
    (hI : ∀ W : World, Below A.heap.size A W → Calls Tryz.prog 24 #[ptR R, .string (tx [48])] W fun e W' => e = .returned (.bool true) ∧ W' = W)
    (hM : ∀ W : World, Below A.heap.size A W → Calls Tryz.prog 23 #[ptR R, .bool false, .int .i64 2] W fun e W' => e = .panicked (chn 2 at') ∧ W' = W)
    (hEnd : ∀ (a : Act) (W : World), a.defers = [] → Below A.heap.size A W → Q (.panic (chn 2 at')) a W) :
    (Code.region 3 #[{ dst := some 10, op := Op.move (Operand.tmp 0), type := 95, pos := "reader.go:139", after := #[], guard := none }, { dst := some 11, op := Op.nilCheck (Operand.tmp 10), type := 0, pos := "reader.go:139", after := #[{ on := 0, ground := Ground.data }], guard := none }, { dst := some 12, op := Op.fieldAddr 61 (Operand.tmp 11) 0, type := 0, pos := "reader.go:139", after := #[{ on := 1, ground := Ground.data }], guard := none }, { dst := some 13, op := Op.move (Operand.tmp 0), type := 95, pos := "reader.go:139", after := #[], guard := none }, { dst := some 14, op := Op.nilCheck (Operand.tmp 13), type := 0, pos := "reader.go:139", after := #[{ on := 3, ground := Ground.data }], guard := none }, { dst := some 15, op := Op.fieldAddr 61 (Operand.tmp 14) 0, type := 0, pos := "reader.go:139", after := #[{ on := 4, ground := Ground.data }], guard := none }, { dst := some 16, op := Op.call { callee := Callee.value (Operand.func 24), args := #[Operand.tmp 15, Operand.const (Value.string { data := #[48] })], argTypes := #[59, 9] }, type := 4, pos := "reader.go:139", after := #[{ on := 5, ground := Ground.data }], guard := none }, { dst := some 17, op := Op.unOp UnOp.not 4 (Operand.tmp 16), type := 4, pos := "reader.go:139", after := #[{ on := 6, ground := Ground.data }], guard := none }, { dst := some 18, op := Op.call { callee := Callee.value (Operand.func 23), args := #[Operand.tmp 12, Operand.tmp 17, Operand.const (Value.int IntKind.i64 2)], argTypes := #[59, 4, 26] }, type := 0, pos := "reader.go:139", after := #[{ on := 2, ground := Ground.data }, { on := 7, ground := Ground.data }, { on := 6, ground := Ground.chain }], guard := none }] true).wp Tryz.prog Q { tmps := #[ptR R, t1, t2, t3, t4, t5, t6, t7, t8, t9, t10, t11, t12, t13, t14, t15, t16, t17, t18, t19, t20, t21], defers := [] } A := by
  have HEND : Hid (∀ (a : Act) (W : World), a.defers = [] → Below A.heap.size A W → Q (.panic (chn 2 at')) a W) := hEnd
  have H_hI : Hid (∀ W : World, Below A.heap.size A W → Calls Tryz.prog 24 #[ptR R, .string (tx [48])] W fun e W' => e = .returned (.bool true) ∧ W' = W) := hI
  have H_hM : Hid (∀ W : World, Below A.heap.size A W → Calls Tryz.prog 23 #[ptR R, .bool false, .int .i64 2] W fun e W' => e = .panicked (chn 2 at') ∧ W' = W) := hM
  have G0 : Hid (Below A.heap.size A A.drew) := (Below.refl _ _).drew
  clear hEnd hI hM
  refine wp_region_any (by kernel_rfl) ?_
  change wpAny _ _ _ _ _ _ _ (World.drew _)
  obtain ⟨V0, hV0⟩ : ∃ V0, A.drew = V0 := ⟨_, rfl⟩
  rw [hV0] at G0 ⊢
  clear hV0
  refine wpAny_of_J (S := fun W => Below A.heap.size A W) (J := fun _ => true) _ _ _ _ ?_
  refine wpAnyJ_take (i := 0) (oi := { dst := some 10, op := Op.move (Operand.tmp 0), type := 95, pos := "reader.go:139", after := #[], guard := none }) (v := ptR R) rfl rfl (waits_of (by kernel_rfl)) (by kernel_rfl) (by kernel_rfl) (by kernel_rfl) (fun _ _ _ h => hQp _ _ _ _ _ h) (Or.inl ⟨by rfl, fun W hS => ?_⟩) G0.out ?_
  · go_simp
  simp only [Act.put, List.setIfInBounds_toArray, List.set_cons_zero, List.set_cons_succ]
  refine wpAnyJ_take (i := 1) (oi := { dst := some 11, op := Op.nilCheck (Operand.tmp 10), type := 0, pos := "reader.go:139", after := #[{ on := 0, ground := Ground.data }], guard := none }) (v := .pointer (some ⟨R, 0, none⟩)) rfl rfl (waits_of (by kernel_rfl)) (by kernel_rfl) (by kernel_rfl) (by kernel_rfl) (fun _ _ _ h => hQp _ _ _ _ _ h) (Or.inl ⟨by rfl, fun W hS => ?_⟩) G0.out ?_
  · go_simp
  simp only [Act.put, List.setIfInBounds_toArray, List.set_cons_zero, List.set_cons_succ]
  refine wpAnyJ_take (i := 2) (oi := { dst := some 12, op := Op.fieldAddr 61 (Operand.tmp 11) 0, type := 0, pos := "reader.go:139", after := #[{ on := 1, ground := Ground.data }], guard := none }) (v := .pointer (some ⟨R, 0, none⟩)) rfl rfl (waits_of (by kernel_rfl)) (by kernel_rfl) (by kernel_rfl) (by kernel_rfl) (fun _ _ _ h => hQp _ _ _ _ _ h) (Or.inl ⟨by rfl, fun W hS => ?_⟩) G0.out ?_
  · go_simp
  simp only [Act.put, List.setIfInBounds_toArray, List.set_cons_zero, List.set_cons_succ]
  refine wpAnyJ_take (i := 3) (oi := { dst := some 13, op := Op.move (Operand.tmp 0), type := 95, pos := "reader.go:139", after := #[], guard := none }) (v := ptR R) rfl rfl (waits_of (by kernel_rfl)) (by kernel_rfl) (by kernel_rfl) (by kernel_rfl) (fun _ _ _ h => hQp _ _ _ _ _ h) (Or.inl ⟨by rfl, fun W hS => ?_⟩) G0.out ?_
  · go_simp
  simp only [Act.put, List.setIfInBounds_toArray, List.set_cons_zero, List.set_cons_succ]
  refine wpAnyJ_take (i := 4) (oi := { dst := some 14, op := Op.nilCheck (Operand.tmp 13), type := 0, pos := "reader.go:139", after := #[{ on := 3, ground := Ground.data }], guard := none }) (v := .pointer (some ⟨R, 0, none⟩)) rfl rfl (waits_of (by kernel_rfl)) (by kernel_rfl) (by kernel_rfl) (by kernel_rfl) (fun _ _ _ h => hQp _ _ _ _ _ h) (Or.inl ⟨by rfl, fun W hS => ?_⟩) G0.out ?_
  · go_simp
  simp only [Act.put, List.setIfInBounds_toArray, List.set_cons_zero, List.set_cons_succ]
  refine wpAnyJ_take (i := 5) (oi := { dst := some 15, op := Op.fieldAddr 61 (Operand.tmp 14) 0, type := 0, pos := "reader.go:139", after := #[{ on := 4, ground := Ground.data }], guard := none }) (v := .pointer (some ⟨R, 0, none⟩)) rfl rfl (waits_of (by kernel_rfl)) (by kernel_rfl) (by kernel_rfl) (by kernel_rfl) (fun _ _ _ h => hQp _ _ _ _ _ h) (Or.inl ⟨by rfl, fun W hS => ?_⟩) G0.out ?_
  · go_simp
  simp only [Act.put, List.setIfInBounds_toArray, List.set_cons_zero, List.set_cons_succ]
  refine wpAnyJ_ready (rs := [6]) (by kernel_rfl) (by simp) ?_
  refine AllJ.cons (o := { dst := some 16, op := Op.call { callee := Callee.value (Operand.func 24), args := #[Operand.tmp 15, Operand.const (Value.string { data := #[48] })], argTypes := #[59, 9] }, type := 4, pos := "reader.go:139", after := #[{ on := 5, ground := Ground.data }], guard := none }) rfl (fun K hK => ?_) AllJ.nil
  have kk := H_hI.out V0 G0.out
  go_simp
  go_at_call 24
  refine kk.mono ?_
  rintro e1 W1 ⟨rfl, hW1⟩
  subst hW1
  clear kk
  refine hK.out _ _ (fun _ => G0.out) ?_
  clear hK K
  try simp only [Act.put, List.setIfInBounds_toArray, List.set_cons_zero, List.set_cons_succ]
  refine wpAnyJ_take (i := 7) (oi := { dst := some 17, op := Op.unOp UnOp.not 4 (Operand.tmp 16), type := 4, pos := "reader.go:139", after := #[{ on := 6, ground := Ground.data }], guard := none }) (v := .bool false) rfl rfl (waits_of (by kernel_rfl)) (by kernel_rfl) (by kernel_rfl) (by kernel_rfl) (fun _ _ _ h => hQp _ _ _ _ _ h) (Or.inl ⟨by rfl, fun W hS => ?_⟩) G0.out ?_
  · go_simp
  simp only [Act.put, List.setIfInBounds_toArray, List.set_cons_zero, List.set_cons_succ]
  refine wpAnyJ_ready (rs := [8]) (by kernel_rfl) (by simp) ?_
  refine AllJ.cons (o := { dst := some 18, op := Op.call { callee := Callee.value (Operand.func 23), args := #[Operand.tmp 12, Operand.tmp 17, Operand.const (Value.int IntKind.i64 2)], argTypes := #[59, 4, 26] }, type := 0, pos := "reader.go:139", after := #[{ on := 2, ground := Ground.data }, { on := 7, ground := Ground.data }, { on := 6, ground := Ground.chain }], guard := none }) rfl (fun K hK => ?_) AllJ.nil
  have kk := H_hM.out W1 G0.out
  go_simp
  go_at_call 23
  refine kk.mono ?_
  rintro e1 W1 ⟨rfl, hW1⟩
  subst hW1
  clear kk
  exact HEND.out _ _ rfl G0.out

set_option maxRecDepth 100000 in
set_option maxHeartbeats 1000000 in
theorem nam2 {Q : Exit → Act → World → Prop} (hQp : ∀ c a d v w, Q (.panic c) (Act.put a d v) w → Q (.panic c) a w) (t1 t2 t4 t5 t6 t7 t8 t9 t10 t11 t12 t13 t14 t15 t16 t17 t18 t19 t20 t21 t22 t23 : Value) (A : World) (R : Nat) (x : By) (b : Nat) (m : Value) (hm : m = .map (some b)) (at' : Int)
    (hC : ∀ W : World, Below A.heap.size A W → W.cell? ⟨R, 1, none⟩ = some m)
    (hN : ∀ W : World, Below A.heap.size A W → Calls Tryz.prog 34 #[m, .string (tx x)] W fun e W' => e = .returned (.bool false) ∧ W' = W)
    (hM : ∀ W : World, Below A.heap.size A W → Calls Tryz.prog 23 #[ptR R, .bool false, .int .i64 2] W fun e W' => e = .panicked (chn 2 at') ∧ W' = W)
    (hEnd : ∀ (a : Act) (W : World), a.defers = [] → Below A.heap.size A W → Q (.panic (chn 2 at')) a W) :
    (Code.region 2 #[{ dst := some 8, op := Op.move (Operand.tmp 0), type := 95, pos := "reader.go:130", after := #[], guard := none }, { dst := some 9, op := Op.nilCheck (Operand.tmp 8), type := 0, pos := "reader.go:130", after := #[{ on := 0, ground := Ground.data }], guard := none }, { dst := some 10, op := Op.fieldAddr 61 (Operand.tmp 9) 0, type := 0, pos := "reader.go:130", after := #[{ on := 1, ground := Ground.data }], guard := none }, { dst := some 11, op := Op.move (Operand.tmp 0), type := 95, pos := "reader.go:130", after := #[], guard := none }, { dst := some 12, op := Op.nilCheck (Operand.tmp 11), type := 0, pos := "reader.go:130", after := #[{ on := 3, ground := Ground.data }], guard := none }, { dst := some 13, op := Op.fieldAddr 61 (Operand.tmp 12) 1, type := 0, pos := "reader.go:130", after := #[{ on := 4, ground := Ground.data }], guard := none }, { dst := some 14, op := Op.load 47 (Operand.tmp 13), type := 47, pos := "reader.go:130", after := #[{ on := 5, ground := Ground.data }], guard := none }, { dst := some 15, op := Op.move (Operand.tmp 3), type := 9, pos := "reader.go:130", after := #[], guard := none }, { dst := some 16, op := Op.call { callee := Callee.value (Operand.func 34), args := #[Operand.tmp 14, Operand.tmp 15], argTypes := #[47, 9] }, type := 4, pos := "reader.go:130", after := #[{ on := 6, ground := Ground.data }, { on := 7, ground := Ground.data }], guard := none }, { dst := some 17, op := Op.call { callee := Callee.value (Operand.func 23), args := #[Operand.tmp 10, Operand.tmp 16, Operand.const (Value.int IntKind.i64 2)], argTypes := #[59, 4, 26] }, type := 0, pos := "reader.go:130", after := #[{ on := 2, ground := Ground.data }, { on := 8, ground := Ground.data }, { on := 8, ground := Ground.chain }], guard := none }] true).wp Tryz.prog Q { tmps := #[ptR R, t1, t2, .string (tx x), t4, t5, t6, t7, t8, t9, t10, t11, t12, t13, t14, t15, t16, t17, t18, t19, t20, t21, t22, t23], defers := [] } A := by
  have HEND : Hid (∀ (a : Act) (W : World), a.defers = [] → Below A.heap.size A W → Q (.panic (chn 2 at')) a W) := hEnd
  have H_hC : Hid (∀ W : World, Below A.heap.size A W → W.cell? ⟨R, 1, none⟩ = some m) := hC
  have H_hN : Hid (∀ W : World, Below A.heap.size A W → Calls Tryz.prog 34 #[m, .string (tx x)] W fun e W' => e = .returned (.bool false) ∧ W' = W) := hN
  have H_hM : Hid (∀ W : World, Below A.heap.size A W → Calls Tryz.prog 23 #[ptR R, .bool false, .int .i64 2] W fun e W' => e = .panicked (chn 2 at') ∧ W' = W) := hM
  have G0 : Hid (Below A.heap.size A A.drew) := (Below.refl _ _).drew
  clear hEnd hC hN hM
  refine wp_region_any (by kernel_rfl) ?_
  change wpAny _ _ _ _ _ _ _ (World.drew _)
  obtain ⟨V0, hV0⟩ : ∃ V0, A.drew = V0 := ⟨_, rfl⟩
  rw [hV0] at G0 ⊢
  clear hV0
  refine wpAny_of_J (S := fun W => Below A.heap.size A W) (J := fun _ => true) _ _ _ _ ?_
  subst hm
  refine wpAnyJ_take (i := 0) (oi := { dst := some 8, op := Op.move (Operand.tmp 0), type := 95, pos := "reader.go:130", after := #[], guard := none }) (v := ptR R) rfl rfl (waits_of (by kernel_rfl)) (by kernel_rfl) (by kernel_rfl) (by kernel_rfl) (fun _ _ _ h => hQp _ _ _ _ _ h) (Or.inl ⟨by rfl, fun W hS => ?_⟩) G0.out ?_
  · go_simp
  simp only [Act.put, List.setIfInBounds_toArray, List.set_cons_zero, List.set_cons_succ]
  refine wpAnyJ_take (i := 1) (oi := { dst := some 9, op := Op.nilCheck (Operand.tmp 8), type := 0, pos := "reader.go:130", after := #[{ on := 0, ground := Ground.data }], guard := none }) (v := .pointer (some ⟨R, 0, none⟩)) rfl rfl (waits_of (by kernel_rfl)) (by kernel_rfl) (by kernel_rfl) (by kernel_rfl) (fun _ _ _ h => hQp _ _ _ _ _ h) (Or.inl ⟨by rfl, fun W hS => ?_⟩) G0.out ?_
  · go_simp
  simp only [Act.put, List.setIfInBounds_toArray, List.set_cons_zero, List.set_cons_succ]
  refine wpAnyJ_take (i := 2) (oi := { dst := some 10, op := Op.fieldAddr 61 (Operand.tmp 9) 0, type := 0, pos := "reader.go:130", after := #[{ on := 1, ground := Ground.data }], guard := none }) (v := .pointer (some ⟨R, 0, none⟩)) rfl rfl (waits_of (by kernel_rfl)) (by kernel_rfl) (by kernel_rfl) (by kernel_rfl) (fun _ _ _ h => hQp _ _ _ _ _ h) (Or.inl ⟨by rfl, fun W hS => ?_⟩) G0.out ?_
  · go_simp
  simp only [Act.put, List.setIfInBounds_toArray, List.set_cons_zero, List.set_cons_succ]
  refine wpAnyJ_take (i := 3) (oi := { dst := some 11, op := Op.move (Operand.tmp 0), type := 95, pos := "reader.go:130", after := #[], guard := none }) (v := ptR R) rfl rfl (waits_of (by kernel_rfl)) (by kernel_rfl) (by kernel_rfl) (by kernel_rfl) (fun _ _ _ h => hQp _ _ _ _ _ h) (Or.inl ⟨by rfl, fun W hS => ?_⟩) G0.out ?_
  · go_simp
  simp only [Act.put, List.setIfInBounds_toArray, List.set_cons_zero, List.set_cons_succ]
  refine wpAnyJ_take (i := 4) (oi := { dst := some 12, op := Op.nilCheck (Operand.tmp 11), type := 0, pos := "reader.go:130", after := #[{ on := 3, ground := Ground.data }], guard := none }) (v := .pointer (some ⟨R, 0, none⟩)) rfl rfl (waits_of (by kernel_rfl)) (by kernel_rfl) (by kernel_rfl) (by kernel_rfl) (fun _ _ _ h => hQp _ _ _ _ _ h) (Or.inl ⟨by rfl, fun W hS => ?_⟩) G0.out ?_
  · go_simp
  simp only [Act.put, List.setIfInBounds_toArray, List.set_cons_zero, List.set_cons_succ]
  refine wpAnyJ_take (i := 5) (oi := { dst := some 13, op := Op.fieldAddr 61 (Operand.tmp 12) 1, type := 0, pos := "reader.go:130", after := #[{ on := 4, ground := Ground.data }], guard := none }) (v := .pointer (some ⟨R, 1, none⟩)) rfl rfl (waits_of (by kernel_rfl)) (by kernel_rfl) (by kernel_rfl) (by kernel_rfl) (fun _ _ _ h => hQp _ _ _ _ _ h) (Or.inl ⟨by rfl, fun W hS => ?_⟩) G0.out ?_
  · go_simp
  simp only [Act.put, List.setIfInBounds_toArray, List.set_cons_zero, List.set_cons_succ]
  refine wpAnyJ_take (i := 6) (oi := { dst := some 14, op := Op.load 47 (Operand.tmp 13), type := 47, pos := "reader.go:130", after := #[{ on := 5, ground := Ground.data }], guard := none }) (v := .map (some b)) rfl rfl (waits_of (by kernel_rfl)) (by kernel_rfl) (by kernel_rfl) (by kernel_rfl) (fun _ _ _ h => hQp _ _ _ _ _ h) (Or.inl ⟨by rfl, fun W hS => ?_⟩) G0.out ?_
  · have z := H_hC.out W hS; go_simp
  simp only [Act.put, List.setIfInBounds_toArray, List.set_cons_zero, List.set_cons_succ]
  refine wpAnyJ_take (i := 7) (oi := { dst := some 15, op := Op.move (Operand.tmp 3), type := 9, pos := "reader.go:130", after := #[], guard := none }) (v := .string (tx x)) rfl rfl (waits_of (by kernel_rfl)) (by kernel_rfl) (by kernel_rfl) (by kernel_rfl) (fun _ _ _ h => hQp _ _ _ _ _ h) (Or.inl ⟨by rfl, fun W hS => ?_⟩) G0.out ?_
  · go_simp
  simp only [Act.put, List.setIfInBounds_toArray, List.set_cons_zero, List.set_cons_succ]
  refine wpAnyJ_ready (rs := [8]) (by kernel_rfl) (by simp) ?_
  refine AllJ.cons (o := { dst := some 16, op := Op.call { callee := Callee.value (Operand.func 34), args := #[Operand.tmp 14, Operand.tmp 15], argTypes := #[47, 9] }, type := 4, pos := "reader.go:130", after := #[{ on := 6, ground := Ground.data }, { on := 7, ground := Ground.data }], guard := none }) rfl (fun K hK => ?_) AllJ.nil
  have kk := H_hN.out V0 G0.out
  go_simp
  go_at_call 34
  refine kk.mono ?_
  rintro e1 W1 ⟨rfl, hW1⟩
  subst hW1
  clear kk
  refine hK.out _ _ (fun _ => G0.out) ?_
  clear hK K
  try simp only [Act.put, List.setIfInBounds_toArray, List.set_cons_zero, List.set_cons_succ]
  refine wpAnyJ_ready (rs := [9]) (by kernel_rfl) (by simp) ?_
  refine AllJ.cons (o := { dst := some 17, op := Op.call { callee := Callee.value (Operand.func 23), args := #[Operand.tmp 10, Operand.tmp 16, Operand.const (Value.int IntKind.i64 2)], argTypes := #[59, 4, 26] }, type := 0, pos := "reader.go:130", after := #[{ on := 2, ground := Ground.data }, { on := 8, ground := Ground.data }, { on := 8, ground := Ground.chain }], guard := none }) rfl (fun K hK => ?_) AllJ.nil
  have kk := H_hM.out W1 G0.out
  go_simp
  go_at_call 23
  refine kk.mono ?_
  rintro e1 W1 ⟨rfl, hW1⟩
  subst hW1
  clear kk
  exact HEND.out _ _ rfl G0.out

set_option maxHeartbeats 1000000 in
theorem signed_any {w : World} {R b P0 : Nat} {ps : List Pc} {m : Value} (h : Rdr w R P0 ps m) (hX : Cx w R b) (r : PR Int) (hr : sgnP ps = r) : Calls Tryz.prog 85 #[ptR R] w (RdP w R P0 m VI r) := by
  unfold sgnP at hr
  by_cases h1 : hd ps = sMinus
  · rw [if_pos h1] at hr
    have k1 := has_yes h sMinus (by decide) h1
    have HX : Hid (Cx w R b) := hX
    clear h h1
    by_cases h2 : hd ps.tail = [48]
    · rw [if_pos h2] at hr
      subst hr
      go_enter Tryz.func85, Tryz.ntmps85
      go_wp2_with fail
      refine k1.mono ?_
      rintro e w1 ⟨rfl, hr1, hg1⟩
      have HR1 : Hid (Rdr w1 R P0 ps.tail m) := hr1
      have HG1 : Hid (w.grownBy w1 (some R)) := hg1
      clear k1 hr1 hg1
      go_wp2_with fail
      exact sgn3 (fun _ _ d _ _ h => by cases d <;> exact h) _ _ _ _ _ _ _ _ _ _ _ _ _ _ _ _ _ _ _ _ _ w1 R (hat ps.tail) (fun W hW => is_any (HR1.out.at hW) [48] true (by simpa using h2)) (fun W hW => pmust_no (HR1.out.at hW) 2) (fun a W hd hb => ⟨hd, rfl, gb_trans HG1.out (gb_below hb)⟩)
    · rw [if_neg h2] at hr
      obtain ⟨r2, hr2⟩ : ∃ r2, numP ps.tail = r2 := ⟨_, rfl⟩
      rw [hr2] at hr
      have HN2 : Hid (numP ps.tail = r2) := hr2
      have H2 : Hid (¬ hd ps.tail = [48]) := h2
      have HRR : Hid _ := hr
      clear hr2 h2 hr
      go_enter Tryz.func85, Tryz.ntmps85
      go_wp2_with fail
      refine k1.mono ?_
      rintro e w1 ⟨rfl, hr1, hg1⟩
      have HR1 : Hid (Rdr w1 R P0 ps.tail m) := hr1
      have HG1 : Hid (w.grownBy w1 (some R)) := hg1
      clear k1 hr1 hg1
      go_wp2_with fail
      go_quiet ((first | (go_at_call 24; refine Calls.quiet_of_same (is_any (HR1.out.at (below_drewN (Below.refl _ _) _)) [48] false (by simpa using H2.out))) | (go_at_call 23; refine Calls.quiet_of_same (pmust_ok (HR1.out.at (below_drewN (Below.refl _ _) _)) 2))))
      have HB3 : Hid (Below w1.heap.size w1 (w1.drewN nq)) := below_drewN (Below.refl _ _) _
      generalize w1.drewN nq = w3 at HB3 ⊢
      have k5 := number_any (HR1.out.at HB3.out) (((HX.out.gb HG1.out).at HB3.out).g) r2 HN2.out
      go_wp2_with fail
      refine k5.mono ?_
      rintro e w4 ⟨he, hg4⟩
      have HG4 : Hid (w.grownBy w4 (some R)) := gb_trans HG1.out (gb_trans (gb_below HB3.out) hg4)
      clear k5 hg4
      cases r2 with
      | error x =>
        obtain ⟨c, a⟩ := x
        have hrr := HRR.out
        subst hrr
        obtain rfl : e = .panicked (chn c a) := he
        go_wp2
        exact ⟨rfl, rfl, HG4.out⟩
      | ok x =>
        obtain ⟨n, qs⟩ := x
        obtain ⟨he1, he2⟩ := he
        have hrr := HRR.out
        subst hrr
        subst he1
        have hbd := num_bd HN2.out
        have hw : IntKind.i64.wrap (-n) = -n := by rw [IntKind.wrap_i64]; omega
        go_wp2
        go_ret
        exact ⟨⟨⟨_, rfl, rfl⟩, he2⟩, HG4.out⟩
  · rw [if_neg h1] at hr
    have k1 := has_no h sMinus h1
    have k2 := number_any h hX.g r hr
    clear h h1 hX
    go_enter Tryz.func85, Tryz.ntmps85
    go_wp2_with fail
    refine k1.mono ?_
    rintro e w1 ⟨rfl, rfl⟩
    clear k1
    go_wp2_with fail
    refine k2.mono ?_
    rintro e w2 ⟨he, hg⟩
    clear k2
    cases r with
    | error x =>
      obtain ⟨c, a⟩ := x
      obtain rfl : e = .panicked (chn c a) := he
      go_wp2
      exact ⟨rfl, rfl, hg⟩
    | ok x =>
      obtain ⟨n, qs⟩ := x
      obtain ⟨rfl, he2⟩ := he
      go_wp2
      go_ret
      exact ⟨⟨⟨_, rfl, rfl⟩, he2⟩, hg⟩
theorem clone_any (s : By) (hs : s.length ≤ 65536) (w : World) : Calls Tryz.prog 130 #[.string (tx s)] w fun e w' => e = .returned (.string (tx s)) ∧ Below w.heap.size w w' := by
  have k := Tryz.stringslite_Clone (tx s) w (by show s.toArray.size ≤ _; simp; omega)
  go_enter Tryz.func130, Tryz.ntmps130
  go_wp2_with fail
  refine k.mono ?_
  rintro e w1 ⟨rfl, hb⟩
  go_wp2
  go_ret
  exact ⟨rfl, hb⟩
abbrev VS : World → By → Value → Prop := fun _ s v => v = .string (tx s)
set_option maxHeartbeats 1000000 in
theorem rname_any {w : World} {R b P0 : Nat} {ps : List Pc} (h : Rdr w R P0 ps (.map (some b))) (hX : Cx w R b) (r : PR By) (hr : nmP ps = r) : Calls Tryz.prog 114 #[ptR R] w (RdP w R P0 (.map (some b)) VS r) := by
  obtain ⟨P, o, n, c, -, -, -, -, -, -, -, -, hlen, -, hR, -⟩ := h.head
  have k1 := next_any h _ rfl
  have HR : Hid (Rdr w R P0 ps (.map (some b))) := h
  have HX : Hid (Cx w R b) := hX
  have hm := h.m.c
  unfold nmP at hr
  by_cases h1 : nmd (hd ps) = true
  · rw [if_pos h1] at hr
    subst hr
    have H1 : Hid (nmd (hd ps) = true) := h1
    have HNE : Hid (hd ps ≠ []) := by intro e; rw [e] at h1; simp [nmd, namB] at h1
    have HL : Hid ((hd ps).length ≤ 65536) := hlen
    clear h h1 hX hlen
    generalize hd ps = x at k1 H1 HL ⊢
    go_enter Tryz.func114, Tryz.ntmps114
    go_wp2_with fail
    refine k1.mono ?_
    rintro e w1 ⟨rfl, rfl⟩
    clear k1
    go_wp2_with fail
    go_quiet ((first | (go_at_call 34; refine Calls.quiet_of_same (names_any (HX.out.at (below_drewN (Below.refl _ _) _)).d x HL.out true H1.out)) | (go_at_call 23; refine Calls.quiet_of_same (pmust_ok (HR.out.at (below_drewN (Below.refl _ _) _)) 2))))
    have HB3 : Hid (Below w1.heap.size w1 (w1.drewN nq)) := below_drewN (Below.refl _ _) _
    generalize w1.drewN nq = w3 at HB3 ⊢
    have k3 := step_any (HR.out.at HB3.out) HNE.out
    go_wp2_with fail
    refine k3.mono ?_
    rintro e w4 ⟨rfl, h4, hg4⟩
    clear k3
    have k4 := clone_any x HL.out w4
    go_wp2_with fail
    refine k4.mono ?_
    rintro e w5 ⟨rfl, hb5⟩
    clear k4
    go_wp2
    go_ret
    exact ⟨⟨⟨_, rfl, rfl⟩, h4.at hb5⟩, gb_trans (gb_below HB3.out) (gb_trans hg4 (gb_below hb5))⟩
  · rw [if_neg h1] at hr
    subst hr
    have H1 : Hid (nmd (hd ps) = false) := by simpa [Hid] using h1
    have HL : Hid ((hd ps).length ≤ 65536) := hlen
    clear h h1 hX hlen
    generalize hd ps = x at k1 H1 HL ⊢
    go_enter Tryz.func114, Tryz.ntmps114
    go_wp2_with fail
    refine k1.mono ?_
    rintro e w1 ⟨rfl, rfl⟩
    clear k1
    go_wp2_with fail
    exact nam2 (fun _ _ d _ _ h => by cases d <;> exact h) _ _ _ _ _ _ _ _ _ _ _ _ _ _ _ _ _ _ _ _ _ _ w1 R x b _ rfl (hat ps) (fun W hW => (hW.cell (p := ⟨R, 1, none⟩) hR).trans hm) (fun W hW => names_any (HX.out.at hW).d x HL.out false H1.out) (fun W hW => pmust_no (HR.out.at hW) 2) (fun a W hd hb => ⟨hd, rfl, gb_below hb⟩)
end Go.Proofs.YtidfkencjdjkbaaGreatDoor

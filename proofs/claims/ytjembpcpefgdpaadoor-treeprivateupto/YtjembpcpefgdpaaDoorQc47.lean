import Derived.Test.YtjembpcpefgdpaaDoorQc46
namespace Go.Proofs.YtjembpcpefgdpaaDoor
open Go.RowKit Go.Proofs.YtjembpcpefgdpaaDoor.Ds
attribute [local go_sem] Oper.semAt_some

set_option maxRecDepth 100000 in
set_option maxHeartbeats 4000000 in
theorem region9 {Q : Exit → Act → World → Prop} (hQp : ∀ c a a' w, Q (.panic c) a w → Q (.panic c) a' w) {t0 t1 t2 t3 t4 t5 t6 t7 t8 t9 t10 t11 t12 t13 t15 t16 t19 t20 t21 t22 t23 t24 t25 t26 t27 t28 t29 t30 t31 t32 t33 t34 t35 t36 t37 t38 t39 t40 t41 t42 t43 t44 t45 t46 t47 t48 t49 t50 t51 t52 t53 t54 t55 t56 t57 t58 t59 t60 t61 t62 : Value} (A : World) (P m n : Nat) (ta ea va : Option Addr) (tc ec vn vc : Nat) (er : Int) (tvals evals : List Value) (x y z : Value)
    (hn : n ≤ 1048576) (hP : P < m) (hmA : m ≤ A.heap.size) (hM : Two9 A A P m n n (.slice ta n tc) (.slice ea n ec) (.slice ta n tc) (.slice ea n ec) tvals evals x y z)
    (hEnd : ∀ s46 s51 tv' ev' W, Two9 A W P m (n + 1) (n + 1) (.slice ta n tc) (.slice ea n ec) tv' ev' (tvals ++ [(.slice va vn vc)]) (evals ++ [.int .i64 er]) x y z → Q .normal { tmps := #[t0, t1, t2, t3, t4, t5, t6, t7, t8, t9, t10, t11, t12, t13, .pointer (some ⟨P, 0, none⟩), t15, t16, (.slice va vn vc), .int .i64 er, t19, t20, t21, t22, t23, t24, t25, t26, t27, t28, t29, t30, t31, t32, t33, t34, t35, t36, t37, t38, t39, t40, t41, t42, .pointer (some ⟨P, 0, none⟩), (.slice ta n tc), (.slice va vn vc), s46, tv', .pointer (some ⟨P, 1, none⟩), (.slice ea n ec), .int .i64 er, s51, ev', .pointer (some ⟨P, 0, none⟩), .pointer (some ⟨P, 1, none⟩), t55, t56, t57, t58, t59, t60, t61, t62], defers := [] } ((W.setCell ⟨P, 0, none⟩ tv').setCell ⟨P, 1, none⟩ ev')) :
    (Code.region 9 #[{ dst := some 43, op := Op.fieldAddr 28 (Operand.tmp 14) 0, type := 0, pos := "tree.go:25", after := #[], guard := none }, { dst := some 44, op := Op.load 25 (Operand.tmp 43), type := 25, pos := "tree.go:25", after := #[{ on := 0, ground := Ground.data }], guard := none }, { dst := some 45, op := Op.move (Operand.tmp 17), type := 33, pos := "tree.go:25", after := #[], guard := none }, { dst := some 46, op := Op.buildSlice 25 1 #[(0, Operand.tmp 45)], type := 25, pos := "tree.go:25", after := #[{ on := 2, ground := Ground.data }], guard := none }, { dst := some 47, op := Op.call { callee := Callee.builtin Builtin.append, args := #[Operand.tmp 44, Operand.tmp 46], argTypes := #[25, 25] }, type := 25, pos := "tree.go:25", after := #[{ on := 1, ground := Ground.data }, { on := 3, ground := Ground.data }], guard := none }, { dst := some 48, op := Op.fieldAddr 28 (Operand.tmp 14) 1, type := 0, pos := "tree.go:25", after := #[], guard := none }, { dst := some 49, op := Op.load 26 (Operand.tmp 48), type := 26, pos := "tree.go:25", after := #[{ on := 5, ground := Ground.data }], guard := none }, { dst := some 50, op := Op.move (Operand.tmp 18), type := 29, pos := "tree.go:25", after := #[], guard := none }, { dst := some 51, op := Op.buildSlice 26 1 #[(0, Operand.tmp 50)], type := 26, pos := "tree.go:25", after := #[{ on := 7, ground := Ground.data }], guard := none }, { dst := some 52, op := Op.call { callee := Callee.builtin Builtin.append, args := #[Operand.tmp 49, Operand.tmp 51], argTypes := #[26, 26] }, type := 26, pos := "tree.go:25", after := #[{ on := 6, ground := Ground.data }, { on := 8, ground := Ground.data }, { on := 4, ground := Ground.chain }], guard := none }, { dst := some 53, op := Op.fieldAddr 28 (Operand.tmp 14) 0, type := 0, pos := "tree.go:25", after := #[{ on := 0, ground := Ground.phase }, { on := 1, ground := Ground.phase }, { on := 2, ground := Ground.phase }, { on := 3, ground := Ground.phase }, { on := 4, ground := Ground.phase }, { on := 5, ground := Ground.phase }, { on := 6, ground := Ground.phase }, { on := 7, ground := Ground.textOnly Departure.lateStores }, { on := 8, ground := Ground.textOnly Departure.lateStores }, { on := 9, ground := Ground.textOnly Departure.lateStoresUnsure }], guard := none }, { dst := none, op := Op.store 25 (Operand.tmp 53) (Operand.tmp 47), type := 0, pos := "tree.go:25", after := #[{ on := 10, ground := Ground.data }, { on := 4, ground := Ground.data }, { on := 9, ground := Ground.chain }, { on := 0, ground := Ground.phase }, { on := 1, ground := Ground.phase }, { on := 2, ground := Ground.phase }, { on := 3, ground := Ground.phase }, { on := 4, ground := Ground.phase }, { on := 5, ground := Ground.phase }, { on := 6, ground := Ground.phase }, { on := 7, ground := Ground.textOnly Departure.lateStores }, { on := 8, ground := Ground.textOnly Departure.lateStores }, { on := 9, ground := Ground.textOnly Departure.lateStoresUnsure }], guard := none }, { dst := some 54, op := Op.fieldAddr 28 (Operand.tmp 14) 1, type := 0, pos := "tree.go:25", after := #[{ on := 0, ground := Ground.phase }, { on := 1, ground := Ground.phase }, { on := 2, ground := Ground.phase }, { on := 3, ground := Ground.phase }, { on := 4, ground := Ground.phase }, { on := 5, ground := Ground.phase }, { on := 6, ground := Ground.phase }, { on := 7, ground := Ground.phase }, { on := 8, ground := Ground.phase }, { on := 9, ground := Ground.phase }, { on := 10, ground := Ground.phase }, { on := 11, ground := Ground.phase }], guard := none }, { dst := none, op := Op.store 26 (Operand.tmp 54) (Operand.tmp 52), type := 0, pos := "tree.go:25", after := #[{ on := 12, ground := Ground.data }, { on := 9, ground := Ground.data }, { on := 11, ground := Ground.chain }, { on := 0, ground := Ground.phase }, { on := 1, ground := Ground.phase }, { on := 2, ground := Ground.phase }, { on := 3, ground := Ground.phase }, { on := 4, ground := Ground.phase }, { on := 5, ground := Ground.phase }, { on := 6, ground := Ground.phase }, { on := 7, ground := Ground.phase }, { on := 8, ground := Ground.phase }, { on := 9, ground := Ground.phase }, { on := 10, ground := Ground.phase }, { on := 11, ground := Ground.phase }], guard := none }] true).wp Tryd.prog Q { tmps := #[t0, t1, t2, t3, t4, t5, t6, t7, t8, t9, t10, t11, t12, t13, .pointer (some ⟨P, 0, none⟩), t15, t16, (.slice va vn vc), .int .i64 er, t19, t20, t21, t22, t23, t24, t25, t26, t27, t28, t29, t30, t31, t32, t33, t34, t35, t36, t37, t38, t39, t40, t41, t42, t43, t44, t45, t46, t47, t48, t49, t50, t51, t52, t53, t54, t55, t56, t57, t58, t59, t60, t61, t62], defers := [] } A := by
  obtain ⟨i33, hi33, hq0, hq1, hq2⟩ := info_parts info33
  obtain ⟨i29, hi29, hr0, hr1, hr2⟩ := info_parts info29
  have HEND : Hid (∀ s46 s51 tv' ev' W, Two9 A W P m (n + 1) (n + 1) (.slice ta n tc) (.slice ea n ec) tv' ev' (tvals ++ [(.slice va vn vc)]) (evals ++ [.int .i64 er]) x y z → Q .normal { tmps := #[t0, t1, t2, t3, t4, t5, t6, t7, t8, t9, t10, t11, t12, t13, .pointer (some ⟨P, 0, none⟩), t15, t16, (.slice va vn vc), .int .i64 er, t19, t20, t21, t22, t23, t24, t25, t26, t27, t28, t29, t30, t31, t32, t33, t34, t35, t36, t37, t38, t39, t40, t41, t42, .pointer (some ⟨P, 0, none⟩), (.slice ta n tc), (.slice va vn vc), s46, tv', .pointer (some ⟨P, 1, none⟩), (.slice ea n ec), .int .i64 er, s51, ev', .pointer (some ⟨P, 0, none⟩), .pointer (some ⟨P, 1, none⟩), t55, t56, t57, t58, t59, t60, t61, t62], defers := [] } ((W.setCell ⟨P, 0, none⟩ tv').setCell ⟨P, 1, none⟩ ev')) := hEnd
  have HTL : Hid (∀ g, ((.slice ta n tc) : Value).ownBlock = some g → m ≤ g ∧ g < A.heap.size) := fun g e => row_lt hM.t e
  have HEL : Hid (∀ g, ((.slice ea n ec) : Value).ownBlock = some g → m ≤ g ∧ g < A.heap.size) := fun g e => row_lt hM.e e
  have M0 : Hid (Two9 A A.drew P m n n (.slice ta n tc) (.slice ea n ec) (.slice ta n tc) (.slice ea n ec) tvals evals x y z) := hM.none (gb_none (Below.refl _ _).drew)
  clear hEnd hM
  obtain ⟨V0, hV0⟩ : ∃ V0, A.drew = V0 := ⟨_, rfl⟩
  rw [hV0] at M0
  have hs0 : A.heap.size ≤ V0.heap.size := M0.out.k.size
  refine wp_region_Jp (S := fun W => FivB W P (.slice ta n tc) (.slice ea n ec) x y z) (J := fun j => decide (j < 11)) (by kernel_rfl) ?_
  rw [hV0]
  clear hV0
  refine wpAnyJ_take (i := 0) (oi := { dst := some 43, op := Op.fieldAddr 28 (Operand.tmp 14) 0, type := 0, pos := "tree.go:25", after := #[], guard := none }) (v := .pointer (some ⟨P, 0, none⟩)) rfl rfl (waits_of (by kernel_rfl)) (by kernel_rfl) (by kernel_rfl) (by kernel_rfl) (fun _ _ _ h => hQp _ _ _ _ h) (Or.inl ⟨by rfl, fun W hS => ?_⟩) M0.out.bx ?_
  · go_simp
  simp only [Act.put, List.setIfInBounds_toArray, List.set_cons_zero, List.set_cons_succ]
  refine wpAnyJ_take (i := 1) (oi := { dst := some 44, op := Op.load 25 (Operand.tmp 43), type := 25, pos := "tree.go:25", after := #[{ on := 0, ground := Ground.data }], guard := none }) (v := (.slice ta n tc)) rfl rfl (waits_of (by kernel_rfl)) (by kernel_rfl) (by kernel_rfl) (by kernel_rfl) (fun _ _ _ h => hQp _ _ _ _ h) (Or.inl ⟨by rfl, fun W hS => ?_⟩) M0.out.bx ?_
  · have z := hS.c0; go_simp
  simp only [Act.put, List.setIfInBounds_toArray, List.set_cons_zero, List.set_cons_succ]
  refine wpAnyJ_take (i := 2) (oi := { dst := some 45, op := Op.move (Operand.tmp 17), type := 33, pos := "tree.go:25", after := #[], guard := none }) (v := (.slice va vn vc)) rfl rfl (waits_of (by kernel_rfl)) (by kernel_rfl) (by kernel_rfl) (by kernel_rfl) (fun _ _ _ h => hQp _ _ _ _ h) (Or.inl ⟨by rfl, fun W hS => ?_⟩) M0.out.bx ?_
  · go_simp
  simp only [Act.put, List.setIfInBounds_toArray, List.set_cons_zero, List.set_cons_succ]
  refine wpAnyJ_take (i := 5) (oi := { dst := some 48, op := Op.fieldAddr 28 (Operand.tmp 14) 1, type := 0, pos := "tree.go:25", after := #[], guard := none }) (v := .pointer (some ⟨P, 1, none⟩)) rfl rfl (waits_of (by kernel_rfl)) (by kernel_rfl) (by kernel_rfl) (by kernel_rfl) (fun _ _ _ h => hQp _ _ _ _ h) (Or.inl ⟨by rfl, fun W hS => ?_⟩) M0.out.bx ?_
  · go_simp
  simp only [Act.put, List.setIfInBounds_toArray, List.set_cons_zero, List.set_cons_succ]
  refine wpAnyJ_take (i := 6) (oi := { dst := some 49, op := Op.load 26 (Operand.tmp 48), type := 26, pos := "tree.go:25", after := #[{ on := 5, ground := Ground.data }], guard := none }) (v := (.slice ea n ec)) rfl rfl (waits_of (by kernel_rfl)) (by kernel_rfl) (by kernel_rfl) (by kernel_rfl) (fun _ _ _ h => hQp _ _ _ _ h) (Or.inl ⟨by rfl, fun W hS => ?_⟩) M0.out.bx ?_
  · have z := hS.c1; go_simp
  simp only [Act.put, List.setIfInBounds_toArray, List.set_cons_zero, List.set_cons_succ]
  refine wpAnyJ_ready (rs := [3, 7]) (by kernel_rfl) (by simp) ?_
  refine AllJ.cons (o := { dst := some 46, op := Op.buildSlice 25 1 #[(0, Operand.tmp 45)], type := 25, pos := "tree.go:25", after := #[{ on := 2, ground := Ground.data }], guard := none }) rfl (fun K hK => ?_) ?_
  ·
    go_simp
    have M2 : Hid (Two9 A (V0.alloc (.cells #[(.slice va vn vc)] 33)) P m n n (.slice ta n tc) (.slice ea n ec) (.slice ta n tc) (.slice ea n ec) tvals evals x y z) := M0.out.none (gb_none (ba _ _))
    have C3 : Hid (∀ j u, [(.slice va vn vc)][j]? = some u → (V0.alloc (.cells #[(.slice va vn vc)] 33)).cell? ((⟨V0.heap.size, 0, none⟩ : Addr).add j) = some u) := one_cells _ _ _ _ rfl
    refine hK.out _ _ (fun _ => M2.out.bx) ?_
    clear hK K
    try simp only [Act.put, List.setIfInBounds_toArray, List.set_cons_zero, List.set_cons_succ]
    obtain ⟨B4, hB4⟩ : ∃ B4 : Nat, B4 = V0.heap.size := ⟨_, rfl⟩
    obtain ⟨W1, hW1⟩ : ∃ W1, W1 = (V0.alloc (.cells #[(.slice va vn vc)] 33)) := ⟨_, rfl⟩
    have sW1 : Hid (W1.heap.size = V0.heap.size + 1) := by rw [Hid, hW1]; simp
    rw [← hW1, ← hB4] at C3 ⊢
    rw [← hW1] at M2
    clear hW1
    have lB4 : A.heap.size ≤ B4 ∧ B4 < W1.heap.size := by rw [hB4]; have := M0.out.k.size; have := sW1.out; omega
    clear hB4
    refine wpAnyJ_ready (rs := [4, 7]) (by kernel_rfl) (by simp) ?_
    refine AllJ.cons (o := { dst := some 47, op := Op.call { callee := Callee.builtin Builtin.append, args := #[Operand.tmp 44, Operand.tmp 46], argTypes := #[25, 25] }, type := 25, pos := "tree.go:25", after := #[{ on := 1, ground := Ground.data }, { on := 3, ground := Ground.data }], guard := none }) rfl (fun K hK => ?_) ?_
    ·
      refine step_append_lies _ rfl _ _ 25 rfl m 33 i33 (.slice none 0 0) 1 24 Tryd.underlying25 hi33 hq0 hq1 hq2 rfl (by decide) (.slice ta n tc) n tvals rfl M2.out.t ⟨B4, 0, none⟩ 1 1 [(.slice va vn vc)] rfl rfl C3.out ?_ (by decide) (by unfold maxLen; omega) (by omega) (by have := M2.out.k.size; omega) W1.heap.size rfl ?_
      · intro z hz; simp at hz; subst hz; rfl
      intro g7 c8 W5 ho9 hg10 ha11 hl12
      have M6 : Hid (Two9 A W5 P m (n + 1) n (.slice ta n tc) (.slice ea n ec) (.slice (some ⟨g7, 0, none⟩) (n + 1) c8) (.slice ea n ec) (tvals ++ [(.slice va vn vc)]) evals x y z) := M2.out.told hg10 ho9 ha11 hP HTL.out HEL.out
      refine hK.out _ _ (fun _ => M6.out.bx) ?_
      clear hK K ho9 ha11 hl12 hg10
      try simp only [Act.put, List.setIfInBounds_toArray, List.set_cons_zero, List.set_cons_succ]
      refine wpAnyJ_take (i := 10) (oi := { dst := some 53, op := Op.fieldAddr 28 (Operand.tmp 14) 0, type := 0, pos := "tree.go:25", after := #[{ on := 0, ground := Ground.phase }, { on := 1, ground := Ground.phase }, { on := 2, ground := Ground.phase }, { on := 3, ground := Ground.phase }, { on := 4, ground := Ground.phase }, { on := 5, ground := Ground.phase }, { on := 6, ground := Ground.phase }, { on := 7, ground := Ground.textOnly Departure.lateStores }, { on := 8, ground := Ground.textOnly Departure.lateStores }, { on := 9, ground := Ground.textOnly Departure.lateStoresUnsure }], guard := none }) (v := .pointer (some ⟨P, 0, none⟩)) rfl rfl (waits_of (by kernel_rfl)) (by kernel_rfl) (by kernel_rfl) (by kernel_rfl) (fun _ _ _ h => hQp _ _ _ _ h) (Or.inl ⟨by rfl, fun W hS => ?_⟩) M6.out.bx ?_
      · go_simp
      simp only [Act.put, List.setIfInBounds_toArray, List.set_cons_zero, List.set_cons_succ]
      refine wpAnyJ_ready (rs := [7]) (by kernel_rfl) (by simp) ?_
      refine AllJ.cons (o := { dst := some 50, op := Op.move (Operand.tmp 18), type := 29, pos := "tree.go:25", after := #[], guard := none }) rfl (fun K hK => ?_) ?_
      ·
        go_simp
        refine hK.out _ _ (fun _ => M6.out.bx) ?_
        clear hK K
        try simp only [Act.put, List.setIfInBounds_toArray, List.set_cons_zero, List.set_cons_succ]
        refine wpAnyJ_ready (rs := [8]) (by kernel_rfl) (by simp) ?_
        refine AllJ.cons (o := { dst := some 51, op := Op.buildSlice 26 1 #[(0, Operand.tmp 50)], type := 26, pos := "tree.go:25", after := #[{ on := 7, ground := Ground.data }], guard := none }) rfl (fun K hK => ?_) ?_
        ·
          go_simp
          have M14 : Hid (Two9 A (W5.alloc (.cells #[(.int .i64 er)] 29)) P m (n + 1) n (.slice ta n tc) (.slice ea n ec) (.slice (some ⟨g7, 0, none⟩) (n + 1) c8) (.slice ea n ec) (tvals ++ [(.slice va vn vc)]) evals x y z) := M6.out.none (gb_none (ba _ _))
          have C15 : Hid (∀ j u, [(.int .i64 er)][j]? = some u → (W5.alloc (.cells #[(.int .i64 er)] 29)).cell? ((⟨W5.heap.size, 0, none⟩ : Addr).add j) = some u) := one_cells _ _ _ _ rfl
          refine hK.out _ _ (fun _ => M14.out.bx) ?_
          clear hK K
          try simp only [Act.put, List.setIfInBounds_toArray, List.set_cons_zero, List.set_cons_succ]
          obtain ⟨B16, hB16⟩ : ∃ B16 : Nat, B16 = W5.heap.size := ⟨_, rfl⟩
          obtain ⟨W13, hW13⟩ : ∃ W13, W13 = (W5.alloc (.cells #[(.int .i64 er)] 29)) := ⟨_, rfl⟩
          have sW13 : Hid (W13.heap.size = W5.heap.size + 1) := by rw [Hid, hW13]; simp
          rw [← hW13, ← hB16] at C15 ⊢
          rw [← hW13] at M14
          clear hW13
          have lB16 : A.heap.size ≤ B16 ∧ B16 < W13.heap.size := by rw [hB16]; have := M6.out.k.size; have := sW13.out; omega
          clear hB16
          refine wpAnyJ_ready (rs := [9]) (by kernel_rfl) (by simp) ?_
          refine AllJ.cons (o := { dst := some 52, op := Op.call { callee := Callee.builtin Builtin.append, args := #[Operand.tmp 49, Operand.tmp 51], argTypes := #[26, 26] }, type := 26, pos := "tree.go:25", after := #[{ on := 6, ground := Ground.data }, { on := 8, ground := Ground.data }, { on := 4, ground := Ground.chain }], guard := none }) rfl (fun K hK => ?_) ?_
          ·
            refine step_append_lies _ rfl _ _ 26 rfl m 29 i29 (.int .i64 0) 1 8 Tryd.underlying26 hi29 hr0 hr1 hr2 rfl (by decide) (.slice ea n ec) n evals rfl M14.out.e ⟨B16, 0, none⟩ 1 1 [(.int .i64 er)] rfl rfl C15.out ?_ (by decide) (by unfold maxLen; omega) (by omega) (by have := M14.out.k.size; omega) W13.heap.size rfl ?_
            · intro z hz; simp at hz; subst hz; rfl
            intro g19 c20 W17 ho21 hg22 ha23 hl24
            have M18 : Hid (Two9 A W17 P m (n + 1) (n + 1) (.slice ta n tc) (.slice ea n ec) (.slice (some ⟨g7, 0, none⟩) (n + 1) c8) (.slice (some ⟨g19, 0, none⟩) (n + 1) c20) (tvals ++ [(.slice va vn vc)]) (evals ++ [.int .i64 er]) x y z) := M14.out.errs hg22 ho21 ha23 hP HTL.out HEL.out
            refine hK.out _ _ (fun _ => M18.out.bx) ?_
            clear hK K ho21 ha23 hl24 hg22
            try simp only [Act.put, List.setIfInBounds_toArray, List.set_cons_zero, List.set_cons_succ]
            have z3 := M18.out.bx.c0
            have z4 := M18.out.bx.c1
            have y3 := M18.out.bx.f0
            have y4 := M18.out.bx.f1
            refine wpAnyJ_ready (rs := [11]) (by kernel_rfl) (by simp) ?_
            refine AllJ.cons (o := { dst := none, op := Op.store 25 (Operand.tmp 53) (Operand.tmp 47), type := 0, pos := "tree.go:25", after := #[{ on := 10, ground := Ground.data }, { on := 4, ground := Ground.data }, { on := 9, ground := Ground.chain }, { on := 0, ground := Ground.phase }, { on := 1, ground := Ground.phase }, { on := 2, ground := Ground.phase }, { on := 3, ground := Ground.phase }, { on := 4, ground := Ground.phase }, { on := 5, ground := Ground.phase }, { on := 6, ground := Ground.phase }, { on := 7, ground := Ground.textOnly Departure.lateStores }, { on := 8, ground := Ground.textOnly Departure.lateStores }, { on := 9, ground := Ground.textOnly Departure.lateStoresUnsure }], guard := none }) rfl (fun K hK => ?_) AllJ.nil
            go_simp
            refine hK.out _ _ (fun h => by simp at h) ?_
            clear hK K
            try simp only [Act.put, List.setIfInBounds_toArray, List.set_cons_zero, List.set_cons_succ]
            refine wpAnyJ_ready (rs := [12]) (by kernel_rfl) (by simp) ?_
            refine AllJ.cons (o := { dst := some 54, op := Op.fieldAddr 28 (Operand.tmp 14) 1, type := 0, pos := "tree.go:25", after := #[{ on := 0, ground := Ground.phase }, { on := 1, ground := Ground.phase }, { on := 2, ground := Ground.phase }, { on := 3, ground := Ground.phase }, { on := 4, ground := Ground.phase }, { on := 5, ground := Ground.phase }, { on := 6, ground := Ground.phase }, { on := 7, ground := Ground.phase }, { on := 8, ground := Ground.phase }, { on := 9, ground := Ground.phase }, { on := 10, ground := Ground.phase }, { on := 11, ground := Ground.phase }], guard := none }) rfl (fun K hK => ?_) AllJ.nil
            go_simp
            refine hK.out _ _ (fun h => by simp at h) ?_
            clear hK K
            try simp only [Act.put, List.setIfInBounds_toArray, List.set_cons_zero, List.set_cons_succ]
            refine wpAnyJ_ready (rs := [13]) (by kernel_rfl) (by simp) ?_
            refine AllJ.cons (o := { dst := none, op := Op.store 26 (Operand.tmp 54) (Operand.tmp 52), type := 0, pos := "tree.go:25", after := #[{ on := 12, ground := Ground.data }, { on := 9, ground := Ground.data }, { on := 11, ground := Ground.chain }, { on := 0, ground := Ground.phase }, { on := 1, ground := Ground.phase }, { on := 2, ground := Ground.phase }, { on := 3, ground := Ground.phase }, { on := 4, ground := Ground.phase }, { on := 5, ground := Ground.phase }, { on := 6, ground := Ground.phase }, { on := 7, ground := Ground.phase }, { on := 8, ground := Ground.phase }, { on := 9, ground := Ground.phase }, { on := 10, ground := Ground.phase }, { on := 11, ground := Ground.phase }], guard := none }) rfl (fun K hK => ?_) AllJ.nil
            go_simp
            refine hK.out _ _ (fun h => by simp at h) ?_
            clear hK K
            try simp only [Act.put, List.setIfInBounds_toArray, List.set_cons_zero, List.set_cons_succ]
            exact wpAnyJ_done (by kernel_rfl) (HEND.out _ _ _ _ _ M18.out) _
          exact AllJ.nil
        exact AllJ.nil
      exact AllJ.nil
    refine AllJ.cons (o := { dst := some 50, op := Op.move (Operand.tmp 18), type := 29, pos := "tree.go:25", after := #[], guard := none }) rfl (fun K hK => ?_) ?_
    ·
      go_simp
      refine hK.out _ _ (fun _ => M2.out.bx) ?_
      clear hK K
      try simp only [Act.put, List.setIfInBounds_toArray, List.set_cons_zero, List.set_cons_succ]
      refine wpAnyJ_ready (rs := [4, 8]) (by kernel_rfl) (by simp) ?_
      refine AllJ.cons (o := { dst := some 47, op := Op.call { callee := Callee.builtin Builtin.append, args := #[Operand.tmp 44, Operand.tmp 46], argTypes := #[25, 25] }, type := 25, pos := "tree.go:25", after := #[{ on := 1, ground := Ground.data }, { on := 3, ground := Ground.data }], guard := none }) rfl (fun K hK => ?_) ?_
      ·
        refine step_append_lies _ rfl _ _ 25 rfl m 33 i33 (.slice none 0 0) 1 24 Tryd.underlying25 hi33 hq0 hq1 hq2 rfl (by decide) (.slice ta n tc) n tvals rfl M2.out.t ⟨B4, 0, none⟩ 1 1 [(.slice va vn vc)] rfl rfl C3.out ?_ (by decide) (by unfold maxLen; omega) (by omega) (by have := M2.out.k.size; omega) W1.heap.size rfl ?_
        · intro z hz; simp at hz; subst hz; rfl
        intro g27 c28 W25 ho29 hg30 ha31 hl32
        have M26 : Hid (Two9 A W25 P m (n + 1) n (.slice ta n tc) (.slice ea n ec) (.slice (some ⟨g27, 0, none⟩) (n + 1) c28) (.slice ea n ec) (tvals ++ [(.slice va vn vc)]) evals x y z) := M2.out.told hg30 ho29 ha31 hP HTL.out HEL.out
        refine hK.out _ _ (fun _ => M26.out.bx) ?_
        clear hK K ho29 ha31 hl32 hg30
        try simp only [Act.put, List.setIfInBounds_toArray, List.set_cons_zero, List.set_cons_succ]
        refine wpAnyJ_take (i := 10) (oi := { dst := some 53, op := Op.fieldAddr 28 (Operand.tmp 14) 0, type := 0, pos := "tree.go:25", after := #[{ on := 0, ground := Ground.phase }, { on := 1, ground := Ground.phase }, { on := 2, ground := Ground.phase }, { on := 3, ground := Ground.phase }, { on := 4, ground := Ground.phase }, { on := 5, ground := Ground.phase }, { on := 6, ground := Ground.phase }, { on := 7, ground := Ground.textOnly Departure.lateStores }, { on := 8, ground := Ground.textOnly Departure.lateStores }, { on := 9, ground := Ground.textOnly Departure.lateStoresUnsure }], guard := none }) (v := .pointer (some ⟨P, 0, none⟩)) rfl rfl (waits_of (by kernel_rfl)) (by kernel_rfl) (by kernel_rfl) (by kernel_rfl) (fun _ _ _ h => hQp _ _ _ _ h) (Or.inl ⟨by rfl, fun W hS => ?_⟩) M26.out.bx ?_
        · go_simp
        simp only [Act.put, List.setIfInBounds_toArray, List.set_cons_zero, List.set_cons_succ]
        refine wpAnyJ_ready (rs := [8]) (by kernel_rfl) (by simp) ?_
        refine AllJ.cons (o := { dst := some 51, op := Op.buildSlice 26 1 #[(0, Operand.tmp 50)], type := 26, pos := "tree.go:25", after := #[{ on := 7, ground := Ground.data }], guard := none }) rfl (fun K hK => ?_) ?_
        ·
          go_simp
          have M34 : Hid (Two9 A (W25.alloc (.cells #[(.int .i64 er)] 29)) P m (n + 1) n (.slice ta n tc) (.slice ea n ec) (.slice (some ⟨g27, 0, none⟩) (n + 1) c28) (.slice ea n ec) (tvals ++ [(.slice va vn vc)]) evals x y z) := M26.out.none (gb_none (ba _ _))
          have C35 : Hid (∀ j u, [(.int .i64 er)][j]? = some u → (W25.alloc (.cells #[(.int .i64 er)] 29)).cell? ((⟨W25.heap.size, 0, none⟩ : Addr).add j) = some u) := one_cells _ _ _ _ rfl
          refine hK.out _ _ (fun _ => M34.out.bx) ?_
          clear hK K
          try simp only [Act.put, List.setIfInBounds_toArray, List.set_cons_zero, List.set_cons_succ]
          obtain ⟨B36, hB36⟩ : ∃ B36 : Nat, B36 = W25.heap.size := ⟨_, rfl⟩
          obtain ⟨W33, hW33⟩ : ∃ W33, W33 = (W25.alloc (.cells #[(.int .i64 er)] 29)) := ⟨_, rfl⟩
          have sW33 : Hid (W33.heap.size = W25.heap.size + 1) := by rw [Hid, hW33]; simp
          rw [← hW33, ← hB36] at C35 ⊢
          rw [← hW33] at M34
          clear hW33
          have lB36 : A.heap.size ≤ B36 ∧ B36 < W33.heap.size := by rw [hB36]; have := M26.out.k.size; have := sW33.out; omega
          clear hB36
          refine wpAnyJ_ready (rs := [9]) (by kernel_rfl) (by simp) ?_
          refine AllJ.cons (o := { dst := some 52, op := Op.call { callee := Callee.builtin Builtin.append, args := #[Operand.tmp 49, Operand.tmp 51], argTypes := #[26, 26] }, type := 26, pos := "tree.go:25", after := #[{ on := 6, ground := Ground.data }, { on := 8, ground := Ground.data }, { on := 4, ground := Ground.chain }], guard := none }) rfl (fun K hK => ?_) ?_
          ·
            refine step_append_lies _ rfl _ _ 26 rfl m 29 i29 (.int .i64 0) 1 8 Tryd.underlying26 hi29 hr0 hr1 hr2 rfl (by decide) (.slice ea n ec) n evals rfl M34.out.e ⟨B36, 0, none⟩ 1 1 [(.int .i64 er)] rfl rfl C35.out ?_ (by decide) (by unfold maxLen; omega) (by omega) (by have := M34.out.k.size; omega) W33.heap.size rfl ?_
            · intro z hz; simp at hz; subst hz; rfl
            intro g39 c40 W37 ho41 hg42 ha43 hl44
            have M38 : Hid (Two9 A W37 P m (n + 1) (n + 1) (.slice ta n tc) (.slice ea n ec) (.slice (some ⟨g27, 0, none⟩) (n + 1) c28) (.slice (some ⟨g39, 0, none⟩) (n + 1) c40) (tvals ++ [(.slice va vn vc)]) (evals ++ [.int .i64 er]) x y z) := M34.out.errs hg42 ho41 ha43 hP HTL.out HEL.out
            refine hK.out _ _ (fun _ => M38.out.bx) ?_
            clear hK K ho41 ha43 hl44 hg42
            try simp only [Act.put, List.setIfInBounds_toArray, List.set_cons_zero, List.set_cons_succ]
            have z3 := M38.out.bx.c0
            have z4 := M38.out.bx.c1
            have y3 := M38.out.bx.f0
            have y4 := M38.out.bx.f1
            refine wpAnyJ_ready (rs := [11]) (by kernel_rfl) (by simp) ?_
            refine AllJ.cons (o := { dst := none, op := Op.store 25 (Operand.tmp 53) (Operand.tmp 47), type := 0, pos := "tree.go:25", after := #[{ on := 10, ground := Ground.data }, { on := 4, ground := Ground.data }, { on := 9, ground := Ground.chain }, { on := 0, ground := Ground.phase }, { on := 1, ground := Ground.phase }, { on := 2, ground := Ground.phase }, { on := 3, ground := Ground.phase }, { on := 4, ground := Ground.phase }, { on := 5, ground := Ground.phase }, { on := 6, ground := Ground.phase }, { on := 7, ground := Ground.textOnly Departure.lateStores }, { on := 8, ground := Ground.textOnly Departure.lateStores }, { on := 9, ground := Ground.textOnly Departure.lateStoresUnsure }], guard := none }) rfl (fun K hK => ?_) AllJ.nil
            go_simp
            refine hK.out _ _ (fun h => by simp at h) ?_
            clear hK K
            try simp only [Act.put, List.setIfInBounds_toArray, List.set_cons_zero, List.set_cons_succ]
            refine wpAnyJ_ready (rs := [12]) (by kernel_rfl) (by simp) ?_
            refine AllJ.cons (o := { dst := some 54, op := Op.fieldAddr 28 (Operand.tmp 14) 1, type := 0, pos := "tree.go:25", after := #[{ on := 0, ground := Ground.phase }, { on := 1, ground := Ground.phase }, { on := 2, ground := Ground.phase }, { on := 3, ground := Ground.phase }, { on := 4, ground := Ground.phase }, { on := 5, ground := Ground.phase }, { on := 6, ground := Ground.phase }, { on := 7, ground := Ground.phase }, { on := 8, ground := Ground.phase }, { on := 9, ground := Ground.phase }, { on := 10, ground := Ground.phase }, { on := 11, ground := Ground.phase }], guard := none }) rfl (fun K hK => ?_) AllJ.nil
            go_simp
            refine hK.out _ _ (fun h => by simp at h) ?_
            clear hK K
            try simp only [Act.put, List.setIfInBounds_toArray, List.set_cons_zero, List.set_cons_succ]
            refine wpAnyJ_ready (rs := [13]) (by kernel_rfl) (by simp) ?_
            refine AllJ.cons (o := { dst := none, op := Op.store 26 (Operand.tmp 54) (Operand.tmp 52), type := 0, pos := "tree.go:25", after := #[{ on := 12, ground := Ground.data }, { on := 9, ground := Ground.data }, { on := 11, ground := Ground.chain }, { on := 0, ground := Ground.phase }, { on := 1, ground := Ground.phase }, { on := 2, ground := Ground.phase }, { on := 3, ground := Ground.phase }, { on := 4, ground := Ground.phase }, { on := 5, ground := Ground.phase }, { on := 6, ground := Ground.phase }, { on := 7, ground := Ground.phase }, { on := 8, ground := Ground.phase }, { on := 9, ground := Ground.phase }, { on := 10, ground := Ground.phase }, { on := 11, ground := Ground.phase }], guard := none }) rfl (fun K hK => ?_) AllJ.nil
            go_simp
            refine hK.out _ _ (fun h => by simp at h) ?_
            clear hK K
            try simp only [Act.put, List.setIfInBounds_toArray, List.set_cons_zero, List.set_cons_succ]
            exact wpAnyJ_done (by kernel_rfl) (HEND.out _ _ _ _ _ M38.out) _
          exact AllJ.nil
        exact AllJ.nil
      refine AllJ.cons (o := { dst := some 51, op := Op.buildSlice 26 1 #[(0, Operand.tmp 50)], type := 26, pos := "tree.go:25", after := #[{ on := 7, ground := Ground.data }], guard := none }) rfl (fun K hK => ?_) ?_
      ·
        go_simp
        have M46 : Hid (Two9 A (W1.alloc (.cells #[(.int .i64 er)] 29)) P m n n (.slice ta n tc) (.slice ea n ec) (.slice ta n tc) (.slice ea n ec) tvals evals x y z) := M2.out.none (gb_none (ba _ _))
        have C47 : Hid (∀ j u, [(.int .i64 er)][j]? = some u → (W1.alloc (.cells #[(.int .i64 er)] 29)).cell? ((⟨W1.heap.size, 0, none⟩ : Addr).add j) = some u) := one_cells _ _ _ _ rfl
        have C49 : Hid (∀ j u, [(.slice va vn vc)][j]? = some u → (W1.alloc (.cells #[(.int .i64 er)] 29)).cell? ((⟨B4, 0, none⟩ : Addr).add j) = some u) := fun j u hj => by rw [Addr.add_lit, World.cell?_alloc_lt _ _ _ (by exact lB4.2), ← Addr.add_lit]; exact C3.out j u hj
        refine hK.out _ _ (fun _ => M46.out.bx) ?_
        clear hK K
        try simp only [Act.put, List.setIfInBounds_toArray, List.set_cons_zero, List.set_cons_succ]
        obtain ⟨B48, hB48⟩ : ∃ B48 : Nat, B48 = W1.heap.size := ⟨_, rfl⟩
        obtain ⟨W45, hW45⟩ : ∃ W45, W45 = (W1.alloc (.cells #[(.int .i64 er)] 29)) := ⟨_, rfl⟩
        have sW45 : Hid (W45.heap.size = W1.heap.size + 1) := by rw [Hid, hW45]; simp
        rw [← hW45, ← hB48] at C47 ⊢
        rw [← hW45] at M46 C49
        clear hW45
        have lB48 : A.heap.size ≤ B48 ∧ B48 < W45.heap.size := by rw [hB48]; have := M2.out.k.size; have := sW45.out; omega
        have lB4 : A.heap.size ≤ B4 ∧ B4 < W45.heap.size := by have := sW45.out; omega
        clear hB48
        refine wpAnyJ_ready (rs := [4]) (by kernel_rfl) (by simp) ?_
        refine AllJ.cons (o := { dst := some 47, op := Op.call { callee := Callee.builtin Builtin.append, args := #[Operand.tmp 44, Operand.tmp 46], argTypes := #[25, 25] }, type := 25, pos := "tree.go:25", after := #[{ on := 1, ground := Ground.data }, { on := 3, ground := Ground.data }], guard := none }) rfl (fun K hK => ?_) ?_
        ·
          refine step_append_lies _ rfl _ _ 25 rfl m 33 i33 (.slice none 0 0) 1 24 Tryd.underlying25 hi33 hq0 hq1 hq2 rfl (by decide) (.slice ta n tc) n tvals rfl M46.out.t ⟨B4, 0, none⟩ 1 1 [(.slice va vn vc)] rfl rfl C49.out ?_ (by decide) (by unfold maxLen; omega) (by omega) (by have := M46.out.k.size; omega) W45.heap.size rfl ?_
          · intro z hz; simp at hz; subst hz; rfl
          intro g52 c53 W50 ho54 hg55 ha56 hl57
          have M51 : Hid (Two9 A W50 P m (n + 1) n (.slice ta n tc) (.slice ea n ec) (.slice (some ⟨g52, 0, none⟩) (n + 1) c53) (.slice ea n ec) (tvals ++ [(.slice va vn vc)]) evals x y z) := M46.out.told hg55 ho54 ha56 hP HTL.out HEL.out
          have C58 : Hid (∀ j u, [(.int .i64 er : Value)][j]? = some u → W50.cell? ((⟨B48, 0, none⟩ : Addr).add j) = some u) := fun j u hj => by have h0 := C47.out j u hj; rw [Addr.add_lit] at h0 ⊢; exact hg55.cell h0 (fun e => by have h1 := (HTL.out _ e.symm).2; have h2 := lB48.1; exact absurd h1 (Nat.not_lt_of_le h2))
          have lB48 : A.heap.size ≤ B48 ∧ B48 < W50.heap.size := ⟨lB48.1, Nat.lt_of_lt_of_le lB48.2 hg55.size⟩
          refine hK.out _ _ (fun _ => M51.out.bx) ?_
          clear hK K ho54 ha56 hl57 hg55
          try simp only [Act.put, List.setIfInBounds_toArray, List.set_cons_zero, List.set_cons_succ]
          refine wpAnyJ_take (i := 10) (oi := { dst := some 53, op := Op.fieldAddr 28 (Operand.tmp 14) 0, type := 0, pos := "tree.go:25", after := #[{ on := 0, ground := Ground.phase }, { on := 1, ground := Ground.phase }, { on := 2, ground := Ground.phase }, { on := 3, ground := Ground.phase }, { on := 4, ground := Ground.phase }, { on := 5, ground := Ground.phase }, { on := 6, ground := Ground.phase }, { on := 7, ground := Ground.textOnly Departure.lateStores }, { on := 8, ground := Ground.textOnly Departure.lateStores }, { on := 9, ground := Ground.textOnly Departure.lateStoresUnsure }], guard := none }) (v := .pointer (some ⟨P, 0, none⟩)) rfl rfl (waits_of (by kernel_rfl)) (by kernel_rfl) (by kernel_rfl) (by kernel_rfl) (fun _ _ _ h => hQp _ _ _ _ h) (Or.inl ⟨by rfl, fun W hS => ?_⟩) M51.out.bx ?_
          · go_simp
          simp only [Act.put, List.setIfInBounds_toArray, List.set_cons_zero, List.set_cons_succ]
          refine wpAnyJ_ready (rs := [9]) (by kernel_rfl) (by simp) ?_
          refine AllJ.cons (o := { dst := some 52, op := Op.call { callee := Callee.builtin Builtin.append, args := #[Operand.tmp 49, Operand.tmp 51], argTypes := #[26, 26] }, type := 26, pos := "tree.go:25", after := #[{ on := 6, ground := Ground.data }, { on := 8, ground := Ground.data }, { on := 4, ground := Ground.chain }], guard := none }) rfl (fun K hK => ?_) ?_
          ·
            refine step_append_lies _ rfl _ _ 26 rfl m 29 i29 (.int .i64 0) 1 8 Tryd.underlying26 hi29 hr0 hr1 hr2 rfl (by decide) (.slice ea n ec) n evals rfl M51.out.e ⟨B48, 0, none⟩ 1 1 [(.int .i64 er)] rfl rfl C58.out ?_ (by decide) (by unfold maxLen; omega) (by omega) (by have := M51.out.k.size; omega) W50.heap.size rfl ?_
            · intro z hz; simp at hz; subst hz; rfl
            intro g61 c62 W59 ho63 hg64 ha65 hl66
            have M60 : Hid (Two9 A W59 P m (n + 1) (n + 1) (.slice ta n tc) (.slice ea n ec) (.slice (some ⟨g52, 0, none⟩) (n + 1) c53) (.slice (some ⟨g61, 0, none⟩) (n + 1) c62) (tvals ++ [(.slice va vn vc)]) (evals ++ [.int .i64 er]) x y z) := M51.out.errs hg64 ho63 ha65 hP HTL.out HEL.out
            refine hK.out _ _ (fun _ => M60.out.bx) ?_
            clear hK K ho63 ha65 hl66 hg64
            try simp only [Act.put, List.setIfInBounds_toArray, List.set_cons_zero, List.set_cons_succ]
            have z3 := M60.out.bx.c0
            have z4 := M60.out.bx.c1
            have y3 := M60.out.bx.f0
            have y4 := M60.out.bx.f1
            refine wpAnyJ_ready (rs := [11]) (by kernel_rfl) (by simp) ?_
            refine AllJ.cons (o := { dst := none, op := Op.store 25 (Operand.tmp 53) (Operand.tmp 47), type := 0, pos := "tree.go:25", after := #[{ on := 10, ground := Ground.data }, { on := 4, ground := Ground.data }, { on := 9, ground := Ground.chain }, { on := 0, ground := Ground.phase }, { on := 1, ground := Ground.phase }, { on := 2, ground := Ground.phase }, { on := 3, ground := Ground.phase }, { on := 4, ground := Ground.phase }, { on := 5, ground := Ground.phase }, { on := 6, ground := Ground.phase }, { on := 7, ground := Ground.textOnly Departure.lateStores }, { on := 8, ground := Ground.textOnly Departure.lateStores }, { on := 9, ground := Ground.textOnly Departure.lateStoresUnsure }], guard := none }) rfl (fun K hK => ?_) AllJ.nil
            go_simp
            refine hK.out _ _ (fun h => by simp at h) ?_
            clear hK K
            try simp only [Act.put, List.setIfInBounds_toArray, List.set_cons_zero, List.set_cons_succ]
            refine wpAnyJ_ready (rs := [12]) (by kernel_rfl) (by simp) ?_
            refine AllJ.cons (o := { dst := some 54, op := Op.fieldAddr 28 (Operand.tmp 14) 1, type := 0, pos := "tree.go:25", after := #[{ on := 0, ground := Ground.phase }, { on := 1, ground := Ground.phase }, { on := 2, ground := Ground.phase }, { on := 3, ground := Ground.phase }, { on := 4, ground := Ground.phase }, { on := 5, ground := Ground.phase }, { on := 6, ground := Ground.phase }, { on := 7, ground := Ground.phase }, { on := 8, ground := Ground.phase }, { on := 9, ground := Ground.phase }, { on := 10, ground := Ground.phase }, { on := 11, ground := Ground.phase }], guard := none }) rfl (fun K hK => ?_) AllJ.nil
            go_simp
            refine hK.out _ _ (fun h => by simp at h) ?_
            clear hK K
            try simp only [Act.put, List.setIfInBounds_toArray, List.set_cons_zero, List.set_cons_succ]
            refine wpAnyJ_ready (rs := [13]) (by kernel_rfl) (by simp) ?_
            refine AllJ.cons (o := { dst := none, op := Op.store 26 (Operand.tmp 54) (Operand.tmp 52), type := 0, pos := "tree.go:25", after := #[{ on := 12, ground := Ground.data }, { on := 9, ground := Ground.data }, { on := 11, ground := Ground.chain }, { on := 0, ground := Ground.phase }, { on := 1, ground := Ground.phase }, { on := 2, ground := Ground.phase }, { on := 3, ground := Ground.phase }, { on := 4, ground := Ground.phase }, { on := 5, ground := Ground.phase }, { on := 6, ground := Ground.phase }, { on := 7, ground := Ground.phase }, { on := 8, ground := Ground.phase }, { on := 9, ground := Ground.phase }, { on := 10, ground := Ground.phase }, { on := 11, ground := Ground.phase }], guard := none }) rfl (fun K hK => ?_) AllJ.nil
            go_simp
            refine hK.out _ _ (fun h => by simp at h) ?_
            clear hK K
            try simp only [Act.put, List.setIfInBounds_toArray, List.set_cons_zero, List.set_cons_succ]
            exact wpAnyJ_done (by kernel_rfl) (HEND.out _ _ _ _ _ M60.out) _
          exact AllJ.nil
        exact AllJ.nil
      exact AllJ.nil
    exact AllJ.nil
  refine AllJ.cons (o := { dst := some 50, op := Op.move (Operand.tmp 18), type := 29, pos := "tree.go:25", after := #[], guard := none }) rfl (fun K hK => ?_) ?_
  ·
    go_simp
    refine hK.out _ _ (fun _ => M0.out.bx) ?_
    clear hK K
    try simp only [Act.put, List.setIfInBounds_toArray, List.set_cons_zero, List.set_cons_succ]
    refine wpAnyJ_ready (rs := [3, 8]) (by kernel_rfl) (by simp) ?_
    refine AllJ.cons (o := { dst := some 46, op := Op.buildSlice 25 1 #[(0, Operand.tmp 45)], type := 25, pos := "tree.go:25", after := #[{ on := 2, ground := Ground.data }], guard := none }) rfl (fun K hK => ?_) ?_
    ·
      go_simp
      have M68 : Hid (Two9 A (V0.alloc (.cells #[(.slice va vn vc)] 33)) P m n n (.slice ta n tc) (.slice ea n ec) (.slice ta n tc) (.slice ea n ec) tvals evals x y z) := M0.out.none (gb_none (ba _ _))
      have C69 : Hid (∀ j u, [(.slice va vn vc)][j]? = some u → (V0.alloc (.cells #[(.slice va vn vc)] 33)).cell? ((⟨V0.heap.size, 0, none⟩ : Addr).add j) = some u) := one_cells _ _ _ _ rfl
      refine hK.out _ _ (fun _ => M68.out.bx) ?_
      clear hK K
      try simp only [Act.put, List.setIfInBounds_toArray, List.set_cons_zero, List.set_cons_succ]
      obtain ⟨B70, hB70⟩ : ∃ B70 : Nat, B70 = V0.heap.size := ⟨_, rfl⟩
      obtain ⟨W67, hW67⟩ : ∃ W67, W67 = (V0.alloc (.cells #[(.slice va vn vc)] 33)) := ⟨_, rfl⟩
      have sW67 : Hid (W67.heap.size = V0.heap.size + 1) := by rw [Hid, hW67]; simp
      rw [← hW67, ← hB70] at C69 ⊢
      rw [← hW67] at M68
      clear hW67
      have lB70 : A.heap.size ≤ B70 ∧ B70 < W67.heap.size := by rw [hB70]; have := M0.out.k.size; have := sW67.out; omega
      clear hB70
      refine wpAnyJ_ready (rs := [4, 8]) (by kernel_rfl) (by simp) ?_
      refine AllJ.cons (o := { dst := some 47, op := Op.call { callee := Callee.builtin Builtin.append, args := #[Operand.tmp 44, Operand.tmp 46], argTypes := #[25, 25] }, type := 25, pos := "tree.go:25", after := #[{ on := 1, ground := Ground.data }, { on := 3, ground := Ground.data }], guard := none }) rfl (fun K hK => ?_) ?_
      ·
        refine step_append_lies _ rfl _ _ 25 rfl m 33 i33 (.slice none 0 0) 1 24 Tryd.underlying25 hi33 hq0 hq1 hq2 rfl (by decide) (.slice ta n tc) n tvals rfl M68.out.t ⟨B70, 0, none⟩ 1 1 [(.slice va vn vc)] rfl rfl C69.out ?_ (by decide) (by unfold maxLen; omega) (by omega) (by have := M68.out.k.size; omega) W67.heap.size rfl ?_
        · intro z hz; simp at hz; subst hz; rfl
        intro g73 c74 W71 ho75 hg76 ha77 hl78
        have M72 : Hid (Two9 A W71 P m (n + 1) n (.slice ta n tc) (.slice ea n ec) (.slice (some ⟨g73, 0, none⟩) (n + 1) c74) (.slice ea n ec) (tvals ++ [(.slice va vn vc)]) evals x y z) := M68.out.told hg76 ho75 ha77 hP HTL.out HEL.out
        refine hK.out _ _ (fun _ => M72.out.bx) ?_
        clear hK K ho75 ha77 hl78 hg76
        try simp only [Act.put, List.setIfInBounds_toArray, List.set_cons_zero, List.set_cons_succ]
        refine wpAnyJ_take (i := 10) (oi := { dst := some 53, op := Op.fieldAddr 28 (Operand.tmp 14) 0, type := 0, pos := "tree.go:25", after := #[{ on := 0, ground := Ground.phase }, { on := 1, ground := Ground.phase }, { on := 2, ground := Ground.phase }, { on := 3, ground := Ground.phase }, { on := 4, ground := Ground.phase }, { on := 5, ground := Ground.phase }, { on := 6, ground := Ground.phase }, { on := 7, ground := Ground.textOnly Departure.lateStores }, { on := 8, ground := Ground.textOnly Departure.lateStores }, { on := 9, ground := Ground.textOnly Departure.lateStoresUnsure }], guard := none }) (v := .pointer (some ⟨P, 0, none⟩)) rfl rfl (waits_of (by kernel_rfl)) (by kernel_rfl) (by kernel_rfl) (by kernel_rfl) (fun _ _ _ h => hQp _ _ _ _ h) (Or.inl ⟨by rfl, fun W hS => ?_⟩) M72.out.bx ?_
        · go_simp
        simp only [Act.put, List.setIfInBounds_toArray, List.set_cons_zero, List.set_cons_succ]
        refine wpAnyJ_ready (rs := [8]) (by kernel_rfl) (by simp) ?_
        refine AllJ.cons (o := { dst := some 51, op := Op.buildSlice 26 1 #[(0, Operand.tmp 50)], type := 26, pos := "tree.go:25", after := #[{ on := 7, ground := Ground.data }], guard := none }) rfl (fun K hK => ?_) ?_
        ·
          go_simp
          have M80 : Hid (Two9 A (W71.alloc (.cells #[(.int .i64 er)] 29)) P m (n + 1) n (.slice ta n tc) (.slice ea n ec) (.slice (some ⟨g73, 0, none⟩) (n + 1) c74) (.slice ea n ec) (tvals ++ [(.slice va vn vc)]) evals x y z) := M72.out.none (gb_none (ba _ _))
          have C81 : Hid (∀ j u, [(.int .i64 er)][j]? = some u → (W71.alloc (.cells #[(.int .i64 er)] 29)).cell? ((⟨W71.heap.size, 0, none⟩ : Addr).add j) = some u) := one_cells _ _ _ _ rfl
          refine hK.out _ _ (fun _ => M80.out.bx) ?_
          clear hK K
          try simp only [Act.put, List.setIfInBounds_toArray, List.set_cons_zero, List.set_cons_succ]
          obtain ⟨B82, hB82⟩ : ∃ B82 : Nat, B82 = W71.heap.size := ⟨_, rfl⟩
          obtain ⟨W79, hW79⟩ : ∃ W79, W79 = (W71.alloc (.cells #[(.int .i64 er)] 29)) := ⟨_, rfl⟩
          have sW79 : Hid (W79.heap.size = W71.heap.size + 1) := by rw [Hid, hW79]; simp
          rw [← hW79, ← hB82] at C81 ⊢
          rw [← hW79] at M80
          clear hW79
          have lB82 : A.heap.size ≤ B82 ∧ B82 < W79.heap.size := by rw [hB82]; have := M72.out.k.size; have := sW79.out; omega
          clear hB82
          refine wpAnyJ_ready (rs := [9]) (by kernel_rfl) (by simp) ?_
          refine AllJ.cons (o := { dst := some 52, op := Op.call { callee := Callee.builtin Builtin.append, args := #[Operand.tmp 49, Operand.tmp 51], argTypes := #[26, 26] }, type := 26, pos := "tree.go:25", after := #[{ on := 6, ground := Ground.data }, { on := 8, ground := Ground.data }, { on := 4, ground := Ground.chain }], guard := none }) rfl (fun K hK => ?_) ?_
          ·
            refine step_append_lies _ rfl _ _ 26 rfl m 29 i29 (.int .i64 0) 1 8 Tryd.underlying26 hi29 hr0 hr1 hr2 rfl (by decide) (.slice ea n ec) n evals rfl M80.out.e ⟨B82, 0, none⟩ 1 1 [(.int .i64 er)] rfl rfl C81.out ?_ (by decide) (by unfold maxLen; omega) (by omega) (by have := M80.out.k.size; omega) W79.heap.size rfl ?_
            · intro z hz; simp at hz; subst hz; rfl
            intro g85 c86 W83 ho87 hg88 ha89 hl90
            have M84 : Hid (Two9 A W83 P m (n + 1) (n + 1) (.slice ta n tc) (.slice ea n ec) (.slice (some ⟨g73, 0, none⟩) (n + 1) c74) (.slice (some ⟨g85, 0, none⟩) (n + 1) c86) (tvals ++ [(.slice va vn vc)]) (evals ++ [.int .i64 er]) x y z) := M80.out.errs hg88 ho87 ha89 hP HTL.out HEL.out
            refine hK.out _ _ (fun _ => M84.out.bx) ?_
            clear hK K ho87 ha89 hl90 hg88
            try simp only [Act.put, List.setIfInBounds_toArray, List.set_cons_zero, List.set_cons_succ]
            have z3 := M84.out.bx.c0
            have z4 := M84.out.bx.c1
            have y3 := M84.out.bx.f0
            have y4 := M84.out.bx.f1
            refine wpAnyJ_ready (rs := [11]) (by kernel_rfl) (by simp) ?_
            refine AllJ.cons (o := { dst := none, op := Op.store 25 (Operand.tmp 53) (Operand.tmp 47), type := 0, pos := "tree.go:25", after := #[{ on := 10, ground := Ground.data }, { on := 4, ground := Ground.data }, { on := 9, ground := Ground.chain }, { on := 0, ground := Ground.phase }, { on := 1, ground := Ground.phase }, { on := 2, ground := Ground.phase }, { on := 3, ground := Ground.phase }, { on := 4, ground := Ground.phase }, { on := 5, ground := Ground.phase }, { on := 6, ground := Ground.phase }, { on := 7, ground := Ground.textOnly Departure.lateStores }, { on := 8, ground := Ground.textOnly Departure.lateStores }, { on := 9, ground := Ground.textOnly Departure.lateStoresUnsure }], guard := none }) rfl (fun K hK => ?_) AllJ.nil
            go_simp
            refine hK.out _ _ (fun h => by simp at h) ?_
            clear hK K
            try simp only [Act.put, List.setIfInBounds_toArray, List.set_cons_zero, List.set_cons_succ]
            refine wpAnyJ_ready (rs := [12]) (by kernel_rfl) (by simp) ?_
            refine AllJ.cons (o := { dst := some 54, op := Op.fieldAddr 28 (Operand.tmp 14) 1, type := 0, pos := "tree.go:25", after := #[{ on := 0, ground := Ground.phase }, { on := 1, ground := Ground.phase }, { on := 2, ground := Ground.phase }, { on := 3, ground := Ground.phase }, { on := 4, ground := Ground.phase }, { on := 5, ground := Ground.phase }, { on := 6, ground := Ground.phase }, { on := 7, ground := Ground.phase }, { on := 8, ground := Ground.phase }, { on := 9, ground := Ground.phase }, { on := 10, ground := Ground.phase }, { on := 11, ground := Ground.phase }], guard := none }) rfl (fun K hK => ?_) AllJ.nil
            go_simp
            refine hK.out _ _ (fun h => by simp at h) ?_
            clear hK K
            try simp only [Act.put, List.setIfInBounds_toArray, List.set_cons_zero, List.set_cons_succ]
            refine wpAnyJ_ready (rs := [13]) (by kernel_rfl) (by simp) ?_
            refine AllJ.cons (o := { dst := none, op := Op.store 26 (Operand.tmp 54) (Operand.tmp 52), type := 0, pos := "tree.go:25", after := #[{ on := 12, ground := Ground.data }, { on := 9, ground := Ground.data }, { on := 11, ground := Ground.chain }, { on := 0, ground := Ground.phase }, { on := 1, ground := Ground.phase }, { on := 2, ground := Ground.phase }, { on := 3, ground := Ground.phase }, { on := 4, ground := Ground.phase }, { on := 5, ground := Ground.phase }, { on := 6, ground := Ground.phase }, { on := 7, ground := Ground.phase }, { on := 8, ground := Ground.phase }, { on := 9, ground := Ground.phase }, { on := 10, ground := Ground.phase }, { on := 11, ground := Ground.phase }], guard := none }) rfl (fun K hK => ?_) AllJ.nil
            go_simp
            refine hK.out _ _ (fun h => by simp at h) ?_
            clear hK K
            try simp only [Act.put, List.setIfInBounds_toArray, List.set_cons_zero, List.set_cons_succ]
            exact wpAnyJ_done (by kernel_rfl) (HEND.out _ _ _ _ _ M84.out) _
          exact AllJ.nil
        exact AllJ.nil
      refine AllJ.cons (o := { dst := some 51, op := Op.buildSlice 26 1 #[(0, Operand.tmp 50)], type := 26, pos := "tree.go:25", after := #[{ on := 7, ground := Ground.data }], guard := none }) rfl (fun K hK => ?_) ?_
      ·
        go_simp
        have M92 : Hid (Two9 A (W67.alloc (.cells #[(.int .i64 er)] 29)) P m n n (.slice ta n tc) (.slice ea n ec) (.slice ta n tc) (.slice ea n ec) tvals evals x y z) := M68.out.none (gb_none (ba _ _))
        have C93 : Hid (∀ j u, [(.int .i64 er)][j]? = some u → (W67.alloc (.cells #[(.int .i64 er)] 29)).cell? ((⟨W67.heap.size, 0, none⟩ : Addr).add j) = some u) := one_cells _ _ _ _ rfl
        have C95 : Hid (∀ j u, [(.slice va vn vc)][j]? = some u → (W67.alloc (.cells #[(.int .i64 er)] 29)).cell? ((⟨B70, 0, none⟩ : Addr).add j) = some u) := fun j u hj => by rw [Addr.add_lit, World.cell?_alloc_lt _ _ _ (by exact lB70.2), ← Addr.add_lit]; exact C69.out j u hj
        refine hK.out _ _ (fun _ => M92.out.bx) ?_
        clear hK K
        try simp only [Act.put, List.setIfInBounds_toArray, List.set_cons_zero, List.set_cons_succ]
        obtain ⟨B94, hB94⟩ : ∃ B94 : Nat, B94 = W67.heap.size := ⟨_, rfl⟩
        obtain ⟨W91, hW91⟩ : ∃ W91, W91 = (W67.alloc (.cells #[(.int .i64 er)] 29)) := ⟨_, rfl⟩
        have sW91 : Hid (W91.heap.size = W67.heap.size + 1) := by rw [Hid, hW91]; simp
        rw [← hW91, ← hB94] at C93 ⊢
        rw [← hW91] at M92 C95
        clear hW91
        have lB94 : A.heap.size ≤ B94 ∧ B94 < W91.heap.size := by rw [hB94]; have := M68.out.k.size; have := sW91.out; omega
        have lB70 : A.heap.size ≤ B70 ∧ B70 < W91.heap.size := by have := sW91.out; omega
        clear hB94
        refine wpAnyJ_ready (rs := [4]) (by kernel_rfl) (by simp) ?_
        refine AllJ.cons (o := { dst := some 47, op := Op.call { callee := Callee.builtin Builtin.append, args := #[Operand.tmp 44, Operand.tmp 46], argTypes := #[25, 25] }, type := 25, pos := "tree.go:25", after := #[{ on := 1, ground := Ground.data }, { on := 3, ground := Ground.data }], guard := none }) rfl (fun K hK => ?_) ?_
        ·
          refine step_append_lies _ rfl _ _ 25 rfl m 33 i33 (.slice none 0 0) 1 24 Tryd.underlying25 hi33 hq0 hq1 hq2 rfl (by decide) (.slice ta n tc) n tvals rfl M92.out.t ⟨B70, 0, none⟩ 1 1 [(.slice va vn vc)] rfl rfl C95.out ?_ (by decide) (by unfold maxLen; omega) (by omega) (by have := M92.out.k.size; omega) W91.heap.size rfl ?_
          · intro z hz; simp at hz; subst hz; rfl
          intro g98 c99 W96 ho100 hg101 ha102 hl103
          have M97 : Hid (Two9 A W96 P m (n + 1) n (.slice ta n tc) (.slice ea n ec) (.slice (some ⟨g98, 0, none⟩) (n + 1) c99) (.slice ea n ec) (tvals ++ [(.slice va vn vc)]) evals x y z) := M92.out.told hg101 ho100 ha102 hP HTL.out HEL.out
          have C104 : Hid (∀ j u, [(.int .i64 er : Value)][j]? = some u → W96.cell? ((⟨B94, 0, none⟩ : Addr).add j) = some u) := fun j u hj => by have h0 := C93.out j u hj; rw [Addr.add_lit] at h0 ⊢; exact hg101.cell h0 (fun e => by have h1 := (HTL.out _ e.symm).2; have h2 := lB94.1; exact absurd h1 (Nat.not_lt_of_le h2))
          have lB94 : A.heap.size ≤ B94 ∧ B94 < W96.heap.size := ⟨lB94.1, Nat.lt_of_lt_of_le lB94.2 hg101.size⟩
          refine hK.out _ _ (fun _ => M97.out.bx) ?_
          clear hK K ho100 ha102 hl103 hg101
          try simp only [Act.put, List.setIfInBounds_toArray, List.set_cons_zero, List.set_cons_succ]
          refine wpAnyJ_take (i := 10) (oi := { dst := some 53, op := Op.fieldAddr 28 (Operand.tmp 14) 0, type := 0, pos := "tree.go:25", after := #[{ on := 0, ground := Ground.phase }, { on := 1, ground := Ground.phase }, { on := 2, ground := Ground.phase }, { on := 3, ground := Ground.phase }, { on := 4, ground := Ground.phase }, { on := 5, ground := Ground.phase }, { on := 6, ground := Ground.phase }, { on := 7, ground := Ground.textOnly Departure.lateStores }, { on := 8, ground := Ground.textOnly Departure.lateStores }, { on := 9, ground := Ground.textOnly Departure.lateStoresUnsure }], guard := none }) (v := .pointer (some ⟨P, 0, none⟩)) rfl rfl (waits_of (by kernel_rfl)) (by kernel_rfl) (by kernel_rfl) (by kernel_rfl) (fun _ _ _ h => hQp _ _ _ _ h) (Or.inl ⟨by rfl, fun W hS => ?_⟩) M97.out.bx ?_
          · go_simp
          simp only [Act.put, List.setIfInBounds_toArray, List.set_cons_zero, List.set_cons_succ]
          refine wpAnyJ_ready (rs := [9]) (by kernel_rfl) (by simp) ?_
          refine AllJ.cons (o := { dst := some 52, op := Op.call { callee := Callee.builtin Builtin.append, args := #[Operand.tmp 49, Operand.tmp 51], argTypes := #[26, 26] }, type := 26, pos := "tree.go:25", after := #[{ on := 6, ground := Ground.data }, { on := 8, ground := Ground.data }, { on := 4, ground := Ground.chain }], guard := none }) rfl (fun K hK => ?_) ?_
          ·
            refine step_append_lies _ rfl _ _ 26 rfl m 29 i29 (.int .i64 0) 1 8 Tryd.underlying26 hi29 hr0 hr1 hr2 rfl (by decide) (.slice ea n ec) n evals rfl M97.out.e ⟨B94, 0, none⟩ 1 1 [(.int .i64 er)] rfl rfl C104.out ?_ (by decide) (by unfold maxLen; omega) (by omega) (by have := M97.out.k.size; omega) W96.heap.size rfl ?_
            · intro z hz; simp at hz; subst hz; rfl
            intro g107 c108 W105 ho109 hg110 ha111 hl112
            have M106 : Hid (Two9 A W105 P m (n + 1) (n + 1) (.slice ta n tc) (.slice ea n ec) (.slice (some ⟨g98, 0, none⟩) (n + 1) c99) (.slice (some ⟨g107, 0, none⟩) (n + 1) c108) (tvals ++ [(.slice va vn vc)]) (evals ++ [.int .i64 er]) x y z) := M97.out.errs hg110 ho109 ha111 hP HTL.out HEL.out
            refine hK.out _ _ (fun _ => M106.out.bx) ?_
            clear hK K ho109 ha111 hl112 hg110
            try simp only [Act.put, List.setIfInBounds_toArray, List.set_cons_zero, List.set_cons_succ]
            have z3 := M106.out.bx.c0
            have z4 := M106.out.bx.c1
            have y3 := M106.out.bx.f0
            have y4 := M106.out.bx.f1
            refine wpAnyJ_ready (rs := [11]) (by kernel_rfl) (by simp) ?_
            refine AllJ.cons (o := { dst := none, op := Op.store 25 (Operand.tmp 53) (Operand.tmp 47), type := 0, pos := "tree.go:25", after := #[{ on := 10, ground := Ground.data }, { on := 4, ground := Ground.data }, { on := 9, ground := Ground.chain }, { on := 0, ground := Ground.phase }, { on := 1, ground := Ground.phase }, { on := 2, ground := Ground.phase }, { on := 3, ground := Ground.phase }, { on := 4, ground := Ground.phase }, { on := 5, ground := Ground.phase }, { on := 6, ground := Ground.phase }, { on := 7, ground := Ground.textOnly Departure.lateStores }, { on := 8, ground := Ground.textOnly Departure.lateStores }, { on := 9, ground := Ground.textOnly Departure.lateStoresUnsure }], guard := none }) rfl (fun K hK => ?_) AllJ.nil
            go_simp
            refine hK.out _ _ (fun h => by simp at h) ?_
            clear hK K
            try simp only [Act.put, List.setIfInBounds_toArray, List.set_cons_zero, List.set_cons_succ]
            refine wpAnyJ_ready (rs := [12]) (by kernel_rfl) (by simp) ?_
            refine AllJ.cons (o := { dst := some 54, op := Op.fieldAddr 28 (Operand.tmp 14) 1, type := 0, pos := "tree.go:25", after := #[{ on := 0, ground := Ground.phase }, { on := 1, ground := Ground.phase }, { on := 2, ground := Ground.phase }, { on := 3, ground := Ground.phase }, { on := 4, ground := Ground.phase }, { on := 5, ground := Ground.phase }, { on := 6, ground := Ground.phase }, { on := 7, ground := Ground.phase }, { on := 8, ground := Ground.phase }, { on := 9, ground := Ground.phase }, { on := 10, ground := Ground.phase }, { on := 11, ground := Ground.phase }], guard := none }) rfl (fun K hK => ?_) AllJ.nil
            go_simp
            refine hK.out _ _ (fun h => by simp at h) ?_
            clear hK K
            try simp only [Act.put, List.setIfInBounds_toArray, List.set_cons_zero, List.set_cons_succ]
            refine wpAnyJ_ready (rs := [13]) (by kernel_rfl) (by simp) ?_
            refine AllJ.cons (o := { dst := none, op := Op.store 26 (Operand.tmp 54) (Operand.tmp 52), type := 0, pos := "tree.go:25", after := #[{ on := 12, ground := Ground.data }, { on := 9, ground := Ground.data }, { on := 11, ground := Ground.chain }, { on := 0, ground := Ground.phase }, { on := 1, ground := Ground.phase }, { on := 2, ground := Ground.phase }, { on := 3, ground := Ground.phase }, { on := 4, ground := Ground.phase }, { on := 5, ground := Ground.phase }, { on := 6, ground := Ground.phase }, { on := 7, ground := Ground.phase }, { on := 8, ground := Ground.phase }, { on := 9, ground := Ground.phase }, { on := 10, ground := Ground.phase }, { on := 11, ground := Ground.phase }], guard := none }) rfl (fun K hK => ?_) AllJ.nil
            go_simp
            refine hK.out _ _ (fun h => by simp at h) ?_
            clear hK K
            try simp only [Act.put, List.setIfInBounds_toArray, List.set_cons_zero, List.set_cons_succ]
            exact wpAnyJ_done (by kernel_rfl) (HEND.out _ _ _ _ _ M106.out) _
          exact AllJ.nil
        exact AllJ.nil
      exact AllJ.nil
    refine AllJ.cons (o := { dst := some 51, op := Op.buildSlice 26 1 #[(0, Operand.tmp 50)], type := 26, pos := "tree.go:25", after := #[{ on := 7, ground := Ground.data }], guard := none }) rfl (fun K hK => ?_) ?_
    ·
      go_simp
      have M114 : Hid (Two9 A (V0.alloc (.cells #[(.int .i64 er)] 29)) P m n n (.slice ta n tc) (.slice ea n ec) (.slice ta n tc) (.slice ea n ec) tvals evals x y z) := M0.out.none (gb_none (ba _ _))
      have C115 : Hid (∀ j u, [(.int .i64 er)][j]? = some u → (V0.alloc (.cells #[(.int .i64 er)] 29)).cell? ((⟨V0.heap.size, 0, none⟩ : Addr).add j) = some u) := one_cells _ _ _ _ rfl
      refine hK.out _ _ (fun _ => M114.out.bx) ?_
      clear hK K
      try simp only [Act.put, List.setIfInBounds_toArray, List.set_cons_zero, List.set_cons_succ]
      obtain ⟨B116, hB116⟩ : ∃ B116 : Nat, B116 = V0.heap.size := ⟨_, rfl⟩
      obtain ⟨W113, hW113⟩ : ∃ W113, W113 = (V0.alloc (.cells #[(.int .i64 er)] 29)) := ⟨_, rfl⟩
      have sW113 : Hid (W113.heap.size = V0.heap.size + 1) := by rw [Hid, hW113]; simp
      rw [← hW113, ← hB116] at C115 ⊢
      rw [← hW113] at M114
      clear hW113
      have lB116 : A.heap.size ≤ B116 ∧ B116 < W113.heap.size := by rw [hB116]; have := M0.out.k.size; have := sW113.out; omega
      clear hB116
      refine wpAnyJ_ready (rs := [3]) (by kernel_rfl) (by simp) ?_
      refine AllJ.cons (o := { dst := some 46, op := Op.buildSlice 25 1 #[(0, Operand.tmp 45)], type := 25, pos := "tree.go:25", after := #[{ on := 2, ground := Ground.data }], guard := none }) rfl (fun K hK => ?_) ?_
      ·
        go_simp
        have M118 : Hid (Two9 A (W113.alloc (.cells #[(.slice va vn vc)] 33)) P m n n (.slice ta n tc) (.slice ea n ec) (.slice ta n tc) (.slice ea n ec) tvals evals x y z) := M114.out.none (gb_none (ba _ _))
        have C119 : Hid (∀ j u, [(.slice va vn vc)][j]? = some u → (W113.alloc (.cells #[(.slice va vn vc)] 33)).cell? ((⟨W113.heap.size, 0, none⟩ : Addr).add j) = some u) := one_cells _ _ _ _ rfl
        have C121 : Hid (∀ j u, [(.int .i64 er)][j]? = some u → (W113.alloc (.cells #[(.slice va vn vc)] 33)).cell? ((⟨B116, 0, none⟩ : Addr).add j) = some u) := fun j u hj => by rw [Addr.add_lit, World.cell?_alloc_lt _ _ _ (by exact lB116.2), ← Addr.add_lit]; exact C115.out j u hj
        refine hK.out _ _ (fun _ => M118.out.bx) ?_
        clear hK K
        try simp only [Act.put, List.setIfInBounds_toArray, List.set_cons_zero, List.set_cons_succ]
        obtain ⟨B120, hB120⟩ : ∃ B120 : Nat, B120 = W113.heap.size := ⟨_, rfl⟩
        obtain ⟨W117, hW117⟩ : ∃ W117, W117 = (W113.alloc (.cells #[(.slice va vn vc)] 33)) := ⟨_, rfl⟩
        have sW117 : Hid (W117.heap.size = W113.heap.size + 1) := by rw [Hid, hW117]; simp
        rw [← hW117, ← hB120] at C119 ⊢
        rw [← hW117] at M118 C121
        clear hW117
        have lB120 : A.heap.size ≤ B120 ∧ B120 < W117.heap.size := by rw [hB120]; have := M114.out.k.size; have := sW117.out; omega
        have lB116 : A.heap.size ≤ B116 ∧ B116 < W117.heap.size := by have := sW117.out; omega
        clear hB120
        refine wpAnyJ_ready (rs := [4]) (by kernel_rfl) (by simp) ?_
        refine AllJ.cons (o := { dst := some 47, op := Op.call { callee := Callee.builtin Builtin.append, args := #[Operand.tmp 44, Operand.tmp 46], argTypes := #[25, 25] }, type := 25, pos := "tree.go:25", after := #[{ on := 1, ground := Ground.data }, { on := 3, ground := Ground.data }], guard := none }) rfl (fun K hK => ?_) ?_
        ·
          refine step_append_lies _ rfl _ _ 25 rfl m 33 i33 (.slice none 0 0) 1 24 Tryd.underlying25 hi33 hq0 hq1 hq2 rfl (by decide) (.slice ta n tc) n tvals rfl M118.out.t ⟨B120, 0, none⟩ 1 1 [(.slice va vn vc)] rfl rfl C119.out ?_ (by decide) (by unfold maxLen; omega) (by omega) (by have := M118.out.k.size; omega) W117.heap.size rfl ?_
          · intro z hz; simp at hz; subst hz; rfl
          intro g124 c125 W122 ho126 hg127 ha128 hl129
          have M123 : Hid (Two9 A W122 P m (n + 1) n (.slice ta n tc) (.slice ea n ec) (.slice (some ⟨g124, 0, none⟩) (n + 1) c125) (.slice ea n ec) (tvals ++ [(.slice va vn vc)]) evals x y z) := M118.out.told hg127 ho126 ha128 hP HTL.out HEL.out
          have C130 : Hid (∀ j u, [(.int .i64 er : Value)][j]? = some u → W122.cell? ((⟨B116, 0, none⟩ : Addr).add j) = some u) := fun j u hj => by have h0 := C121.out j u hj; rw [Addr.add_lit] at h0 ⊢; exact hg127.cell h0 (fun e => by have h1 := (HTL.out _ e.symm).2; have h2 := lB116.1; exact absurd h1 (Nat.not_lt_of_le h2))
          have lB116 : A.heap.size ≤ B116 ∧ B116 < W122.heap.size := ⟨lB116.1, Nat.lt_of_lt_of_le lB116.2 hg127.size⟩
          refine hK.out _ _ (fun _ => M123.out.bx) ?_
          clear hK K ho126 ha128 hl129 hg127
          try simp only [Act.put, List.setIfInBounds_toArray, List.set_cons_zero, List.set_cons_succ]
          refine wpAnyJ_take (i := 10) (oi := { dst := some 53, op := Op.fieldAddr 28 (Operand.tmp 14) 0, type := 0, pos := "tree.go:25", after := #[{ on := 0, ground := Ground.phase }, { on := 1, ground := Ground.phase }, { on := 2, ground := Ground.phase }, { on := 3, ground := Ground.phase }, { on := 4, ground := Ground.phase }, { on := 5, ground := Ground.phase }, { on := 6, ground := Ground.phase }, { on := 7, ground := Ground.textOnly Departure.lateStores }, { on := 8, ground := Ground.textOnly Departure.lateStores }, { on := 9, ground := Ground.textOnly Departure.lateStoresUnsure }], guard := none }) (v := .pointer (some ⟨P, 0, none⟩)) rfl rfl (waits_of (by kernel_rfl)) (by kernel_rfl) (by kernel_rfl) (by kernel_rfl) (fun _ _ _ h => hQp _ _ _ _ h) (Or.inl ⟨by rfl, fun W hS => ?_⟩) M123.out.bx ?_
          · go_simp
          simp only [Act.put, List.setIfInBounds_toArray, List.set_cons_zero, List.set_cons_succ]
          refine wpAnyJ_ready (rs := [9]) (by kernel_rfl) (by simp) ?_
          refine AllJ.cons (o := { dst := some 52, op := Op.call { callee := Callee.builtin Builtin.append, args := #[Operand.tmp 49, Operand.tmp 51], argTypes := #[26, 26] }, type := 26, pos := "tree.go:25", after := #[{ on := 6, ground := Ground.data }, { on := 8, ground := Ground.data }, { on := 4, ground := Ground.chain }], guard := none }) rfl (fun K hK => ?_) ?_
          ·
            refine step_append_lies _ rfl _ _ 26 rfl m 29 i29 (.int .i64 0) 1 8 Tryd.underlying26 hi29 hr0 hr1 hr2 rfl (by decide) (.slice ea n ec) n evals rfl M123.out.e ⟨B116, 0, none⟩ 1 1 [(.int .i64 er)] rfl rfl C130.out ?_ (by decide) (by unfold maxLen; omega) (by omega) (by have := M123.out.k.size; omega) W122.heap.size rfl ?_
            · intro z hz; simp at hz; subst hz; rfl
            intro g133 c134 W131 ho135 hg136 ha137 hl138
            have M132 : Hid (Two9 A W131 P m (n + 1) (n + 1) (.slice ta n tc) (.slice ea n ec) (.slice (some ⟨g124, 0, none⟩) (n + 1) c125) (.slice (some ⟨g133, 0, none⟩) (n + 1) c134) (tvals ++ [(.slice va vn vc)]) (evals ++ [.int .i64 er]) x y z) := M123.out.errs hg136 ho135 ha137 hP HTL.out HEL.out
            refine hK.out _ _ (fun _ => M132.out.bx) ?_
            clear hK K ho135 ha137 hl138 hg136
            try simp only [Act.put, List.setIfInBounds_toArray, List.set_cons_zero, List.set_cons_succ]
            have z3 := M132.out.bx.c0
            have z4 := M132.out.bx.c1
            have y3 := M132.out.bx.f0
            have y4 := M132.out.bx.f1
            refine wpAnyJ_ready (rs := [11]) (by kernel_rfl) (by simp) ?_
            refine AllJ.cons (o := { dst := none, op := Op.store 25 (Operand.tmp 53) (Operand.tmp 47), type := 0, pos := "tree.go:25", after := #[{ on := 10, ground := Ground.data }, { on := 4, ground := Ground.data }, { on := 9, ground := Ground.chain }, { on := 0, ground := Ground.phase }, { on := 1, ground := Ground.phase }, { on := 2, ground := Ground.phase }, { on := 3, ground := Ground.phase }, { on := 4, ground := Ground.phase }, { on := 5, ground := Ground.phase }, { on := 6, ground := Ground.phase }, { on := 7, ground := Ground.textOnly Departure.lateStores }, { on := 8, ground := Ground.textOnly Departure.lateStores }, { on := 9, ground := Ground.textOnly Departure.lateStoresUnsure }], guard := none }) rfl (fun K hK => ?_) AllJ.nil
            go_simp
            refine hK.out _ _ (fun h => by simp at h) ?_
            clear hK K
            try simp only [Act.put, List.setIfInBounds_toArray, List.set_cons_zero, List.set_cons_succ]
            refine wpAnyJ_ready (rs := [12]) (by kernel_rfl) (by simp) ?_
            refine AllJ.cons (o := { dst := some 54, op := Op.fieldAddr 28 (Operand.tmp 14) 1, type := 0, pos := "tree.go:25", after := #[{ on := 0, ground := Ground.phase }, { on := 1, ground := Ground.phase }, { on := 2, ground := Ground.phase }, { on := 3, ground := Ground.phase }, { on := 4, ground := Ground.phase }, { on := 5, ground := Ground.phase }, { on := 6, ground := Ground.phase }, { on := 7, ground := Ground.phase }, { on := 8, ground := Ground.phase }, { on := 9, ground := Ground.phase }, { on := 10, ground := Ground.phase }, { on := 11, ground := Ground.phase }], guard := none }) rfl (fun K hK => ?_) AllJ.nil
            go_simp
            refine hK.out _ _ (fun h => by simp at h) ?_
            clear hK K
            try simp only [Act.put, List.setIfInBounds_toArray, List.set_cons_zero, List.set_cons_succ]
            refine wpAnyJ_ready (rs := [13]) (by kernel_rfl) (by simp) ?_
            refine AllJ.cons (o := { dst := none, op := Op.store 26 (Operand.tmp 54) (Operand.tmp 52), type := 0, pos := "tree.go:25", after := #[{ on := 12, ground := Ground.data }, { on := 9, ground := Ground.data }, { on := 11, ground := Ground.chain }, { on := 0, ground := Ground.phase }, { on := 1, ground := Ground.phase }, { on := 2, ground := Ground.phase }, { on := 3, ground := Ground.phase }, { on := 4, ground := Ground.phase }, { on := 5, ground := Ground.phase }, { on := 6, ground := Ground.phase }, { on := 7, ground := Ground.phase }, { on := 8, ground := Ground.phase }, { on := 9, ground := Ground.phase }, { on := 10, ground := Ground.phase }, { on := 11, ground := Ground.phase }], guard := none }) rfl (fun K hK => ?_) AllJ.nil
            go_simp
            refine hK.out _ _ (fun h => by simp at h) ?_
            clear hK K
            try simp only [Act.put, List.setIfInBounds_toArray, List.set_cons_zero, List.set_cons_succ]
            exact wpAnyJ_done (by kernel_rfl) (HEND.out _ _ _ _ _ M132.out) _
          exact AllJ.nil
        exact AllJ.nil
      exact AllJ.nil
    exact AllJ.nil
  exact AllJ.nil
end Go.Proofs.YtjembpcpefgdpaaDoor

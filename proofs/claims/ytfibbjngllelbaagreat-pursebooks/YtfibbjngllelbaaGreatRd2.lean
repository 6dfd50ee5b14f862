import Derived.Test.YtfibbjngllelbaaGreatRd1
import Derived.Test.YtfibbjngllelbaaGreatPbr
namespace Go.Proofs.YtfibbjngllelbaaGreat
open Go.RowKit Go.Shelf Go.Proofs.YtfibbjngllelbaaGreat.Ds

set_option maxRecDepth 100000 in
set_option maxHeartbeats 8000000 in
theorem region24 {Q : Exit → Act → World → Prop} (hQp : ∀ c a d v w, Q (.panic c) (Act.put a d v) w → Q (.panic c) a w) (t1 t2 t4 t5 t6 t7 t8 t9 t10 t11 t12 t13 t14 t15 t16 t17 t18 t19 t20 t21 t22 t23 t24 t25 t26 t27 t28 t29 t30 t31 t32 t33 t34 t35 t36 t37 t38 t39 t40 t41 t42 t43 t44 t45 t46 t47 t48 t49 t50 t51 t52 t53 t54 t55 t56 t57 t58 t59 t60 t61 t62 t63 t64 t65 t66 t67 t68 t69 t70 t71 t72 t73 t74 t75 t76 t77 t78 t79 t80 t81 t82 t83 t84 t85 t86 t87 t88 t89 t90 t91 t92 t93 t94 t95 t96 : Value) (A : World) (B eb c : Nat) (a : Option Addr) (l : List En) (d : Int) (nm : ByteArray) (p u v : Int)
    (hsm : l.length < 4096) (hB : B ≤ A.heap.size) (hx : Ents A B (.slice a l.length c) l) (hnm : nm.size ≤ 9223372036854775807) (hV : FivB A eb (.int .i64 d) (.string nm) (.int .i64 p) (.int .i64 u) (.int .i64 v)) (sq : Rq) (se : Int) (hsq : spentT (l ++ [(d, nm, p, u, v)]) nm = (sq, se)) (hok : ∀ e ∈ l ++ [(d, nm, p, u, v)], OkR e.2.2.2)
    (hEnd : ∀ (u78 u79 u80 u81 u82 u83 u84 u85 u86 u87 u88 u89 : Value) (b8 : Nat) (Wf : World), A.heap.size ≤ b8 → TwoB Wf b8 (.int .i64 sq.1) (.int .i64 sq.2) → A.grownBy Wf none → Q .normal { tmps := #[.slice a l.length c, t1, t2, .pointer (some ⟨eb, 0, none⟩), t4, t5, t6, t7, .pointer (some ⟨b8, 0, none⟩), .int .i64 se, t10, t11, t12, t13, t14, t15, t16, t17, t18, t19, t20, t21, t22, t23, t24, t25, t26, t27, t28, t29, t30, t31, t32, t33, t34, t35, t36, t37, t38, t39, t40, t41, t42, t43, t44, t45, t46, t47, t48, t49, t50, t51, t52, t53, t54, t55, t56, t57, t58, t59, t60, t61, t62, t63, t64, t65, t66, t67, t68, t69, t70, t71, t72, t73, t74, t75, t76, t77, u78, u79, u80, u81, u82, u83, u84, u85, u86, u87, u88, u89, t90, t91, t92, t93, t94, t95, t96], defers := [] } Wf) :
    (Code.region 24 #[{ dst := some 79, op := Op.buildSlice 22 0 #[], type := 22, pos := "ref.go:125", after := #[], guard := none }, { dst := some 80, op := Op.move (Operand.tmp 0), type := 22, pos := "ref.go:125", after := #[], guard := none }, { dst := some 81, op := Op.call { callee := Callee.builtin Builtin.append, args := #[Operand.tmp 79, Operand.tmp 80], argTypes := #[22, 22] }, type := 22, pos := "ref.go:125", after := #[{ on := 0, ground := Ground.data }, { on := 1, ground := Ground.data }], guard := none }, { dst := some 82, op := Op.load 45 (Operand.tmp 3), type := 45, pos := "ref.go:125", after := #[], guard := none }, { dst := some 83, op := Op.buildSlice 22 1 #[(0, Operand.tmp 82)], type := 22, pos := "ref.go:125", after := #[{ on := 3, ground := Ground.data }], guard := none }, { dst := some 84, op := Op.call { callee := Callee.builtin Builtin.append, args := #[Operand.tmp 81, Operand.tmp 83], argTypes := #[22, 22] }, type := 22, pos := "ref.go:125", after := #[{ on := 2, ground := Ground.data }, { on := 4, ground := Ground.data }, { on := 2, ground := Ground.chain }], guard := none }, { dst := some 85, op := Op.fieldAddr 45 (Operand.tmp 3) 1, type := 0, pos := "ref.go:125", after := #[], guard := none }, { dst := some 86, op := Op.load 9 (Operand.tmp 85), type := 9, pos := "ref.go:125", after := #[{ on := 6, ground := Ground.data }], guard := none }, { dst := some 87, op := Op.call { callee := Callee.value (Operand.func 9), args := #[Operand.tmp 84, Operand.tmp 86], argTypes := #[22, 9] }, type := 37, pos := "ref.go:125", after := #[{ on := 5, ground := Ground.data }, { on := 7, ground := Ground.data }, { on := 5, ground := Ground.chain }], guard := none }, { dst := some 78, op := Op.move (Operand.tmp 87), type := 37, pos := "ref.go:125", after := #[{ on := 8, ground := Ground.data }], guard := none }, { dst := some 88, op := Op.extract (Operand.tmp 78) 0, type := 35, pos := "ref.go:125", after := #[{ on := 9, ground := Ground.data }], guard := none }, { dst := some 89, op := Op.extract (Operand.tmp 78) 1, type := 36, pos := "ref.go:125", after := #[{ on := 9, ground := Ground.data }, { on := 13, ground := Ground.gcOnly Departure.lateStores }], guard := none }, { dst := some 8, op := Op.alloc 35, type := 0, pos := "ref.go:125", after := #[], guard := none }, { dst := none, op := Op.store 35 (Operand.tmp 8) (Operand.tmp 88), type := 0, pos := "ref.go:125", after := #[{ on := 12, ground := Ground.data }, { on := 10, ground := Ground.data }, { on := 8, ground := Ground.chain }, { on := 0, ground := Ground.phase }, { on := 1, ground := Ground.phase }, { on := 2, ground := Ground.phase }, { on := 3, ground := Ground.phase }, { on := 4, ground := Ground.phase }, { on := 5, ground := Ground.phase }, { on := 6, ground := Ground.phase }, { on := 7, ground := Ground.phase }, { on := 8, ground := Ground.phase }, { on := 9, ground := Ground.phase }, { on := 10, ground := Ground.phase }, { on := 11, ground := Ground.textOnly Departure.lateStores }, { on := 12, ground := Ground.phase }], guard := none }, { dst := some 9, op := Op.assign (Operand.tmp 89), type := 36, pos := "ref.go:125", after := #[{ on := 11, ground := Ground.data }, { on := 13, ground := Ground.chain }, { on := 0, ground := Ground.phase }, { on := 1, ground := Ground.phase }, { on := 2, ground := Ground.phase }, { on := 3, ground := Ground.phase }, { on := 4, ground := Ground.phase }, { on := 5, ground := Ground.phase }, { on := 6, ground := Ground.phase }, { on := 7, ground := Ground.phase }, { on := 8, ground := Ground.phase }, { on := 9, ground := Ground.phase }, { on := 10, ground := Ground.phase }, { on := 11, ground := Ground.phase }, { on := 12, ground := Ground.phase }, { on := 13, ground := Ground.phase }], guard := none }] true).wp Tryz.prog Q { tmps := #[.slice a l.length c, t1, t2, .pointer (some ⟨eb, 0, none⟩), t4, t5, t6, t7, t8, t9, t10, t11, t12, t13, t14, t15, t16, t17, t18, t19, t20, t21, t22, t23, t24, t25, t26, t27, t28, t29, t30, t31, t32, t33, t34, t35, t36, t37, t38, t39, t40, t41, t42, t43, t44, t45, t46, t47, t48, t49, t50, t51, t52, t53, t54, t55, t56, t57, t58, t59, t60, t61, t62, t63, t64, t65, t66, t67, t68, t69, t70, t71, t72, t73, t74, t75, t76, t77, t78, t79, t80, t81, t82, t83, t84, t85, t86, t87, t88, t89, t90, t91, t92, t93, t94, t95, t96], defers := [] } A := by
  obtain ⟨i45, hi45, hq0, hq1, hq2⟩ := info_parts info33
  have HEND : Hid (∀ (u78 u79 u80 u81 u82 u83 u84 u85 u86 u87 u88 u89 : Value) (b8 : Nat) (Wf : World), A.heap.size ≤ b8 → TwoB Wf b8 (.int .i64 sq.1) (.int .i64 sq.2) → A.grownBy Wf none → Q .normal { tmps := #[.slice a l.length c, t1, t2, .pointer (some ⟨eb, 0, none⟩), t4, t5, t6, t7, .pointer (some ⟨b8, 0, none⟩), .int .i64 se, t10, t11, t12, t13, t14, t15, t16, t17, t18, t19, t20, t21, t22, t23, t24, t25, t26, t27, t28, t29, t30, t31, t32, t33, t34, t35, t36, t37, t38, t39, t40, t41, t42, t43, t44, t45, t46, t47, t48, t49, t50, t51, t52, t53, t54, t55, t56, t57, t58, t59, t60, t61, t62, t63, t64, t65, t66, t67, t68, t69, t70, t71, t72, t73, t74, t75, t76, t77, u78, u79, u80, u81, u82, u83, u84, u85, u86, u87, u88, u89, t90, t91, t92, t93, t94, t95, t96], defers := [] } Wf) := hEnd
  have HSRC : Hid (∀ W, A.grownBy W none → (l.length ≠ 0 → ∃ ad, a = some ad ∧ ∀ j x, (enc l)[j]? = some x → W.cell? (ad.add j) = some x)) := by
    intro W hg hk0
    exact ents_src (hx.at hB ⟨hg.os, hg.tape, hg.output, hg.size, fun b hb => hg.block b hb (by simp)⟩) hk0
  have hl1 := enc_len l
  have HONE : Hid (∀ x ∈ enc l, x.oneCell' = true) := enc_one l
  have HCN : Hid (∀ W, A.grownBy W none → FivB W eb (.int .i64 d) (.string nm) (.int .i64 p) (.int .i64 u) (.int .i64 v)) := fun W hg => gb_cell0 hV hg
  have HNM : Hid (∀ x ∈ l ++ [(d, nm, p, u, v)], x.2.1.size ≤ 9223372036854775807) := by
    obtain ⟨_, _, _, _, _, hn, _⟩ := hx
    intro x hx2
    rcases List.mem_append.1 hx2 with h | h
    · exact hn x h
    · simp at h; subst h; exact hnm
  have kc := fun W r (h : W.ownsRow A.heap.size 45 5 r (l.length + 1) (enc l ++ [.int .i64 d, .string nm, .int .i64 p, .int .i64 u, .int .i64 v])) => rspent_any W.heap.size r (l ++ [(d, nm, p, u, v)]) nm W (Nat.le_refl _) (ents_of_row (dn := l ++ [(d, nm, p, u, v)]) (by rw [enc_snoc, List.length_append]; exact h) (by simp; omega) HNM.out) hok sq se hsq
  have G0 : Hid (A.grownBy A.drew none) := gb_drew (gb_refl _ none)
  clear hEnd hx hV hnm
  refine wp_region_any (by kernel_rfl) ?_
  change wpAny _ _ _ _ _ _ _ (World.drew _)
  obtain ⟨V0, hV0⟩ : ∃ V0, A.drew = V0 := ⟨_, rfl⟩
  rw [hV0] at G0 ⊢
  clear hV0
  refine wpAny_of_J (S := fun W => A.grownBy W none) (J := fun _ => true) _ _ _ _ ?_
  refine wpAnyJ_take (i := 1) (oi := { dst := some 80, op := Op.move (Operand.tmp 0), type := 22, pos := "ref.go:125", after := #[], guard := none }) (v := .slice a l.length c) rfl rfl (waits_of (by kernel_rfl)) (by kernel_rfl) (by kernel_rfl) (by kernel_rfl) (fun _ _ _ h => hQp _ _ _ _ _ h) (Or.inl ⟨by rfl, fun W hS => ?_⟩) G0.out ?_
  · go_simp
  simp only [Act.put, List.setIfInBounds_toArray, List.set_cons_zero, List.set_cons_succ]
  refine wpAnyJ_take (i := 3) (oi := { dst := some 82, op := Op.load 45 (Operand.tmp 3), type := 45, pos := "ref.go:125", after := #[], guard := none }) (v := .agg #[.int .i64 d, .string nm, .int .i64 p, .int .i64 u, .int .i64 v]) rfl rfl (waits_of (by kernel_rfl)) (by kernel_rfl) (by kernel_rfl) (by kernel_rfl) (fun _ _ _ h => hQp _ _ _ _ _ h) (Or.inl ⟨by rfl, fun W hS => ?_⟩) G0.out ?_
  · obtain ⟨z0, z1, z2, z3, z4, _, _, _, _, _, _⟩ := HCN.out W hS; go_simp
  simp only [Act.put, List.setIfInBounds_toArray, List.set_cons_zero, List.set_cons_succ]
  refine wpAnyJ_take (i := 6) (oi := { dst := some 85, op := Op.fieldAddr 45 (Operand.tmp 3) 1, type := 0, pos := "ref.go:125", after := #[], guard := none }) (v := .pointer (some ⟨eb, 1, none⟩)) rfl rfl (waits_of (by kernel_rfl)) (by kernel_rfl) (by kernel_rfl) (by kernel_rfl) (fun _ _ _ h => hQp _ _ _ _ _ h) (Or.inl ⟨by rfl, fun W hS => ?_⟩) G0.out ?_
  · go_simp
  simp only [Act.put, List.setIfInBounds_toArray, List.set_cons_zero, List.set_cons_succ]
  refine wpAnyJ_take (i := 7) (oi := { dst := some 86, op := Op.load 9 (Operand.tmp 85), type := 9, pos := "ref.go:125", after := #[{ on := 6, ground := Ground.data }], guard := none }) (v := .string nm) rfl rfl (waits_of (by kernel_rfl)) (by kernel_rfl) (by kernel_rfl) (by kernel_rfl) (fun _ _ _ h => hQp _ _ _ _ _ h) (Or.inl ⟨by rfl, fun W hS => ?_⟩) G0.out ?_
  · have z := (HCN.out W hS).c1; go_simp
  simp only [Act.put, List.setIfInBounds_toArray, List.set_cons_zero, List.set_cons_succ]
  refine wpAnyJ_ready (rs := [0, 4, 12]) (by kernel_rfl) (by simp) ?_
  refine AllJ.cons (o := { dst := some 79, op := Op.buildSlice 22 0 #[], type := 22, pos := "ref.go:125", after := #[], guard := none }) rfl (fun K hK => ?_) ?_
  ·
    go_simp
    have G2 : Hid (A.grownBy (V0.alloc (.cells #[] 45)) none) := gb_own G0.out (gb_none (ba _ _)) (by simp)
    have x4 : Hid ((V0.alloc (.cells #[] 45)).ownsRow A.heap.size 45 5 (.slice (some ⟨V0.heap.size, 0, none⟩) 0 0) 0 []) := owns_empty _ 45 5 _ G0.out.size
    refine hK.out _ _ (fun _ => G2.out) ?_
    clear hK K
    try simp only [Act.put, List.setIfInBounds_toArray, List.set_cons_zero, List.set_cons_succ]
    obtain ⟨B3, hB3⟩ : ∃ B3 : Nat, B3 = V0.heap.size := ⟨_, rfl⟩
    obtain ⟨W1, hW1⟩ : ∃ W1, W1 = (V0.alloc (.cells #[] 45)) := ⟨_, rfl⟩
    rw [← hW1, ← hB3] at x4 ⊢
    rw [← hW1] at G2
    have lB3 : A.heap.size ≤ B3 := by rw [hB3]; exact G0.out.size
    clear hW1 hB3
    refine wpAnyJ_ready (rs := [2, 4, 12]) (by kernel_rfl) (by simp) ?_
    refine AllJ.cons (o := { dst := some 81, op := Op.call { callee := Callee.builtin Builtin.append, args := #[Operand.tmp 79, Operand.tmp 80], argTypes := #[22, 22] }, type := 22, pos := "ref.go:125", after := #[{ on := 0, ground := Ground.data }, { on := 1, ground := Ground.data }], guard := none }) rfl (fun K hK => ?_) ?_
    ·
      refine step_app _ rfl _ _ 22 rfl A.heap.size 45 i45 (.agg #[.int .i64 0, .string ⟨#[]⟩, .int .i64 0, .int .i64 0, .int .i64 0]) 5 48 Tryz.underlying22 hi45 hq0 hq1 hq2 rfl (by decide) (some ⟨B3, 0, none⟩) 0 0 [] rfl x4.out a l.length c (enc l) rfl hl1 (HSRC.out W1 G2.out) HONE.out (by unfold maxLen; omega) (by omega) G2.out.size l.length (by omega) ?_
      intro a8 c9 W5 ho10 hg11 ha12
      have G6 : Hid (A.grownBy W5 none) := gb_own G2.out hg11 (fun x hx => (row_lt x4.out hx).1)
      have R7 : Hid (W5.ownsRow A.heap.size 45 5 (.slice a8 l.length c9) l.length (enc l)) := by rw [Hid]; simpa using ho10
      refine hK.out _ _ (fun _ => G6.out) ?_
      clear hK K
      try simp only [Act.put, List.setIfInBounds_toArray, List.set_cons_zero, List.set_cons_succ]
      clear ho10 hg11 ha12
      refine wpAnyJ_ready (rs := [4, 12]) (by kernel_rfl) (by simp) ?_
      refine AllJ.cons (o := { dst := some 83, op := Op.buildSlice 22 1 #[(0, Operand.tmp 82)], type := 22, pos := "ref.go:125", after := #[{ on := 3, ground := Ground.data }], guard := none }) rfl (fun K hK => ?_) ?_
      ·
        go_simp
        have G14 : Hid (A.grownBy (W5.alloc (.cells #[.int .i64 d, .string nm, .int .i64 p, .int .i64 u, .int .i64 v] 45)) none) := gb_own G6.out (gb_none (ba _ _)) (by simp)
        have nd16 : ∀ x, ((.slice a8 l.length c9) : Value).ownBlock = some x → x ≠ W5.heap.size := fun x hx e => by have := (row_lt R7.out hx).2; omega
        have R17 : Hid ((W5.alloc (.cells #[.int .i64 d, .string nm, .int .i64 p, .int .i64 u, .int .i64 v] 45)).ownsRow A.heap.size 45 5 (.slice a8 l.length c9) l.length (enc l)) := row_gb R7.out (gb_none (ba _ _)) (by simp)
        have x18 : Hid (FivB (W5.alloc (.cells #[.int .i64 d, .string nm, .int .i64 p, .int .i64 u, .int .i64 v] 45)) W5.heap.size (.int .i64 d) (.string nm) (.int .i64 p) (.int .i64 u) (.int .i64 v)) := FivB.new _ _ _ _ _ _ 45 _ rfl
        refine hK.out _ _ (fun _ => G14.out) ?_
        clear hK K
        try simp only [Act.put, List.setIfInBounds_toArray, List.set_cons_zero, List.set_cons_succ]
        obtain ⟨B15, hB15⟩ : ∃ B15 : Nat, B15 = W5.heap.size := ⟨_, rfl⟩
        obtain ⟨W13, hW13⟩ : ∃ W13, W13 = (W5.alloc (.cells #[.int .i64 d, .string nm, .int .i64 p, .int .i64 u, .int .i64 v] 45)) := ⟨_, rfl⟩
        rw [← hW13, ← hB15] at x18 ⊢
        rw [← hB15] at nd16
        rw [← hW13] at G14 R17
        have lB15 : A.heap.size ≤ B15 := by rw [hB15]; exact G6.out.size
        clear hW13 hB15
        refine wpAnyJ_ready (rs := [5, 12]) (by kernel_rfl) (by simp) ?_
        refine AllJ.cons (o := { dst := some 84, op := Op.call { callee := Callee.builtin Builtin.append, args := #[Operand.tmp 81, Operand.tmp 83], argTypes := #[22, 22] }, type := 22, pos := "ref.go:125", after := #[{ on := 2, ground := Ground.data }, { on := 4, ground := Ground.data }, { on := 2, ground := Ground.chain }], guard := none }) rfl (fun K hK => ?_) ?_
        ·
          refine step_app _ rfl _ _ 22 rfl A.heap.size 45 i45 (.agg #[.int .i64 0, .string ⟨#[]⟩, .int .i64 0, .int .i64 0, .int .i64 0]) 5 48 Tryz.underlying22 hi45 hq0 hq1 hq2 rfl (by decide) a8 l.length c9 (enc l) rfl R17.out (some ⟨B15, 0, none⟩) 1 1 [.int .i64 d, .string nm, .int .i64 p, .int .i64 u, .int .i64 v] rfl rfl (fun _ => ⟨_, rfl, five_news x18.out⟩) (by intro z hz; simp at hz; rcases hz with rfl | rfl | rfl | rfl | rfl <;> rfl) (by unfold maxLen; omega) (by omega) G14.out.size (l.length + 1) (by omega) ?_
          intro a22 c23 W19 ho24 hg25 ha26
          have G20 : Hid (A.grownBy W19 none) := gb_own G14.out hg25 (fun x hx => (row_lt R17.out hx).1)
          have nd28 : ∀ x, (Value.slice a22 (l.length + 1) c23).ownBlock = some x → x ≠ B15 := fun x hx e => by
            rcases ha26 with h | h
            · rw [h] at hx; exact nd16 x hx e
            · rw [h] at hx; simp only [Option.some.injEq] at hx; have := x18.out.lt; omega
          have C27 : Hid (FivB W19 B15 (.int .i64 d) (.string nm) (.int .i64 p) (.int .i64 u) (.int .i64 v)) := x18.out.gb hg25 (fun e => nd16 _ e.symm rfl)
          have R21 : Hid (W19.ownsRow A.heap.size 45 5 (.slice a22 (l.length + 1) c23) (l.length + 1) (enc l ++ [.int .i64 d, .string nm, .int .i64 p, .int .i64 u, .int .i64 v])) := ho24
          refine hK.out _ _ (fun _ => G20.out) ?_
          clear hK K
          try simp only [Act.put, List.setIfInBounds_toArray, List.set_cons_zero, List.set_cons_succ]
          clear ho24 hg25 ha26
          refine wpAnyJ_ready (rs := [8, 12]) (by kernel_rfl) (by simp) ?_
          refine AllJ.cons (o := { dst := some 87, op := Op.call { callee := Callee.value (Operand.func 9), args := #[Operand.tmp 84, Operand.tmp 86], argTypes := #[22, 9] }, type := 37, pos := "ref.go:125", after := #[{ on := 5, ground := Ground.data }, { on := 7, ground := Ground.data }, { on := 5, ground := Ground.chain }], guard := none }) rfl (fun K hK => ?_) ?_
          ·
            have kk := kc W19 _ R21.out
            go_simp
            go_at_call 9
            refine kk.mono ?_
            rintro ee W29 ⟨rfl, hb31⟩
            have G30 : Hid (A.grownBy W29 none) := gb_own G20.out (gb_none hb31) (by simp)
            clear kk
            refine hK.out _ _ (fun _ => G30.out) ?_
            clear hK K
            try simp only [Act.put, List.setIfInBounds_toArray, List.set_cons_zero, List.set_cons_succ]
            clear hb31
            refine wpAnyJ_take (i := 9) (oi := { dst := some 78, op := Op.move (Operand.tmp 87), type := 37, pos := "ref.go:125", after := #[{ on := 8, ground := Ground.data }], guard := none }) (v := .tuple #[.agg #[.int .i64 sq.1, .int .i64 sq.2], .int .i64 se]) rfl rfl (waits_of (by kernel_rfl)) (by kernel_rfl) (by kernel_rfl) (by kernel_rfl) (fun _ _ _ h => hQp _ _ _ _ _ h) (Or.inl ⟨by rfl, fun W hS => ?_⟩) G30.out ?_
            · go_simp
            simp only [Act.put, List.setIfInBounds_toArray, List.set_cons_zero, List.set_cons_succ]
            refine wpAnyJ_take (i := 10) (oi := { dst := some 88, op := Op.extract (Operand.tmp 78) 0, type := 35, pos := "ref.go:125", after := #[{ on := 9, ground := Ground.data }], guard := none }) (v := .agg #[.int .i64 sq.1, .int .i64 sq.2]) rfl rfl (waits_of (by kernel_rfl)) (by kernel_rfl) (by kernel_rfl) (by kernel_rfl) (fun _ _ _ h => hQp _ _ _ _ _ h) (Or.inl ⟨by rfl, fun W hS => ?_⟩) G30.out ?_
            · go_simp
            simp only [Act.put, List.setIfInBounds_toArray, List.set_cons_zero, List.set_cons_succ]
            refine wpAnyJ_take (i := 11) (oi := { dst := some 89, op := Op.extract (Operand.tmp 78) 1, type := 36, pos := "ref.go:125", after := #[{ on := 9, ground := Ground.data }, { on := 13, ground := Ground.gcOnly Departure.lateStores }], guard := none }) (v := .int .i64 se) rfl rfl (waits_of (by kernel_rfl)) (by kernel_rfl) (by kernel_rfl) (by kernel_rfl) (fun _ _ _ h => hQp _ _ _ _ _ h) (Or.inl ⟨by rfl, fun W hS => ?_⟩) G30.out ?_
            · go_simp
            simp only [Act.put, List.setIfInBounds_toArray, List.set_cons_zero, List.set_cons_succ]
            refine wpAnyJ_ready (rs := [12]) (by kernel_rfl) (by simp) ?_
            refine AllJ.cons (o := { dst := some 8, op := Op.alloc 35, type := 0, pos := "ref.go:125", after := #[], guard := none }) rfl (fun K hK => ?_) ?_
            ·
              go_simp
              have G33 : Hid (A.grownBy (W29.alloc (.cells #[.int .i64 0, .int .i64 0] 35)) none) := gb_own G30.out (gb_none (ba _ _)) (by simp)
              have x35 : Hid (TwoB (W29.alloc (.cells #[.int .i64 0, .int .i64 0] 35)) W29.heap.size (.int .i64 0) (.int .i64 0)) := TwoB.new _ _ _ 35 _ rfl
              refine hK.out _ _ (fun _ => G33.out) ?_
              clear hK K
              try simp only [Act.put, List.setIfInBounds_toArray, List.set_cons_zero, List.set_cons_succ]
              obtain ⟨B34, hB34⟩ : ∃ B34 : Nat, B34 = W29.heap.size := ⟨_, rfl⟩
              obtain ⟨W32, hW32⟩ : ∃ W32, W32 = (W29.alloc (.cells #[.int .i64 0, .int .i64 0] 35)) := ⟨_, rfl⟩
              rw [← hW32, ← hB34] at x35 ⊢
              rw [← hW32] at G33
              have lB34 : A.heap.size ≤ B34 := by rw [hB34]; exact G30.out.size
              clear hW32 hB34
              refine wpAnyJ_ready (rs := [13]) (by kernel_rfl) (by simp) ?_
              refine AllJ.cons (o := { dst := none, op := Op.store 35 (Operand.tmp 8) (Operand.tmp 88), type := 0, pos := "ref.go:125", after := #[{ on := 12, ground := Ground.data }, { on := 10, ground := Ground.data }, { on := 8, ground := Ground.chain }, { on := 0, ground := Ground.phase }, { on := 1, ground := Ground.phase }, { on := 2, ground := Ground.phase }, { on := 3, ground := Ground.phase }, { on := 4, ground := Ground.phase }, { on := 5, ground := Ground.phase }, { on := 6, ground := Ground.phase }, { on := 7, ground := Ground.phase }, { on := 8, ground := Ground.phase }, { on := 9, ground := Ground.phase }, { on := 10, ground := Ground.phase }, { on := 11, ground := Ground.textOnly Departure.lateStores }, { on := 12, ground := Ground.phase }], guard := none }) rfl (fun K hK => ?_) ?_
              ·
                obtain ⟨z0, z1, zf0, zf1, zl⟩ := x35.out
                go_simp
                have G36 : Hid (A.grownBy ((W32.setCell ⟨B34, 0, none⟩ (.int .i64 sq.1)).setCell ⟨B34, 1, none⟩ (.int .i64 sq.2)) none) := gb_new (gb_new G33.out (p := ⟨B34, 0, none⟩) lB34 _) (p := ⟨B34, 1, none⟩) lB34 _
                have T37 : Hid (TwoB ((W32.setCell ⟨B34, 0, none⟩ (.int .i64 sq.1)).setCell ⟨B34, 1, none⟩ (.int .i64 sq.2)) B34 (.int .i64 sq.1) (.int .i64 sq.2)) := x35.out.put _ _
                clear z0 z1 zf0 zf1 zl
                refine hK.out _ _ (fun _ => G36.out) ?_
                clear hK K
                try simp only [Act.put, List.setIfInBounds_toArray, List.set_cons_zero, List.set_cons_succ]
                refine wpAnyJ_ready (rs := [14]) (by kernel_rfl) (by simp) ?_
                refine AllJ.cons (o := { dst := some 9, op := Op.assign (Operand.tmp 89), type := 36, pos := "ref.go:125", after := #[{ on := 11, ground := Ground.data }, { on := 13, ground := Ground.chain }, { on := 0, ground := Ground.phase }, { on := 1, ground := Ground.phase }, { on := 2, ground := Ground.phase }, { on := 3, ground := Ground.phase }, { on := 4, ground := Ground.phase }, { on := 5, ground := Ground.phase }, { on := 6, ground := Ground.phase }, { on := 7, ground := Ground.phase }, { on := 8, ground := Ground.phase }, { on := 9, ground := Ground.phase }, { on := 10, ground := Ground.phase }, { on := 11, ground := Ground.phase }, { on := 12, ground := Ground.phase }, { on := 13, ground := Ground.phase }], guard := none }) rfl (fun K hK => ?_) ?_
                ·
                  go_simp
                  refine hK.out _ _ (fun _ => G36.out) ?_
                  clear hK K
                  try simp only [Act.put, List.setIfInBounds_toArray, List.set_cons_zero, List.set_cons_succ]
                  refine wpAnyJ_done (by kernel_rfl) ?_ _
                  exact HEND.out _ _ _ _ _ _ _ _ _ _ _ _ _ _ lB34 T37.out G36.out
                exact AllJ.nil
              exact AllJ.nil
            exact AllJ.nil
          refine AllJ.cons (o := { dst := some 8, op := Op.alloc 35, type := 0, pos := "ref.go:125", after := #[], guard := none }) rfl (fun K hK => ?_) ?_
          ·
            go_simp
            have G39 : Hid (A.grownBy (W19.alloc (.cells #[.int .i64 0, .int .i64 0] 35)) none) := gb_own G20.out (gb_none (ba _ _)) (by simp)
            have nd41 : ∀ x, ((.slice a22 (l.length + 1) c23) : Value).ownBlock = some x → x ≠ W19.heap.size := fun x hx e => by have := (row_lt R21.out hx).2; omega
            have R42 : Hid ((W19.alloc (.cells #[.int .i64 0, .int .i64 0] 35)).ownsRow A.heap.size 45 5 (.slice a22 (l.length + 1) c23) (l.length + 1) (enc l ++ [.int .i64 d, .string nm, .int .i64 p, .int .i64 u, .int .i64 v])) := row_gb R21.out (gb_none (ba _ _)) (by simp)
            have C43 : Hid (FivB (W19.alloc (.cells #[.int .i64 0, .int .i64 0] 35)) B15 (.int .i64 d) (.string nm) (.int .i64 p) (.int .i64 u) (.int .i64 v)) := C27.out.below (ba _ _)
            have x44 : Hid (TwoB (W19.alloc (.cells #[.int .i64 0, .int .i64 0] 35)) W19.heap.size (.int .i64 0) (.int .i64 0)) := TwoB.new _ _ _ 35 _ rfl
            refine hK.out _ _ (fun _ => G39.out) ?_
            clear hK K
            try simp only [Act.put, List.setIfInBounds_toArray, List.set_cons_zero, List.set_cons_succ]
            obtain ⟨B40, hB40⟩ : ∃ B40 : Nat, B40 = W19.heap.size := ⟨_, rfl⟩
            obtain ⟨W38, hW38⟩ : ∃ W38, W38 = (W19.alloc (.cells #[.int .i64 0, .int .i64 0] 35)) := ⟨_, rfl⟩
            rw [← hW38, ← hB40] at x44 ⊢
            rw [← hB40] at nd41
            rw [← hW38] at G39 R42 C43
            have lB40 : A.heap.size ≤ B40 := by rw [hB40]; exact G20.out.size
            clear hW38 hB40
            refine wpAnyJ_ready (rs := [8]) (by kernel_rfl) (by simp) ?_
            refine AllJ.cons (o := { dst := some 87, op := Op.call { callee := Callee.value (Operand.func 9), args := #[Operand.tmp 84, Operand.tmp 86], argTypes := #[22, 9] }, type := 37, pos := "ref.go:125", after := #[{ on := 5, ground := Ground.data }, { on := 7, ground := Ground.data }, { on := 5, ground := Ground.chain }], guard := none }) rfl (fun K hK => ?_) ?_
            ·
              have kk := kc W38 _ R42.out
              go_simp
              go_at_call 9
              refine kk.mono ?_
              rintro ee W45 ⟨rfl, hb47⟩
              have G46 : Hid (A.grownBy W45 none) := gb_own G39.out (gb_none hb47) (by simp)
              have T48 : Hid (TwoB W45 B40 (.int .i64 0) (.int .i64 0)) := x44.out.below hb47
              clear kk
              refine hK.out _ _ (fun _ => G46.out) ?_
              clear hK K
              try simp only [Act.put, List.setIfInBounds_toArray, List.set_cons_zero, List.set_cons_succ]
              clear hb47
              refine wpAnyJ_take (i := 9) (oi := { dst := some 78, op := Op.move (Operand.tmp 87), type := 37, pos := "ref.go:125", after := #[{ on := 8, ground := Ground.data }], guard := none }) (v := .tuple #[.agg #[.int .i64 sq.1, .int .i64 sq.2], .int .i64 se]) rfl rfl (waits_of (by kernel_rfl)) (by kernel_rfl) (by kernel_rfl) (by kernel_rfl) (fun _ _ _ h => hQp _ _ _ _ _ h) (Or.inl ⟨by rfl, fun W hS => ?_⟩) G46.out ?_
              · go_simp
              simp only [Act.put, List.setIfInBounds_toArray, List.set_cons_zero, List.set_cons_succ]
              refine wpAnyJ_take (i := 10) (oi := { dst := some 88, op := Op.extract (Operand.tmp 78) 0, type := 35, pos := "ref.go:125", after := #[{ on := 9, ground := Ground.data }], guard := none }) (v := .agg #[.int .i64 sq.1, .int .i64 sq.2]) rfl rfl (waits_of (by kernel_rfl)) (by kernel_rfl) (by kernel_rfl) (by kernel_rfl) (fun _ _ _ h => hQp _ _ _ _ _ h) (Or.inl ⟨by rfl, fun W hS => ?_⟩) G46.out ?_
              · go_simp
              simp only [Act.put, List.setIfInBounds_toArray, List.set_cons_zero, List.set_cons_succ]
              refine wpAnyJ_take (i := 11) (oi := { dst := some 89, op := Op.extract (Operand.tmp 78) 1, type := 36, pos := "ref.go:125", after := #[{ on := 9, ground := Ground.data }, { on := 13, ground := Ground.gcOnly Departure.lateStores }], guard := none }) (v := .int .i64 se) rfl rfl (waits_of (by kernel_rfl)) (by kernel_rfl) (by kernel_rfl) (by kernel_rfl) (fun _ _ _ h => hQp _ _ _ _ _ h) (Or.inl ⟨by rfl, fun W hS => ?_⟩) G46.out ?_
              · go_simp
              simp only [Act.put, List.setIfInBounds_toArray, List.set_cons_zero, List.set_cons_succ]
              refine wpAnyJ_ready (rs := [13]) (by kernel_rfl) (by simp) ?_
              refine AllJ.cons (o := { dst := none, op := Op.store 35 (Operand.tmp 8) (Operand.tmp 88), type := 0, pos := "ref.go:125", after := #[{ on := 12, ground := Ground.data }, { on := 10, ground := Ground.data }, { on := 8, ground := Ground.chain }, { on := 0, ground := Ground.phase }, { on := 1, ground := Ground.phase }, { on := 2, ground := Ground.phase }, { on := 3, ground := Ground.phase }, { on := 4, ground := Ground.phase }, { on := 5, ground := Ground.phase }, { on := 6, ground := Ground.phase }, { on := 7, ground := Ground.phase }, { on := 8, ground := Ground.phase }, { on := 9, ground := Ground.phase }, { on := 10, ground := Ground.phase }, { on := 11, ground := Ground.textOnly Departure.lateStores }, { on := 12, ground := Ground.phase }], guard := none }) rfl (fun K hK => ?_) ?_
              ·
                obtain ⟨z0, z1, zf0, zf1, zl⟩ := T48.out
                go_simp
                have G49 : Hid (A.grownBy ((W45.setCell ⟨B40, 0, none⟩ (.int .i64 sq.1)).setCell ⟨B40, 1, none⟩ (.int .i64 sq.2)) none) := gb_new (gb_new G46.out (p := ⟨B40, 0, none⟩) lB40 _) (p := ⟨B40, 1, none⟩) lB40 _
                have T50 : Hid (TwoB ((W45.setCell ⟨B40, 0, none⟩ (.int .i64 sq.1)).setCell ⟨B40, 1, none⟩ (.int .i64 sq.2)) B40 (.int .i64 sq.1) (.int .i64 sq.2)) := T48.out.put _ _
                clear z0 z1 zf0 zf1 zl
                refine hK.out _ _ (fun _ => G49.out) ?_
                clear hK K
                try simp only [Act.put, List.setIfInBounds_toArray, List.set_cons_zero, List.set_cons_succ]
                refine wpAnyJ_ready (rs := [14]) (by kernel_rfl) (by simp) ?_
                refine AllJ.cons (o := { dst := some 9, op := Op.assign (Operand.tmp 89), type := 36, pos := "ref.go:125", after := #[{ on := 11, ground := Ground.data }, { on := 13, ground := Ground.chain }, { on := 0, ground := Ground.phase }, { on := 1, ground := Ground.phase }, { on := 2, ground := Ground.phase }, { on := 3, ground := Ground.phase }, { on := 4, ground := Ground.phase }, { on := 5, ground := Ground.phase }, { on := 6, ground := Ground.phase }, { on := 7, ground := Ground.phase }, { on := 8, ground := Ground.phase }, { on := 9, ground := Ground.phase }, { on := 10, ground := Ground.phase }, { on := 11, ground := Ground.phase }, { on := 12, ground := Ground.phase }, { on := 13, ground := Ground.phase }], guard := none }) rfl (fun K hK => ?_) ?_
                ·
                  go_simp
                  refine hK.out _ _ (fun _ => G49.out) ?_
                  clear hK K
                  try simp only [Act.put, List.setIfInBounds_toArray, List.set_cons_zero, List.set_cons_succ]
                  refine wpAnyJ_done (by kernel_rfl) ?_ _
                  exact HEND.out _ _ _ _ _ _ _ _ _ _ _ _ _ _ lB40 T50.out G49.out
                exact AllJ.nil
              exact AllJ.nil
            exact AllJ.nil
          exact AllJ.nil
        refine AllJ.cons (o := { dst := some 8, op := Op.alloc 35, type := 0, pos := "ref.go:125", after := #[], guard := none }) rfl (fun K hK => ?_) ?_
        ·
          go_simp
          have G52 : Hid (A.grownBy (W13.alloc (.cells #[.int .i64 0, .int .i64 0] 35)) none) := gb_own G14.out (gb_none (ba _ _)) (by simp)
          have nd54 : ∀ x, ((.slice a8 l.length c9) : Value).ownBlock = some x → x ≠ W13.heap.size := fun x hx e => by have := (row_lt R17.out hx).2; omega
          have R55 : Hid ((W13.alloc (.cells #[.int .i64 0, .int .i64 0] 35)).ownsRow A.heap.size 45 5 (.slice a8 l.length c9) l.length (enc l)) := row_gb R17.out (gb_none (ba _ _)) (by simp)
          have C56 : Hid (FivB (W13.alloc (.cells #[.int .i64 0, .int .i64 0] 35)) B15 (.int .i64 d) (.string nm) (.int .i64 p) (.int .i64 u) (.int .i64 v)) := x18.out.below (ba _ _)
          have x57 : Hid (TwoB (W13.alloc (.cells #[.int .i64 0, .int .i64 0] 35)) W13.heap.size (.int .i64 0) (.int .i64 0)) := TwoB.new _ _ _ 35 _ rfl
          refine hK.out _ _ (fun _ => G52.out) ?_
          clear hK K
          try simp only [Act.put, List.setIfInBounds_toArray, List.set_cons_zero, List.set_cons_succ]
          obtain ⟨B53, hB53⟩ : ∃ B53 : Nat, B53 = W13.heap.size := ⟨_, rfl⟩
          obtain ⟨W51, hW51⟩ : ∃ W51, W51 = (W13.alloc (.cells #[.int .i64 0, .int .i64 0] 35)) := ⟨_, rfl⟩
          rw [← hW51, ← hB53] at x57 ⊢
          rw [← hB53] at nd54
          rw [← hW51] at G52 R55 C56
          have lB53 : A.heap.size ≤ B53 := by rw [hB53]; exact G14.out.size
          clear hW51 hB53
          refine wpAnyJ_ready (rs := [5]) (by kernel_rfl) (by simp) ?_
          refine AllJ.cons (o := { dst := some 84, op := Op.call { callee := Callee.builtin Builtin.append, args := #[Operand.tmp 81, Operand.tmp 83], argTypes := #[22, 22] }, type := 22, pos := "ref.go:125", after := #[{ on := 2, ground := Ground.data }, { on := 4, ground := Ground.data }, { on := 2, ground := Ground.chain }], guard := none }) rfl (fun K hK => ?_) ?_
          ·
            refine step_app _ rfl _ _ 22 rfl A.heap.size 45 i45 (.agg #[.int .i64 0, .string ⟨#[]⟩, .int .i64 0, .int .i64 0, .int .i64 0]) 5 48 Tryz.underlying22 hi45 hq0 hq1 hq2 rfl (by decide) a8 l.length c9 (enc l) rfl R55.out (some ⟨B15, 0, none⟩) 1 1 [.int .i64 d, .string nm, .int .i64 p, .int .i64 u, .int .i64 v] rfl rfl (fun _ => ⟨_, rfl, five_news C56.out⟩) (by intro z hz; simp at hz; rcases hz with rfl | rfl | rfl | rfl | rfl <;> rfl) (by unfold maxLen; omega) (by omega) G52.out.size (l.length + 1) (by omega) ?_
            intro a61 c62 W58 ho63 hg64 ha65
            have G59 : Hid (A.grownBy W58 none) := gb_own G52.out hg64 (fun x hx => (row_lt R55.out hx).1)
            have nd67 : ∀ x, (Value.slice a61 (l.length + 1) c62).ownBlock = some x → x ≠ B15 := fun x hx e => by
              rcases ha65 with h | h
              · rw [h] at hx; exact nd16 x hx e
              · rw [h] at hx; simp only [Option.some.injEq] at hx; have := C56.out.lt; omega
            have C66 : Hid (FivB W58 B15 (.int .i64 d) (.string nm) (.int .i64 p) (.int .i64 u) (.int .i64 v)) := C56.out.gb hg64 (fun e => nd16 _ e.symm rfl)
            have nd69 : ∀ x, (Value.slice a61 (l.length + 1) c62).ownBlock = some x → x ≠ B53 := fun x hx e => by
              rcases ha65 with h | h
              · rw [h] at hx; exact nd54 x hx e
              · rw [h] at hx; simp only [Option.some.injEq] at hx; have := x57.out.lt; omega
            have T868 : Hid (TwoB W58 B53 (.int .i64 0) (.int .i64 0)) := x57.out.gb hg64 (fun e => nd54 _ e.symm rfl)
            have R60 : Hid (W58.ownsRow A.heap.size 45 5 (.slice a61 (l.length + 1) c62) (l.length + 1) (enc l ++ [.int .i64 d, .string nm, .int .i64 p, .int .i64 u, .int .i64 v])) := ho63
            refine hK.out _ _ (fun _ => G59.out) ?_
            clear hK K
            try simp only [Act.put, List.setIfInBounds_toArray, List.set_cons_zero, List.set_cons_succ]
            clear ho63 hg64 ha65
            refine wpAnyJ_ready (rs := [8]) (by kernel_rfl) (by simp) ?_
            refine AllJ.cons (o := { dst := some 87, op := Op.call { callee := Callee.value (Operand.func 9), args := #[Operand.tmp 84, Operand.tmp 86], argTypes := #[22, 9] }, type := 37, pos := "ref.go:125", after := #[{ on := 5, ground := Ground.data }, { on := 7, ground := Ground.data }, { on := 5, ground := Ground.chain }], guard := none }) rfl (fun K hK => ?_) ?_
            ·
              have kk := kc W58 _ R60.out
              go_simp
              go_at_call 9
              refine kk.mono ?_
              rintro ee W70 ⟨rfl, hb72⟩
              have G71 : Hid (A.grownBy W70 none) := gb_own G59.out (gb_none hb72) (by simp)
              have T73 : Hid (TwoB W70 B53 (.int .i64 0) (.int .i64 0)) := T868.out.below hb72
              clear kk
              refine hK.out _ _ (fun _ => G71.out) ?_
              clear hK K
              try simp only [Act.put, List.setIfInBounds_toArray, List.set_cons_zero, List.set_cons_succ]
              clear hb72
              refine wpAnyJ_take (i := 9) (oi := { dst := some 78, op := Op.move (Operand.tmp 87), type := 37, pos := "ref.go:125", after := #[{ on := 8, ground := Ground.data }], guard := none }) (v := .tuple #[.agg #[.int .i64 sq.1, .int .i64 sq.2], .int .i64 se]) rfl rfl (waits_of (by kernel_rfl)) (by kernel_rfl) (by kernel_rfl) (by kernel_rfl) (fun _ _ _ h => hQp _ _ _ _ _ h) (Or.inl ⟨by rfl, fun W hS => ?_⟩) G71.out ?_
              · go_simp
              simp only [Act.put, List.setIfInBounds_toArray, List.set_cons_zero, List.set_cons_succ]
              refine wpAnyJ_take (i := 10) (oi := { dst := some 88, op := Op.extract (Operand.tmp 78) 0, type := 35, pos := "ref.go:125", after := #[{ on := 9, ground := Ground.data }], guard := none }) (v := .agg #[.int .i64 sq.1, .int .i64 sq.2]) rfl rfl (waits_of (by kernel_rfl)) (by kernel_rfl) (by kernel_rfl) (by kernel_rfl) (fun _ _ _ h => hQp _ _ _ _ _ h) (Or.inl ⟨by rfl, fun W hS => ?_⟩) G71.out ?_
              · go_simp
              simp only [Act.put, List.setIfInBounds_toArray, List.set_cons_zero, List.set_cons_succ]
              refine wpAnyJ_take (i := 11) (oi := { dst := some 89, op := Op.extract (Operand.tmp 78) 1, type := 36, pos := "ref.go:125", after := #[{ on := 9, ground := Ground.data }, { on := 13, ground := Ground.gcOnly Departure.lateStores }], guard := none }) (v := .int .i64 se) rfl rfl (waits_of (by kernel_rfl)) (by kernel_rfl) (by kernel_rfl) (by kernel_rfl) (fun _ _ _ h => hQp _ _ _ _ _ h) (Or.inl ⟨by rfl, fun W hS => ?_⟩) G71.out ?_
              · go_simp
              simp only [Act.put, List.setIfInBounds_toArray, List.set_cons_zero, List.set_cons_succ]
              refine wpAnyJ_ready (rs := [13]) (by kernel_rfl) (by simp) ?_
              refine AllJ.cons (o := { dst := none, op := Op.store 35 (Operand.tmp 8) (Operand.tmp 88), type := 0, pos := "ref.go:125", after := #[{ on := 12, ground := Ground.data }, { on := 10, ground := Ground.data }, { on := 8, ground := Ground.chain }, { on := 0, ground := Ground.phase }, { on := 1, ground := Ground.phase }, { on := 2, ground := Ground.phase }, { on := 3, ground := Ground.phase }, { on := 4, ground := Ground.phase }, { on := 5, ground := Ground.phase }, { on := 6, ground := Ground.phase }, { on := 7, ground := Ground.phase }, { on := 8, ground := Ground.phase }, { on := 9, ground := Ground.phase }, { on := 10, ground := Ground.phase }, { on := 11, ground := Ground.textOnly Departure.lateStores }, { on := 12, ground := Ground.phase }], guard := none }) rfl (fun K hK => ?_) ?_
              ·
                obtain ⟨z0, z1, zf0, zf1, zl⟩ := T73.out
                go_simp
                have G74 : Hid (A.grownBy ((W70.setCell ⟨B53, 0, none⟩ (.int .i64 sq.1)).setCell ⟨B53, 1, none⟩ (.int .i64 sq.2)) none) := gb_new (gb_new G71.out (p := ⟨B53, 0, none⟩) lB53 _) (p := ⟨B53, 1, none⟩) lB53 _
                have T75 : Hid (TwoB ((W70.setCell ⟨B53, 0, none⟩ (.int .i64 sq.1)).setCell ⟨B53, 1, none⟩ (.int .i64 sq.2)) B53 (.int .i64 sq.1) (.int .i64 sq.2)) := T73.out.put _ _
                clear z0 z1 zf0 zf1 zl
                refine hK.out _ _ (fun _ => G74.out) ?_
                clear hK K
                try simp only [Act.put, List.setIfInBounds_toArray, List.set_cons_zero, List.set_cons_succ]
                refine wpAnyJ_ready (rs := [14]) (by kernel_rfl) (by simp) ?_
                refine AllJ.cons (o := { dst := some 9, op := Op.assign (Operand.tmp 89), type := 36, pos := "ref.go:125", after := #[{ on := 11, ground := Ground.data }, { on := 13, ground := Ground.chain }, { on := 0, ground := Ground.phase }, { on := 1, ground := Ground.phase }, { on := 2, ground := Ground.phase }, { on := 3, ground := Ground.phase }, { on := 4, ground := Ground.phase }, { on := 5, ground := Ground.phase }, { on := 6, ground := Ground.phase }, { on := 7, ground := Ground.phase }, { on := 8, ground := Ground.phase }, { on := 9, ground := Ground.phase }, { on := 10, ground := Ground.phase }, { on := 11, ground := Ground.phase }, { on := 12, ground := Ground.phase }, { on := 13, ground := Ground.phase }], guard := none }) rfl (fun K hK => ?_) ?_
                ·
                  go_simp
                  refine hK.out _ _ (fun _ => G74.out) ?_
                  clear hK K
                  try simp only [Act.put, List.setIfInBounds_toArray, List.set_cons_zero, List.set_cons_succ]
                  refine wpAnyJ_done (by kernel_rfl) ?_ _
                  exact HEND.out _ _ _ _ _ _ _ _ _ _ _ _ _ _ lB53 T75.out G74.out
                exact AllJ.nil
              exact AllJ.nil
            exact AllJ.nil
          exact AllJ.nil
        exact AllJ.nil
      refine AllJ.cons (o := { dst := some 8, op := Op.alloc 35, type := 0, pos := "ref.go:125", after := #[], guard := none }) rfl (fun K hK => ?_) ?_
      ·
        go_simp
        have G77 : Hid (A.grownBy (W5.alloc (.cells #[.int .i64 0, .int .i64 0] 35)) none) := gb_own G6.out (gb_none (ba _ _)) (by simp)
        have nd79 : ∀ x, ((.slice a8 l.length c9) : Value).ownBlock = some x → x ≠ W5.heap.size := fun x hx e => by have := (row_lt R7.out hx).2; omega
        have R80 : Hid ((W5.alloc (.cells #[.int .i64 0, .int .i64 0] 35)).ownsRow A.heap.size 45 5 (.slice a8 l.length c9) l.length (enc l)) := row_gb R7.out (gb_none (ba _ _)) (by simp)
        have x81 : Hid (TwoB (W5.alloc (.cells #[.int .i64 0, .int .i64 0] 35)) W5.heap.size (.int .i64 0) (.int .i64 0)) := TwoB.new _ _ _ 35 _ rfl
        refine hK.out _ _ (fun _ => G77.out) ?_
        clear hK K
        try simp only [Act.put, List.setIfInBounds_toArray, List.set_cons_zero, List.set_cons_succ]
        obtain ⟨B78, hB78⟩ : ∃ B78 : Nat, B78 = W5.heap.size := ⟨_, rfl⟩
        obtain ⟨W76, hW76⟩ : ∃ W76, W76 = (W5.alloc (.cells #[.int .i64 0, .int .i64 0] 35)) := ⟨_, rfl⟩
        rw [← hW76, ← hB78] at x81 ⊢
        rw [← hB78] at nd79
        rw [← hW76] at G77 R80
        have lB78 : A.heap.size ≤ B78 := by rw [hB78]; exact G6.out.size
        clear hW76 hB78
        refine wpAnyJ_ready (rs := [4]) (by kernel_rfl) (by simp) ?_
        refine AllJ.cons (o := { dst := some 83, op := Op.buildSlice 22 1 #[(0, Operand.tmp 82)], type := 22, pos := "ref.go:125", after := #[{ on := 3, ground := Ground.data }], guard := none }) rfl (fun K hK => ?_) ?_
        ·
          go_simp
          have G83 : Hid (A.grownBy (W76.alloc (.cells #[.int .i64 d, .string nm, .int .i64 p, .int .i64 u, .int .i64 v] 45)) none) := gb_own G77.out (gb_none (ba _ _)) (by simp)
          have nd85 : ∀ x, ((.slice a8 l.length c9) : Value).ownBlock = some x → x ≠ W76.heap.size := fun x hx e => by have := (row_lt R80.out hx).2; omega
          have R86 : Hid ((W76.alloc (.cells #[.int .i64 d, .string nm, .int .i64 p, .int .i64 u, .int .i64 v] 45)).ownsRow A.heap.size 45 5 (.slice a8 l.length c9) l.length (enc l)) := row_gb R80.out (gb_none (ba _ _)) (by simp)
          have T887 : Hid (TwoB (W76.alloc (.cells #[.int .i64 d, .string nm, .int .i64 p, .int .i64 u, .int .i64 v] 45)) B78 (.int .i64 0) (.int .i64 0)) := x81.out.below (ba _ _)
          have x88 : Hid (FivB (W76.alloc (.cells #[.int .i64 d, .string nm, .int .i64 p, .int .i64 u, .int .i64 v] 45)) W76.heap.size (.int .i64 d) (.string nm) (.int .i64 p) (.int .i64 u) (.int .i64 v)) := FivB.new _ _ _ _ _ _ 45 _ rfl
          refine hK.out _ _ (fun _ => G83.out) ?_
          clear hK K
          try simp only [Act.put, List.setIfInBounds_toArray, List.set_cons_zero, List.set_cons_succ]
          obtain ⟨B84, hB84⟩ : ∃ B84 : Nat, B84 = W76.heap.size := ⟨_, rfl⟩
          obtain ⟨W82, hW82⟩ : ∃ W82, W82 = (W76.alloc (.cells #[.int .i64 d, .string nm, .int .i64 p, .int .i64 u, .int .i64 v] 45)) := ⟨_, rfl⟩
          rw [← hW82, ← hB84] at x88 ⊢
          rw [← hB84] at nd85
          rw [← hW82] at G83 R86 T887
          have lB84 : A.heap.size ≤ B84 := by rw [hB84]; exact G77.out.size
          clear hW82 hB84
          refine wpAnyJ_ready (rs := [5]) (by kernel_rfl) (by simp) ?_
          refine AllJ.cons (o := { dst := some 84, op := Op.call { callee := Callee.builtin Builtin.append, args := #[Operand.tmp 81, Operand.tmp 83], argTypes := #[22, 22] }, type := 22, pos := "ref.go:125", after := #[{ on := 2, ground := Ground.data }, { on := 4, ground := Ground.data }, { on := 2, ground := Ground.chain }], guard := none }) rfl (fun K hK => ?_) ?_
          ·
            refine step_app _ rfl _ _ 22 rfl A.heap.size 45 i45 (.agg #[.int .i64 0, .string ⟨#[]⟩, .int .i64 0, .int .i64 0, .int .i64 0]) 5 48 Tryz.underlying22 hi45 hq0 hq1 hq2 rfl (by decide) a8 l.length c9 (enc l) rfl R86.out (some ⟨B84, 0, none⟩) 1 1 [.int .i64 d, .string nm, .int .i64 p, .int .i64 u, .int .i64 v] rfl rfl (fun _ => ⟨_, rfl, five_news x88.out⟩) (by intro z hz; simp at hz; rcases hz with rfl | rfl | rfl | rfl | rfl <;> rfl) (by unfold maxLen; omega) (by omega) G83.out.size (l.length + 1) (by omega) ?_
            intro a92 c93 W89 ho94 hg95 ha96
            have G90 : Hid (A.grownBy W89 none) := gb_own G83.out hg95 (fun x hx => (row_lt R86.out hx).1)
            have nd98 : ∀ x, (Value.slice a92 (l.length + 1) c93).ownBlock = some x → x ≠ B84 := fun x hx e => by
              rcases ha96 with h | h
              · rw [h] at hx; exact nd85 x hx e
              · rw [h] at hx; simp only [Option.some.injEq] at hx; have := x88.out.lt; omega
            have C97 : Hid (FivB W89 B84 (.int .i64 d) (.string nm) (.int .i64 p) (.int .i64 u) (.int .i64 v)) := x88.out.gb hg95 (fun e => nd85 _ e.symm rfl)
            have nd100 : ∀ x, (Value.slice a92 (l.length + 1) c93).ownBlock = some x → x ≠ B78 := fun x hx e => by
              rcases ha96 with h | h
              · rw [h] at hx; exact nd79 x hx e
              · rw [h] at hx; simp only [Option.some.injEq] at hx; have := T887.out.lt; omega
            have T899 : Hid (TwoB W89 B78 (.int .i64 0) (.int .i64 0)) := T887.out.gb hg95 (fun e => nd79 _ e.symm rfl)
            have R91 : Hid (W89.ownsRow A.heap.size 45 5 (.slice a92 (l.length + 1) c93) (l.length + 1) (enc l ++ [.int .i64 d, .string nm, .int .i64 p, .int .i64 u, .int .i64 v])) := ho94
            refine hK.out _ _ (fun _ => G90.out) ?_
            clear hK K
            try simp only [Act.put, List.setIfInBounds_toArray, List.set_cons_zero, List.set_cons_succ]
            clear ho94 hg95 ha96
            refine wpAnyJ_ready (rs := [8]) (by kernel_rfl) (by simp) ?_
            refine AllJ.cons (o := { dst := some 87, op := Op.call { callee := Callee.value (Operand.func 9), args := #[Operand.tmp 84, Operand.tmp 86], argTypes := #[22, 9] }, type := 37, pos := "ref.go:125", after := #[{ on := 5, ground := Ground.data }, { on := 7, ground := Ground.data }, { on := 5, ground := Ground.chain }], guard := none }) rfl (fun K hK => ?_) ?_
            ·
              have kk := kc W89 _ R91.out
              go_simp
              go_at_call 9
              refine kk.mono ?_
              rintro ee W101 ⟨rfl, hb103⟩
              have G102 : Hid (A.grownBy W101 none) := gb_own G90.out (gb_none hb103) (by simp)
              have T104 : Hid (TwoB W101 B78 (.int .i64 0) (.int .i64 0)) := T899.out.below hb103
              clear kk
              refine hK.out _ _ (fun _ => G102.out) ?_
              clear hK K
              try simp only [Act.put, List.setIfInBounds_toArray, List.set_cons_zero, List.set_cons_succ]
              clear hb103
              refine wpAnyJ_take (i := 9) (oi := { dst := some 78, op := Op.move (Operand.tmp 87), type := 37, pos := "ref.go:125", after := #[{ on := 8, ground := Ground.data }], guard := none }) (v := .tuple #[.agg #[.int .i64 sq.1, .int .i64 sq.2], .int .i64 se]) rfl rfl (waits_of (by kernel_rfl)) (by kernel_rfl) (by kernel_rfl) (by kernel_rfl) (fun _ _ _ h => hQp _ _ _ _ _ h) (Or.inl ⟨by rfl, fun W hS => ?_⟩) G102.out ?_
              · go_simp
              simp only [Act.put, List.setIfInBounds_toArray, List.set_cons_zero, List.set_cons_succ]
              refine wpAnyJ_take (i := 10) (oi := { dst := some 88, op := Op.extract (Operand.tmp 78) 0, type := 35, pos := "ref.go:125", after := #[{ on := 9, ground := Ground.data }], guard := none }) (v := .agg #[.int .i64 sq.1, .int .i64 sq.2]) rfl rfl (waits_of (by kernel_rfl)) (by kernel_rfl) (by kernel_rfl) (by kernel_rfl) (fun _ _ _ h => hQp _ _ _ _ _ h) (Or.inl ⟨by rfl, fun W hS => ?_⟩) G102.out ?_
              · go_simp
              simp only [Act.put, List.setIfInBounds_toArray, List.set_cons_zero, List.set_cons_succ]
              refine wpAnyJ_take (i := 11) (oi := { dst := some 89, op := Op.extract (Operand.tmp 78) 1, type := 36, pos := "ref.go:125", after := #[{ on := 9, ground := Ground.data }, { on := 13, ground := Ground.gcOnly Departure.lateStores }], guard := none }) (v := .int .i64 se) rfl rfl (waits_of (by kernel_rfl)) (by kernel_rfl) (by kernel_rfl) (by kernel_rfl) (fun _ _ _ h => hQp _ _ _ _ _ h) (Or.inl ⟨by rfl, fun W hS => ?_⟩) G102.out ?_
              · go_simp
              simp only [Act.put, List.setIfInBounds_toArray, List.set_cons_zero, List.set_cons_succ]
              refine wpAnyJ_ready (rs := [13]) (by kernel_rfl) (by simp) ?_
              refine AllJ.cons (o := { dst := none, op := Op.store 35 (Operand.tmp 8) (Operand.tmp 88), type := 0, pos := "ref.go:125", after := #[{ on := 12, ground := Ground.data }, { on := 10, ground := Ground.data }, { on := 8, ground := Ground.chain }, { on := 0, ground := Ground.phase }, { on := 1, ground := Ground.phase }, { on := 2, ground := Ground.phase }, { on := 3, ground := Ground.phase }, { on := 4, ground := Ground.phase }, { on := 5, ground := Ground.phase }, { on := 6, ground := Ground.phase }, { on := 7, ground := Ground.phase }, { on := 8, ground := Ground.phase }, { on := 9, ground := Ground.phase }, { on := 10, ground := Ground.phase }, { on := 11, ground := Ground.textOnly Departure.lateStores }, { on := 12, ground := Ground.phase }], guard := none }) rfl (fun K hK => ?_) ?_
              ·
                obtain ⟨z0, z1, zf0, zf1, zl⟩ := T104.out
                go_simp
                have G105 : Hid (A.grownBy ((W101.setCell ⟨B78, 0, none⟩ (.int .i64 sq.1)).setCell ⟨B78, 1, none⟩ (.int .i64 sq.2)) none) := gb_new (gb_new G102.out (p := ⟨B78, 0, none⟩) lB78 _) (p := ⟨B78, 1, none⟩) lB78 _
                have T106 : Hid (TwoB ((W101.setCell ⟨B78, 0, none⟩ (.int .i64 sq.1)).setCell ⟨B78, 1, none⟩ (.int .i64 sq.2)) B78 (.int .i64 sq.1) (.int .i64 sq.2)) := T104.out.put _ _
                clear z0 z1 zf0 zf1 zl
                refine hK.out _ _ (fun _ => G105.out) ?_
                clear hK K
                try simp only [Act.put, List.setIfInBounds_toArray, List.set_cons_zero, List.set_cons_succ]
                refine wpAnyJ_ready (rs := [14]) (by kernel_rfl) (by simp) ?_
                refine AllJ.cons (o := { dst := some 9, op := Op.assign (Operand.tmp 89), type := 36, pos := "ref.go:125", after := #[{ on := 11, ground := Ground.data }, { on := 13, ground := Ground.chain }, { on := 0, ground := Ground.phase }, { on := 1, ground := Ground.phase }, { on := 2, ground := Ground.phase }, { on := 3, ground := Ground.phase }, { on := 4, ground := Ground.phase }, { on := 5, ground := Ground.phase }, { on := 6, ground := Ground.phase }, { on := 7, ground := Ground.phase }, { on := 8, ground := Ground.phase }, { on := 9, ground := Ground.phase }, { on := 10, ground := Ground.phase }, { on := 11, ground := Ground.phase }, { on := 12, ground := Ground.phase }, { on := 13, ground := Ground.phase }], guard := none }) rfl (fun K hK => ?_) ?_
                ·
                  go_simp
                  refine hK.out _ _ (fun _ => G105.out) ?_
                  clear hK K
                  try simp only [Act.put, List.setIfInBounds_toArray, List.set_cons_zero, List.set_cons_succ]
                  refine wpAnyJ_done (by kernel_rfl) ?_ _
                  exact HEND.out _ _ _ _ _ _ _ _ _ _ _ _ _ _ lB78 T106.out G105.out
                exact AllJ.nil
              exact AllJ.nil
            exact AllJ.nil
          exact AllJ.nil
        exact AllJ.nil
      exact AllJ.nil
    refine AllJ.cons (o := { dst := some 83, op := Op.buildSlice 22 1 #[(0, Operand.tmp 82)], type := 22, pos := "ref.go:125", after := #[{ on := 3, ground := Ground.data }], guard := none }) rfl (fun K hK => ?_) ?_
    ·
      go_simp
      have G108 : Hid (A.grownBy (W1.alloc (.cells #[.int .i64 d, .string nm, .int .i64 p, .int .i64 u, .int .i64 v] 45)) none) := gb_own G2.out (gb_none (ba _ _)) (by simp)
      have nd110 : ∀ x, ((.slice (some ⟨B3, 0, none⟩) 0 0) : Value).ownBlock = some x → x ≠ W1.heap.size := fun x hx e => by have := (row_lt x4.out hx).2; omega
      have R111 : Hid ((W1.alloc (.cells #[.int .i64 d, .string nm, .int .i64 p, .int .i64 u, .int .i64 v] 45)).ownsRow A.heap.size 45 5 (.slice (some ⟨B3, 0, none⟩) 0 0) 0 []) := row_gb x4.out (gb_none (ba _ _)) (by simp)
      have x112 : Hid (FivB (W1.alloc (.cells #[.int .i64 d, .string nm, .int .i64 p, .int .i64 u, .int .i64 v] 45)) W1.heap.size (.int .i64 d) (.string nm) (.int .i64 p) (.int .i64 u) (.int .i64 v)) := FivB.new _ _ _ _ _ _ 45 _ rfl
      refine hK.out _ _ (fun _ => G108.out) ?_
      clear hK K
      try simp only [Act.put, List.setIfInBounds_toArray, List.set_cons_zero, List.set_cons_succ]
      obtain ⟨B109, hB109⟩ : ∃ B109 : Nat, B109 = W1.heap.size := ⟨_, rfl⟩
      obtain ⟨W107, hW107⟩ : ∃ W107, W107 = (W1.alloc (.cells #[.int .i64 d, .string nm, .int .i64 p, .int .i64 u, .int .i64 v] 45)) := ⟨_, rfl⟩
      rw [← hW107, ← hB109] at x112 ⊢
      rw [← hB109] at nd110
      rw [← hW107] at G108 R111
      have lB109 : A.heap.size ≤ B109 := by rw [hB109]; exact G2.out.size
      clear hW107 hB109
      refine wpAnyJ_ready (rs := [2, 12]) (by kernel_rfl) (by simp) ?_
      refine AllJ.cons (o := { dst := some 81, op := Op.call { callee := Callee.builtin Builtin.append, args := #[Operand.tmp 79, Operand.tmp 80], argTypes := #[22, 22] }, type := 22, pos := "ref.go:125", after := #[{ on := 0, ground := Ground.data }, { on := 1, ground := Ground.data }], guard := none }) rfl (fun K hK => ?_) ?_
      ·
        refine step_app _ rfl _ _ 22 rfl A.heap.size 45 i45 (.agg #[.int .i64 0, .string ⟨#[]⟩, .int .i64 0, .int .i64 0, .int .i64 0]) 5 48 Tryz.underlying22 hi45 hq0 hq1 hq2 rfl (by decide) (some ⟨B3, 0, none⟩) 0 0 [] rfl R111.out a l.length c (enc l) rfl hl1 (HSRC.out W107 G108.out) HONE.out (by unfold maxLen; omega) (by omega) G108.out.size l.length (by omega) ?_
        intro a116 c117 W113 ho118 hg119 ha120
        have G114 : Hid (A.grownBy W113 none) := gb_own G108.out hg119 (fun x hx => (row_lt R111.out hx).1)
        have nd122 : ∀ x, (Value.slice a116 l.length c117).ownBlock = some x → x ≠ B109 := fun x hx e => by
          rcases ha120 with h | h
          · rw [h] at hx; exact nd110 x hx e
          · rw [h] at hx; simp only [Option.some.injEq] at hx; have := x112.out.lt; omega
        have C121 : Hid (FivB W113 B109 (.int .i64 d) (.string nm) (.int .i64 p) (.int .i64 u) (.int .i64 v)) := x112.out.gb hg119 (fun e => nd110 _ e.symm rfl)
        have R115 : Hid (W113.ownsRow A.heap.size 45 5 (.slice a116 l.length c117) l.length (enc l)) := by rw [Hid]; simpa using ho118
        refine hK.out _ _ (fun _ => G114.out) ?_
        clear hK K
        try simp only [Act.put, List.setIfInBounds_toArray, List.set_cons_zero, List.set_cons_succ]
        clear ho118 hg119 ha120
        refine wpAnyJ_ready (rs := [5, 12]) (by kernel_rfl) (by simp) ?_
        refine AllJ.cons (o := { dst := some 84, op := Op.call { callee := Callee.builtin Builtin.append, args := #[Operand.tmp 81, Operand.tmp 83], argTypes := #[22, 22] }, type := 22, pos := "ref.go:125", after := #[{ on := 2, ground := Ground.data }, { on := 4, ground := Ground.data }, { on := 2, ground := Ground.chain }], guard := none }) rfl (fun K hK => ?_) ?_
        ·
          refine step_app _ rfl _ _ 22 rfl A.heap.size 45 i45 (.agg #[.int .i64 0, .string ⟨#[]⟩, .int .i64 0, .int .i64 0, .int .i64 0]) 5 48 Tryz.underlying22 hi45 hq0 hq1 hq2 rfl (by decide) a116 l.length c117 (enc l) rfl R115.out (some ⟨B109, 0, none⟩) 1 1 [.int .i64 d, .string nm, .int .i64 p, .int .i64 u, .int .i64 v] rfl rfl (fun _ => ⟨_, rfl, five_news C121.out⟩) (by intro z hz; simp at hz; rcases hz with rfl | rfl | rfl | rfl | rfl <;> rfl) (by unfold maxLen; omega) (by omega) G114.out.size (l.length + 1) (by omega) ?_
          intro a126 c127 W123 ho128 hg129 ha130
          have G124 : Hid (A.grownBy W123 none) := gb_own G114.out hg129 (fun x hx => (row_lt R115.out hx).1)
          have nd132 : ∀ x, (Value.slice a126 (l.length + 1) c127).ownBlock = some x → x ≠ B109 := fun x hx e => by
            rcases ha130 with h | h
            · rw [h] at hx; exact nd122 x hx e
            · rw [h] at hx; simp only [Option.some.injEq] at hx; have := C121.out.lt; omega
          have C131 : Hid (FivB W123 B109 (.int .i64 d) (.string nm) (.int .i64 p) (.int .i64 u) (.int .i64 v)) := C121.out.gb hg129 (fun e => nd122 _ e.symm rfl)
          have R125 : Hid (W123.ownsRow A.heap.size 45 5 (.slice a126 (l.length + 1) c127) (l.length + 1) (enc l ++ [.int .i64 d, .string nm, .int .i64 p, .int .i64 u, .int .i64 v])) := ho128
          refine hK.out _ _ (fun _ => G124.out) ?_
          clear hK K
          try simp only [Act.put, List.setIfInBounds_toArray, List.set_cons_zero, List.set_cons_succ]
          clear ho128 hg129 ha130
          refine wpAnyJ_ready (rs := [8, 12]) (by kernel_rfl) (by simp) ?_
          refine AllJ.cons (o := { dst := some 87, op := Op.call { callee := Callee.value (Operand.func 9), args := #[Operand.tmp 84, Operand.tmp 86], argTypes := #[22, 9] }, type := 37, pos := "ref.go:125", after := #[{ on := 5, ground := Ground.data }, { on := 7, ground := Ground.data }, { on := 5, ground := Ground.chain }], guard := none }) rfl (fun K hK => ?_) ?_
          ·
            have kk := kc W123 _ R125.out
            go_simp
            go_at_call 9
            refine kk.mono ?_
            rintro ee W133 ⟨rfl, hb135⟩
            have G134 : Hid (A.grownBy W133 none) := gb_own G124.out (gb_none hb135) (by simp)
            clear kk
            refine hK.out _ _ (fun _ => G134.out) ?_
            clear hK K
            try simp only [Act.put, List.setIfInBounds_toArray, List.set_cons_zero, List.set_cons_succ]
            clear hb135
            refine wpAnyJ_take (i := 9) (oi := { dst := some 78, op := Op.move (Operand.tmp 87), type := 37, pos := "ref.go:125", after := #[{ on := 8, ground := Ground.data }], guard := none }) (v := .tuple #[.agg #[.int .i64 sq.1, .int .i64 sq.2], .int .i64 se]) rfl rfl (waits_of (by kernel_rfl)) (by kernel_rfl) (by kernel_rfl) (by kernel_rfl) (fun _ _ _ h => hQp _ _ _ _ _ h) (Or.inl ⟨by rfl, fun W hS => ?_⟩) G134.out ?_
            · go_simp
            simp only [Act.put, List.setIfInBounds_toArray, List.set_cons_zero, List.set_cons_succ]
            refine wpAnyJ_take (i := 10) (oi := { dst := some 88, op := Op.extract (Operand.tmp 78) 0, type := 35, pos := "ref.go:125", after := #[{ on := 9, ground := Ground.data }], guard := none }) (v := .agg #[.int .i64 sq.1, .int .i64 sq.2]) rfl rfl (waits_of (by kernel_rfl)) (by kernel_rfl) (by kernel_rfl) (by kernel_rfl) (fun _ _ _ h => hQp _ _ _ _ _ h) (Or.inl ⟨by rfl, fun W hS => ?_⟩) G134.out ?_
            · go_simp
            simp only [Act.put, List.setIfInBounds_toArray, List.set_cons_zero, List.set_cons_succ]
            refine wpAnyJ_take (i := 11) (oi := { dst := some 89, op := Op.extract (Operand.tmp 78) 1, type := 36, pos := "ref.go:125", after := #[{ on := 9, ground := Ground.data }, { on := 13, ground := Ground.gcOnly Departure.lateStores }], guard := none }) (v := .int .i64 se) rfl rfl (waits_of (by kernel_rfl)) (by kernel_rfl) (by kernel_rfl) (by kernel_rfl) (fun _ _ _ h => hQp _ _ _ _ _ h) (Or.inl ⟨by rfl, fun W hS => ?_⟩) G134.out ?_
            · go_simp
            simp only [Act.put, List.setIfInBounds_toArray, List.set_cons_zero, List.set_cons_succ]
            refine wpAnyJ_ready (rs := [12]) (by kernel_rfl) (by simp) ?_
            refine AllJ.cons (o := { dst := some 8, op := Op.alloc 35, type := 0, pos := "ref.go:125", after := #[], guard := none }) rfl (fun K hK => ?_) ?_
            ·
              go_simp
              have G137 : Hid (A.grownBy (W133.alloc (.cells #[.int .i64 0, .int .i64 0] 35)) none) := gb_own G134.out (gb_none (ba _ _)) (by simp)
              have x139 : Hid (TwoB (W133.alloc (.cells #[.int .i64 0, .int .i64 0] 35)) W133.heap.size (.int .i64 0) (.int .i64 0)) := TwoB.new _ _ _ 35 _ rfl
              refine hK.out _ _ (fun _ => G137.out) ?_
              clear hK K
              try simp only [Act.put, List.setIfInBounds_toArray, List.set_cons_zero, List.set_cons_succ]
              obtain ⟨B138, hB138⟩ : ∃ B138 : Nat, B138 = W133.heap.size := ⟨_, rfl⟩
              obtain ⟨W136, hW136⟩ : ∃ W136, W136 = (W133.alloc (.cells #[.int .i64 0, .int .i64 0] 35)) := ⟨_, rfl⟩
              rw [← hW136, ← hB138] at x139 ⊢
              rw [← hW136] at G137
              have lB138 : A.heap.size ≤ B138 := by rw [hB138]; exact G134.out.size
              clear hW136 hB138
              refine wpAnyJ_ready (rs := [13]) (by kernel_rfl) (by simp) ?_
              refine AllJ.cons (o := { dst := none, op := Op.store 35 (Operand.tmp 8) (Operand.tmp 88), type := 0, pos := "ref.go:125", after := #[{ on := 12, ground := Ground.data }, { on := 10, ground := Ground.data }, { on := 8, ground := Ground.chain }, { on := 0, ground := Ground.phase }, { on := 1, ground := Ground.phase }, { on := 2, ground := Ground.phase }, { on := 3, ground := Ground.phase }, { on := 4, ground := Ground.phase }, { on := 5, ground := Ground.phase }, { on := 6, ground := Ground.phase }, { on := 7, ground := Ground.phase }, { on := 8, ground := Ground.phase }, { on := 9, ground := Ground.phase }, { on := 10, ground := Ground.phase }, { on := 11, ground := Ground.textOnly Departure.lateStores }, { on := 12, ground := Ground.phase }], guard := none }) rfl (fun K hK => ?_) ?_
              ·
                obtain ⟨z0, z1, zf0, zf1, zl⟩ := x139.out
                go_simp
                have G140 : Hid (A.grownBy ((W136.setCell ⟨B138, 0, none⟩ (.int .i64 sq.1)).setCell ⟨B138, 1, none⟩ (.int .i64 sq.2)) none) := gb_new (gb_new G137.out (p := ⟨B138, 0, none⟩) lB138 _) (p := ⟨B138, 1, none⟩) lB138 _
                have T141 : Hid (TwoB ((W136.setCell ⟨B138, 0, none⟩ (.int .i64 sq.1)).setCell ⟨B138, 1, none⟩ (.int .i64 sq.2)) B138 (.int .i64 sq.1) (.int .i64 sq.2)) := x139.out.put _ _
                clear z0 z1 zf0 zf1 zl
                refine hK.out _ _ (fun _ => G140.out) ?_
                clear hK K
                try simp only [Act.put, List.setIfInBounds_toArray, List.set_cons_zero, List.set_cons_succ]
                refine wpAnyJ_ready (rs := [14]) (by kernel_rfl) (by simp) ?_
                refine AllJ.cons (o := { dst := some 9, op := Op.assign (Operand.tmp 89), type := 36, pos := "ref.go:125", after := #[{ on := 11, ground := Ground.data }, { on := 13, ground := Ground.chain }, { on := 0, ground := Ground.phase }, { on := 1, ground := Ground.phase }, { on := 2, ground := Ground.phase }, { on := 3, ground := Ground.phase }, { on := 4, ground := Ground.phase }, { on := 5, ground := Ground.phase }, { on := 6, ground := Ground.phase }, { on := 7, ground := Ground.phase }, { on := 8, ground := Ground.phase }, { on := 9, ground := Ground.phase }, { on := 10, ground := Ground.phase }, { on := 11, ground := Ground.phase }, { on := 12, ground := Ground.phase }, { on := 13, ground := Ground.phase }], guard := none }) rfl (fun K hK => ?_) ?_
                ·
                  go_simp
                  refine hK.out _ _ (fun _ => G140.out) ?_
                  clear hK K
                  try simp only [Act.put, List.setIfInBounds_toArray, List.set_cons_zero, List.set_cons_succ]
                  refine wpAnyJ_done (by kernel_rfl) ?_ _
                  exact HEND.out _ _ _ _ _ _ _ _ _ _ _ _ _ _ lB138 T141.out G140.out
                exact AllJ.nil
              exact AllJ.nil
            exact AllJ.nil
          refine AllJ.cons (o := { dst := some 8, op := Op.alloc 35, type := 0, pos := "ref.go:125", after := #[], guard := none }) rfl (fun K hK => ?_) ?_
          ·
            go_simp
            have G143 : Hid (A.grownBy (W123.alloc (.cells #[.int .i64 0, .int .i64 0] 35)) none) := gb_own G124.out (gb_none (ba _ _)) (by simp)
            have nd145 : ∀ x, ((.slice a126 (l.length + 1) c127) : Value).ownBlock = some x → x ≠ W123.heap.size := fun x hx e => by have := (row_lt R125.out hx).2; omega
            have R146 : Hid ((W123.alloc (.cells #[.int .i64 0, .int .i64 0] 35)).ownsRow A.heap.size 45 5 (.slice a126 (l.length + 1) c127) (l.length + 1) (enc l ++ [.int .i64 d, .string nm, .int .i64 p, .int .i64 u, .int .i64 v])) := row_gb R125.out (gb_none (ba _ _)) (by simp)
            have C147 : Hid (FivB (W123.alloc (.cells #[.int .i64 0, .int .i64 0] 35)) B109 (.int .i64 d) (.string nm) (.int .i64 p) (.int .i64 u) (.int .i64 v)) := C131.out.below (ba _ _)
            have x148 : Hid (TwoB (W123.alloc (.cells #[.int .i64 0, .int .i64 0] 35)) W123.heap.size (.int .i64 0) (.int .i64 0)) := TwoB.new _ _ _ 35 _ rfl
            refine hK.out _ _ (fun _ => G143.out) ?_
            clear hK K
            try simp only [Act.put, List.setIfInBounds_toArray, List.set_cons_zero, List.set_cons_succ]
            obtain ⟨B144, hB144⟩ : ∃ B144 : Nat, B144 = W123.heap.size := ⟨_, rfl⟩
            obtain ⟨W142, hW142⟩ : ∃ W142, W142 = (W123.alloc (.cells #[.int .i64 0, .int .i64 0] 35)) := ⟨_, rfl⟩
            rw [← hW142, ← hB144] at x148 ⊢
            rw [← hB144] at nd145
            rw [← hW142] at G143 R146 C147
            have lB144 : A.heap.size ≤ B144 := by rw [hB144]; exact G124.out.size
            clear hW142 hB144
            refine wpAnyJ_ready (rs := [8]) (by kernel_rfl) (by simp) ?_
            refine AllJ.cons (o := { dst := some 87, op := Op.call { callee := Callee.value (Operand.func 9), args := #[Operand.tmp 84, Operand.tmp 86], argTypes := #[22, 9] }, type := 37, pos := "ref.go:125", after := #[{ on := 5, ground := Ground.data }, { on := 7, ground := Ground.data }, { on := 5, ground := Ground.chain }], guard := none }) rfl (fun K hK => ?_) ?_
            ·
              have kk := kc W142 _ R146.out
              go_simp
              go_at_call 9
              refine kk.mono ?_
              rintro ee W149 ⟨rfl, hb151⟩
              have G150 : Hid (A.grownBy W149 none) := gb_own G143.out (gb_none hb151) (by simp)
              have T152 : Hid (TwoB W149 B144 (.int .i64 0) (.int .i64 0)) := x148.out.below hb151
              clear kk
              refine hK.out _ _ (fun _ => G150.out) ?_
              clear hK K
              try simp only [Act.put, List.setIfInBounds_toArray, List.set_cons_zero, List.set_cons_succ]
              clear hb151
              refine wpAnyJ_take (i := 9) (oi := { dst := some 78, op := Op.move (Operand.tmp 87), type := 37, pos := "ref.go:125", after := #[{ on := 8, ground := Ground.data }], guard := none }) (v := .tuple #[.agg #[.int .i64 sq.1, .int .i64 sq.2], .int .i64 se]) rfl rfl (waits_of (by kernel_rfl)) (by kernel_rfl) (by kernel_rfl) (by kernel_rfl) (fun _ _ _ h => hQp _ _ _ _ _ h) (Or.inl ⟨by rfl, fun W hS => ?_⟩) G150.out ?_
              · go_simp
              simp only [Act.put, List.setIfInBounds_toArray, List.set_cons_zero, List.set_cons_succ]
              refine wpAnyJ_take (i := 10) (oi := { dst := some 88, op := Op.extract (Operand.tmp 78) 0, type := 35, pos := "ref.go:125", after := #[{ on := 9, ground := Ground.data }], guard := none }) (v := .agg #[.int .i64 sq.1, .int .i64 sq.2]) rfl rfl (waits_of (by kernel_rfl)) (by kernel_rfl) (by kernel_rfl) (by kernel_rfl) (fun _ _ _ h => hQp _ _ _ _ _ h) (Or.inl ⟨by rfl, fun W hS => ?_⟩) G150.out ?_
              · go_simp
              simp only [Act.put, List.setIfInBounds_toArray, List.set_cons_zero, List.set_cons_succ]
              refine wpAnyJ_take (i := 11) (oi := { dst := some 89, op := Op.extract (Operand.tmp 78) 1, type := 36, pos := "ref.go:125", after := #[{ on := 9, ground := Ground.data }, { on := 13, ground := Ground.gcOnly Departure.lateStores }], guard := none }) (v := .int .i64 se) rfl rfl (waits_of (by kernel_rfl)) (by kernel_rfl) (by kernel_rfl) (by kernel_rfl) (fun _ _ _ h => hQp _ _ _ _ _ h) (Or.inl ⟨by rfl, fun W hS => ?_⟩) G150.out ?_
              · go_simp
              simp only [Act.put, List.setIfInBounds_toArray, List.set_cons_zero, List.set_cons_succ]
              refine wpAnyJ_ready (rs := [13]) (by kernel_rfl) (by simp) ?_
              refine AllJ.cons (o := { dst := none, op := Op.store 35 (Operand.tmp 8) (Operand.tmp 88), type := 0, pos := "ref.go:125", after := #[{ on := 12, ground := Ground.data }, { on := 10, ground := Ground.data }, { on := 8, ground := Ground.chain }, { on := 0, ground := Ground.phase }, { on := 1, ground := Ground.phase }, { on := 2, ground := Ground.phase }, { on := 3, ground := Ground.phase }, { on := 4, ground := Ground.phase }, { on := 5, ground := Ground.phase }, { on := 6, ground := Ground.phase }, { on := 7, ground := Ground.phase }, { on := 8, ground := Ground.phase }, { on := 9, ground := Ground.phase }, { on := 10, ground := Ground.phase }, { on := 11, ground := Ground.textOnly Departure.lateStores }, { on := 12, ground := Ground.phase }], guard := none }) rfl (fun K hK => ?_) ?_
              ·
                obtain ⟨z0, z1, zf0, zf1, zl⟩ := T152.out
                go_simp
                have G153 : Hid (A.grownBy ((W149.setCell ⟨B144, 0, none⟩ (.int .i64 sq.1)).setCell ⟨B144, 1, none⟩ (.int .i64 sq.2)) none) := gb_new (gb_new G150.out (p := ⟨B144, 0, none⟩) lB144 _) (p := ⟨B144, 1, none⟩) lB144 _
                have T154 : Hid (TwoB ((W149.setCell ⟨B144, 0, none⟩ (.int .i64 sq.1)).setCell ⟨B144, 1, none⟩ (.int .i64 sq.2)) B144 (.int .i64 sq.1) (.int .i64 sq.2)) := T152.out.put _ _
                clear z0 z1 zf0 zf1 zl
                refine hK.out _ _ (fun _ => G153.out) ?_
                clear hK K
                try simp only [Act.put, List.setIfInBounds_toArray, List.set_cons_zero, List.set_cons_succ]
                refine wpAnyJ_ready (rs := [14]) (by kernel_rfl) (by simp) ?_
                refine AllJ.cons (o := { dst := some 9, op := Op.assign (Operand.tmp 89), type := 36, pos := "ref.go:125", after := #[{ on := 11, ground := Ground.data }, { on := 13, ground := Ground.chain }, { on := 0, ground := Ground.phase }, { on := 1, ground := Ground.phase }, { on := 2, ground := Ground.phase }, { on := 3, ground := Ground.phase }, { on := 4, ground := Ground.phase }, { on := 5, ground := Ground.phase }, { on := 6, ground := Ground.phase }, { on := 7, ground := Ground.phase }, { on := 8, ground := Ground.phase }, { on := 9, ground := Ground.phase }, { on := 10, ground := Ground.phase }, { on := 11, ground := Ground.phase }, { on := 12, ground := Ground.phase }, { on := 13, ground := Ground.phase }], guard := none }) rfl (fun K hK => ?_) ?_
                ·
                  go_simp
                  refine hK.out _ _ (fun _ => G153.out) ?_
                  clear hK K
                  try simp only [Act.put, List.setIfInBounds_toArray, List.set_cons_zero, List.set_cons_succ]
                  refine wpAnyJ_done (by kernel_rfl) ?_ _
                  exact HEND.out _ _ _ _ _ _ _ _ _ _ _ _ _ _ lB144 T154.out G153.out
                exact AllJ.nil
              exact AllJ.nil
            exact AllJ.nil
          exact AllJ.nil
        refine AllJ.cons (o := { dst := some 8, op := Op.alloc 35, type := 0, pos := "ref.go:125", after := #[], guard := none }) rfl (fun K hK => ?_) ?_
        ·
          go_simp
          have G156 : Hid (A.grownBy (W113.alloc (.cells #[.int .i64 0, .int .i64 0] 35)) none) := gb_own G114.out (gb_none (ba _ _)) (by simp)
          have nd158 : ∀ x, ((.slice a116 l.length c117) : Value).ownBlock = some x → x ≠ W113.heap.size := fun x hx e => by have := (row_lt R115.out hx).2; omega
          have R159 : Hid ((W113.alloc (.cells #[.int .i64 0, .int .i64 0] 35)).ownsRow A.heap.size 45 5 (.slice a116 l.length c117) l.length (enc l)) := row_gb R115.out (gb_none (ba _ _)) (by simp)
          have C160 : Hid (FivB (W113.alloc (.cells #[.int .i64 0, .int .i64 0] 35)) B109 (.int .i64 d) (.string nm) (.int .i64 p) (.int .i64 u) (.int .i64 v)) := C121.out.below (ba _ _)
          have x161 : Hid (TwoB (W113.alloc (.cells #[.int .i64 0, .int .i64 0] 35)) W113.heap.size (.int .i64 0) (.int .i64 0)) := TwoB.new _ _ _ 35 _ rfl
          refine hK.out _ _ (fun _ => G156.out) ?_
          clear hK K
          try simp only [Act.put, List.setIfInBounds_toArray, List.set_cons_zero, List.set_cons_succ]
          obtain ⟨B157, hB157⟩ : ∃ B157 : Nat, B157 = W113.heap.size := ⟨_, rfl⟩
          obtain ⟨W155, hW155⟩ : ∃ W155, W155 = (W113.alloc (.cells #[.int .i64 0, .int .i64 0] 35)) := ⟨_, rfl⟩
          rw [← hW155, ← hB157] at x161 ⊢
          rw [← hB157] at nd158
          rw [← hW155] at G156 R159 C160
          have lB157 : A.heap.size ≤ B157 := by rw [hB157]; exact G114.out.size
          clear hW155 hB157
          refine wpAnyJ_ready (rs := [5]) (by kernel_rfl) (by simp) ?_
          refine AllJ.cons (o := { dst := some 84, op := Op.call { callee := Callee.builtin Builtin.append, args := #[Operand.tmp 81, Operand.tmp 83], argTypes := #[22, 22] }, type := 22, pos := "ref.go:125", after := #[{ on := 2, ground := Ground.data }, { on := 4, ground := Ground.data }, { on := 2, ground := Ground.chain }], guard := none }) rfl (fun K hK => ?_) ?_
          ·
            refine step_app _ rfl _ _ 22 rfl A.heap.size 45 i45 (.agg #[.int .i64 0, .string ⟨#[]⟩, .int .i64 0, .int .i64 0, .int .i64 0]) 5 48 Tryz.underlying22 hi45 hq0 hq1 hq2 rfl (by decide) a116 l.length c117 (enc l) rfl R159.out (some ⟨B109, 0, none⟩) 1 1 [.int .i64 d, .string nm, .int .i64 p, .int .i64 u, .int .i64 v] rfl rfl (fun _ => ⟨_, rfl, five_news C160.out⟩) (by intro z hz; simp at hz; rcases hz with rfl | rfl | rfl | rfl | rfl <;> rfl) (by unfold maxLen; omega) (by omega) G156.out.size (l.length + 1) (by omega) ?_
            intro a165 c166 W162 ho167 hg168 ha169
            have G163 : Hid (A.grownBy W162 none) := gb_own G156.out hg168 (fun x hx => (row_lt R159.out hx).1)
            have nd171 : ∀ x, (Value.slice a165 (l.length + 1) c166).ownBlock = some x → x ≠ B109 := fun x hx e => by
              rcases ha169 with h | h
              · rw [h] at hx; exact nd122 x hx e
              · rw [h] at hx; simp only [Option.some.injEq] at hx; have := C160.out.lt; omega
            have C170 : Hid (FivB W162 B109 (.int .i64 d) (.string nm) (.int .i64 p) (.int .i64 u) (.int .i64 v)) := C160.out.gb hg168 (fun e => nd122 _ e.symm rfl)
            have nd173 : ∀ x, (Value.slice a165 (l.length + 1) c166).ownBlock = some x → x ≠ B157 := fun x hx e => by
              rcases ha169 with h | h
              · rw [h] at hx; exact nd158 x hx e
              · rw [h] at hx; simp only [Option.some.injEq] at hx; have := x161.out.lt; omega
            have T8172 : Hid (TwoB W162 B157 (.int .i64 0) (.int .i64 0)) := x161.out.gb hg168 (fun e => nd158 _ e.symm rfl)
            have R164 : Hid (W162.ownsRow A.heap.size 45 5 (.slice a165 (l.length + 1) c166) (l.length + 1) (enc l ++ [.int .i64 d, .string nm, .int .i64 p, .int .i64 u, .int .i64 v])) := ho167
            refine hK.out _ _ (fun _ => G163.out) ?_
            clear hK K
            try simp only [Act.put, List.setIfInBounds_toArray, List.set_cons_zero, List.set_cons_succ]
            clear ho167 hg168 ha169
            refine wpAnyJ_ready (rs := [8]) (by kernel_rfl) (by simp) ?_
            refine AllJ.cons (o := { dst := some 87, op := Op.call { callee := Callee.value (Operand.func 9), args := #[Operand.tmp 84, Operand.tmp 86], argTypes := #[22, 9] }, type := 37, pos := "ref.go:125", after := #[{ on := 5, ground := Ground.data }, { on := 7, ground := Ground.data }, { on := 5, ground := Ground.chain }], guard := none }) rfl (fun K hK => ?_) ?_
            ·
              have kk := kc W162 _ R164.out
              go_simp
              go_at_call 9
              refine kk.mono ?_
              rintro ee W174 ⟨rfl, hb176⟩
              have G175 : Hid (A.grownBy W174 none) := gb_own G163.out (gb_none hb176) (by simp)
              have T177 : Hid (TwoB W174 B157 (.int .i64 0) (.int .i64 0)) := T8172.out.below hb176
              clear kk
              refine hK.out _ _ (fun _ => G175.out) ?_
              clear hK K
              try simp only [Act.put, List.setIfInBounds_toArray, List.set_cons_zero, List.set_cons_succ]
              clear hb176
              refine wpAnyJ_take (i := 9) (oi := { dst := some 78, op := Op.move (Operand.tmp 87), type := 37, pos := "ref.go:125", after := #[{ on := 8, ground := Ground.data }], guard := none }) (v := .tuple #[.agg #[.int .i64 sq.1, .int .i64 sq.2], .int .i64 se]) rfl rfl (waits_of (by kernel_rfl)) (by kernel_rfl) (by kernel_rfl) (by kernel_rfl) (fun _ _ _ h => hQp _ _ _ _ _ h) (Or.inl ⟨by rfl, fun W hS => ?_⟩) G175.out ?_
              · go_simp
              simp only [Act.put, List.setIfInBounds_toArray, List.set_cons_zero, List.set_cons_succ]
              refine wpAnyJ_take (i := 10) (oi := { dst := some 88, op := Op.extract (Operand.tmp 78) 0, type := 35, pos := "ref.go:125", after := #[{ on := 9, ground := Ground.data }], guard := none }) (v := .agg #[.int .i64 sq.1, .int .i64 sq.2]) rfl rfl (waits_of (by kernel_rfl)) (by kernel_rfl) (by kernel_rfl) (by kernel_rfl) (fun _ _ _ h => hQp _ _ _ _ _ h) (Or.inl ⟨by rfl, fun W hS => ?_⟩) G175.out ?_
              · go_simp
              simp only [Act.put, List.setIfInBounds_toArray, List.set_cons_zero, List.set_cons_succ]
              refine wpAnyJ_take (i := 11) (oi := { dst := some 89, op := Op.extract (Operand.tmp 78) 1, type := 36, pos := "ref.go:125", after := #[{ on := 9, ground := Ground.data }, { on := 13, ground := Ground.gcOnly Departure.lateStores }], guard := none }) (v := .int .i64 se) rfl rfl (waits_of (by kernel_rfl)) (by kernel_rfl) (by kernel_rfl) (by kernel_rfl) (fun _ _ _ h => hQp _ _ _ _ _ h) (Or.inl ⟨by rfl, fun W hS => ?_⟩) G175.out ?_
              · go_simp
              simp only [Act.put, List.setIfInBounds_toArray, List.set_cons_zero, List.set_cons_succ]
              refine wpAnyJ_ready (rs := [13]) (by kernel_rfl) (by simp) ?_
              refine AllJ.cons (o := { dst := none, op := Op.store 35 (Operand.tmp 8) (Operand.tmp 88), type := 0, pos := "ref.go:125", after := #[{ on := 12, ground := Ground.data }, { on := 10, ground := Ground.data }, { on := 8, ground := Ground.chain }, { on := 0, ground := Ground.phase }, { on := 1, ground := Ground.phase }, { on := 2, ground := Ground.phase }, { on := 3, ground := Ground.phase }, { on := 4, ground := Ground.phase }, { on := 5, ground := Ground.phase }, { on := 6, ground := Ground.phase }, { on := 7, ground := Ground.phase }, { on := 8, ground := Ground.phase }, { on := 9, ground := Ground.phase }, { on := 10, ground := Ground.phase }, { on := 11, ground := Ground.textOnly Departure.lateStores }, { on := 12, ground := Ground.phase }], guard := none }) rfl (fun K hK => ?_) ?_
              ·
                obtain ⟨z0, z1, zf0, zf1, zl⟩ := T177.out
                go_simp
                have G178 : Hid (A.grownBy ((W174.setCell ⟨B157, 0, none⟩ (.int .i64 sq.1)).setCell ⟨B157, 1, none⟩ (.int .i64 sq.2)) none) := gb_new (gb_new G175.out (p := ⟨B157, 0, none⟩) lB157 _) (p := ⟨B157, 1, none⟩) lB157 _
                have T179 : Hid (TwoB ((W174.setCell ⟨B157, 0, none⟩ (.int .i64 sq.1)).setCell ⟨B157, 1, none⟩ (.int .i64 sq.2)) B157 (.int .i64 sq.1) (.int .i64 sq.2)) := T177.out.put _ _
                clear z0 z1 zf0 zf1 zl
                refine hK.out _ _ (fun _ => G178.out) ?_
                clear hK K
                try simp only [Act.put, List.setIfInBounds_toArray, List.set_cons_zero, List.set_cons_succ]
                refine wpAnyJ_ready (rs := [14]) (by kernel_rfl) (by simp) ?_
                refine AllJ.cons (o := { dst := some 9, op := Op.assign (Operand.tmp 89), type := 36, pos := "ref.go:125", after := #[{ on := 11, ground := Ground.data }, { on := 13, ground := Ground.chain }, { on := 0, ground := Ground.phase }, { on := 1, ground := Ground.phase }, { on := 2, ground := Ground.phase }, { on := 3, ground := Ground.phase }, { on := 4, ground := Ground.phase }, { on := 5, ground := Ground.phase }, { on := 6, ground := Ground.phase }, { on := 7, ground := Ground.phase }, { on := 8, ground := Ground.phase }, { on := 9, ground := Ground.phase }, { on := 10, ground := Ground.phase }, { on := 11, ground := Ground.phase }, { on := 12, ground := Ground.phase }, { on := 13, ground := Ground.phase }], guard := none }) rfl (fun K hK => ?_) ?_
                ·
                  go_simp
                  refine hK.out _ _ (fun _ => G178.out) ?_
                  clear hK K
                  try simp only [Act.put, List.setIfInBounds_toArray, List.set_cons_zero, List.set_cons_succ]
                  refine wpAnyJ_done (by kernel_rfl) ?_ _
                  exact HEND.out _ _ _ _ _ _ _ _ _ _ _ _ _ _ lB157 T179.out G178.out
                exact AllJ.nil
              exact AllJ.nil
            exact AllJ.nil
          exact AllJ.nil
        exact AllJ.nil
      refine AllJ.cons (o := { dst := some 8, op := Op.alloc 35, type := 0, pos := "ref.go:125", after := #[], guard := none }) rfl (fun K hK => ?_) ?_
      ·
        go_simp
        have G181 : Hid (A.grownBy (W107.alloc (.cells #[.int .i64 0, .int .i64 0] 35)) none) := gb_own G108.out (gb_none (ba _ _)) (by simp)
        have nd183 : ∀ x, ((.slice (some ⟨B3, 0, none⟩) 0 0) : Value).ownBlock = some x → x ≠ W107.heap.size := fun x hx e => by have := (row_lt R111.out hx).2; omega
        have R184 : Hid ((W107.alloc (.cells #[.int .i64 0, .int .i64 0] 35)).ownsRow A.heap.size 45 5 (.slice (some ⟨B3, 0, none⟩) 0 0) 0 []) := row_gb R111.out (gb_none (ba _ _)) (by simp)
        have C185 : Hid (FivB (W107.alloc (.cells #[.int .i64 0, .int .i64 0] 35)) B109 (.int .i64 d) (.string nm) (.int .i64 p) (.int .i64 u) (.int .i64 v)) := x112.out.below (ba _ _)
        have x186 : Hid (TwoB (W107.alloc (.cells #[.int .i64 0, .int .i64 0] 35)) W107.heap.size (.int .i64 0) (.int .i64 0)) := TwoB.new _ _ _ 35 _ rfl
        refine hK.out _ _ (fun _ => G181.out) ?_
        clear hK K
        try simp only [Act.put, List.setIfInBounds_toArray, List.set_cons_zero, List.set_cons_succ]
        obtain ⟨B182, hB182⟩ : ∃ B182 : Nat, B182 = W107.heap.size := ⟨_, rfl⟩
        obtain ⟨W180, hW180⟩ : ∃ W180, W180 = (W107.alloc (.cells #[.int .i64 0, .int .i64 0] 35)) := ⟨_, rfl⟩
        rw [← hW180, ← hB182] at x186 ⊢
        rw [← hB182] at nd183
        rw [← hW180] at G181 R184 C185
        have lB182 : A.heap.size ≤ B182 := by rw [hB182]; exact G108.out.size
        clear hW180 hB182
        refine wpAnyJ_ready (rs := [2]) (by kernel_rfl) (by simp) ?_
        refine AllJ.cons (o := { dst := some 81, op := Op.call { callee := Callee.builtin Builtin.append, args := #[Operand.tmp 79, Operand.tmp 80], argTypes := #[22, 22] }, type := 22, pos := "ref.go:125", after := #[{ on := 0, ground := Ground.data }, { on := 1, ground := Ground.data }], guard := none }) rfl (fun K hK => ?_) ?_
        ·
          refine step_app _ rfl _ _ 22 rfl A.heap.size 45 i45 (.agg #[.int .i64 0, .string ⟨#[]⟩, .int .i64 0, .int .i64 0, .int .i64 0]) 5 48 Tryz.underlying22 hi45 hq0 hq1 hq2 rfl (by decide) (some ⟨B3, 0, none⟩) 0 0 [] rfl R184.out a l.length c (enc l) rfl hl1 (HSRC.out W180 G181.out) HONE.out (by unfold maxLen; omega) (by omega) G181.out.size l.length (by omega) ?_
          intro a190 c191 W187 ho192 hg193 ha194
          have G188 : Hid (A.grownBy W187 none) := gb_own G181.out hg193 (fun x hx => (row_lt R184.out hx).1)
          have nd196 : ∀ x, (Value.slice a190 l.length c191).ownBlock = some x → x ≠ B109 := fun x hx e => by
            rcases ha194 with h | h
            · rw [h] at hx; exact nd110 x hx e
            · rw [h] at hx; simp only [Option.some.injEq] at hx; have := C185.out.lt; omega
          have C195 : Hid (FivB W187 B109 (.int .i64 d) (.string nm) (.int .i64 p) (.int .i64 u) (.int .i64 v)) := C185.out.gb hg193 (fun e => nd110 _ e.symm rfl)
          have nd198 : ∀ x, (Value.slice a190 l.length c191).ownBlock = some x → x ≠ B182 := fun x hx e => by
            rcases ha194 with h | h
            · rw [h] at hx; exact nd183 x hx e
            · rw [h] at hx; simp only [Option.some.injEq] at hx; have := x186.out.lt; omega
          have T8197 : Hid (TwoB W187 B182 (.int .i64 0) (.int .i64 0)) := x186.out.gb hg193 (fun e => nd183 _ e.symm rfl)
          have R189 : Hid (W187.ownsRow A.heap.size 45 5 (.slice a190 l.length c191) l.length (enc l)) := by rw [Hid]; simpa using ho192
          refine hK.out _ _ (fun _ => G188.out) ?_
          clear hK K
          try simp only [Act.put, List.setIfInBounds_toArray, List.set_cons_zero, List.set_cons_succ]
          clear ho192 hg193 ha194
          refine wpAnyJ_ready (rs := [5]) (by kernel_rfl) (by simp) ?_
          refine AllJ.cons (o := { dst := some 84, op := Op.call { callee := Callee.builtin Builtin.append, args := #[Operand.tmp 81, Operand.tmp 83], argTypes := #[22, 22] }, type := 22, pos := "ref.go:125", after := #[{ on := 2, ground := Ground.data }, { on := 4, ground := Ground.data }, { on := 2, ground := Ground.chain }], guard := none }) rfl (fun K hK => ?_) ?_
          ·
            refine step_app _ rfl _ _ 22 rfl A.heap.size 45 i45 (.agg #[.int .i64 0, .string ⟨#[]⟩, .int .i64 0, .int .i64 0, .int .i64 0]) 5 48 Tryz.underlying22 hi45 hq0 hq1 hq2 rfl (by decide) a190 l.length c191 (enc l) rfl R189.out (some ⟨B109, 0, none⟩) 1 1 [.int .i64 d, .string nm, .int .i64 p, .int .i64 u, .int .i64 v] rfl rfl (fun _ => ⟨_, rfl, five_news C195.out⟩) (by intro z hz; simp at hz; rcases hz with rfl | rfl | rfl | rfl | rfl <;> rfl) (by unfold maxLen; omega) (by omega) G188.out.size (l.length + 1) (by omega) ?_
            intro a202 c203 W199 ho204 hg205 ha206
            have G200 : Hid (A.grownBy W199 none) := gb_own G188.out hg205 (fun x hx => (row_lt R189.out hx).1)
            have nd208 : ∀ x, (Value.slice a202 (l.length + 1) c203).ownBlock = some x → x ≠ B109 := fun x hx e => by
              rcases ha206 with h | h
              · rw [h] at hx; exact nd196 x hx e
              · rw [h] at hx; simp only [Option.some.injEq] at hx; have := C195.out.lt; omega
            have C207 : Hid (FivB W199 B109 (.int .i64 d) (.string nm) (.int .i64 p) (.int .i64 u) (.int .i64 v)) := C195.out.gb hg205 (fun e => nd196 _ e.symm rfl)
            have nd210 : ∀ x, (Value.slice a202 (l.length + 1) c203).ownBlock = some x → x ≠ B182 := fun x hx e => by
              rcases ha206 with h | h
              · rw [h] at hx; exact nd198 x hx e
              · rw [h] at hx; simp only [Option.some.injEq] at hx; have := T8197.out.lt; omega
            have T8209 : Hid (TwoB W199 B182 (.int .i64 0) (.int .i64 0)) := T8197.out.gb hg205 (fun e => nd198 _ e.symm rfl)
            have R201 : Hid (W199.ownsRow A.heap.size 45 5 (.slice a202 (l.length + 1) c203) (l.length + 1) (enc l ++ [.int .i64 d, .string nm, .int .i64 p, .int .i64 u, .int .i64 v])) := ho204
            refine hK.out _ _ (fun _ => G200.out) ?_
            clear hK K
            try simp only [Act.put, List.setIfInBounds_toArray, List.set_cons_zero, List.set_cons_succ]
            clear ho204 hg205 ha206
            refine wpAnyJ_ready (rs := [8]) (by kernel_rfl) (by simp) ?_
            refine AllJ.cons (o := { dst := some 87, op := Op.call { callee := Callee.value (Operand.func 9), args := #[Operand.tmp 84, Operand.tmp 86], argTypes := #[22, 9] }, type := 37, pos := "ref.go:125", after := #[{ on := 5, ground := Ground.data }, { on := 7, ground := Ground.data }, { on := 5, ground := Ground.chain }], guard := none }) rfl (fun K hK => ?_) ?_
            ·
              have kk := kc W199 _ R201.out
              go_simp
              go_at_call 9
              refine kk.mono ?_
              rintro ee W211 ⟨rfl, hb213⟩
              have G212 : Hid (A.grownBy W211 none) := gb_own G200.out (gb_none hb213) (by simp)
              have T214 : Hid (TwoB W211 B182 (.int .i64 0) (.int .i64 0)) := T8209.out.below hb213
              clear kk
              refine hK.out _ _ (fun _ => G212.out) ?_
              clear hK K
              try simp only [Act.put, List.setIfInBounds_toArray, List.set_cons_zero, List.set_cons_succ]
              clear hb213
              refine wpAnyJ_take (i := 9) (oi := { dst := some 78, op := Op.move (Operand.tmp 87), type := 37, pos := "ref.go:125", after := #[{ on := 8, ground := Ground.data }], guard := none }) (v := .tuple #[.agg #[.int .i64 sq.1, .int .i64 sq.2], .int .i64 se]) rfl rfl (waits_of (by kernel_rfl)) (by kernel_rfl) (by kernel_rfl) (by kernel_rfl) (fun _ _ _ h => hQp _ _ _ _ _ h) (Or.inl ⟨by rfl, fun W hS => ?_⟩) G212.out ?_
              · go_simp
              simp only [Act.put, List.setIfInBounds_toArray, List.set_cons_zero, List.set_cons_succ]
              refine wpAnyJ_take (i := 10) (oi := { dst := some 88, op := Op.extract (Operand.tmp 78) 0, type := 35, pos := "ref.go:125", after := #[{ on := 9, ground := Ground.data }], guard := none }) (v := .agg #[.int .i64 sq.1, .int .i64 sq.2]) rfl rfl (waits_of (by kernel_rfl)) (by kernel_rfl) (by kernel_rfl) (by kernel_rfl) (fun _ _ _ h => hQp _ _ _ _ _ h) (Or.inl ⟨by rfl, fun W hS => ?_⟩) G212.out ?_
              · go_simp
              simp only [Act.put, List.setIfInBounds_toArray, List.set_cons_zero, List.set_cons_succ]
              refine wpAnyJ_take (i := 11) (oi := { dst := some 89, op := Op.extract (Operand.tmp 78) 1, type := 36, pos := "ref.go:125", after := #[{ on := 9, ground := Ground.data }, { on := 13, ground := Ground.gcOnly Departure.lateStores }], guard := none }) (v := .int .i64 se) rfl rfl (waits_of (by kernel_rfl)) (by kernel_rfl) (by kernel_rfl) (by kernel_rfl) (fun _ _ _ h => hQp _ _ _ _ _ h) (Or.inl ⟨by rfl, fun W hS => ?_⟩) G212.out ?_
              · go_simp
              simp only [Act.put, List.setIfInBounds_toArray, List.set_cons_zero, List.set_cons_succ]
              refine wpAnyJ_ready (rs := [13]) (by kernel_rfl) (by simp) ?_
              refine AllJ.cons (o := { dst := none, op := Op.store 35 (Operand.tmp 8) (Operand.tmp 88), type := 0, pos := "ref.go:125", after := #[{ on := 12, ground := Ground.data }, { on := 10, ground := Ground.data }, { on := 8, ground := Ground.chain }, { on := 0, ground := Ground.phase }, { on := 1, ground := Ground.phase }, { on := 2, ground := Ground.phase }, { on := 3, ground := Ground.phase }, { on := 4, ground := Ground.phase }, { on := 5, ground := Ground.phase }, { on := 6, ground := Ground.phase }, { on := 7, ground := Ground.phase }, { on := 8, ground := Ground.phase }, { on := 9, ground := Ground.phase }, { on := 10, ground := Ground.phase }, { on := 11, ground := Ground.textOnly Departure.lateStores }, { on := 12, ground := Ground.phase }], guard := none }) rfl (fun K hK => ?_) ?_
              ·
                obtain ⟨z0, z1, zf0, zf1, zl⟩ := T214.out
                go_simp
                have G215 : Hid (A.grownBy ((W211.setCell ⟨B182, 0, none⟩ (.int .i64 sq.1)).setCell ⟨B182, 1, none⟩ (.int .i64 sq.2)) none) := gb_new (gb_new G212.out (p := ⟨B182, 0, none⟩) lB182 _) (p := ⟨B182, 1, none⟩) lB182 _
                have T216 : Hid (TwoB ((W211.setCell ⟨B182, 0, none⟩ (.int .i64 sq.1)).setCell ⟨B182, 1, none⟩ (.int .i64 sq.2)) B182 (.int .i64 sq.1) (.int .i64 sq.2)) := T214.out.put _ _
                clear z0 z1 zf0 zf1 zl
                refine hK.out _ _ (fun _ => G215.out) ?_
                clear hK K
                try simp only [Act.put, List.setIfInBounds_toArray, List.set_cons_zero, List.set_cons_succ]
                refine wpAnyJ_ready (rs := [14]) (by kernel_rfl) (by simp) ?_
                refine AllJ.cons (o := { dst := some 9, op := Op.assign (Operand.tmp 89), type := 36, pos := "ref.go:125", after := #[{ on := 11, ground := Ground.data }, { on := 13, ground := Ground.chain }, { on := 0, ground := Ground.phase }, { on := 1, ground := Ground.phase }, { on := 2, ground := Ground.phase }, { on := 3, ground := Ground.phase }, { on := 4, ground := Ground.phase }, { on := 5, ground := Ground.phase }, { on := 6, ground := Ground.phase }, { on := 7, ground := Ground.phase }, { on := 8, ground := Ground.phase }, { on := 9, ground := Ground.phase }, { on := 10, ground := Ground.phase }, { on := 11, ground := Ground.phase }, { on := 12, ground := Ground.phase }, { on := 13, ground := Ground.phase }], guard := none }) rfl (fun K hK => ?_) ?_
                ·
                  go_simp
                  refine hK.out _ _ (fun _ => G215.out) ?_
                  clear hK K
                  try simp only [Act.put, List.setIfInBounds_toArray, List.set_cons_zero, List.set_cons_succ]
                  refine wpAnyJ_done (by kernel_rfl) ?_ _
                  exact HEND.out _ _ _ _ _ _ _ _ _ _ _ _ _ _ lB182 T216.out G215.out
                exact AllJ.nil
              exact AllJ.nil
            exact AllJ.nil
          exact AllJ.nil
        exact AllJ.nil
      exact AllJ.nil
    refine AllJ.cons (o := { dst := some 8, op := Op.alloc 35, type := 0, pos := "ref.go:125", after := #[], guard := none }) rfl (fun K hK => ?_) ?_
    ·
      go_simp
      have G218 : Hid (A.grownBy (W1.alloc (.cells #[.int .i64 0, .int .i64 0] 35)) none) := gb_own G2.out (gb_none (ba _ _)) (by simp)
      have nd220 : ∀ x, ((.slice (some ⟨B3, 0, none⟩) 0 0) : Value).ownBlock = some x → x ≠ W1.heap.size := fun x hx e => by have := (row_lt x4.out hx).2; omega
      have R221 : Hid ((W1.alloc (.cells #[.int .i64 0, .int .i64 0] 35)).ownsRow A.heap.size 45 5 (.slice (some ⟨B3, 0, none⟩) 0 0) 0 []) := row_gb x4.out (gb_none (ba _ _)) (by simp)
      have x222 : Hid (TwoB (W1.alloc (.cells #[.int .i64 0, .int .i64 0] 35)) W1.heap.size (.int .i64 0) (.int .i64 0)) := TwoB.new _ _ _ 35 _ rfl
      refine hK.out _ _ (fun _ => G218.out) ?_
      clear hK K
      try simp only [Act.put, List.setIfInBounds_toArray, List.set_cons_zero, List.set_cons_succ]
      obtain ⟨B219, hB219⟩ : ∃ B219 : Nat, B219 = W1.heap.size := ⟨_, rfl⟩
      obtain ⟨W217, hW217⟩ : ∃ W217, W217 = (W1.alloc (.cells #[.int .i64 0, .int .i64 0] 35)) := ⟨_, rfl⟩
      rw [← hW217, ← hB219] at x222 ⊢
      rw [← hB219] at nd220
      rw [← hW217] at G218 R221
      have lB219 : A.heap.size ≤ B219 := by rw [hB219]; exact G2.out.size
      clear hW217 hB219
      refine wpAnyJ_ready (rs := [2, 4]) (by kernel_rfl) (by simp) ?_
      refine AllJ.cons (o := { dst := some 81, op := Op.call { callee := Callee.builtin Builtin.append, args := #[Operand.tmp 79, Operand.tmp 80], argTypes := #[22, 22] }, type := 22, pos := "ref.go:125", after := #[{ on := 0, ground := Ground.data }, { on := 1, ground := Ground.data }], guard := none }) rfl (fun K hK => ?_) ?_
      ·
        refine step_app _ rfl _ _ 22 rfl A.heap.size 45 i45 (.agg #[.int .i64 0, .string ⟨#[]⟩, .int .i64 0, .int .i64 0, .int .i64 0]) 5 48 Tryz.underlying22 hi45 hq0 hq1 hq2 rfl (by decide) (some ⟨B3, 0, none⟩) 0 0 [] rfl R221.out a l.length c (enc l) rfl hl1 (HSRC.out W217 G218.out) HONE.out (by unfold maxLen; omega) (by omega) G218.out.size l.length (by omega) ?_
        intro a226 c227 W223 ho228 hg229 ha230
        have G224 : Hid (A.grownBy W223 none) := gb_own G218.out hg229 (fun x hx => (row_lt R221.out hx).1)
        have nd232 : ∀ x, (Value.slice a226 l.length c227).ownBlock = some x → x ≠ B219 := fun x hx e => by
          rcases ha230 with h | h
          · rw [h] at hx; exact nd220 x hx e
          · rw [h] at hx; simp only [Option.some.injEq] at hx; have := x222.out.lt; omega
        have T8231 : Hid (TwoB W223 B219 (.int .i64 0) (.int .i64 0)) := x222.out.gb hg229 (fun e => nd220 _ e.symm rfl)
        have R225 : Hid (W223.ownsRow A.heap.size 45 5 (.slice a226 l.length c227) l.length (enc l)) := by rw [Hid]; simpa using ho228
        refine hK.out _ _ (fun _ => G224.out) ?_
        clear hK K
        try simp only [Act.put, List.setIfInBounds_toArray, List.set_cons_zero, List.set_cons_succ]
        clear ho228 hg229 ha230
        refine wpAnyJ_ready (rs := [4]) (by kernel_rfl) (by simp) ?_
        refine AllJ.cons (o := { dst := some 83, op := Op.buildSlice 22 1 #[(0, Operand.tmp 82)], type := 22, pos := "ref.go:125", after := #[{ on := 3, ground := Ground.data }], guard := none }) rfl (fun K hK => ?_) ?_
        ·
          go_simp
          have G234 : Hid (A.grownBy (W223.alloc (.cells #[.int .i64 d, .string nm, .int .i64 p, .int .i64 u, .int .i64 v] 45)) none) := gb_own G224.out (gb_none (ba _ _)) (by simp)
          have nd236 : ∀ x, ((.slice a226 l.length c227) : Value).ownBlock = some x → x ≠ W223.heap.size := fun x hx e => by have := (row_lt R225.out hx).2; omega
          have R237 : Hid ((W223.alloc (.cells #[.int .i64 d, .string nm, .int .i64 p, .int .i64 u, .int .i64 v] 45)).ownsRow A.heap.size 45 5 (.slice a226 l.length c227) l.length (enc l)) := row_gb R225.out (gb_none (ba _ _)) (by simp)
          have T8238 : Hid (TwoB (W223.alloc (.cells #[.int .i64 d, .string nm, .int .i64 p, .int .i64 u, .int .i64 v] 45)) B219 (.int .i64 0) (.int .i64 0)) := T8231.out.below (ba _ _)
          have x239 : Hid (FivB (W223.alloc (.cells #[.int .i64 d, .string nm, .int .i64 p, .int .i64 u, .int .i64 v] 45)) W223.heap.size (.int .i64 d) (.string nm) (.int .i64 p) (.int .i64 u) (.int .i64 v)) := FivB.new _ _ _ _ _ _ 45 _ rfl
          refine hK.out _ _ (fun _ => G234.out) ?_
          clear hK K
          try simp only [Act.put, List.setIfInBounds_toArray, List.set_cons_zero, List.set_cons_succ]
          obtain ⟨B235, hB235⟩ : ∃ B235 : Nat, B235 = W223.heap.size := ⟨_, rfl⟩
          obtain ⟨W233, hW233⟩ : ∃ W233, W233 = (W223.alloc (.cells #[.int .i64 d, .string nm, .int .i64 p, .int .i64 u, .int .i64 v] 45)) := ⟨_, rfl⟩
          rw [← hW233, ← hB235] at x239 ⊢
          rw [← hB235] at nd236
          rw [← hW233] at G234 R237 T8238
          have lB235 : A.heap.size ≤ B235 := by rw [hB235]; exact G224.out.size
          clear hW233 hB235
          refine wpAnyJ_ready (rs := [5]) (by kernel_rfl) (by simp) ?_
          refine AllJ.cons (o := { dst := some 84, op := Op.call { callee := Callee.builtin Builtin.append, args := #[Operand.tmp 81, Operand.tmp 83], argTypes := #[22, 22] }, type := 22, pos := "ref.go:125", after := #[{ on := 2, ground := Ground.data }, { on := 4, ground := Ground.data }, { on := 2, ground := Ground.chain }], guard := none }) rfl (fun K hK => ?_) ?_
          ·
            refine step_app _ rfl _ _ 22 rfl A.heap.size 45 i45 (.agg #[.int .i64 0, .string ⟨#[]⟩, .int .i64 0, .int .i64 0, .int .i64 0]) 5 48 Tryz.underlying22 hi45 hq0 hq1 hq2 rfl (by decide) a226 l.length c227 (enc l) rfl R237.out (some ⟨B235, 0, none⟩) 1 1 [.int .i64 d, .string nm, .int .i64 p, .int .i64 u, .int .i64 v] rfl rfl (fun _ => ⟨_, rfl, five_news x239.out⟩) (by intro z hz; simp at hz; rcases hz with rfl | rfl | rfl | rfl | rfl <;> rfl) (by unfold maxLen; omega) (by omega) G234.out.size (l.length + 1) (by omega) ?_
            intro a243 c244 W240 ho245 hg246 ha247
            have G241 : Hid (A.grownBy W240 none) := gb_own G234.out hg246 (fun x hx => (row_lt R237.out hx).1)
            have nd249 : ∀ x, (Value.slice a243 (l.length + 1) c244).ownBlock = some x → x ≠ B235 := fun x hx e => by
              rcases ha247 with h | h
              · rw [h] at hx; exact nd236 x hx e
              · rw [h] at hx; simp only [Option.some.injEq] at hx; have := x239.out.lt; omega
            have C248 : Hid (FivB W240 B235 (.int .i64 d) (.string nm) (.int .i64 p) (.int .i64 u) (.int .i64 v)) := x239.out.gb hg246 (fun e => nd236 _ e.symm rfl)
            have nd251 : ∀ x, (Value.slice a243 (l.length + 1) c244).ownBlock = some x → x ≠ B219 := fun x hx e => by
              rcases ha247 with h | h
              · rw [h] at hx; exact nd232 x hx e
              · rw [h] at hx; simp only [Option.some.injEq] at hx; have := T8238.out.lt; omega
            have T8250 : Hid (TwoB W240 B219 (.int .i64 0) (.int .i64 0)) := T8238.out.gb hg246 (fun e => nd232 _ e.symm rfl)
            have R242 : Hid (W240.ownsRow A.heap.size 45 5 (.slice a243 (l.length + 1) c244) (l.length + 1) (enc l ++ [.int .i64 d, .string nm, .int .i64 p, .int .i64 u, .int .i64 v])) := ho245
            refine hK.out _ _ (fun _ => G241.out) ?_
            clear hK K
            try simp only [Act.put, List.setIfInBounds_toArray, List.set_cons_zero, List.set_cons_succ]
            clear ho245 hg246 ha247
            refine wpAnyJ_ready (rs := [8]) (by kernel_rfl) (by simp) ?_
            refine AllJ.cons (o := { dst := some 87, op := Op.call { callee := Callee.value (Operand.func 9), args := #[Operand.tmp 84, Operand.tmp 86], argTypes := #[22, 9] }, type := 37, pos := "ref.go:125", after := #[{ on := 5, ground := Ground.data }, { on := 7, ground := Ground.data }, { on := 5, ground := Ground.chain }], guard := none }) rfl (fun K hK => ?_) ?_
            ·
              have kk := kc W240 _ R242.out
              go_simp
              go_at_call 9
              refine kk.mono ?_
              rintro ee W252 ⟨rfl, hb254⟩
              have G253 : Hid (A.grownBy W252 none) := gb_own G241.out (gb_none hb254) (by simp)
              have T255 : Hid (TwoB W252 B219 (.int .i64 0) (.int .i64 0)) := T8250.out.below hb254
              clear kk
              refine hK.out _ _ (fun _ => G253.out) ?_
              clear hK K
              try simp only [Act.put, List.setIfInBounds_toArray, List.set_cons_zero, List.set_cons_succ]
              clear hb254
              refine wpAnyJ_take (i := 9) (oi := { dst := some 78, op := Op.move (Operand.tmp 87), type := 37, pos := "ref.go:125", after := #[{ on := 8, ground := Ground.data }], guard := none }) (v := .tuple #[.agg #[.int .i64 sq.1, .int .i64 sq.2], .int .i64 se]) rfl rfl (waits_of (by kernel_rfl)) (by kernel_rfl) (by kernel_rfl) (by kernel_rfl) (fun _ _ _ h => hQp _ _ _ _ _ h) (Or.inl ⟨by rfl, fun W hS => ?_⟩) G253.out ?_
              · go_simp
              simp only [Act.put, List.setIfInBounds_toArray, List.set_cons_zero, List.set_cons_succ]
              refine wpAnyJ_take (i := 10) (oi := { dst := some 88, op := Op.extract (Operand.tmp 78) 0, type := 35, pos := "ref.go:125", after := #[{ on := 9, ground := Ground.data }], guard := none }) (v := .agg #[.int .i64 sq.1, .int .i64 sq.2]) rfl rfl (waits_of (by kernel_rfl)) (by kernel_rfl) (by kernel_rfl) (by kernel_rfl) (fun _ _ _ h => hQp _ _ _ _ _ h) (Or.inl ⟨by rfl, fun W hS => ?_⟩) G253.out ?_
              · go_simp
              simp only [Act.put, List.setIfInBounds_toArray, List.set_cons_zero, List.set_cons_succ]
              refine wpAnyJ_take (i := 11) (oi := { dst := some 89, op := Op.extract (Operand.tmp 78) 1, type := 36, pos := "ref.go:125", after := #[{ on := 9, ground := Ground.data }, { on := 13, ground := Ground.gcOnly Departure.lateStores }], guard := none }) (v := .int .i64 se) rfl rfl (waits_of (by kernel_rfl)) (by kernel_rfl) (by kernel_rfl) (by kernel_rfl) (fun _ _ _ h => hQp _ _ _ _ _ h) (Or.inl ⟨by rfl, fun W hS => ?_⟩) G253.out ?_
              · go_simp
              simp only [Act.put, List.setIfInBounds_toArray, List.set_cons_zero, List.set_cons_succ]
              refine wpAnyJ_ready (rs := [13]) (by kernel_rfl) (by simp) ?_
              refine AllJ.cons (o := { dst := none, op := Op.store 35 (Operand.tmp 8) (Operand.tmp 88), type := 0, pos := "ref.go:125", after := #[{ on := 12, ground := Ground.data }, { on := 10, ground := Ground.data }, { on := 8, ground := Ground.chain }, { on := 0, ground := Ground.phase }, { on := 1, ground := Ground.phase }, { on := 2, ground := Ground.phase }, { on := 3, ground := Ground.phase }, { on := 4, ground := Ground.phase }, { on := 5, ground := Ground.phase }, { on := 6, ground := Ground.phase }, { on := 7, ground := Ground.phase }, { on := 8, ground := Ground.phase }, { on := 9, ground := Ground.phase }, { on := 10, ground := Ground.phase }, { on := 11, ground := Ground.textOnly Departure.lateStores }, { on := 12, ground := Ground.phase }], guard := none }) rfl (fun K hK => ?_) ?_
              ·
                obtain ⟨z0, z1, zf0, zf1, zl⟩ := T255.out
                go_simp
                have G256 : Hid (A.grownBy ((W252.setCell ⟨B219, 0, none⟩ (.int .i64 sq.1)).setCell ⟨B219, 1, none⟩ (.int .i64 sq.2)) none) := gb_new (gb_new G253.out (p := ⟨B219, 0, none⟩) lB219 _) (p := ⟨B219, 1, none⟩) lB219 _
                have T257 : Hid (TwoB ((W252.setCell ⟨B219, 0, none⟩ (.int .i64 sq.1)).setCell ⟨B219, 1, none⟩ (.int .i64 sq.2)) B219 (.int .i64 sq.1) (.int .i64 sq.2)) := T255.out.put _ _
                clear z0 z1 zf0 zf1 zl
                refine hK.out _ _ (fun _ => G256.out) ?_
                clear hK K
                try simp only [Act.put, List.setIfInBounds_toArray, List.set_cons_zero, List.set_cons_succ]
                refine wpAnyJ_ready (rs := [14]) (by kernel_rfl) (by simp) ?_
                refine AllJ.cons (o := { dst := some 9, op := Op.assign (Operand.tmp 89), type := 36, pos := "ref.go:125", after := #[{ on := 11, ground := Ground.data }, { on := 13, ground := Ground.chain }, { on := 0, ground := Ground.phase }, { on := 1, ground := Ground.phase }, { on := 2, ground := Ground.phase }, { on := 3, ground := Ground.phase }, { on := 4, ground := Ground.phase }, { on := 5, ground := Ground.phase }, { on := 6, ground := Ground.phase }, { on := 7, ground := Ground.phase }, { on := 8, ground := Ground.phase }, { on := 9, ground := Ground.phase }, { on := 10, ground := Ground.phase }, { on := 11, ground := Ground.phase }, { on := 12, ground := Ground.phase }, { on := 13, ground := Ground.phase }], guard := none }) rfl (fun K hK => ?_) ?_
                ·
                  go_simp
                  refine hK.out _ _ (fun _ => G256.out) ?_
                  clear hK K
                  try simp only [Act.put, List.setIfInBounds_toArray, List.set_cons_zero, List.set_cons_succ]
                  refine wpAnyJ_done (by kernel_rfl) ?_ _
                  exact HEND.out _ _ _ _ _ _ _ _ _ _ _ _ _ _ lB219 T257.out G256.out
                exact AllJ.nil
              exact AllJ.nil
            exact AllJ.nil
          exact AllJ.nil
        exact AllJ.nil
      refine AllJ.cons (o := { dst := some 83, op := Op.buildSlice 22 1 #[(0, Operand.tmp 82)], type := 22, pos := "ref.go:125", after := #[{ on := 3, ground := Ground.data }], guard := none }) rfl (fun K hK => ?_) ?_
      ·
        go_simp
        have G259 : Hid (A.grownBy (W217.alloc (.cells #[.int .i64 d, .string nm, .int .i64 p, .int .i64 u, .int .i64 v] 45)) none) := gb_own G218.out (gb_none (ba _ _)) (by simp)
        have nd261 : ∀ x, ((.slice (some ⟨B3, 0, none⟩) 0 0) : Value).ownBlock = some x → x ≠ W217.heap.size := fun x hx e => by have := (row_lt R221.out hx).2; omega
        have R262 : Hid ((W217.alloc (.cells #[.int .i64 d, .string nm, .int .i64 p, .int .i64 u, .int .i64 v] 45)).ownsRow A.heap.size 45 5 (.slice (some ⟨B3, 0, none⟩) 0 0) 0 []) := row_gb R221.out (gb_none (ba _ _)) (by simp)
        have T8263 : Hid (TwoB (W217.alloc (.cells #[.int .i64 d, .string nm, .int .i64 p, .int .i64 u, .int .i64 v] 45)) B219 (.int .i64 0) (.int .i64 0)) := x222.out.below (ba _ _)
        have x264 : Hid (FivB (W217.alloc (.cells #[.int .i64 d, .string nm, .int .i64 p, .int .i64 u, .int .i64 v] 45)) W217.heap.size (.int .i64 d) (.string nm) (.int .i64 p) (.int .i64 u) (.int .i64 v)) := FivB.new _ _ _ _ _ _ 45 _ rfl
        refine hK.out _ _ (fun _ => G259.out) ?_
        clear hK K
        try simp only [Act.put, List.setIfInBounds_toArray, List.set_cons_zero, List.set_cons_succ]
        obtain ⟨B260, hB260⟩ : ∃ B260 : Nat, B260 = W217.heap.size := ⟨_, rfl⟩
        obtain ⟨W258, hW258⟩ : ∃ W258, W258 = (W217.alloc (.cells #[.int .i64 d, .string nm, .int .i64 p, .int .i64 u, .int .i64 v] 45)) := ⟨_, rfl⟩
        rw [← hW258, ← hB260] at x264 ⊢
        rw [← hB260] at nd261
        rw [← hW258] at G259 R262 T8263
        have lB260 : A.heap.size ≤ B260 := by rw [hB260]; exact G218.out.size
        clear hW258 hB260
        refine wpAnyJ_ready (rs := [2]) (by kernel_rfl) (by simp) ?_
        refine AllJ.cons (o := { dst := some 81, op := Op.call { callee := Callee.builtin Builtin.append, args := #[Operand.tmp 79, Operand.tmp 80], argTypes := #[22, 22] }, type := 22, pos := "ref.go:125", after := #[{ on := 0, ground := Ground.data }, { on := 1, ground := Ground.data }], guard := none }) rfl (fun K hK => ?_) ?_
        ·
          refine step_app _ rfl _ _ 22 rfl A.heap.size 45 i45 (.agg #[.int .i64 0, .string ⟨#[]⟩, .int .i64 0, .int .i64 0, .int .i64 0]) 5 48 Tryz.underlying22 hi45 hq0 hq1 hq2 rfl (by decide) (some ⟨B3, 0, none⟩) 0 0 [] rfl R262.out a l.length c (enc l) rfl hl1 (HSRC.out W258 G259.out) HONE.out (by unfold maxLen; omega) (by omega) G259.out.size l.length (by omega) ?_
          intro a268 c269 W265 ho270 hg271 ha272
          have G266 : Hid (A.grownBy W265 none) := gb_own G259.out hg271 (fun x hx => (row_lt R262.out hx).1)
          have nd274 : ∀ x, (Value.slice a268 l.length c269).ownBlock = some x → x ≠ B260 := fun x hx e => by
            rcases ha272 with h | h
            · rw [h] at hx; exact nd261 x hx e
            · rw [h] at hx; simp only [Option.some.injEq] at hx; have := x264.out.lt; omega
          have C273 : Hid (FivB W265 B260 (.int .i64 d) (.string nm) (.int .i64 p) (.int .i64 u) (.int .i64 v)) := x264.out.gb hg271 (fun e => nd261 _ e.symm rfl)
          have nd276 : ∀ x, (Value.slice a268 l.length c269).ownBlock = some x → x ≠ B219 := fun x hx e => by
            rcases ha272 with h | h
            · rw [h] at hx; exact nd220 x hx e
            · rw [h] at hx; simp only [Option.some.injEq] at hx; have := T8263.out.lt; omega
          have T8275 : Hid (TwoB W265 B219 (.int .i64 0) (.int .i64 0)) := T8263.out.gb hg271 (fun e => nd220 _ e.symm rfl)
          have R267 : Hid (W265.ownsRow A.heap.size 45 5 (.slice a268 l.length c269) l.length (enc l)) := by rw [Hid]; simpa using ho270
          refine hK.out _ _ (fun _ => G266.out) ?_
          clear hK K
          try simp only [Act.put, List.setIfInBounds_toArray, List.set_cons_zero, List.set_cons_succ]
          clear ho270 hg271 ha272
          refine wpAnyJ_ready (rs := [5]) (by kernel_rfl) (by simp) ?_
          refine AllJ.cons (o := { dst := some 84, op := Op.call { callee := Callee.builtin Builtin.append, args := #[Operand.tmp 81, Operand.tmp 83], argTypes := #[22, 22] }, type := 22, pos := "ref.go:125", after := #[{ on := 2, ground := Ground.data }, { on := 4, ground := Ground.data }, { on := 2, ground := Ground.chain }], guard := none }) rfl (fun K hK => ?_) ?_
          ·
            refine step_app _ rfl _ _ 22 rfl A.heap.size 45 i45 (.agg #[.int .i64 0, .string ⟨#[]⟩, .int .i64 0, .int .i64 0, .int .i64 0]) 5 48 Tryz.underlying22 hi45 hq0 hq1 hq2 rfl (by decide) a268 l.length c269 (enc l) rfl R267.out (some ⟨B260, 0, none⟩) 1 1 [.int .i64 d, .string nm, .int .i64 p, .int .i64 u, .int .i64 v] rfl rfl (fun _ => ⟨_, rfl, five_news C273.out⟩) (by intro z hz; simp at hz; rcases hz with rfl | rfl | rfl | rfl | rfl <;> rfl) (by unfold maxLen; omega) (by omega) G266.out.size (l.length + 1) (by omega) ?_
            intro a280 c281 W277 ho282 hg283 ha284
            have G278 : Hid (A.grownBy W277 none) := gb_own G266.out hg283 (fun x hx => (row_lt R267.out hx).1)
            have nd286 : ∀ x, (Value.slice a280 (l.length + 1) c281).ownBlock = some x → x ≠ B260 := fun x hx e => by
              rcases ha284 with h | h
              · rw [h] at hx; exact nd274 x hx e
              · rw [h] at hx; simp only [Option.some.injEq] at hx; have := C273.out.lt; omega
            have C285 : Hid (FivB W277 B260 (.int .i64 d) (.string nm) (.int .i64 p) (.int .i64 u) (.int .i64 v)) := C273.out.gb hg283 (fun e => nd274 _ e.symm rfl)
            have nd288 : ∀ x, (Value.slice a280 (l.length + 1) c281).ownBlock = some x → x ≠ B219 := fun x hx e => by
              rcases ha284 with h | h
              · rw [h] at hx; exact nd276 x hx e
              · rw [h] at hx; simp only [Option.some.injEq] at hx; have := T8275.out.lt; omega
            have T8287 : Hid (TwoB W277 B219 (.int .i64 0) (.int .i64 0)) := T8275.out.gb hg283 (fun e => nd276 _ e.symm rfl)
            have R279 : Hid (W277.ownsRow A.heap.size 45 5 (.slice a280 (l.length + 1) c281) (l.length + 1) (enc l ++ [.int .i64 d, .string nm, .int .i64 p, .int .i64 u, .int .i64 v])) := ho282
            refine hK.out _ _ (fun _ => G278.out) ?_
            clear hK K
            try simp only [Act.put, List.setIfInBounds_toArray, List.set_cons_zero, List.set_cons_succ]
            clear ho282 hg283 ha284
            refine wpAnyJ_ready (rs := [8]) (by kernel_rfl) (by simp) ?_
            refine AllJ.cons (o := { dst := some 87, op := Op.call { callee := Callee.value (Operand.func 9), args := #[Operand.tmp 84, Operand.tmp 86], argTypes := #[22, 9] }, type := 37, pos := "ref.go:125", after := #[{ on := 5, ground := Ground.data }, { on := 7, ground := Ground.data }, { on := 5, ground := Ground.chain }], guard := none }) rfl (fun K hK => ?_) ?_
            ·
              have kk := kc W277 _ R279.out
              go_simp
              go_at_call 9
              refine kk.mono ?_
              rintro ee W289 ⟨rfl, hb291⟩
              have G290 : Hid (A.grownBy W289 none) := gb_own G278.out (gb_none hb291) (by simp)
              have T292 : Hid (TwoB W289 B219 (.int .i64 0) (.int .i64 0)) := T8287.out.below hb291
              clear kk
              refine hK.out _ _ (fun _ => G290.out) ?_
              clear hK K
              try simp only [Act.put, List.setIfInBounds_toArray, List.set_cons_zero, List.set_cons_succ]
              clear hb291
              refine wpAnyJ_take (i := 9) (oi := { dst := some 78, op := Op.move (Operand.tmp 87), type := 37, pos := "ref.go:125", after := #[{ on := 8, ground := Ground.data }], guard := none }) (v := .tuple #[.agg #[.int .i64 sq.1, .int .i64 sq.2], .int .i64 se]) rfl rfl (waits_of (by kernel_rfl)) (by kernel_rfl) (by kernel_rfl) (by kernel_rfl) (fun _ _ _ h => hQp _ _ _ _ _ h) (Or.inl ⟨by rfl, fun W hS => ?_⟩) G290.out ?_
              · go_simp
              simp only [Act.put, List.setIfInBounds_toArray, List.set_cons_zero, List.set_cons_succ]
              refine wpAnyJ_take (i := 10) (oi := { dst := some 88, op := Op.extract (Operand.tmp 78) 0, type := 35, pos := "ref.go:125", after := #[{ on := 9, ground := Ground.data }], guard := none }) (v := .agg #[.int .i64 sq.1, .int .i64 sq.2]) rfl rfl (waits_of (by kernel_rfl)) (by kernel_rfl) (by kernel_rfl) (by kernel_rfl) (fun _ _ _ h => hQp _ _ _ _ _ h) (Or.inl ⟨by rfl, fun W hS => ?_⟩) G290.out ?_
              · go_simp
              simp only [Act.put, List.setIfInBounds_toArray, List.set_cons_zero, List.set_cons_succ]
              refine wpAnyJ_take (i := 11) (oi := { dst := some 89, op := Op.extract (Operand.tmp 78) 1, type := 36, pos := "ref.go:125", after := #[{ on := 9, ground := Ground.data }, { on := 13, ground := Ground.gcOnly Departure.lateStores }], guard := none }) (v := .int .i64 se) rfl rfl (waits_of (by kernel_rfl)) (by kernel_rfl) (by kernel_rfl) (by kernel_rfl) (fun _ _ _ h => hQp _ _ _ _ _ h) (Or.inl ⟨by rfl, fun W hS => ?_⟩) G290.out ?_
              · go_simp
              simp only [Act.put, List.setIfInBounds_toArray, List.set_cons_zero, List.set_cons_succ]
              refine wpAnyJ_ready (rs := [13]) (by kernel_rfl) (by simp) ?_
              refine AllJ.cons (o := { dst := none, op := Op.store 35 (Operand.tmp 8) (Operand.tmp 88), type := 0, pos := "ref.go:125", after := #[{ on := 12, ground := Ground.data }, { on := 10, ground := Ground.data }, { on := 8, ground := Ground.chain }, { on := 0, ground := Ground.phase }, { on := 1, ground := Ground.phase }, { on := 2, ground := Ground.phase }, { on := 3, ground := Ground.phase }, { on := 4, ground := Ground.phase }, { on := 5, ground := Ground.phase }, { on := 6, ground := Ground.phase }, { on := 7, ground := Ground.phase }, { on := 8, ground := Ground.phase }, { on := 9, ground := Ground.phase }, { on := 10, ground := Ground.phase }, { on := 11, ground := Ground.textOnly Departure.lateStores }, { on := 12, ground := Ground.phase }], guard := none }) rfl (fun K hK => ?_) ?_
              ·
                obtain ⟨z0, z1, zf0, zf1, zl⟩ := T292.out
                go_simp
                have G293 : Hid (A.grownBy ((W289.setCell ⟨B219, 0, none⟩ (.int .i64 sq.1)).setCell ⟨B219, 1, none⟩ (.int .i64 sq.2)) none) := gb_new (gb_new G290.out (p := ⟨B219, 0, none⟩) lB219 _) (p := ⟨B219, 1, none⟩) lB219 _
                have T294 : Hid (TwoB ((W289.setCell ⟨B219, 0, none⟩ (.int .i64 sq.1)).setCell ⟨B219, 1, none⟩ (.int .i64 sq.2)) B219 (.int .i64 sq.1) (.int .i64 sq.2)) := T292.out.put _ _
                clear z0 z1 zf0 zf1 zl
                refine hK.out _ _ (fun _ => G293.out) ?_
                clear hK K
                try simp only [Act.put, List.setIfInBounds_toArray, List.set_cons_zero, List.set_cons_succ]
                refine wpAnyJ_ready (rs := [14]) (by kernel_rfl) (by simp) ?_
                refine AllJ.cons (o := { dst := some 9, op := Op.assign (Operand.tmp 89), type := 36, pos := "ref.go:125", after := #[{ on := 11, ground := Ground.data }, { on := 13, ground := Ground.chain }, { on := 0, ground := Ground.phase }, { on := 1, ground := Ground.phase }, { on := 2, ground := Ground.phase }, { on := 3, ground := Ground.phase }, { on := 4, ground := Ground.phase }, { on := 5, ground := Ground.phase }, { on := 6, ground := Ground.phase }, { on := 7, ground := Ground.phase }, { on := 8, ground := Ground.phase }, { on := 9, ground := Ground.phase }, { on := 10, ground := Ground.phase }, { on := 11, ground := Ground.phase }, { on := 12, ground := Ground.phase }, { on := 13, ground := Ground.phase }], guard := none }) rfl (fun K hK => ?_) ?_
                ·
                  go_simp
                  refine hK.out _ _ (fun _ => G293.out) ?_
                  clear hK K
                  try simp only [Act.put, List.setIfInBounds_toArray, List.set_cons_zero, List.set_cons_succ]
                  refine wpAnyJ_done (by kernel_rfl) ?_ _
                  exact HEND.out _ _ _ _ _ _ _ _ _ _ _ _ _ _ lB219 T294.out G293.out
                exact AllJ.nil
              exact AllJ.nil
            exact AllJ.nil
          exact AllJ.nil
        exact AllJ.nil
      exact AllJ.nil
    exact AllJ.nil
  refine AllJ.cons (o := { dst := some 83, op := Op.buildSlice 22 1 #[(0, Operand.tmp 82)], type := 22, pos := "ref.go:125", after := #[{ on := 3, ground := Ground.data }], guard := none }) rfl (fun K hK => ?_) ?_
  ·
    go_simp
    have G296 : Hid (A.grownBy (V0.alloc (.cells #[.int .i64 d, .string nm, .int .i64 p, .int .i64 u, .int .i64 v] 45)) none) := gb_own G0.out (gb_none (ba _ _)) (by simp)
    have x298 : Hid (FivB (V0.alloc (.cells #[.int .i64 d, .string nm, .int .i64 p, .int .i64 u, .int .i64 v] 45)) V0.heap.size (.int .i64 d) (.string nm) (.int .i64 p) (.int .i64 u) (.int .i64 v)) := FivB.new _ _ _ _ _ _ 45 _ rfl
    refine hK.out _ _ (fun _ => G296.out) ?_
    clear hK K
    try simp only [Act.put, List.setIfInBounds_toArray, List.set_cons_zero, List.set_cons_succ]
    obtain ⟨B297, hB297⟩ : ∃ B297 : Nat, B297 = V0.heap.size := ⟨_, rfl⟩
    obtain ⟨W295, hW295⟩ : ∃ W295, W295 = (V0.alloc (.cells #[.int .i64 d, .string nm, .int .i64 p, .int .i64 u, .int .i64 v] 45)) := ⟨_, rfl⟩
    rw [← hW295, ← hB297] at x298 ⊢
    rw [← hW295] at G296
    have lB297 : A.heap.size ≤ B297 := by rw [hB297]; exact G0.out.size
    clear hW295 hB297
    refine wpAnyJ_ready (rs := [0, 12]) (by kernel_rfl) (by simp) ?_
    refine AllJ.cons (o := { dst := some 79, op := Op.buildSlice 22 0 #[], type := 22, pos := "ref.go:125", after := #[], guard := none }) rfl (fun K hK => ?_) ?_
    ·
      go_simp
      have G300 : Hid (A.grownBy (W295.alloc (.cells #[] 45)) none) := gb_own G296.out (gb_none (ba _ _)) (by simp)
      have nd302 : ∀ x, (Value.slice (some ⟨W295.heap.size, 0, none⟩) 0 0).ownBlock = some x → x ≠ B297 := fun x hx e => by simp only [Value.ownBlock, Option.some.injEq] at hx; have := x298.out.lt; omega
      have C303 : Hid (FivB (W295.alloc (.cells #[] 45)) B297 (.int .i64 d) (.string nm) (.int .i64 p) (.int .i64 u) (.int .i64 v)) := x298.out.below (ba _ _)
      have x304 : Hid ((W295.alloc (.cells #[] 45)).ownsRow A.heap.size 45 5 (.slice (some ⟨W295.heap.size, 0, none⟩) 0 0) 0 []) := owns_empty _ 45 5 _ G296.out.size
      refine hK.out _ _ (fun _ => G300.out) ?_
      clear hK K
      try simp only [Act.put, List.setIfInBounds_toArray, List.set_cons_zero, List.set_cons_succ]
      obtain ⟨B301, hB301⟩ : ∃ B301 : Nat, B301 = W295.heap.size := ⟨_, rfl⟩
      obtain ⟨W299, hW299⟩ : ∃ W299, W299 = (W295.alloc (.cells #[] 45)) := ⟨_, rfl⟩
      rw [← hW299, ← hB301] at x304 ⊢
      rw [← hB301] at nd302
      rw [← hW299] at G300 C303
      have lB301 : A.heap.size ≤ B301 := by rw [hB301]; exact G296.out.size
      clear hW299 hB301
      refine wpAnyJ_ready (rs := [2, 12]) (by kernel_rfl) (by simp) ?_
      refine AllJ.cons (o := { dst := some 81, op := Op.call { callee := Callee.builtin Builtin.append, args := #[Operand.tmp 79, Operand.tmp 80], argTypes := #[22, 22] }, type := 22, pos := "ref.go:125", after := #[{ on := 0, ground := Ground.data }, { on := 1, ground := Ground.data }], guard := none }) rfl (fun K hK => ?_) ?_
      ·
        refine step_app _ rfl _ _ 22 rfl A.heap.size 45 i45 (.agg #[.int .i64 0, .string ⟨#[]⟩, .int .i64 0, .int .i64 0, .int .i64 0]) 5 48 Tryz.underlying22 hi45 hq0 hq1 hq2 rfl (by decide) (some ⟨B301, 0, none⟩) 0 0 [] rfl x304.out a l.length c (enc l) rfl hl1 (HSRC.out W299 G300.out) HONE.out (by unfold maxLen; omega) (by omega) G300.out.size l.length (by omega) ?_
        intro a308 c309 W305 ho310 hg311 ha312
        have G306 : Hid (A.grownBy W305 none) := gb_own G300.out hg311 (fun x hx => (row_lt x304.out hx).1)
        have nd314 : ∀ x, (Value.slice a308 l.length c309).ownBlock = some x → x ≠ B297 := fun x hx e => by
          rcases ha312 with h | h
          · rw [h] at hx; exact nd302 x hx e
          · rw [h] at hx; simp only [Option.some.injEq] at hx; have := C303.out.lt; omega
        have C313 : Hid (FivB W305 B297 (.int .i64 d) (.string nm) (.int .i64 p) (.int .i64 u) (.int .i64 v)) := C303.out.gb hg311 (fun e => nd302 _ e.symm rfl)
        have R307 : Hid (W305.ownsRow A.heap.size 45 5 (.slice a308 l.length c309) l.length (enc l)) := by rw [Hid]; simpa using ho310
        refine hK.out _ _ (fun _ => G306.out) ?_
        clear hK K
        try simp only [Act.put, List.setIfInBounds_toArray, List.set_cons_zero, List.set_cons_succ]
        clear ho310 hg311 ha312
        refine wpAnyJ_ready (rs := [5, 12]) (by kernel_rfl) (by simp) ?_
        refine AllJ.cons (o := { dst := some 84, op := Op.call { callee := Callee.builtin Builtin.append, args := #[Operand.tmp 81, Operand.tmp 83], argTypes := #[22, 22] }, type := 22, pos := "ref.go:125", after := #[{ on := 2, ground := Ground.data }, { on := 4, ground := Ground.data }, { on := 2, ground := Ground.chain }], guard := none }) rfl (fun K hK => ?_) ?_
        ·
          refine step_app _ rfl _ _ 22 rfl A.heap.size 45 i45 (.agg #[.int .i64 0, .string ⟨#[]⟩, .int .i64 0, .int .i64 0, .int .i64 0]) 5 48 Tryz.underlying22 hi45 hq0 hq1 hq2 rfl (by decide) a308 l.length c309 (enc l) rfl R307.out (some ⟨B297, 0, none⟩) 1 1 [.int .i64 d, .string nm, .int .i64 p, .int .i64 u, .int .i64 v] rfl rfl (fun _ => ⟨_, rfl, five_news C313.out⟩) (by intro z hz; simp at hz; rcases hz with rfl | rfl | rfl | rfl | rfl <;> rfl) (by unfold maxLen; omega) (by omega) G306.out.size (l.length + 1) (by omega) ?_
          intro a318 c319 W315 ho320 hg321 ha322
          have G316 : Hid (A.grownBy W315 none) := gb_own G306.out hg321 (fun x hx => (row_lt R307.out hx).1)
          have nd324 : ∀ x, (Value.slice a318 (l.length + 1) c319).ownBlock = some x → x ≠ B297 := fun x hx e => by
            rcases ha322 with h | h
            · rw [h] at hx; exact nd314 x hx e
            · rw [h] at hx; simp only [Option.some.injEq] at hx; have := C313.out.lt; omega
          have C323 : Hid (FivB W315 B297 (.int .i64 d) (.string nm) (.int .i64 p) (.int .i64 u) (.int .i64 v)) := C313.out.gb hg321 (fun e => nd314 _ e.symm rfl)
          have R317 : Hid (W315.ownsRow A.heap.size 45 5 (.slice a318 (l.length + 1) c319) (l.length + 1) (enc l ++ [.int .i64 d, .string nm, .int .i64 p, .int .i64 u, .int .i64 v])) := ho320
          refine hK.out _ _ (fun _ => G316.out) ?_
          clear hK K
          try simp only [Act.put, List.setIfInBounds_toArray, List.set_cons_zero, List.set_cons_succ]
          clear ho320 hg321 ha322
          refine wpAnyJ_ready (rs := [8, 12]) (by kernel_rfl) (by simp) ?_
          refine AllJ.cons (o := { dst := some 87, op := Op.call { callee := Callee.value (Operand.func 9), args := #[Operand.tmp 84, Operand.tmp 86], argTypes := #[22, 9] }, type := 37, pos := "ref.go:125", after := #[{ on := 5, ground := Ground.data }, { on := 7, ground := Ground.data }, { on := 5, ground := Ground.chain }], guard := none }) rfl (fun K hK => ?_) ?_
          ·
            have kk := kc W315 _ R317.out
            go_simp
            go_at_call 9
            refine kk.mono ?_
            rintro ee W325 ⟨rfl, hb327⟩
            have G326 : Hid (A.grownBy W325 none) := gb_own G316.out (gb_none hb327) (by simp)
            clear kk
            refine hK.out _ _ (fun _ => G326.out) ?_
            clear hK K
            try simp only [Act.put, List.setIfInBounds_toArray, List.set_cons_zero, List.set_cons_succ]
            clear hb327
            refine wpAnyJ_take (i := 9) (oi := { dst := some 78, op := Op.move (Operand.tmp 87), type := 37, pos := "ref.go:125", after := #[{ on := 8, ground := Ground.data }], guard := none }) (v := .tuple #[.agg #[.int .i64 sq.1, .int .i64 sq.2], .int .i64 se]) rfl rfl (waits_of (by kernel_rfl)) (by kernel_rfl) (by kernel_rfl) (by kernel_rfl) (fun _ _ _ h => hQp _ _ _ _ _ h) (Or.inl ⟨by rfl, fun W hS => ?_⟩) G326.out ?_
            · go_simp
            simp only [Act.put, List.setIfInBounds_toArray, List.set_cons_zero, List.set_cons_succ]
            refine wpAnyJ_take (i := 10) (oi := { dst := some 88, op := Op.extract (Operand.tmp 78) 0, type := 35, pos := "ref.go:125", after := #[{ on := 9, ground := Ground.data }], guard := none }) (v := .agg #[.int .i64 sq.1, .int .i64 sq.2]) rfl rfl (waits_of (by kernel_rfl)) (by kernel_rfl) (by kernel_rfl) (by kernel_rfl) (fun _ _ _ h => hQp _ _ _ _ _ h) (Or.inl ⟨by rfl, fun W hS => ?_⟩) G326.out ?_
            · go_simp
            simp only [Act.put, List.setIfInBounds_toArray, List.set_cons_zero, List.set_cons_succ]
            refine wpAnyJ_take (i := 11) (oi := { dst := some 89, op := Op.extract (Operand.tmp 78) 1, type := 36, pos := "ref.go:125", after := #[{ on := 9, ground := Ground.data }, { on := 13, ground := Ground.gcOnly Departure.lateStores }], guard := none }) (v := .int .i64 se) rfl rfl (waits_of (by kernel_rfl)) (by kernel_rfl) (by kernel_rfl) (by kernel_rfl) (fun _ _ _ h => hQp _ _ _ _ _ h) (Or.inl ⟨by rfl, fun W hS => ?_⟩) G326.out ?_
            · go_simp
            simp only [Act.put, List.setIfInBounds_toArray, List.set_cons_zero, List.set_cons_succ]
            refine wpAnyJ_ready (rs := [12]) (by kernel_rfl) (by simp) ?_
            refine AllJ.cons (o := { dst := some 8, op := Op.alloc 35, type := 0, pos := "ref.go:125", after := #[], guard := none }) rfl (fun K hK => ?_) ?_
            ·
              go_simp
              have G329 : Hid (A.grownBy (W325.alloc (.cells #[.int .i64 0, .int .i64 0] 35)) none) := gb_own G326.out (gb_none (ba _ _)) (by simp)
              have x331 : Hid (TwoB (W325.alloc (.cells #[.int .i64 0, .int .i64 0] 35)) W325.heap.size (.int .i64 0) (.int .i64 0)) := TwoB.new _ _ _ 35 _ rfl
              refine hK.out _ _ (fun _ => G329.out) ?_
              clear hK K
              try simp only [Act.put, List.setIfInBounds_toArray, List.set_cons_zero, List.set_cons_succ]
              obtain ⟨B330, hB330⟩ : ∃ B330 : Nat, B330 = W325.heap.size := ⟨_, rfl⟩
              obtain ⟨W328, hW328⟩ : ∃ W328, W328 = (W325.alloc (.cells #[.int .i64 0, .int .i64 0] 35)) := ⟨_, rfl⟩
              rw [← hW328, ← hB330] at x331 ⊢
              rw [← hW328] at G329
              have lB330 : A.heap.size ≤ B330 := by rw [hB330]; exact G326.out.size
              clear hW328 hB330
              refine wpAnyJ_ready (rs := [13]) (by kernel_rfl) (by simp) ?_
              refine AllJ.cons (o := { dst := none, op := Op.store 35 (Operand.tmp 8) (Operand.tmp 88), type := 0, pos := "ref.go:125", after := #[{ on := 12, ground := Ground.data }, { on := 10, ground := Ground.data }, { on := 8, ground := Ground.chain }, { on := 0, ground := Ground.phase }, { on := 1, ground := Ground.phase }, { on := 2, ground := Ground.phase }, { on := 3, ground := Ground.phase }, { on := 4, ground := Ground.phase }, { on := 5, ground := Ground.phase }, { on := 6, ground := Ground.phase }, { on := 7, ground := Ground.phase }, { on := 8, ground := Ground.phase }, { on := 9, ground := Ground.phase }, { on := 10, ground := Ground.phase }, { on := 11, ground := Ground.textOnly Departure.lateStores }, { on := 12, ground := Ground.phase }], guard := none }) rfl (fun K hK => ?_) ?_
              ·
                obtain ⟨z0, z1, zf0, zf1, zl⟩ := x331.out
                go_simp
                have G332 : Hid (A.grownBy ((W328.setCell ⟨B330, 0, none⟩ (.int .i64 sq.1)).setCell ⟨B330, 1, none⟩ (.int .i64 sq.2)) none) := gb_new (gb_new G329.out (p := ⟨B330, 0, none⟩) lB330 _) (p := ⟨B330, 1, none⟩) lB330 _
                have T333 : Hid (TwoB ((W328.setCell ⟨B330, 0, none⟩ (.int .i64 sq.1)).setCell ⟨B330, 1, none⟩ (.int .i64 sq.2)) B330 (.int .i64 sq.1) (.int .i64 sq.2)) := x331.out.put _ _
                clear z0 z1 zf0 zf1 zl
                refine hK.out _ _ (fun _ => G332.out) ?_
                clear hK K
                try simp only [Act.put, List.setIfInBounds_toArray, List.set_cons_zero, List.set_cons_succ]
                refine wpAnyJ_ready (rs := [14]) (by kernel_rfl) (by simp) ?_
                refine AllJ.cons (o := { dst := some 9, op := Op.assign (Operand.tmp 89), type := 36, pos := "ref.go:125", after := #[{ on := 11, ground := Ground.data }, { on := 13, ground := Ground.chain }, { on := 0, ground := Ground.phase }, { on := 1, ground := Ground.phase }, { on := 2, ground := Ground.phase }, { on := 3, ground := Ground.phase }, { on := 4, ground := Ground.phase }, { on := 5, ground := Ground.phase }, { on := 6, ground := Ground.phase }, { on := 7, ground := Ground.phase }, { on := 8, ground := Ground.phase }, { on := 9, ground := Ground.phase }, { on := 10, ground := Ground.phase }, { on := 11, ground := Ground.phase }, { on := 12, ground := Ground.phase }, { on := 13, ground := Ground.phase }], guard := none }) rfl (fun K hK => ?_) ?_
                ·
                  go_simp
                  refine hK.out _ _ (fun _ => G332.out) ?_
                  clear hK K
                  try simp only [Act.put, List.setIfInBounds_toArray, List.set_cons_zero, List.set_cons_succ]
                  refine wpAnyJ_done (by kernel_rfl) ?_ _
                  exact HEND.out _ _ _ _ _ _ _ _ _ _ _ _ _ _ lB330 T333.out G332.out
                exact AllJ.nil
              exact AllJ.nil
            exact AllJ.nil
          refine AllJ.cons (o := { dst := some 8, op := Op.alloc 35, type := 0, pos := "ref.go:125", after := #[], guard := none }) rfl (fun K hK => ?_) ?_
          ·
            go_simp
            have G335 : Hid (A.grownBy (W315.alloc (.cells #[.int .i64 0, .int .i64 0] 35)) none) := gb_own G316.out (gb_none (ba _ _)) (by simp)
            have nd337 : ∀ x, ((.slice a318 (l.length + 1) c319) : Value).ownBlock = some x → x ≠ W315.heap.size := fun x hx e => by have := (row_lt R317.out hx).2; omega
            have R338 : Hid ((W315.alloc (.cells #[.int .i64 0, .int .i64 0] 35)).ownsRow A.heap.size 45 5 (.slice a318 (l.length + 1) c319) (l.length + 1) (enc l ++ [.int .i64 d, .string nm, .int .i64 p, .int .i64 u, .int .i64 v])) := row_gb R317.out (gb_none (ba _ _)) (by simp)
            have C339 : Hid (FivB (W315.alloc (.cells #[.int .i64 0, .int .i64 0] 35)) B297 (.int .i64 d) (.string nm) (.int .i64 p) (.int .i64 u) (.int .i64 v)) := C323.out.below (ba _ _)
            have x340 : Hid (TwoB (W315.alloc (.cells #[.int .i64 0, .int .i64 0] 35)) W315.heap.size (.int .i64 0) (.int .i64 0)) := TwoB.new _ _ _ 35 _ rfl
            refine hK.out _ _ (fun _ => G335.out) ?_
            clear hK K
            try simp only [Act.put, List.setIfInBounds_toArray, List.set_cons_zero, List.set_cons_succ]
            obtain ⟨B336, hB336⟩ : ∃ B336 : Nat, B336 = W315.heap.size := ⟨_, rfl⟩
            obtain ⟨W334, hW334⟩ : ∃ W334, W334 = (W315.alloc (.cells #[.int .i64 0, .int .i64 0] 35)) := ⟨_, rfl⟩
            rw [← hW334, ← hB336] at x340 ⊢
            rw [← hB336] at nd337
            rw [← hW334] at G335 R338 C339
            have lB336 : A.heap.size ≤ B336 := by rw [hB336]; exact G316.out.size
            clear hW334 hB336
            refine wpAnyJ_ready (rs := [8]) (by kernel_rfl) (by simp) ?_
            refine AllJ.cons (o := { dst := some 87, op := Op.call { callee := Callee.value (Operand.func 9), args := #[Operand.tmp 84, Operand.tmp 86], argTypes := #[22, 9] }, type := 37, pos := "ref.go:125", after := #[{ on := 5, ground := Ground.data }, { on := 7, ground := Ground.data }, { on := 5, ground := Ground.chain }], guard := none }) rfl (fun K hK => ?_) ?_
            ·
              have kk := kc W334 _ R338.out
              go_simp
              go_at_call 9
              refine kk.mono ?_
              rintro ee W341 ⟨rfl, hb343⟩
              have G342 : Hid (A.grownBy W341 none) := gb_own G335.out (gb_none hb343) (by simp)
              have T344 : Hid (TwoB W341 B336 (.int .i64 0) (.int .i64 0)) := x340.out.below hb343
              clear kk
              refine hK.out _ _ (fun _ => G342.out) ?_
              clear hK K
              try simp only [Act.put, List.setIfInBounds_toArray, List.set_cons_zero, List.set_cons_succ]
              clear hb343
              refine wpAnyJ_take (i := 9) (oi := { dst := some 78, op := Op.move (Operand.tmp 87), type := 37, pos := "ref.go:125", after := #[{ on := 8, ground := Ground.data }], guard := none }) (v := .tuple #[.agg #[.int .i64 sq.1, .int .i64 sq.2], .int .i64 se]) rfl rfl (waits_of (by kernel_rfl)) (by kernel_rfl) (by kernel_rfl) (by kernel_rfl) (fun _ _ _ h => hQp _ _ _ _ _ h) (Or.inl ⟨by rfl, fun W hS => ?_⟩) G342.out ?_
              · go_simp
              simp only [Act.put, List.setIfInBounds_toArray, List.set_cons_zero, List.set_cons_succ]
              refine wpAnyJ_take (i := 10) (oi := { dst := some 88, op := Op.extract (Operand.tmp 78) 0, type := 35, pos := "ref.go:125", after := #[{ on := 9, ground := Ground.data }], guard := none }) (v := .agg #[.int .i64 sq.1, .int .i64 sq.2]) rfl rfl (waits_of (by kernel_rfl)) (by kernel_rfl) (by kernel_rfl) (by kernel_rfl) (fun _ _ _ h => hQp _ _ _ _ _ h) (Or.inl ⟨by rfl, fun W hS => ?_⟩) G342.out ?_
              · go_simp
              simp only [Act.put, List.setIfInBounds_toArray, List.set_cons_zero, List.set_cons_succ]
              refine wpAnyJ_take (i := 11) (oi := { dst := some 89, op := Op.extract (Operand.tmp 78) 1, type := 36, pos := "ref.go:125", after := #[{ on := 9, ground := Ground.data }, { on := 13, ground := Ground.gcOnly Departure.lateStores }], guard := none }) (v := .int .i64 se) rfl rfl (waits_of (by kernel_rfl)) (by kernel_rfl) (by kernel_rfl) (by kernel_rfl) (fun _ _ _ h => hQp _ _ _ _ _ h) (Or.inl ⟨by rfl, fun W hS => ?_⟩) G342.out ?_
              · go_simp
              simp only [Act.put, List.setIfInBounds_toArray, List.set_cons_zero, List.set_cons_succ]
              refine wpAnyJ_ready (rs := [13]) (by kernel_rfl) (by simp) ?_
              refine AllJ.cons (o := { dst := none, op := Op.store 35 (Operand.tmp 8) (Operand.tmp 88), type := 0, pos := "ref.go:125", after := #[{ on := 12, ground := Ground.data }, { on := 10, ground := Ground.data }, { on := 8, ground := Ground.chain }, { on := 0, ground := Ground.phase }, { on := 1, ground := Ground.phase }, { on := 2, ground := Ground.phase }, { on := 3, ground := Ground.phase }, { on := 4, ground := Ground.phase }, { on := 5, ground := Ground.phase }, { on := 6, ground := Ground.phase }, { on := 7, ground := Ground.phase }, { on := 8, ground := Ground.phase }, { on := 9, ground := Ground.phase }, { on := 10, ground := Ground.phase }, { on := 11, ground := Ground.textOnly Departure.lateStores }, { on := 12, ground := Ground.phase }], guard := none }) rfl (fun K hK => ?_) ?_
              ·
                obtain ⟨z0, z1, zf0, zf1, zl⟩ := T344.out
                go_simp
                have G345 : Hid (A.grownBy ((W341.setCell ⟨B336, 0, none⟩ (.int .i64 sq.1)).setCell ⟨B336, 1, none⟩ (.int .i64 sq.2)) none) := gb_new (gb_new G342.out (p := ⟨B336, 0, none⟩) lB336 _) (p := ⟨B336, 1, none⟩) lB336 _
                have T346 : Hid (TwoB ((W341.setCell ⟨B336, 0, none⟩ (.int .i64 sq.1)).setCell ⟨B336, 1, none⟩ (.int .i64 sq.2)) B336 (.int .i64 sq.1) (.int .i64 sq.2)) := T344.out.put _ _
                clear z0 z1 zf0 zf1 zl
                refine hK.out _ _ (fun _ => G345.out) ?_
                clear hK K
                try simp only [Act.put, List.setIfInBounds_toArray, List.set_cons_zero, List.set_cons_succ]
                refine wpAnyJ_ready (rs := [14]) (by kernel_rfl) (by simp) ?_
                refine AllJ.cons (o := { dst := some 9, op := Op.assign (Operand.tmp 89), type := 36, pos := "ref.go:125", after := #[{ on := 11, ground := Ground.data }, { on := 13, ground := Ground.chain }, { on := 0, ground := Ground.phase }, { on := 1, ground := Ground.phase }, { on := 2, ground := Ground.phase }, { on := 3, ground := Ground.phase }, { on := 4, ground := Ground.phase }, { on := 5, ground := Ground.phase }, { on := 6, ground := Ground.phase }, { on := 7, ground := Ground.phase }, { on := 8, ground := Ground.phase }, { on := 9, ground := Ground.phase }, { on := 10, ground := Ground.phase }, { on := 11, ground := Ground.phase }, { on := 12, ground := Ground.phase }, { on := 13, ground := Ground.phase }], guard := none }) rfl (fun K hK => ?_) ?_
                ·
                  go_simp
                  refine hK.out _ _ (fun _ => G345.out) ?_
                  clear hK K
                  try simp only [Act.put, List.setIfInBounds_toArray, List.set_cons_zero, List.set_cons_succ]
                  refine wpAnyJ_done (by kernel_rfl) ?_ _
                  exact HEND.out _ _ _ _ _ _ _ _ _ _ _ _ _ _ lB336 T346.out G345.out
                exact AllJ.nil
              exact AllJ.nil
            exact AllJ.nil
          exact AllJ.nil
        refine AllJ.cons (o := { dst := some 8, op := Op.alloc 35, type := 0, pos := "ref.go:125", after := #[], guard := none }) rfl (fun K hK => ?_) ?_
        ·
          go_simp
          have G348 : Hid (A.grownBy (W305.alloc (.cells #[.int .i64 0, .int .i64 0] 35)) none) := gb_own G306.out (gb_none (ba _ _)) (by simp)
          have nd350 : ∀ x, ((.slice a308 l.length c309) : Value).ownBlock = some x → x ≠ W305.heap.size := fun x hx e => by have := (row_lt R307.out hx).2; omega
          have R351 : Hid ((W305.alloc (.cells #[.int .i64 0, .int .i64 0] 35)).ownsRow A.heap.size 45 5 (.slice a308 l.length c309) l.length (enc l)) := row_gb R307.out (gb_none (ba _ _)) (by simp)
          have C352 : Hid (FivB (W305.alloc (.cells #[.int .i64 0, .int .i64 0] 35)) B297 (.int .i64 d) (.string nm) (.int .i64 p) (.int .i64 u) (.int .i64 v)) := C313.out.below (ba _ _)
          have x353 : Hid (TwoB (W305.alloc (.cells #[.int .i64 0, .int .i64 0] 35)) W305.heap.size (.int .i64 0) (.int .i64 0)) := TwoB.new _ _ _ 35 _ rfl
          refine hK.out _ _ (fun _ => G348.out) ?_
          clear hK K
          try simp only [Act.put, List.setIfInBounds_toArray, List.set_cons_zero, List.set_cons_succ]
          obtain ⟨B349, hB349⟩ : ∃ B349 : Nat, B349 = W305.heap.size := ⟨_, rfl⟩
          obtain ⟨W347, hW347⟩ : ∃ W347, W347 = (W305.alloc (.cells #[.int .i64 0, .int .i64 0] 35)) := ⟨_, rfl⟩
          rw [← hW347, ← hB349] at x353 ⊢
          rw [← hB349] at nd350
          rw [← hW347] at G348 R351 C352
          have lB349 : A.heap.size ≤ B349 := by rw [hB349]; exact G306.out.size
          clear hW347 hB349
          refine wpAnyJ_ready (rs := [5]) (by kernel_rfl) (by simp) ?_
          refine AllJ.cons (o := { dst := some 84, op := Op.call { callee := Callee.builtin Builtin.append, args := #[Operand.tmp 81, Operand.tmp 83], argTypes := #[22, 22] }, type := 22, pos := "ref.go:125", after := #[{ on := 2, ground := Ground.data }, { on := 4, ground := Ground.data }, { on := 2, ground := Ground.chain }], guard := none }) rfl (fun K hK => ?_) ?_
          ·
            refine step_app _ rfl _ _ 22 rfl A.heap.size 45 i45 (.agg #[.int .i64 0, .string ⟨#[]⟩, .int .i64 0, .int .i64 0, .int .i64 0]) 5 48 Tryz.underlying22 hi45 hq0 hq1 hq2 rfl (by decide) a308 l.length c309 (enc l) rfl R351.out (some ⟨B297, 0, none⟩) 1 1 [.int .i64 d, .string nm, .int .i64 p, .int .i64 u, .int .i64 v] rfl rfl (fun _ => ⟨_, rfl, five_news C352.out⟩) (by intro z hz; simp at hz; rcases hz with rfl | rfl | rfl | rfl | rfl <;> rfl) (by unfold maxLen; omega) (by omega) G348.out.size (l.length + 1) (by omega) ?_
            intro a357 c358 W354 ho359 hg360 ha361
            have G355 : Hid (A.grownBy W354 none) := gb_own G348.out hg360 (fun x hx => (row_lt R351.out hx).1)
            have nd363 : ∀ x, (Value.slice a357 (l.length + 1) c358).ownBlock = some x → x ≠ B297 := fun x hx e => by
              rcases ha361 with h | h
              · rw [h] at hx; exact nd314 x hx e
              · rw [h] at hx; simp only [Option.some.injEq] at hx; have := C352.out.lt; omega
            have C362 : Hid (FivB W354 B297 (.int .i64 d) (.string nm) (.int .i64 p) (.int .i64 u) (.int .i64 v)) := C352.out.gb hg360 (fun e => nd314 _ e.symm rfl)
            have nd365 : ∀ x, (Value.slice a357 (l.length + 1) c358).ownBlock = some x → x ≠ B349 := fun x hx e => by
              rcases ha361 with h | h
              · rw [h] at hx; exact nd350 x hx e
              · rw [h] at hx; simp only [Option.some.injEq] at hx; have := x353.out.lt; omega
            have T8364 : Hid (TwoB W354 B349 (.int .i64 0) (.int .i64 0)) := x353.out.gb hg360 (fun e => nd350 _ e.symm rfl)
            have R356 : Hid (W354.ownsRow A.heap.size 45 5 (.slice a357 (l.length + 1) c358) (l.length + 1) (enc l ++ [.int .i64 d, .string nm, .int .i64 p, .int .i64 u, .int .i64 v])) := ho359
            refine hK.out _ _ (fun _ => G355.out) ?_
            clear hK K
            try simp only [Act.put, List.setIfInBounds_toArray, List.set_cons_zero, List.set_cons_succ]
            clear ho359 hg360 ha361
            refine wpAnyJ_ready (rs := [8]) (by kernel_rfl) (by simp) ?_
            refine AllJ.cons (o := { dst := some 87, op := Op.call { callee := Callee.value (Operand.func 9), args := #[Operand.tmp 84, Operand.tmp 86], argTypes := #[22, 9] }, type := 37, pos := "ref.go:125", after := #[{ on := 5, ground := Ground.data }, { on := 7, ground := Ground.data }, { on := 5, ground := Ground.chain }], guard := none }) rfl (fun K hK => ?_) ?_
            ·
              have kk := kc W354 _ R356.out
              go_simp
              go_at_call 9
              refine kk.mono ?_
              rintro ee W366 ⟨rfl, hb368⟩
              have G367 : Hid (A.grownBy W366 none) := gb_own G355.out (gb_none hb368) (by simp)
              have T369 : Hid (TwoB W366 B349 (.int .i64 0) (.int .i64 0)) := T8364.out.below hb368
              clear kk
              refine hK.out _ _ (fun _ => G367.out) ?_
              clear hK K
              try simp only [Act.put, List.setIfInBounds_toArray, List.set_cons_zero, List.set_cons_succ]
              clear hb368
              refine wpAnyJ_take (i := 9) (oi := { dst := some 78, op := Op.move (Operand.tmp 87), type := 37, pos := "ref.go:125", after := #[{ on := 8, ground := Ground.data }], guard := none }) (v := .tuple #[.agg #[.int .i64 sq.1, .int .i64 sq.2], .int .i64 se]) rfl rfl (waits_of (by kernel_rfl)) (by kernel_rfl) (by kernel_rfl) (by kernel_rfl) (fun _ _ _ h => hQp _ _ _ _ _ h) (Or.inl ⟨by rfl, fun W hS => ?_⟩) G367.out ?_
              · go_simp
              simp only [Act.put, List.setIfInBounds_toArray, List.set_cons_zero, List.set_cons_succ]
              refine wpAnyJ_take (i := 10) (oi := { dst := some 88, op := Op.extract (Operand.tmp 78) 0, type := 35, pos := "ref.go:125", after := #[{ on := 9, ground := Ground.data }], guard := none }) (v := .agg #[.int .i64 sq.1, .int .i64 sq.2]) rfl rfl (waits_of (by kernel_rfl)) (by kernel_rfl) (by kernel_rfl) (by kernel_rfl) (fun _ _ _ h => hQp _ _ _ _ _ h) (Or.inl ⟨by rfl, fun W hS => ?_⟩) G367.out ?_
              · go_simp
              simp only [Act.put, List.setIfInBounds_toArray, List.set_cons_zero, List.set_cons_succ]
              refine wpAnyJ_take (i := 11) (oi := { dst := some 89, op := Op.extract (Operand.tmp 78) 1, type := 36, pos := "ref.go:125", after := #[{ on := 9, ground := Ground.data }, { on := 13, ground := Ground.gcOnly Departure.lateStores }], guard := none }) (v := .int .i64 se) rfl rfl (waits_of (by kernel_rfl)) (by kernel_rfl) (by kernel_rfl) (by kernel_rfl) (fun _ _ _ h => hQp _ _ _ _ _ h) (Or.inl ⟨by rfl, fun W hS => ?_⟩) G367.out ?_
              · go_simp
              simp only [Act.put, List.setIfInBounds_toArray, List.set_cons_zero, List.set_cons_succ]
              refine wpAnyJ_ready (rs := [13]) (by kernel_rfl) (by simp) ?_
              refine AllJ.cons (o := { dst := none, op := Op.store 35 (Operand.tmp 8) (Operand.tmp 88), type := 0, pos := "ref.go:125", after := #[{ on := 12, ground := Ground.data }, { on := 10, ground := Ground.data }, { on := 8, ground := Ground.chain }, { on := 0, ground := Ground.phase }, { on := 1, ground := Ground.phase }, { on := 2, ground := Ground.phase }, { on := 3, ground := Ground.phase }, { on := 4, ground := Ground.phase }, { on := 5, ground := Ground.phase }, { on := 6, ground := Ground.phase }, { on := 7, ground := Ground.phase }, { on := 8, ground := Ground.phase }, { on := 9, ground := Ground.phase }, { on := 10, ground := Ground.phase }, { on := 11, ground := Ground.textOnly Departure.lateStores }, { on := 12, ground := Ground.phase }], guard := none }) rfl (fun K hK => ?_) ?_
              ·
                obtain ⟨z0, z1, zf0, zf1, zl⟩ := T369.out
                go_simp
                have G370 : Hid (A.grownBy ((W366.setCell ⟨B349, 0, none⟩ (.int .i64 sq.1)).setCell ⟨B349, 1, none⟩ (.int .i64 sq.2)) none) := gb_new (gb_new G367.out (p := ⟨B349, 0, none⟩) lB349 _) (p := ⟨B349, 1, none⟩) lB349 _
                have T371 : Hid (TwoB ((W366.setCell ⟨B349, 0, none⟩ (.int .i64 sq.1)).setCell ⟨B349, 1, none⟩ (.int .i64 sq.2)) B349 (.int .i64 sq.1) (.int .i64 sq.2)) := T369.out.put _ _
                clear z0 z1 zf0 zf1 zl
                refine hK.out _ _ (fun _ => G370.out) ?_
                clear hK K
                try simp only [Act.put, List.setIfInBounds_toArray, List.set_cons_zero, List.set_cons_succ]
                refine wpAnyJ_ready (rs := [14]) (by kernel_rfl) (by simp) ?_
                refine AllJ.cons (o := { dst := some 9, op := Op.assign (Operand.tmp 89), type := 36, pos := "ref.go:125", after := #[{ on := 11, ground := Ground.data }, { on := 13, ground := Ground.chain }, { on := 0, ground := Ground.phase }, { on := 1, ground := Ground.phase }, { on := 2, ground := Ground.phase }, { on := 3, ground := Ground.phase }, { on := 4, ground := Ground.phase }, { on := 5, ground := Ground.phase }, { on := 6, ground := Ground.phase }, { on := 7, ground := Ground.phase }, { on := 8, ground := Ground.phase }, { on := 9, ground := Ground.phase }, { on := 10, ground := Ground.phase }, { on := 11, ground := Ground.phase }, { on := 12, ground := Ground.phase }, { on := 13, ground := Ground.phase }], guard := none }) rfl (fun K hK => ?_) ?_
                ·
                  go_simp
                  refine hK.out _ _ (fun _ => G370.out) ?_
                  clear hK K
                  try simp only [Act.put, List.setIfInBounds_toArray, List.set_cons_zero, List.set_cons_succ]
                  refine wpAnyJ_done (by kernel_rfl) ?_ _
                  exact HEND.out _ _ _ _ _ _ _ _ _ _ _ _ _ _ lB349 T371.out G370.out
                exact AllJ.nil
              exact AllJ.nil
            exact AllJ.nil
          exact AllJ.nil
        exact AllJ.nil
      refine AllJ.cons (o := { dst := some 8, op := Op.alloc 35, type := 0, pos := "ref.go:125", after := #[], guard := none }) rfl (fun K hK => ?_) ?_
      ·
        go_simp
        have G373 : Hid (A.grownBy (W299.alloc (.cells #[.int .i64 0, .int .i64 0] 35)) none) := gb_own G300.out (gb_none (ba _ _)) (by simp)
        have nd375 : ∀ x, ((.slice (some ⟨B301, 0, none⟩) 0 0) : Value).ownBlock = some x → x ≠ W299.heap.size := fun x hx e => by have := (row_lt x304.out hx).2; omega
        have R376 : Hid ((W299.alloc (.cells #[.int .i64 0, .int .i64 0] 35)).ownsRow A.heap.size 45 5 (.slice (some ⟨B301, 0, none⟩) 0 0) 0 []) := row_gb x304.out (gb_none (ba _ _)) (by simp)
        have C377 : Hid (FivB (W299.alloc (.cells #[.int .i64 0, .int .i64 0] 35)) B297 (.int .i64 d) (.string nm) (.int .i64 p) (.int .i64 u) (.int .i64 v)) := C303.out.below (ba _ _)
        have x378 : Hid (TwoB (W299.alloc (.cells #[.int .i64 0, .int .i64 0] 35)) W299.heap.size (.int .i64 0) (.int .i64 0)) := TwoB.new _ _ _ 35 _ rfl
        refine hK.out _ _ (fun _ => G373.out) ?_
        clear hK K
        try simp only [Act.put, List.setIfInBounds_toArray, List.set_cons_zero, List.set_cons_succ]
        obtain ⟨B374, hB374⟩ : ∃ B374 : Nat, B374 = W299.heap.size := ⟨_, rfl⟩
        obtain ⟨W372, hW372⟩ : ∃ W372, W372 = (W299.alloc (.cells #[.int .i64 0, .int .i64 0] 35)) := ⟨_, rfl⟩
        rw [← hW372, ← hB374] at x378 ⊢
        rw [← hB374] at nd375
        rw [← hW372] at G373 R376 C377
        have lB374 : A.heap.size ≤ B374 := by rw [hB374]; exact G300.out.size
        clear hW372 hB374
        refine wpAnyJ_ready (rs := [2]) (by kernel_rfl) (by simp) ?_
        refine AllJ.cons (o := { dst := some 81, op := Op.call { callee := Callee.builtin Builtin.append, args := #[Operand.tmp 79, Operand.tmp 80], argTypes := #[22, 22] }, type := 22, pos := "ref.go:125", after := #[{ on := 0, ground := Ground.data }, { on := 1, ground := Ground.data }], guard := none }) rfl (fun K hK => ?_) ?_
        ·
          refine step_app _ rfl _ _ 22 rfl A.heap.size 45 i45 (.agg #[.int .i64 0, .string ⟨#[]⟩, .int .i64 0, .int .i64 0, .int .i64 0]) 5 48 Tryz.underlying22 hi45 hq0 hq1 hq2 rfl (by decide) (some ⟨B301, 0, none⟩) 0 0 [] rfl R376.out a l.length c (enc l) rfl hl1 (HSRC.out W372 G373.out) HONE.out (by unfold maxLen; omega) (by omega) G373.out.size l.length (by omega) ?_
          intro a382 c383 W379 ho384 hg385 ha386
          have G380 : Hid (A.grownBy W379 none) := gb_own G373.out hg385 (fun x hx => (row_lt R376.out hx).1)
          have nd388 : ∀ x, (Value.slice a382 l.length c383).ownBlock = some x → x ≠ B297 := fun x hx e => by
            rcases ha386 with h | h
            · rw [h] at hx; exact nd302 x hx e
            · rw [h] at hx; simp only [Option.some.injEq] at hx; have := C377.out.lt; omega
          have C387 : Hid (FivB W379 B297 (.int .i64 d) (.string nm) (.int .i64 p) (.int .i64 u) (.int .i64 v)) := C377.out.gb hg385 (fun e => nd302 _ e.symm rfl)
          have nd390 : ∀ x, (Value.slice a382 l.length c383).ownBlock = some x → x ≠ B374 := fun x hx e => by
            rcases ha386 with h | h
            · rw [h] at hx; exact nd375 x hx e
            · rw [h] at hx; simp only [Option.some.injEq] at hx; have := x378.out.lt; omega
          have T8389 : Hid (TwoB W379 B374 (.int .i64 0) (.int .i64 0)) := x378.out.gb hg385 (fun e => nd375 _ e.symm rfl)
          have R381 : Hid (W379.ownsRow A.heap.size 45 5 (.slice a382 l.length c383) l.length (enc l)) := by rw [Hid]; simpa using ho384
          refine hK.out _ _ (fun _ => G380.out) ?_
          clear hK K
          try simp only [Act.put, List.setIfInBounds_toArray, List.set_cons_zero, List.set_cons_succ]
          clear ho384 hg385 ha386
          refine wpAnyJ_ready (rs := [5]) (by kernel_rfl) (by simp) ?_
          refine AllJ.cons (o := { dst := some 84, op := Op.call { callee := Callee.builtin Builtin.append, args := #[Operand.tmp 81, Operand.tmp 83], argTypes := #[22, 22] }, type := 22, pos := "ref.go:125", after := #[{ on := 2, ground := Ground.data }, { on := 4, ground := Ground.data }, { on := 2, ground := Ground.chain }], guard := none }) rfl (fun K hK => ?_) ?_
          ·
            refine step_app _ rfl _ _ 22 rfl A.heap.size 45 i45 (.agg #[.int .i64 0, .string ⟨#[]⟩, .int .i64 0, .int .i64 0, .int .i64 0]) 5 48 Tryz.underlying22 hi45 hq0 hq1 hq2 rfl (by decide) a382 l.length c383 (enc l) rfl R381.out (some ⟨B297, 0, none⟩) 1 1 [.int .i64 d, .string nm, .int .i64 p, .int .i64 u, .int .i64 v] rfl rfl (fun _ => ⟨_, rfl, five_news C387.out⟩) (by intro z hz; simp at hz; rcases hz with rfl | rfl | rfl | rfl | rfl <;> rfl) (by unfold maxLen; omega) (by omega) G380.out.size (l.length + 1) (by omega) ?_
            intro a394 c395 W391 ho396 hg397 ha398
            have G392 : Hid (A.grownBy W391 none) := gb_own G380.out hg397 (fun x hx => (row_lt R381.out hx).1)
            have nd400 : ∀ x, (Value.slice a394 (l.length + 1) c395).ownBlock = some x → x ≠ B297 := fun x hx e => by
              rcases ha398 with h | h
              · rw [h] at hx; exact nd388 x hx e
              · rw [h] at hx; simp only [Option.some.injEq] at hx; have := C387.out.lt; omega
            have C399 : Hid (FivB W391 B297 (.int .i64 d) (.string nm) (.int .i64 p) (.int .i64 u) (.int .i64 v)) := C387.out.gb hg397 (fun e => nd388 _ e.symm rfl)
            have nd402 : ∀ x, (Value.slice a394 (l.length + 1) c395).ownBlock = some x → x ≠ B374 := fun x hx e => by
              rcases ha398 with h | h
              · rw [h] at hx; exact nd390 x hx e
              · rw [h] at hx; simp only [Option.some.injEq] at hx; have := T8389.out.lt; omega
            have T8401 : Hid (TwoB W391 B374 (.int .i64 0) (.int .i64 0)) := T8389.out.gb hg397 (fun e => nd390 _ e.symm rfl)
            have R393 : Hid (W391.ownsRow A.heap.size 45 5 (.slice a394 (l.length + 1) c395) (l.length + 1) (enc l ++ [.int .i64 d, .string nm, .int .i64 p, .int .i64 u, .int .i64 v])) := ho396
            refine hK.out _ _ (fun _ => G392.out) ?_
            clear hK K
            try simp only [Act.put, List.setIfInBounds_toArray, List.set_cons_zero, List.set_cons_succ]
            clear ho396 hg397 ha398
            refine wpAnyJ_ready (rs := [8]) (by kernel_rfl) (by simp) ?_
            refine AllJ.cons (o := { dst := some 87, op := Op.call { callee := Callee.value (Operand.func 9), args := #[Operand.tmp 84, Operand.tmp 86], argTypes := #[22, 9] }, type := 37, pos := "ref.go:125", after := #[{ on := 5, ground := Ground.data }, { on := 7, ground := Ground.data }, { on := 5, ground := Ground.chain }], guard := none }) rfl (fun K hK => ?_) ?_
            ·
              have kk := kc W391 _ R393.out
              go_simp
              go_at_call 9
              refine kk.mono ?_
              rintro ee W403 ⟨rfl, hb405⟩
              have G404 : Hid (A.grownBy W403 none) := gb_own G392.out (gb_none hb405) (by simp)
              have T406 : Hid (TwoB W403 B374 (.int .i64 0) (.int .i64 0)) := T8401.out.below hb405
              clear kk
              refine hK.out _ _ (fun _ => G404.out) ?_
              clear hK K
              try simp only [Act.put, List.setIfInBounds_toArray, List.set_cons_zero, List.set_cons_succ]
              clear hb405
              refine wpAnyJ_take (i := 9) (oi := { dst := some 78, op := Op.move (Operand.tmp 87), type := 37, pos := "ref.go:125", after := #[{ on := 8, ground := Ground.data }], guard := none }) (v := .tuple #[.agg #[.int .i64 sq.1, .int .i64 sq.2], .int .i64 se]) rfl rfl (waits_of (by kernel_rfl)) (by kernel_rfl) (by kernel_rfl) (by kernel_rfl) (fun _ _ _ h => hQp _ _ _ _ _ h) (Or.inl ⟨by rfl, fun W hS => ?_⟩) G404.out ?_
              · go_simp
              simp only [Act.put, List.setIfInBounds_toArray, List.set_cons_zero, List.set_cons_succ]
              refine wpAnyJ_take (i := 10) (oi := { dst := some 88, op := Op.extract (Operand.tmp 78) 0, type := 35, pos := "ref.go:125", after := #[{ on := 9, ground := Ground.data }], guard := none }) (v := .agg #[.int .i64 sq.1, .int .i64 sq.2]) rfl rfl (waits_of (by kernel_rfl)) (by kernel_rfl) (by kernel_rfl) (by kernel_rfl) (fun _ _ _ h => hQp _ _ _ _ _ h) (Or.inl ⟨by rfl, fun W hS => ?_⟩) G404.out ?_
              · go_simp
              simp only [Act.put, List.setIfInBounds_toArray, List.set_cons_zero, List.set_cons_succ]
              refine wpAnyJ_take (i := 11) (oi := { dst := some 89, op := Op.extract (Operand.tmp 78) 1, type := 36, pos := "ref.go:125", after := #[{ on := 9, ground := Ground.data }, { on := 13, ground := Ground.gcOnly Departure.lateStores }], guard := none }) (v := .int .i64 se) rfl rfl (waits_of (by kernel_rfl)) (by kernel_rfl) (by kernel_rfl) (by kernel_rfl) (fun _ _ _ h => hQp _ _ _ _ _ h) (Or.inl ⟨by rfl, fun W hS => ?_⟩) G404.out ?_
              · go_simp
              simp only [Act.put, List.setIfInBounds_toArray, List.set_cons_zero, List.set_cons_succ]
              refine wpAnyJ_ready (rs := [13]) (by kernel_rfl) (by simp) ?_
              refine AllJ.cons (o := { dst := none, op := Op.store 35 (Operand.tmp 8) (Operand.tmp 88), type := 0, pos := "ref.go:125", after := #[{ on := 12, ground := Ground.data }, { on := 10, ground := Ground.data }, { on := 8, ground := Ground.chain }, { on := 0, ground := Ground.phase }, { on := 1, ground := Ground.phase }, { on := 2, ground := Ground.phase }, { on := 3, ground := Ground.phase }, { on := 4, ground := Ground.phase }, { on := 5, ground := Ground.phase }, { on := 6, ground := Ground.phase }, { on := 7, ground := Ground.phase }, { on := 8, ground := Ground.phase }, { on := 9, ground := Ground.phase }, { on := 10, ground := Ground.phase }, { on := 11, ground := Ground.textOnly Departure.lateStores }, { on := 12, ground := Ground.phase }], guard := none }) rfl (fun K hK => ?_) ?_
              ·
                obtain ⟨z0, z1, zf0, zf1, zl⟩ := T406.out
                go_simp
                have G407 : Hid (A.grownBy ((W403.setCell ⟨B374, 0, none⟩ (.int .i64 sq.1)).setCell ⟨B374, 1, none⟩ (.int .i64 sq.2)) none) := gb_new (gb_new G404.out (p := ⟨B374, 0, none⟩) lB374 _) (p := ⟨B374, 1, none⟩) lB374 _
                have T408 : Hid (TwoB ((W403.setCell ⟨B374, 0, none⟩ (.int .i64 sq.1)).setCell ⟨B374, 1, none⟩ (.int .i64 sq.2)) B374 (.int .i64 sq.1) (.int .i64 sq.2)) := T406.out.put _ _
                clear z0 z1 zf0 zf1 zl
                refine hK.out _ _ (fun _ => G407.out) ?_
                clear hK K
                try simp only [Act.put, List.setIfInBounds_toArray, List.set_cons_zero, List.set_cons_succ]
                refine wpAnyJ_ready (rs := [14]) (by kernel_rfl) (by simp) ?_
                refine AllJ.cons (o := { dst := some 9, op := Op.assign (Operand.tmp 89), type := 36, pos := "ref.go:125", after := #[{ on := 11, ground := Ground.data }, { on := 13, ground := Ground.chain }, { on := 0, ground := Ground.phase }, { on := 1, ground := Ground.phase }, { on := 2, ground := Ground.phase }, { on := 3, ground := Ground.phase }, { on := 4, ground := Ground.phase }, { on := 5, ground := Ground.phase }, { on := 6, ground := Ground.phase }, { on := 7, ground := Ground.phase }, { on := 8, ground := Ground.phase }, { on := 9, ground := Ground.phase }, { on := 10, ground := Ground.phase }, { on := 11, ground := Ground.phase }, { on := 12, ground := Ground.phase }, { on := 13, ground := Ground.phase }], guard := none }) rfl (fun K hK => ?_) ?_
                ·
                  go_simp
                  refine hK.out _ _ (fun _ => G407.out) ?_
                  clear hK K
                  try simp only [Act.put, List.setIfInBounds_toArray, List.set_cons_zero, List.set_cons_succ]
                  refine wpAnyJ_done (by kernel_rfl) ?_ _
                  exact HEND.out _ _ _ _ _ _ _ _ _ _ _ _ _ _ lB374 T408.out G407.out
                exact AllJ.nil
              exact AllJ.nil
            exact AllJ.nil
          exact AllJ.nil
        exact AllJ.nil
      exact AllJ.nil
    refine AllJ.cons (o := { dst := some 8, op := Op.alloc 35, type := 0, pos := "ref.go:125", after := #[], guard := none }) rfl (fun K hK => ?_) ?_
    ·
      go_simp
      have G410 : Hid (A.grownBy (W295.alloc (.cells #[.int .i64 0, .int .i64 0] 35)) none) := gb_own G296.out (gb_none (ba _ _)) (by simp)
      have C412 : Hid (FivB (W295.alloc (.cells #[.int .i64 0, .int .i64 0] 35)) B297 (.int .i64 d) (.string nm) (.int .i64 p) (.int .i64 u) (.int .i64 v)) := x298.out.below (ba _ _)
      have x413 : Hid (TwoB (W295.alloc (.cells #[.int .i64 0, .int .i64 0] 35)) W295.heap.size (.int .i64 0) (.int .i64 0)) := TwoB.new _ _ _ 35 _ rfl
      refine hK.out _ _ (fun _ => G410.out) ?_
      clear hK K
      try simp only [Act.put, List.setIfInBounds_toArray, List.set_cons_zero, List.set_cons_succ]
      obtain ⟨B411, hB411⟩ : ∃ B411 : Nat, B411 = W295.heap.size := ⟨_, rfl⟩
      obtain ⟨W409, hW409⟩ : ∃ W409, W409 = (W295.alloc (.cells #[.int .i64 0, .int .i64 0] 35)) := ⟨_, rfl⟩
      rw [← hW409, ← hB411] at x413 ⊢
      rw [← hW409] at G410 C412
      have lB411 : A.heap.size ≤ B411 := by rw [hB411]; exact G296.out.size
      clear hW409 hB411
      refine wpAnyJ_ready (rs := [0]) (by kernel_rfl) (by simp) ?_
      refine AllJ.cons (o := { dst := some 79, op := Op.buildSlice 22 0 #[], type := 22, pos := "ref.go:125", after := #[], guard := none }) rfl (fun K hK => ?_) ?_
      ·
        go_simp
        have G415 : Hid (A.grownBy (W409.alloc (.cells #[] 45)) none) := gb_own G410.out (gb_none (ba _ _)) (by simp)
        have nd417 : ∀ x, (Value.slice (some ⟨W409.heap.size, 0, none⟩) 0 0).ownBlock = some x → x ≠ B297 := fun x hx e => by simp only [Value.ownBlock, Option.some.injEq] at hx; have := C412.out.lt; omega
        have nd418 : ∀ x, (Value.slice (some ⟨W409.heap.size, 0, none⟩) 0 0).ownBlock = some x → x ≠ B411 := fun x hx e => by simp only [Value.ownBlock, Option.some.injEq] at hx; have := x413.out.lt; omega
        have C419 : Hid (FivB (W409.alloc (.cells #[] 45)) B297 (.int .i64 d) (.string nm) (.int .i64 p) (.int .i64 u) (.int .i64 v)) := C412.out.below (ba _ _)
        have T8420 : Hid (TwoB (W409.alloc (.cells #[] 45)) B411 (.int .i64 0) (.int .i64 0)) := x413.out.below (ba _ _)
        have x421 : Hid ((W409.alloc (.cells #[] 45)).ownsRow A.heap.size 45 5 (.slice (some ⟨W409.heap.size, 0, none⟩) 0 0) 0 []) := owns_empty _ 45 5 _ G410.out.size
        refine hK.out _ _ (fun _ => G415.out) ?_
        clear hK K
        try simp only [Act.put, List.setIfInBounds_toArray, List.set_cons_zero, List.set_cons_succ]
        obtain ⟨B416, hB416⟩ : ∃ B416 : Nat, B416 = W409.heap.size := ⟨_, rfl⟩
        obtain ⟨W414, hW414⟩ : ∃ W414, W414 = (W409.alloc (.cells #[] 45)) := ⟨_, rfl⟩
        rw [← hW414, ← hB416] at x421 ⊢
        rw [← hB416] at nd417 nd418
        rw [← hW414] at G415 C419 T8420
        have lB416 : A.heap.size ≤ B416 := by rw [hB416]; exact G410.out.size
        clear hW414 hB416
        refine wpAnyJ_ready (rs := [2]) (by kernel_rfl) (by simp) ?_
        refine AllJ.cons (o := { dst := some 81, op := Op.call { callee := Callee.builtin Builtin.append, args := #[Operand.tmp 79, Operand.tmp 80], argTypes := #[22, 22] }, type := 22, pos := "ref.go:125", after := #[{ on := 0, ground := Ground.data }, { on := 1, ground := Ground.data }], guard := none }) rfl (fun K hK => ?_) ?_
        ·
          refine step_app _ rfl _ _ 22 rfl A.heap.size 45 i45 (.agg #[.int .i64 0, .string ⟨#[]⟩, .int .i64 0, .int .i64 0, .int .i64 0]) 5 48 Tryz.underlying22 hi45 hq0 hq1 hq2 rfl (by decide) (some ⟨B416, 0, none⟩) 0 0 [] rfl x421.out a l.length c (enc l) rfl hl1 (HSRC.out W414 G415.out) HONE.out (by unfold maxLen; omega) (by omega) G415.out.size l.length (by omega) ?_
          intro a425 c426 W422 ho427 hg428 ha429
          have G423 : Hid (A.grownBy W422 none) := gb_own G415.out hg428 (fun x hx => (row_lt x421.out hx).1)
          have nd431 : ∀ x, (Value.slice a425 l.length c426).ownBlock = some x → x ≠ B297 := fun x hx e => by
            rcases ha429 with h | h
            · rw [h] at hx; exact nd417 x hx e
            · rw [h] at hx; simp only [Option.some.injEq] at hx; have := C419.out.lt; omega
          have C430 : Hid (FivB W422 B297 (.int .i64 d) (.string nm) (.int .i64 p) (.int .i64 u) (.int .i64 v)) := C419.out.gb hg428 (fun e => nd417 _ e.symm rfl)
          have nd433 : ∀ x, (Value.slice a425 l.length c426).ownBlock = some x → x ≠ B411 := fun x hx e => by
            rcases ha429 with h | h
            · rw [h] at hx; exact nd418 x hx e
            · rw [h] at hx; simp only [Option.some.injEq] at hx; have := T8420.out.lt; omega
          have T8432 : Hid (TwoB W422 B411 (.int .i64 0) (.int .i64 0)) := T8420.out.gb hg428 (fun e => nd418 _ e.symm rfl)
          have R424 : Hid (W422.ownsRow A.heap.size 45 5 (.slice a425 l.length c426) l.length (enc l)) := by rw [Hid]; simpa using ho427
          refine hK.out _ _ (fun _ => G423.out) ?_
          clear hK K
          try simp only [Act.put, List.setIfInBounds_toArray, List.set_cons_zero, List.set_cons_succ]
          clear ho427 hg428 ha429
          refine wpAnyJ_ready (rs := [5]) (by kernel_rfl) (by simp) ?_
          refine AllJ.cons (o := { dst := some 84, op := Op.call { callee := Callee.builtin Builtin.append, args := #[Operand.tmp 81, Operand.tmp 83], argTypes := #[22, 22] }, type := 22, pos := "ref.go:125", after := #[{ on := 2, ground := Ground.data }, { on := 4, ground := Ground.data }, { on := 2, ground := Ground.chain }], guard := none }) rfl (fun K hK => ?_) ?_
          ·
            refine step_app _ rfl _ _ 22 rfl A.heap.size 45 i45 (.agg #[.int .i64 0, .string ⟨#[]⟩, .int .i64 0, .int .i64 0, .int .i64 0]) 5 48 Tryz.underlying22 hi45 hq0 hq1 hq2 rfl (by decide) a425 l.length c426 (enc l) rfl R424.out (some ⟨B297, 0, none⟩) 1 1 [.int .i64 d, .string nm, .int .i64 p, .int .i64 u, .int .i64 v] rfl rfl (fun _ => ⟨_, rfl, five_news C430.out⟩) (by intro z hz; simp at hz; rcases hz with rfl | rfl | rfl | rfl | rfl <;> rfl) (by unfold maxLen; omega) (by omega) G423.out.size (l.length + 1) (by omega) ?_
            intro a437 c438 W434 ho439 hg440 ha441
            have G435 : Hid (A.grownBy W434 none) := gb_own G423.out hg440 (fun x hx => (row_lt R424.out hx).1)
            have nd443 : ∀ x, (Value.slice a437 (l.length + 1) c438).ownBlock = some x → x ≠ B297 := fun x hx e => by
              rcases ha441 with h | h
              · rw [h] at hx; exact nd431 x hx e
              · rw [h] at hx; simp only [Option.some.injEq] at hx; have := C430.out.lt; omega
            have C442 : Hid (FivB W434 B297 (.int .i64 d) (.string nm) (.int .i64 p) (.int .i64 u) (.int .i64 v)) := C430.out.gb hg440 (fun e => nd431 _ e.symm rfl)
            have nd445 : ∀ x, (Value.slice a437 (l.length + 1) c438).ownBlock = some x → x ≠ B411 := fun x hx e => by
              rcases ha441 with h | h
              · rw [h] at hx; exact nd433 x hx e
              · rw [h] at hx; simp only [Option.some.injEq] at hx; have := T8432.out.lt; omega
            have T8444 : Hid (TwoB W434 B411 (.int .i64 0) (.int .i64 0)) := T8432.out.gb hg440 (fun e => nd433 _ e.symm rfl)
            have R436 : Hid (W434.ownsRow A.heap.size 45 5 (.slice a437 (l.length + 1) c438) (l.length + 1) (enc l ++ [.int .i64 d, .string nm, .int .i64 p, .int .i64 u, .int .i64 v])) := ho439
            refine hK.out _ _ (fun _ => G435.out) ?_
            clear hK K
            try simp only [Act.put, List.setIfInBounds_toArray, List.set_cons_zero, List.set_cons_succ]
            clear ho439 hg440 ha441
            refine wpAnyJ_ready (rs := [8]) (by kernel_rfl) (by simp) ?_
            refine AllJ.cons (o := { dst := some 87, op := Op.call { callee := Callee.value (Operand.func 9), args := #[Operand.tmp 84, Operand.tmp 86], argTypes := #[22, 9] }, type := 37, pos := "ref.go:125", after := #[{ on := 5, ground := Ground.data }, { on := 7, ground := Ground.data }, { on := 5, ground := Ground.chain }], guard := none }) rfl (fun K hK => ?_) ?_
            ·
              have kk := kc W434 _ R436.out
              go_simp
              go_at_call 9
              refine kk.mono ?_
              rintro ee W446 ⟨rfl, hb448⟩
              have G447 : Hid (A.grownBy W446 none) := gb_own G435.out (gb_none hb448) (by simp)
              have T449 : Hid (TwoB W446 B411 (.int .i64 0) (.int .i64 0)) := T8444.out.below hb448
              clear kk
              refine hK.out _ _ (fun _ => G447.out) ?_
              clear hK K
              try simp only [Act.put, List.setIfInBounds_toArray, List.set_cons_zero, List.set_cons_succ]
              clear hb448
              refine wpAnyJ_take (i := 9) (oi := { dst := some 78, op := Op.move (Operand.tmp 87), type := 37, pos := "ref.go:125", after := #[{ on := 8, ground := Ground.data }], guard := none }) (v := .tuple #[.agg #[.int .i64 sq.1, .int .i64 sq.2], .int .i64 se]) rfl rfl (waits_of (by kernel_rfl)) (by kernel_rfl) (by kernel_rfl) (by kernel_rfl) (fun _ _ _ h => hQp _ _ _ _ _ h) (Or.inl ⟨by rfl, fun W hS => ?_⟩) G447.out ?_
              · go_simp
              simp only [Act.put, List.setIfInBounds_toArray, List.set_cons_zero, List.set_cons_succ]
              refine wpAnyJ_take (i := 10) (oi := { dst := some 88, op := Op.extract (Operand.tmp 78) 0, type := 35, pos := "ref.go:125", after := #[{ on := 9, ground := Ground.data }], guard := none }) (v := .agg #[.int .i64 sq.1, .int .i64 sq.2]) rfl rfl (waits_of (by kernel_rfl)) (by kernel_rfl) (by kernel_rfl) (by kernel_rfl) (fun _ _ _ h => hQp _ _ _ _ _ h) (Or.inl ⟨by rfl, fun W hS => ?_⟩) G447.out ?_
              · go_simp
              simp only [Act.put, List.setIfInBounds_toArray, List.set_cons_zero, List.set_cons_succ]
              refine wpAnyJ_take (i := 11) (oi := { dst := some 89, op := Op.extract (Operand.tmp 78) 1, type := 36, pos := "ref.go:125", after := #[{ on := 9, ground := Ground.data }, { on := 13, ground := Ground.gcOnly Departure.lateStores }], guard := none }) (v := .int .i64 se) rfl rfl (waits_of (by kernel_rfl)) (by kernel_rfl) (by kernel_rfl) (by kernel_rfl) (fun _ _ _ h => hQp _ _ _ _ _ h) (Or.inl ⟨by rfl, fun W hS => ?_⟩) G447.out ?_
              · go_simp
              simp only [Act.put, List.setIfInBounds_toArray, List.set_cons_zero, List.set_cons_succ]
              refine wpAnyJ_ready (rs := [13]) (by kernel_rfl) (by simp) ?_
              refine AllJ.cons (o := { dst := none, op := Op.store 35 (Operand.tmp 8) (Operand.tmp 88), type := 0, pos := "ref.go:125", after := #[{ on := 12, ground := Ground.data }, { on := 10, ground := Ground.data }, { on := 8, ground := Ground.chain }, { on := 0, ground := Ground.phase }, { on := 1, ground := Ground.phase }, { on := 2, ground := Ground.phase }, { on := 3, ground := Ground.phase }, { on := 4, ground := Ground.phase }, { on := 5, ground := Ground.phase }, { on := 6, ground := Ground.phase }, { on := 7, ground := Ground.phase }, { on := 8, ground := Ground.phase }, { on := 9, ground := Ground.phase }, { on := 10, ground := Ground.phase }, { on := 11, ground := Ground.textOnly Departure.lateStores }, { on := 12, ground := Ground.phase }], guard := none }) rfl (fun K hK => ?_) ?_
              ·
                obtain ⟨z0, z1, zf0, zf1, zl⟩ := T449.out
                go_simp
                have G450 : Hid (A.grownBy ((W446.setCell ⟨B411, 0, none⟩ (.int .i64 sq.1)).setCell ⟨B411, 1, none⟩ (.int .i64 sq.2)) none) := gb_new (gb_new G447.out (p := ⟨B411, 0, none⟩) lB411 _) (p := ⟨B411, 1, none⟩) lB411 _
                have T451 : Hid (TwoB ((W446.setCell ⟨B411, 0, none⟩ (.int .i64 sq.1)).setCell ⟨B411, 1, none⟩ (.int .i64 sq.2)) B411 (.int .i64 sq.1) (.int .i64 sq.2)) := T449.out.put _ _
                clear z0 z1 zf0 zf1 zl
                refine hK.out _ _ (fun _ => G450.out) ?_
                clear hK K
                try simp only [Act.put, List.setIfInBounds_toArray, List.set_cons_zero, List.set_cons_succ]
                refine wpAnyJ_ready (rs := [14]) (by kernel_rfl) (by simp) ?_
                refine AllJ.cons (o := { dst := some 9, op := Op.assign (Operand.tmp 89), type := 36, pos := "ref.go:125", after := #[{ on := 11, ground := Ground.data }, { on := 13, ground := Ground.chain }, { on := 0, ground := Ground.phase }, { on := 1, ground := Ground.phase }, { on := 2, ground := Ground.phase }, { on := 3, ground := Ground.phase }, { on := 4, ground := Ground.phase }, { on := 5, ground := Ground.phase }, { on := 6, ground := Ground.phase }, { on := 7, ground := Ground.phase }, { on := 8, ground := Ground.phase }, { on := 9, ground := Ground.phase }, { on := 10, ground := Ground.phase }, { on := 11, ground := Ground.phase }, { on := 12, ground := Ground.phase }, { on := 13, ground := Ground.phase }], guard := none }) rfl (fun K hK => ?_) ?_
                ·
                  go_simp
                  refine hK.out _ _ (fun _ => G450.out) ?_
                  clear hK K
                  try simp only [Act.put, List.setIfInBounds_toArray, List.set_cons_zero, List.set_cons_succ]
                  refine wpAnyJ_done (by kernel_rfl) ?_ _
                  exact HEND.out _ _ _ _ _ _ _ _ _ _ _ _ _ _ lB411 T451.out G450.out
                exact AllJ.nil
              exact AllJ.nil
            exact AllJ.nil
          exact AllJ.nil
        exact AllJ.nil
      exact AllJ.nil
    exact AllJ.nil
  refine AllJ.cons (o := { dst := some 8, op := Op.alloc 35, type := 0, pos := "ref.go:125", after := #[], guard := none }) rfl (fun K hK => ?_) ?_
  ·
    go_simp
    have G453 : Hid (A.grownBy (V0.alloc (.cells #[.int .i64 0, .int .i64 0] 35)) none) := gb_own G0.out (gb_none (ba _ _)) (by simp)
    have x455 : Hid (TwoB (V0.alloc (.cells #[.int .i64 0, .int .i64 0] 35)) V0.heap.size (.int .i64 0) (.int .i64 0)) := TwoB.new _ _ _ 35 _ rfl
    refine hK.out _ _ (fun _ => G453.out) ?_
    clear hK K
    try simp only [Act.put, List.setIfInBounds_toArray, List.set_cons_zero, List.set_cons_succ]
    obtain ⟨B454, hB454⟩ : ∃ B454 : Nat, B454 = V0.heap.size := ⟨_, rfl⟩
    obtain ⟨W452, hW452⟩ : ∃ W452, W452 = (V0.alloc (.cells #[.int .i64 0, .int .i64 0] 35)) := ⟨_, rfl⟩
    rw [← hW452, ← hB454] at x455 ⊢
    rw [← hW452] at G453
    have lB454 : A.heap.size ≤ B454 := by rw [hB454]; exact G0.out.size
    clear hW452 hB454
    refine wpAnyJ_ready (rs := [0, 4]) (by kernel_rfl) (by simp) ?_
    refine AllJ.cons (o := { dst := some 79, op := Op.buildSlice 22 0 #[], type := 22, pos := "ref.go:125", after := #[], guard := none }) rfl (fun K hK => ?_) ?_
    ·
      go_simp
      have G457 : Hid (A.grownBy (W452.alloc (.cells #[] 45)) none) := gb_own G453.out (gb_none (ba _ _)) (by simp)
      have nd459 : ∀ x, (Value.slice (some ⟨W452.heap.size, 0, none⟩) 0 0).ownBlock = some x → x ≠ B454 := fun x hx e => by simp only [Value.ownBlock, Option.some.injEq] at hx; have := x455.out.lt; omega
      have T8460 : Hid (TwoB (W452.alloc (.cells #[] 45)) B454 (.int .i64 0) (.int .i64 0)) := x455.out.below (ba _ _)
      have x461 : Hid ((W452.alloc (.cells #[] 45)).ownsRow A.heap.size 45 5 (.slice (some ⟨W452.heap.size, 0, none⟩) 0 0) 0 []) := owns_empty _ 45 5 _ G453.out.size
      refine hK.out _ _ (fun _ => G457.out) ?_
      clear hK K
      try simp only [Act.put, List.setIfInBounds_toArray, List.set_cons_zero, List.set_cons_succ]
      obtain ⟨B458, hB458⟩ : ∃ B458 : Nat, B458 = W452.heap.size := ⟨_, rfl⟩
      obtain ⟨W456, hW456⟩ : ∃ W456, W456 = (W452.alloc (.cells #[] 45)) := ⟨_, rfl⟩
      rw [← hW456, ← hB458] at x461 ⊢
      rw [← hB458] at nd459
      rw [← hW456] at G457 T8460
      have lB458 : A.heap.size ≤ B458 := by rw [hB458]; exact G453.out.size
      clear hW456 hB458
      refine wpAnyJ_ready (rs := [2, 4]) (by kernel_rfl) (by simp) ?_
      refine AllJ.cons (o := { dst := some 81, op := Op.call { callee := Callee.builtin Builtin.append, args := #[Operand.tmp 79, Operand.tmp 80], argTypes := #[22, 22] }, type := 22, pos := "ref.go:125", after := #[{ on := 0, ground := Ground.data }, { on := 1, ground := Ground.data }], guard := none }) rfl (fun K hK => ?_) ?_
      ·
        refine step_app _ rfl _ _ 22 rfl A.heap.size 45 i45 (.agg #[.int .i64 0, .string ⟨#[]⟩, .int .i64 0, .int .i64 0, .int .i64 0]) 5 48 Tryz.underlying22 hi45 hq0 hq1 hq2 rfl (by decide) (some ⟨B458, 0, none⟩) 0 0 [] rfl x461.out a l.length c (enc l) rfl hl1 (HSRC.out W456 G457.out) HONE.out (by unfold maxLen; omega) (by omega) G457.out.size l.length (by omega) ?_
        intro a465 c466 W462 ho467 hg468 ha469
        have G463 : Hid (A.grownBy W462 none) := gb_own G457.out hg468 (fun x hx => (row_lt x461.out hx).1)
        have nd471 : ∀ x, (Value.slice a465 l.length c466).ownBlock = some x → x ≠ B454 := fun x hx e => by
          rcases ha469 with h | h
          · rw [h] at hx; exact nd459 x hx e
          · rw [h] at hx; simp only [Option.some.injEq] at hx; have := T8460.out.lt; omega
        have T8470 : Hid (TwoB W462 B454 (.int .i64 0) (.int .i64 0)) := T8460.out.gb hg468 (fun e => nd459 _ e.symm rfl)
        have R464 : Hid (W462.ownsRow A.heap.size 45 5 (.slice a465 l.length c466) l.length (enc l)) := by rw [Hid]; simpa using ho467
        refine hK.out _ _ (fun _ => G463.out) ?_
        clear hK K
        try simp only [Act.put, List.setIfInBounds_toArray, List.set_cons_zero, List.set_cons_succ]
        clear ho467 hg468 ha469
        refine wpAnyJ_ready (rs := [4]) (by kernel_rfl) (by simp) ?_
        refine AllJ.cons (o := { dst := some 83, op := Op.buildSlice 22 1 #[(0, Operand.tmp 82)], type := 22, pos := "ref.go:125", after := #[{ on := 3, ground := Ground.data }], guard := none }) rfl (fun K hK => ?_) ?_
        ·
          go_simp
          have G473 : Hid (A.grownBy (W462.alloc (.cells #[.int .i64 d, .string nm, .int .i64 p, .int .i64 u, .int .i64 v] 45)) none) := gb_own G463.out (gb_none (ba _ _)) (by simp)
          have nd475 : ∀ x, ((.slice a465 l.length c466) : Value).ownBlock = some x → x ≠ W462.heap.size := fun x hx e => by have := (row_lt R464.out hx).2; omega
          have R476 : Hid ((W462.alloc (.cells #[.int .i64 d, .string nm, .int .i64 p, .int .i64 u, .int .i64 v] 45)).ownsRow A.heap.size 45 5 (.slice a465 l.length c466) l.length (enc l)) := row_gb R464.out (gb_none (ba _ _)) (by simp)
          have T8477 : Hid (TwoB (W462.alloc (.cells #[.int .i64 d, .string nm, .int .i64 p, .int .i64 u, .int .i64 v] 45)) B454 (.int .i64 0) (.int .i64 0)) := T8470.out.below (ba _ _)
          have x478 : Hid (FivB (W462.alloc (.cells #[.int .i64 d, .string nm, .int .i64 p, .int .i64 u, .int .i64 v] 45)) W462.heap.size (.int .i64 d) (.string nm) (.int .i64 p) (.int .i64 u) (.int .i64 v)) := FivB.new _ _ _ _ _ _ 45 _ rfl
          refine hK.out _ _ (fun _ => G473.out) ?_
          clear hK K
          try simp only [Act.put, List.setIfInBounds_toArray, List.set_cons_zero, List.set_cons_succ]
          obtain ⟨B474, hB474⟩ : ∃ B474 : Nat, B474 = W462.heap.size := ⟨_, rfl⟩
          obtain ⟨W472, hW472⟩ : ∃ W472, W472 = (W462.alloc (.cells #[.int .i64 d, .string nm, .int .i64 p, .int .i64 u, .int .i64 v] 45)) := ⟨_, rfl⟩
          rw [← hW472, ← hB474] at x478 ⊢
          rw [← hB474] at nd475
          rw [← hW472] at G473 R476 T8477
          have lB474 : A.heap.size ≤ B474 := by rw [hB474]; exact G463.out.size
          clear hW472 hB474
          refine wpAnyJ_ready (rs := [5]) (by kernel_rfl) (by simp) ?_
          refine AllJ.cons (o := { dst := some 84, op := Op.call { callee := Callee.builtin Builtin.append, args := #[Operand.tmp 81, Operand.tmp 83], argTypes := #[22, 22] }, type := 22, pos := "ref.go:125", after := #[{ on := 2, ground := Ground.data }, { on := 4, ground := Ground.data }, { on := 2, ground := Ground.chain }], guard := none }) rfl (fun K hK => ?_) ?_
          ·
            refine step_app _ rfl _ _ 22 rfl A.heap.size 45 i45 (.agg #[.int .i64 0, .string ⟨#[]⟩, .int .i64 0, .int .i64 0, .int .i64 0]) 5 48 Tryz.underlying22 hi45 hq0 hq1 hq2 rfl (by decide) a465 l.length c466 (enc l) rfl R476.out (some ⟨B474, 0, none⟩) 1 1 [.int .i64 d, .string nm, .int .i64 p, .int .i64 u, .int .i64 v] rfl rfl (fun _ => ⟨_, rfl, five_news x478.out⟩) (by intro z hz; simp at hz; rcases hz with rfl | rfl | rfl | rfl | rfl <;> rfl) (by unfold maxLen; omega) (by omega) G473.out.size (l.length + 1) (by omega) ?_
            intro a482 c483 W479 ho484 hg485 ha486
            have G480 : Hid (A.grownBy W479 none) := gb_own G473.out hg485 (fun x hx => (row_lt R476.out hx).1)
            have nd488 : ∀ x, (Value.slice a482 (l.length + 1) c483).ownBlock = some x → x ≠ B474 := fun x hx e => by
              rcases ha486 with h | h
              · rw [h] at hx; exact nd475 x hx e
              · rw [h] at hx; simp only [Option.some.injEq] at hx; have := x478.out.lt; omega
            have C487 : Hid (FivB W479 B474 (.int .i64 d) (.string nm) (.int .i64 p) (.int .i64 u) (.int .i64 v)) := x478.out.gb hg485 (fun e => nd475 _ e.symm rfl)
            have nd490 : ∀ x, (Value.slice a482 (l.length + 1) c483).ownBlock = some x → x ≠ B454 := fun x hx e => by
              rcases ha486 with h | h
              · rw [h] at hx; exact nd471 x hx e
              · rw [h] at hx; simp only [Option.some.injEq] at hx; have := T8477.out.lt; omega
            have T8489 : Hid (TwoB W479 B454 (.int .i64 0) (.int .i64 0)) := T8477.out.gb hg485 (fun e => nd471 _ e.symm rfl)
            have R481 : Hid (W479.ownsRow A.heap.size 45 5 (.slice a482 (l.length + 1) c483) (l.length + 1) (enc l ++ [.int .i64 d, .string nm, .int .i64 p, .int .i64 u, .int .i64 v])) := ho484
            refine hK.out _ _ (fun _ => G480.out) ?_
            clear hK K
            try simp only [Act.put, List.setIfInBounds_toArray, List.set_cons_zero, List.set_cons_succ]
            clear ho484 hg485 ha486
            refine wpAnyJ_ready (rs := [8]) (by kernel_rfl) (by simp) ?_
            refine AllJ.cons (o := { dst := some 87, op := Op.call { callee := Callee.value (Operand.func 9), args := #[Operand.tmp 84, Operand.tmp 86], argTypes := #[22, 9] }, type := 37, pos := "ref.go:125", after := #[{ on := 5, ground := Ground.data }, { on := 7, ground := Ground.data }, { on := 5, ground := Ground.chain }], guard := none }) rfl (fun K hK => ?_) ?_
            ·
              have kk := kc W479 _ R481.out
              go_simp
              go_at_call 9
              refine kk.mono ?_
              rintro ee W491 ⟨rfl, hb493⟩
              have G492 : Hid (A.grownBy W491 none) := gb_own G480.out (gb_none hb493) (by simp)
              have T494 : Hid (TwoB W491 B454 (.int .i64 0) (.int .i64 0)) := T8489.out.below hb493
              clear kk
              refine hK.out _ _ (fun _ => G492.out) ?_
              clear hK K
              try simp only [Act.put, List.setIfInBounds_toArray, List.set_cons_zero, List.set_cons_succ]
              clear hb493
              refine wpAnyJ_take (i := 9) (oi := { dst := some 78, op := Op.move (Operand.tmp 87), type := 37, pos := "ref.go:125", after := #[{ on := 8, ground := Ground.data }], guard := none }) (v := .tuple #[.agg #[.int .i64 sq.1, .int .i64 sq.2], .int .i64 se]) rfl rfl (waits_of (by kernel_rfl)) (by kernel_rfl) (by kernel_rfl) (by kernel_rfl) (fun _ _ _ h => hQp _ _ _ _ _ h) (Or.inl ⟨by rfl, fun W hS => ?_⟩) G492.out ?_
              · go_simp
              simp only [Act.put, List.setIfInBounds_toArray, List.set_cons_zero, List.set_cons_succ]
              refine wpAnyJ_take (i := 10) (oi := { dst := some 88, op := Op.extract (Operand.tmp 78) 0, type := 35, pos := "ref.go:125", after := #[{ on := 9, ground := Ground.data }], guard := none }) (v := .agg #[.int .i64 sq.1, .int .i64 sq.2]) rfl rfl (waits_of (by kernel_rfl)) (by kernel_rfl) (by kernel_rfl) (by kernel_rfl) (fun _ _ _ h => hQp _ _ _ _ _ h) (Or.inl ⟨by rfl, fun W hS => ?_⟩) G492.out ?_
              · go_simp
              simp only [Act.put, List.setIfInBounds_toArray, List.set_cons_zero, List.set_cons_succ]
              refine wpAnyJ_take (i := 11) (oi := { dst := some 89, op := Op.extract (Operand.tmp 78) 1, type := 36, pos := "ref.go:125", after := #[{ on := 9, ground := Ground.data }, { on := 13, ground := Ground.gcOnly Departure.lateStores }], guard := none }) (v := .int .i64 se) rfl rfl (waits_of (by kernel_rfl)) (by kernel_rfl) (by kernel_rfl) (by kernel_rfl) (fun _ _ _ h => hQp _ _ _ _ _ h) (Or.inl ⟨by rfl, fun W hS => ?_⟩) G492.out ?_
              · go_simp
              simp only [Act.put, List.setIfInBounds_toArray, List.set_cons_zero, List.set_cons_succ]
              refine wpAnyJ_ready (rs := [13]) (by kernel_rfl) (by simp) ?_
              refine AllJ.cons (o := { dst := none, op := Op.store 35 (Operand.tmp 8) (Operand.tmp 88), type := 0, pos := "ref.go:125", after := #[{ on := 12, ground := Ground.data }, { on := 10, ground := Ground.data }, { on := 8, ground := Ground.chain }, { on := 0, ground := Ground.phase }, { on := 1, ground := Ground.phase }, { on := 2, ground := Ground.phase }, { on := 3, ground := Ground.phase }, { on := 4, ground := Ground.phase }, { on := 5, ground := Ground.phase }, { on := 6, ground := Ground.phase }, { on := 7, ground := Ground.phase }, { on := 8, ground := Ground.phase }, { on := 9, ground := Ground.phase }, { on := 10, ground := Ground.phase }, { on := 11, ground := Ground.textOnly Departure.lateStores }, { on := 12, ground := Ground.phase }], guard := none }) rfl (fun K hK => ?_) ?_
              ·
                obtain ⟨z0, z1, zf0, zf1, zl⟩ := T494.out
                go_simp
                have G495 : Hid (A.grownBy ((W491.setCell ⟨B454, 0, none⟩ (.int .i64 sq.1)).setCell ⟨B454, 1, none⟩ (.int .i64 sq.2)) none) := gb_new (gb_new G492.out (p := ⟨B454, 0, none⟩) lB454 _) (p := ⟨B454, 1, none⟩) lB454 _
                have T496 : Hid (TwoB ((W491.setCell ⟨B454, 0, none⟩ (.int .i64 sq.1)).setCell ⟨B454, 1, none⟩ (.int .i64 sq.2)) B454 (.int .i64 sq.1) (.int .i64 sq.2)) := T494.out.put _ _
                clear z0 z1 zf0 zf1 zl
                refine hK.out _ _ (fun _ => G495.out) ?_
                clear hK K
                try simp only [Act.put, List.setIfInBounds_toArray, List.set_cons_zero, List.set_cons_succ]
                refine wpAnyJ_ready (rs := [14]) (by kernel_rfl) (by simp) ?_
                refine AllJ.cons (o := { dst := some 9, op := Op.assign (Operand.tmp 89), type := 36, pos := "ref.go:125", after := #[{ on := 11, ground := Ground.data }, { on := 13, ground := Ground.chain }, { on := 0, ground := Ground.phase }, { on := 1, ground := Ground.phase }, { on := 2, ground := Ground.phase }, { on := 3, ground := Ground.phase }, { on := 4, ground := Ground.phase }, { on := 5, ground := Ground.phase }, { on := 6, ground := Ground.phase }, { on := 7, ground := Ground.phase }, { on := 8, ground := Ground.phase }, { on := 9, ground := Ground.phase }, { on := 10, ground := Ground.phase }, { on := 11, ground := Ground.phase }, { on := 12, ground := Ground.phase }, { on := 13, ground := Ground.phase }], guard := none }) rfl (fun K hK => ?_) ?_
                ·
                  go_simp
                  refine hK.out _ _ (fun _ => G495.out) ?_
                  clear hK K
                  try simp only [Act.put, List.setIfInBounds_toArray, List.set_cons_zero, List.set_cons_succ]
                  refine wpAnyJ_done (by kernel_rfl) ?_ _
                  exact HEND.out _ _ _ _ _ _ _ _ _ _ _ _ _ _ lB454 T496.out G495.out
                exact AllJ.nil
              exact AllJ.nil
            exact AllJ.nil
          exact AllJ.nil
        exact AllJ.nil
      refine AllJ.cons (o := { dst := some 83, op := Op.buildSlice 22 1 #[(0, Operand.tmp 82)], type := 22, pos := "ref.go:125", after := #[{ on := 3, ground := Ground.data }], guard := none }) rfl (fun K hK => ?_) ?_
      ·
        go_simp
        have G498 : Hid (A.grownBy (W456.alloc (.cells #[.int .i64 d, .string nm, .int .i64 p, .int .i64 u, .int .i64 v] 45)) none) := gb_own G457.out (gb_none (ba _ _)) (by simp)
        have nd500 : ∀ x, ((.slice (some ⟨B458, 0, none⟩) 0 0) : Value).ownBlock = some x → x ≠ W456.heap.size := fun x hx e => by have := (row_lt x461.out hx).2; omega
        have R501 : Hid ((W456.alloc (.cells #[.int .i64 d, .string nm, .int .i64 p, .int .i64 u, .int .i64 v] 45)).ownsRow A.heap.size 45 5 (.slice (some ⟨B458, 0, none⟩) 0 0) 0 []) := row_gb x461.out (gb_none (ba _ _)) (by simp)
        have T8502 : Hid (TwoB (W456.alloc (.cells #[.int .i64 d, .string nm, .int .i64 p, .int .i64 u, .int .i64 v] 45)) B454 (.int .i64 0) (.int .i64 0)) := T8460.out.below (ba _ _)
        have x503 : Hid (FivB (W456.alloc (.cells #[.int .i64 d, .string nm, .int .i64 p, .int .i64 u, .int .i64 v] 45)) W456.heap.size (.int .i64 d) (.string nm) (.int .i64 p) (.int .i64 u) (.int .i64 v)) := FivB.new _ _ _ _ _ _ 45 _ rfl
        refine hK.out _ _ (fun _ => G498.out) ?_
        clear hK K
        try simp only [Act.put, List.setIfInBounds_toArray, List.set_cons_zero, List.set_cons_succ]
        obtain ⟨B499, hB499⟩ : ∃ B499 : Nat, B499 = W456.heap.size := ⟨_, rfl⟩
        obtain ⟨W497, hW497⟩ : ∃ W497, W497 = (W456.alloc (.cells #[.int .i64 d, .string nm, .int .i64 p, .int .i64 u, .int .i64 v] 45)) := ⟨_, rfl⟩
        rw [← hW497, ← hB499] at x503 ⊢
        rw [← hB499] at nd500
        rw [← hW497] at G498 R501 T8502
        have lB499 : A.heap.size ≤ B499 := by rw [hB499]; exact G457.out.size
        clear hW497 hB499
        refine wpAnyJ_ready (rs := [2]) (by kernel_rfl) (by simp) ?_
        refine AllJ.cons (o := { dst := some 81, op := Op.call { callee := Callee.builtin Builtin.append, args := #[Operand.tmp 79, Operand.tmp 80], argTypes := #[22, 22] }, type := 22, pos := "ref.go:125", after := #[{ on := 0, ground := Ground.data }, { on := 1, ground := Ground.data }], guard := none }) rfl (fun K hK => ?_) ?_
        ·
          refine step_app _ rfl _ _ 22 rfl A.heap.size 45 i45 (.agg #[.int .i64 0, .string ⟨#[]⟩, .int .i64 0, .int .i64 0, .int .i64 0]) 5 48 Tryz.underlying22 hi45 hq0 hq1 hq2 rfl (by decide) (some ⟨B458, 0, none⟩) 0 0 [] rfl R501.out a l.length c (enc l) rfl hl1 (HSRC.out W497 G498.out) HONE.out (by unfold maxLen; omega) (by omega) G498.out.size l.length (by omega) ?_
          intro a507 c508 W504 ho509 hg510 ha511
          have G505 : Hid (A.grownBy W504 none) := gb_own G498.out hg510 (fun x hx => (row_lt R501.out hx).1)
          have nd513 : ∀ x, (Value.slice a507 l.length c508).ownBlock = some x → x ≠ B499 := fun x hx e => by
            rcases ha511 with h | h
            · rw [h] at hx; exact nd500 x hx e
            · rw [h] at hx; simp only [Option.some.injEq] at hx; have := x503.out.lt; omega
          have C512 : Hid (FivB W504 B499 (.int .i64 d) (.string nm) (.int .i64 p) (.int .i64 u) (.int .i64 v)) := x503.out.gb hg510 (fun e => nd500 _ e.symm rfl)
          have nd515 : ∀ x, (Value.slice a507 l.length c508).ownBlock = some x → x ≠ B454 := fun x hx e => by
            rcases ha511 with h | h
            · rw [h] at hx; exact nd459 x hx e
            · rw [h] at hx; simp only [Option.some.injEq] at hx; have := T8502.out.lt; omega
          have T8514 : Hid (TwoB W504 B454 (.int .i64 0) (.int .i64 0)) := T8502.out.gb hg510 (fun e => nd459 _ e.symm rfl)
          have R506 : Hid (W504.ownsRow A.heap.size 45 5 (.slice a507 l.length c508) l.length (enc l)) := by rw [Hid]; simpa using ho509
          refine hK.out _ _ (fun _ => G505.out) ?_
          clear hK K
          try simp only [Act.put, List.setIfInBounds_toArray, List.set_cons_zero, List.set_cons_succ]
          clear ho509 hg510 ha511
          refine wpAnyJ_ready (rs := [5]) (by kernel_rfl) (by simp) ?_
          refine AllJ.cons (o := { dst := some 84, op := Op.call { callee := Callee.builtin Builtin.append, args := #[Operand.tmp 81, Operand.tmp 83], argTypes := #[22, 22] }, type := 22, pos := "ref.go:125", after := #[{ on := 2, ground := Ground.data }, { on := 4, ground := Ground.data }, { on := 2, ground := Ground.chain }], guard := none }) rfl (fun K hK => ?_) ?_
          ·
            refine step_app _ rfl _ _ 22 rfl A.heap.size 45 i45 (.agg #[.int .i64 0, .string ⟨#[]⟩, .int .i64 0, .int .i64 0, .int .i64 0]) 5 48 Tryz.underlying22 hi45 hq0 hq1 hq2 rfl (by decide) a507 l.length c508 (enc l) rfl R506.out (some ⟨B499, 0, none⟩) 1 1 [.int .i64 d, .string nm, .int .i64 p, .int .i64 u, .int .i64 v] rfl rfl (fun _ => ⟨_, rfl, five_news C512.out⟩) (by intro z hz; simp at hz; rcases hz with rfl | rfl | rfl | rfl | rfl <;> rfl) (by unfold maxLen; omega) (by omega) G505.out.size (l.length + 1) (by omega) ?_
            intro a519 c520 W516 ho521 hg522 ha523
            have G517 : Hid (A.grownBy W516 none) := gb_own G505.out hg522 (fun x hx => (row_lt R506.out hx).1)
            have nd525 : ∀ x, (Value.slice a519 (l.length + 1) c520).ownBlock = some x → x ≠ B499 := fun x hx e => by
              rcases ha523 with h | h
              · rw [h] at hx; exact nd513 x hx e
              · rw [h] at hx; simp only [Option.some.injEq] at hx; have := C512.out.lt; omega
            have C524 : Hid (FivB W516 B499 (.int .i64 d) (.string nm) (.int .i64 p) (.int .i64 u) (.int .i64 v)) := C512.out.gb hg522 (fun e => nd513 _ e.symm rfl)
            have nd527 : ∀ x, (Value.slice a519 (l.length + 1) c520).ownBlock = some x → x ≠ B454 := fun x hx e => by
              rcases ha523 with h | h
              · rw [h] at hx; exact nd515 x hx e
              · rw [h] at hx; simp only [Option.some.injEq] at hx; have := T8514.out.lt; omega
            have T8526 : Hid (TwoB W516 B454 (.int .i64 0) (.int .i64 0)) := T8514.out.gb hg522 (fun e => nd515 _ e.symm rfl)
            have R518 : Hid (W516.ownsRow A.heap.size 45 5 (.slice a519 (l.length + 1) c520) (l.length + 1) (enc l ++ [.int .i64 d, .string nm, .int .i64 p, .int .i64 u, .int .i64 v])) := ho521
            refine hK.out _ _ (fun _ => G517.out) ?_
            clear hK K
            try simp only [Act.put, List.setIfInBounds_toArray, List.set_cons_zero, List.set_cons_succ]
            clear ho521 hg522 ha523
            refine wpAnyJ_ready (rs := [8]) (by kernel_rfl) (by simp) ?_
            refine AllJ.cons (o := { dst := some 87, op := Op.call { callee := Callee.value (Operand.func 9), args := #[Operand.tmp 84, Operand.tmp 86], argTypes := #[22, 9] }, type := 37, pos := "ref.go:125", after := #[{ on := 5, ground := Ground.data }, { on := 7, ground := Ground.data }, { on := 5, ground := Ground.chain }], guard := none }) rfl (fun K hK => ?_) ?_
            ·
              have kk := kc W516 _ R518.out
              go_simp
              go_at_call 9
              refine kk.mono ?_
              rintro ee W528 ⟨rfl, hb530⟩
              have G529 : Hid (A.grownBy W528 none) := gb_own G517.out (gb_none hb530) (by simp)
              have T531 : Hid (TwoB W528 B454 (.int .i64 0) (.int .i64 0)) := T8526.out.below hb530
              clear kk
              refine hK.out _ _ (fun _ => G529.out) ?_
              clear hK K
              try simp only [Act.put, List.setIfInBounds_toArray, List.set_cons_zero, List.set_cons_succ]
              clear hb530
              refine wpAnyJ_take (i := 9) (oi := { dst := some 78, op := Op.move (Operand.tmp 87), type := 37, pos := "ref.go:125", after := #[{ on := 8, ground := Ground.data }], guard := none }) (v := .tuple #[.agg #[.int .i64 sq.1, .int .i64 sq.2], .int .i64 se]) rfl rfl (waits_of (by kernel_rfl)) (by kernel_rfl) (by kernel_rfl) (by kernel_rfl) (fun _ _ _ h => hQp _ _ _ _ _ h) (Or.inl ⟨by rfl, fun W hS => ?_⟩) G529.out ?_
              · go_simp
              simp only [Act.put, List.setIfInBounds_toArray, List.set_cons_zero, List.set_cons_succ]
              refine wpAnyJ_take (i := 10) (oi := { dst := some 88, op := Op.extract (Operand.tmp 78) 0, type := 35, pos := "ref.go:125", after := #[{ on := 9, ground := Ground.data }], guard := none }) (v := .agg #[.int .i64 sq.1, .int .i64 sq.2]) rfl rfl (waits_of (by kernel_rfl)) (by kernel_rfl) (by kernel_rfl) (by kernel_rfl) (fun _ _ _ h => hQp _ _ _ _ _ h) (Or.inl ⟨by rfl, fun W hS => ?_⟩) G529.out ?_
              · go_simp
              simp only [Act.put, List.setIfInBounds_toArray, List.set_cons_zero, List.set_cons_succ]
              refine wpAnyJ_take (i := 11) (oi := { dst := some 89, op := Op.extract (Operand.tmp 78) 1, type := 36, pos := "ref.go:125", after := #[{ on := 9, ground := Ground.data }, { on := 13, ground := Ground.gcOnly Departure.lateStores }], guard := none }) (v := .int .i64 se) rfl rfl (waits_of (by kernel_rfl)) (by kernel_rfl) (by kernel_rfl) (by kernel_rfl) (fun _ _ _ h => hQp _ _ _ _ _ h) (Or.inl ⟨by rfl, fun W hS => ?_⟩) G529.out ?_
              · go_simp
              simp only [Act.put, List.setIfInBounds_toArray, List.set_cons_zero, List.set_cons_succ]
              refine wpAnyJ_ready (rs := [13]) (by kernel_rfl) (by simp) ?_
              refine AllJ.cons (o := { dst := none, op := Op.store 35 (Operand.tmp 8) (Operand.tmp 88), type := 0, pos := "ref.go:125", after := #[{ on := 12, ground := Ground.data }, { on := 10, ground := Ground.data }, { on := 8, ground := Ground.chain }, { on := 0, ground := Ground.phase }, { on := 1, ground := Ground.phase }, { on := 2, ground := Ground.phase }, { on := 3, ground := Ground.phase }, { on := 4, ground := Ground.phase }, { on := 5, ground := Ground.phase }, { on := 6, ground := Ground.phase }, { on := 7, ground := Ground.phase }, { on := 8, ground := Ground.phase }, { on := 9, ground := Ground.phase }, { on := 10, ground := Ground.phase }, { on := 11, ground := Ground.textOnly Departure.lateStores }, { on := 12, ground := Ground.phase }], guard := none }) rfl (fun K hK => ?_) ?_
              ·
                obtain ⟨z0, z1, zf0, zf1, zl⟩ := T531.out
                go_simp
                have G532 : Hid (A.grownBy ((W528.setCell ⟨B454, 0, none⟩ (.int .i64 sq.1)).setCell ⟨B454, 1, none⟩ (.int .i64 sq.2)) none) := gb_new (gb_new G529.out (p := ⟨B454, 0, none⟩) lB454 _) (p := ⟨B454, 1, none⟩) lB454 _
                have T533 : Hid (TwoB ((W528.setCell ⟨B454, 0, none⟩ (.int .i64 sq.1)).setCell ⟨B454, 1, none⟩ (.int .i64 sq.2)) B454 (.int .i64 sq.1) (.int .i64 sq.2)) := T531.out.put _ _
                clear z0 z1 zf0 zf1 zl
                refine hK.out _ _ (fun _ => G532.out) ?_
                clear hK K
                try simp only [Act.put, List.setIfInBounds_toArray, List.set_cons_zero, List.set_cons_succ]
                refine wpAnyJ_ready (rs := [14]) (by kernel_rfl) (by simp) ?_
                refine AllJ.cons (o := { dst := some 9, op := Op.assign (Operand.tmp 89), type := 36, pos := "ref.go:125", after := #[{ on := 11, ground := Ground.data }, { on := 13, ground := Ground.chain }, { on := 0, ground := Ground.phase }, { on := 1, ground := Ground.phase }, { on := 2, ground := Ground.phase }, { on := 3, ground := Ground.phase }, { on := 4, ground := Ground.phase }, { on := 5, ground := Ground.phase }, { on := 6, ground := Ground.phase }, { on := 7, ground := Ground.phase }, { on := 8, ground := Ground.phase }, { on := 9, ground := Ground.phase }, { on := 10, ground := Ground.phase }, { on := 11, ground := Ground.phase }, { on := 12, ground := Ground.phase }, { on := 13, ground := Ground.phase }], guard := none }) rfl (fun K hK => ?_) ?_
                ·
                  go_simp
                  refine hK.out _ _ (fun _ => G532.out) ?_
                  clear hK K
                  try simp only [Act.put, List.setIfInBounds_toArray, List.set_cons_zero, List.set_cons_succ]
                  refine wpAnyJ_done (by kernel_rfl) ?_ _
                  exact HEND.out _ _ _ _ _ _ _ _ _ _ _ _ _ _ lB454 T533.out G532.out
                exact AllJ.nil
              exact AllJ.nil
            exact AllJ.nil
          exact AllJ.nil
        exact AllJ.nil
      exact AllJ.nil
    refine AllJ.cons (o := { dst := some 83, op := Op.buildSlice 22 1 #[(0, Operand.tmp 82)], type := 22, pos := "ref.go:125", after := #[{ on := 3, ground := Ground.data }], guard := none }) rfl (fun K hK => ?_) ?_
    ·
      go_simp
      have G535 : Hid (A.grownBy (W452.alloc (.cells #[.int .i64 d, .string nm, .int .i64 p, .int .i64 u, .int .i64 v] 45)) none) := gb_own G453.out (gb_none (ba _ _)) (by simp)
      have T8537 : Hid (TwoB (W452.alloc (.cells #[.int .i64 d, .string nm, .int .i64 p, .int .i64 u, .int .i64 v] 45)) B454 (.int .i64 0) (.int .i64 0)) := x455.out.below (ba _ _)
      have x538 : Hid (FivB (W452.alloc (.cells #[.int .i64 d, .string nm, .int .i64 p, .int .i64 u, .int .i64 v] 45)) W452.heap.size (.int .i64 d) (.string nm) (.int .i64 p) (.int .i64 u) (.int .i64 v)) := FivB.new _ _ _ _ _ _ 45 _ rfl
      refine hK.out _ _ (fun _ => G535.out) ?_
      clear hK K
      try simp only [Act.put, List.setIfInBounds_toArray, List.set_cons_zero, List.set_cons_succ]
      obtain ⟨B536, hB536⟩ : ∃ B536 : Nat, B536 = W452.heap.size := ⟨_, rfl⟩
      obtain ⟨W534, hW534⟩ : ∃ W534, W534 = (W452.alloc (.cells #[.int .i64 d, .string nm, .int .i64 p, .int .i64 u, .int .i64 v] 45)) := ⟨_, rfl⟩
      rw [← hW534, ← hB536] at x538 ⊢
      rw [← hW534] at G535 T8537
      have lB536 : A.heap.size ≤ B536 := by rw [hB536]; exact G453.out.size
      clear hW534 hB536
      refine wpAnyJ_ready (rs := [0]) (by kernel_rfl) (by simp) ?_
      refine AllJ.cons (o := { dst := some 79, op := Op.buildSlice 22 0 #[], type := 22, pos := "ref.go:125", after := #[], guard := none }) rfl (fun K hK => ?_) ?_
      ·
        go_simp
        have G540 : Hid (A.grownBy (W534.alloc (.cells #[] 45)) none) := gb_own G535.out (gb_none (ba _ _)) (by simp)
        have nd542 : ∀ x, (Value.slice (some ⟨W534.heap.size, 0, none⟩) 0 0).ownBlock = some x → x ≠ B536 := fun x hx e => by simp only [Value.ownBlock, Option.some.injEq] at hx; have := x538.out.lt; omega
        have nd543 : ∀ x, (Value.slice (some ⟨W534.heap.size, 0, none⟩) 0 0).ownBlock = some x → x ≠ B454 := fun x hx e => by simp only [Value.ownBlock, Option.some.injEq] at hx; have := T8537.out.lt; omega
        have C544 : Hid (FivB (W534.alloc (.cells #[] 45)) B536 (.int .i64 d) (.string nm) (.int .i64 p) (.int .i64 u) (.int .i64 v)) := x538.out.below (ba _ _)
        have T8545 : Hid (TwoB (W534.alloc (.cells #[] 45)) B454 (.int .i64 0) (.int .i64 0)) := T8537.out.below (ba _ _)
        have x546 : Hid ((W534.alloc (.cells #[] 45)).ownsRow A.heap.size 45 5 (.slice (some ⟨W534.heap.size, 0, none⟩) 0 0) 0 []) := owns_empty _ 45 5 _ G535.out.size
        refine hK.out _ _ (fun _ => G540.out) ?_
        clear hK K
        try simp only [Act.put, List.setIfInBounds_toArray, List.set_cons_zero, List.set_cons_succ]
        obtain ⟨B541, hB541⟩ : ∃ B541 : Nat, B541 = W534.heap.size := ⟨_, rfl⟩
        obtain ⟨W539, hW539⟩ : ∃ W539, W539 = (W534.alloc (.cells #[] 45)) := ⟨_, rfl⟩
        rw [← hW539, ← hB541] at x546 ⊢
        rw [← hB541] at nd542 nd543
        rw [← hW539] at G540 C544 T8545
        have lB541 : A.heap.size ≤ B541 := by rw [hB541]; exact G535.out.size
        clear hW539 hB541
        refine wpAnyJ_ready (rs := [2]) (by kernel_rfl) (by simp) ?_
        refine AllJ.cons (o := { dst := some 81, op := Op.call { callee := Callee.builtin Builtin.append, args := #[Operand.tmp 79, Operand.tmp 80], argTypes := #[22, 22] }, type := 22, pos := "ref.go:125", after := #[{ on := 0, ground := Ground.data }, { on := 1, ground := Ground.data }], guard := none }) rfl (fun K hK => ?_) ?_
        ·
          refine step_app _ rfl _ _ 22 rfl A.heap.size 45 i45 (.agg #[.int .i64 0, .string ⟨#[]⟩, .int .i64 0, .int .i64 0, .int .i64 0]) 5 48 Tryz.underlying22 hi45 hq0 hq1 hq2 rfl (by decide) (some ⟨B541, 0, none⟩) 0 0 [] rfl x546.out a l.length c (enc l) rfl hl1 (HSRC.out W539 G540.out) HONE.out (by unfold maxLen; omega) (by omega) G540.out.size l.length (by omega) ?_
          intro a550 c551 W547 ho552 hg553 ha554
          have G548 : Hid (A.grownBy W547 none) := gb_own G540.out hg553 (fun x hx => (row_lt x546.out hx).1)
          have nd556 : ∀ x, (Value.slice a550 l.length c551).ownBlock = some x → x ≠ B536 := fun x hx e => by
            rcases ha554 with h | h
            · rw [h] at hx; exact nd542 x hx e
            · rw [h] at hx; simp only [Option.some.injEq] at hx; have := C544.out.lt; omega
          have C555 : Hid (FivB W547 B536 (.int .i64 d) (.string nm) (.int .i64 p) (.int .i64 u) (.int .i64 v)) := C544.out.gb hg553 (fun e => nd542 _ e.symm rfl)
          have nd558 : ∀ x, (Value.slice a550 l.length c551).ownBlock = some x → x ≠ B454 := fun x hx e => by
            rcases ha554 with h | h
            · rw [h] at hx; exact nd543 x hx e
            · rw [h] at hx; simp only [Option.some.injEq] at hx; have := T8545.out.lt; omega
          have T8557 : Hid (TwoB W547 B454 (.int .i64 0) (.int .i64 0)) := T8545.out.gb hg553 (fun e => nd543 _ e.symm rfl)
          have R549 : Hid (W547.ownsRow A.heap.size 45 5 (.slice a550 l.length c551) l.length (enc l)) := by rw [Hid]; simpa using ho552
          refine hK.out _ _ (fun _ => G548.out) ?_
          clear hK K
          try simp only [Act.put, List.setIfInBounds_toArray, List.set_cons_zero, List.set_cons_succ]
          clear ho552 hg553 ha554
          refine wpAnyJ_ready (rs := [5]) (by kernel_rfl) (by simp) ?_
          refine AllJ.cons (o := { dst := some 84, op := Op.call { callee := Callee.builtin Builtin.append, args := #[Operand.tmp 81, Operand.tmp 83], argTypes := #[22, 22] }, type := 22, pos := "ref.go:125", after := #[{ on := 2, ground := Ground.data }, { on := 4, ground := Ground.data }, { on := 2, ground := Ground.chain }], guard := none }) rfl (fun K hK => ?_) ?_
          ·
            refine step_app _ rfl _ _ 22 rfl A.heap.size 45 i45 (.agg #[.int .i64 0, .string ⟨#[]⟩, .int .i64 0, .int .i64 0, .int .i64 0]) 5 48 Tryz.underlying22 hi45 hq0 hq1 hq2 rfl (by decide) a550 l.length c551 (enc l) rfl R549.out (some ⟨B536, 0, none⟩) 1 1 [.int .i64 d, .string nm, .int .i64 p, .int .i64 u, .int .i64 v] rfl rfl (fun _ => ⟨_, rfl, five_news C555.out⟩) (by intro z hz; simp at hz; rcases hz with rfl | rfl | rfl | rfl | rfl <;> rfl) (by unfold maxLen; omega) (by omega) G548.out.size (l.length + 1) (by omega) ?_
            intro a562 c563 W559 ho564 hg565 ha566
            have G560 : Hid (A.grownBy W559 none) := gb_own G548.out hg565 (fun x hx => (row_lt R549.out hx).1)
            have nd568 : ∀ x, (Value.slice a562 (l.length + 1) c563).ownBlock = some x → x ≠ B536 := fun x hx e => by
              rcases ha566 with h | h
              · rw [h] at hx; exact nd556 x hx e
              · rw [h] at hx; simp only [Option.some.injEq] at hx; have := C555.out.lt; omega
            have C567 : Hid (FivB W559 B536 (.int .i64 d) (.string nm) (.int .i64 p) (.int .i64 u) (.int .i64 v)) := C555.out.gb hg565 (fun e => nd556 _ e.symm rfl)
            have nd570 : ∀ x, (Value.slice a562 (l.length + 1) c563).ownBlock = some x → x ≠ B454 := fun x hx e => by
              rcases ha566 with h | h
              · rw [h] at hx; exact nd558 x hx e
              · rw [h] at hx; simp only [Option.some.injEq] at hx; have := T8557.out.lt; omega
            have T8569 : Hid (TwoB W559 B454 (.int .i64 0) (.int .i64 0)) := T8557.out.gb hg565 (fun e => nd558 _ e.symm rfl)
            have R561 : Hid (W559.ownsRow A.heap.size 45 5 (.slice a562 (l.length + 1) c563) (l.length + 1) (enc l ++ [.int .i64 d, .string nm, .int .i64 p, .int .i64 u, .int .i64 v])) := ho564
            refine hK.out _ _ (fun _ => G560.out) ?_
            clear hK K
            try simp only [Act.put, List.setIfInBounds_toArray, List.set_cons_zero, List.set_cons_succ]
            clear ho564 hg565 ha566
            refine wpAnyJ_ready (rs := [8]) (by kernel_rfl) (by simp) ?_
            refine AllJ.cons (o := { dst := some 87, op := Op.call { callee := Callee.value (Operand.func 9), args := #[Operand.tmp 84, Operand.tmp 86], argTypes := #[22, 9] }, type := 37, pos := "ref.go:125", after := #[{ on := 5, ground := Ground.data }, { on := 7, ground := Ground.data }, { on := 5, ground := Ground.chain }], guard := none }) rfl (fun K hK => ?_) ?_
            ·
              have kk := kc W559 _ R561.out
              go_simp
              go_at_call 9
              refine kk.mono ?_
              rintro ee W571 ⟨rfl, hb573⟩
              have G572 : Hid (A.grownBy W571 none) := gb_own G560.out (gb_none hb573) (by simp)
              have T574 : Hid (TwoB W571 B454 (.int .i64 0) (.int .i64 0)) := T8569.out.below hb573
              clear kk
              refine hK.out _ _ (fun _ => G572.out) ?_
              clear hK K
              try simp only [Act.put, List.setIfInBounds_toArray, List.set_cons_zero, List.set_cons_succ]
              clear hb573
              refine wpAnyJ_take (i := 9) (oi := { dst := some 78, op := Op.move (Operand.tmp 87), type := 37, pos := "ref.go:125", after := #[{ on := 8, ground := Ground.data }], guard := none }) (v := .tuple #[.agg #[.int .i64 sq.1, .int .i64 sq.2], .int .i64 se]) rfl rfl (waits_of (by kernel_rfl)) (by kernel_rfl) (by kernel_rfl) (by kernel_rfl) (fun _ _ _ h => hQp _ _ _ _ _ h) (Or.inl ⟨by rfl, fun W hS => ?_⟩) G572.out ?_
              · go_simp
              simp only [Act.put, List.setIfInBounds_toArray, List.set_cons_zero, List.set_cons_succ]
              refine wpAnyJ_take (i := 10) (oi := { dst := some 88, op := Op.extract (Operand.tmp 78) 0, type := 35, pos := "ref.go:125", after := #[{ on := 9, ground := Ground.data }], guard := none }) (v := .agg #[.int .i64 sq.1, .int .i64 sq.2]) rfl rfl (waits_of (by kernel_rfl)) (by kernel_rfl) (by kernel_rfl) (by kernel_rfl) (fun _ _ _ h => hQp _ _ _ _ _ h) (Or.inl ⟨by rfl, fun W hS => ?_⟩) G572.out ?_
              · go_simp
              simp only [Act.put, List.setIfInBounds_toArray, List.set_cons_zero, List.set_cons_succ]
              refine wpAnyJ_take (i := 11) (oi := { dst := some 89, op := Op.extract (Operand.tmp 78) 1, type := 36, pos := "ref.go:125", after := #[{ on := 9, ground := Ground.data }, { on := 13, ground := Ground.gcOnly Departure.lateStores }], guard := none }) (v := .int .i64 se) rfl rfl (waits_of (by kernel_rfl)) (by kernel_rfl) (by kernel_rfl) (by kernel_rfl) (fun _ _ _ h => hQp _ _ _ _ _ h) (Or.inl ⟨by rfl, fun W hS => ?_⟩) G572.out ?_
              · go_simp
              simp only [Act.put, List.setIfInBounds_toArray, List.set_cons_zero, List.set_cons_succ]
              refine wpAnyJ_ready (rs := [13]) (by kernel_rfl) (by simp) ?_
              refine AllJ.cons (o := { dst := none, op := Op.store 35 (Operand.tmp 8) (Operand.tmp 88), type := 0, pos := "ref.go:125", after := #[{ on := 12, ground := Ground.data }, { on := 10, ground := Ground.data }, { on := 8, ground := Ground.chain }, { on := 0, ground := Ground.phase }, { on := 1, ground := Ground.phase }, { on := 2, ground := Ground.phase }, { on := 3, ground := Ground.phase }, { on := 4, ground := Ground.phase }, { on := 5, ground := Ground.phase }, { on := 6, ground := Ground.phase }, { on := 7, ground := Ground.phase }, { on := 8, ground := Ground.phase }, { on := 9, ground := Ground.phase }, { on := 10, ground := Ground.phase }, { on := 11, ground := Ground.textOnly Departure.lateStores }, { on := 12, ground := Ground.phase }], guard := none }) rfl (fun K hK => ?_) ?_
              ·
                obtain ⟨z0, z1, zf0, zf1, zl⟩ := T574.out
                go_simp
                have G575 : Hid (A.grownBy ((W571.setCell ⟨B454, 0, none⟩ (.int .i64 sq.1)).setCell ⟨B454, 1, none⟩ (.int .i64 sq.2)) none) := gb_new (gb_new G572.out (p := ⟨B454, 0, none⟩) lB454 _) (p := ⟨B454, 1, none⟩) lB454 _
                have T576 : Hid (TwoB ((W571.setCell ⟨B454, 0, none⟩ (.int .i64 sq.1)).setCell ⟨B454, 1, none⟩ (.int .i64 sq.2)) B454 (.int .i64 sq.1) (.int .i64 sq.2)) := T574.out.put _ _
                clear z0 z1 zf0 zf1 zl
                refine hK.out _ _ (fun _ => G575.out) ?_
                clear hK K
                try simp only [Act.put, List.setIfInBounds_toArray, List.set_cons_zero, List.set_cons_succ]
                refine wpAnyJ_ready (rs := [14]) (by kernel_rfl) (by simp) ?_
                refine AllJ.cons (o := { dst := some 9, op := Op.assign (Operand.tmp 89), type := 36, pos := "ref.go:125", after := #[{ on := 11, ground := Ground.data }, { on := 13, ground := Ground.chain }, { on := 0, ground := Ground.phase }, { on := 1, ground := Ground.phase }, { on := 2, ground := Ground.phase }, { on := 3, ground := Ground.phase }, { on := 4, ground := Ground.phase }, { on := 5, ground := Ground.phase }, { on := 6, ground := Ground.phase }, { on := 7, ground := Ground.phase }, { on := 8, ground := Ground.phase }, { on := 9, ground := Ground.phase }, { on := 10, ground := Ground.phase }, { on := 11, ground := Ground.phase }, { on := 12, ground := Ground.phase }, { on := 13, ground := Ground.phase }], guard := none }) rfl (fun K hK => ?_) ?_
                ·
                  go_simp
                  refine hK.out _ _ (fun _ => G575.out) ?_
                  clear hK K
                  try simp only [Act.put, List.setIfInBounds_toArray, List.set_cons_zero, List.set_cons_succ]
                  refine wpAnyJ_done (by kernel_rfl) ?_ _
                  exact HEND.out _ _ _ _ _ _ _ _ _ _ _ _ _ _ lB454 T576.out G575.out
                exact AllJ.nil
              exact AllJ.nil
            exact AllJ.nil
          exact AllJ.nil
        exact AllJ.nil
      exact AllJ.nil
    exact AllJ.nil
  exact AllJ.nil
end Go.Proofs.YtfibbjngllelbaaGreat

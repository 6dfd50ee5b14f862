import Derived.Test.YtfibbjngllelbaaGreatRdo
import Derived.Test.YtfibbjngllelbaaGreatPbr
namespace Go.Proofs.YtfibbjngllelbaaGreat
open Go.RowKit Go.Shelf Go.Proofs.YtfibbjngllelbaaGreat.Ds

theorem five_news {W : World} {b : Nat} {x y z s t : Value} (h : FivB W b x y z s t) : ∀ j u, [x, y, z, s, t][j]? = some u → W.cell? ((⟨b, 0, none⟩ : Addr).add j) = some u := by
  intro j u hj
  rw [Addr.add_lit, Nat.zero_add]
  have hj2 : j < 5 := by have := (List.getElem?_eq_some_iff.1 hj).1; simpa using this
  rcases (by omega : j = 0 ∨ j = 1 ∨ j = 2 ∨ j = 3 ∨ j = 4) with rfl | rfl | rfl | rfl | rfl <;> (simp at hj; subst hj)
  · exact h.c0
  · exact h.c1
  · exact h.c2
  · exact h.c3
  · exact h.c4
theorem gb_cell0 {A W : World} {eb : Nat} {x y z s t : Value} (h : FivB A eb x y z s t) (g : A.grownBy W none) : FivB W eb x y z s t := h.gb g (by simp)

set_option maxRecDepth 100000 in
set_option maxHeartbeats 8000000 in
theorem region21 {Q : Exit → Act → World → Prop} (hQp : ∀ c a d v w, Q (.panic c) (Act.put a d v) w → Q (.panic c) a w) (t1 t2 t4 t5 t6 t7 t8 t9 t10 t11 t12 t13 t14 t15 t16 t17 t18 t19 t20 t21 t22 t23 t24 t25 t26 t27 t28 t29 t30 t31 t32 t33 t34 t35 t36 t37 t38 t39 t40 t41 t42 t43 t44 t45 t46 t47 t48 t49 t50 t51 t52 t53 t54 t55 t56 t57 t58 t59 t60 t61 t62 t63 t64 t65 t66 t67 t68 t69 t70 t71 t72 t73 t74 t75 t76 t77 t78 t79 t80 t81 t82 t83 t84 t85 t86 t87 t88 t89 t90 t91 t92 t93 t94 t95 t96 : Value) (A : World) (B eb c : Nat) (a : Option Addr) (l : List En) (d : Int) (nm : ByteArray) (p u v : Int)
    (hsm : l.length < 4096) (hB : B ≤ A.heap.size) (hx : Ents A B (.slice a l.length c) l) (hnm : nm.size ≤ 9223372036854775807) (hV : FivB A eb (.int .i64 d) (.string nm) (.int .i64 p) (.int .i64 u) (.int .i64 v))
    (hEnd : ∀ (u66 u67 u68 u69 u70 u71 u72 u73 u74 : Value) (pa : Option Addr) (pc : Nat) (Wf : World), A.grownBy Wf none → Q .normal { tmps := #[.slice a l.length c, t1, t2, .pointer (some ⟨eb, 0, none⟩), t4, t5, t6, .slice pa (parT (l ++ [(d, nm, p, u, v)]) nm).length pc, t8, t9, t10, t11, t12, t13, t14, t15, t16, t17, t18, t19, t20, t21, t22, t23, t24, t25, t26, t27, t28, t29, t30, t31, t32, t33, t34, t35, t36, t37, t38, t39, t40, t41, t42, t43, t44, t45, t46, t47, t48, t49, t50, t51, t52, t53, t54, t55, t56, t57, t58, t59, t60, t61, t62, t63, t64, t65, u66, u67, u68, u69, u70, u71, u72, u73, u74, t75, t76, t77, t78, t79, t80, t81, t82, t83, t84, t85, t86, t87, t88, t89, t90, t91, t92, t93, t94, t95, t96], defers := [] } Wf) :
    (Code.region 21 #[{ dst := some 66, op := Op.buildSlice 22 0 #[], type := 22, pos := "ref.go:120", after := #[], guard := none }, { dst := some 67, op := Op.move (Operand.tmp 0), type := 22, pos := "ref.go:120", after := #[], guard := none }, { dst := some 68, op := Op.call { callee := Callee.builtin Builtin.append, args := #[Operand.tmp 66, Operand.tmp 67], argTypes := #[22, 22] }, type := 22, pos := "ref.go:120", after := #[{ on := 0, ground := Ground.data }, { on := 1, ground := Ground.data }], guard := none }, { dst := some 69, op := Op.load 45 (Operand.tmp 3), type := 45, pos := "ref.go:120", after := #[], guard := none }, { dst := some 70, op := Op.buildSlice 22 1 #[(0, Operand.tmp 69)], type := 22, pos := "ref.go:120", after := #[{ on := 3, ground := Ground.data }], guard := none }, { dst := some 71, op := Op.call { callee := Callee.builtin Builtin.append, args := #[Operand.tmp 68, Operand.tmp 70], argTypes := #[22, 22] }, type := 22, pos := "ref.go:120", after := #[{ on := 2, ground := Ground.data }, { on := 4, ground := Ground.data }, { on := 2, ground := Ground.chain }], guard := none }, { dst := some 72, op := Op.fieldAddr 45 (Operand.tmp 3) 1, type := 0, pos := "ref.go:120", after := #[], guard := none }, { dst := some 73, op := Op.load 9 (Operand.tmp 72), type := 9, pos := "ref.go:120", after := #[{ on := 6, ground := Ground.data }], guard := none }, { dst := some 74, op := Op.call { callee := Callee.value (Operand.func 31), args := #[Operand.tmp 71, Operand.tmp 73], argTypes := #[22, 9] }, type := 73, pos := "ref.go:120", after := #[{ on := 5, ground := Ground.data }, { on := 7, ground := Ground.data }, { on := 5, ground := Ground.chain }], guard := none }, { dst := some 7, op := Op.assign (Operand.tmp 74), type := 73, pos := "ref.go:120", after := #[{ on := 8, ground := Ground.data }, { on := 8, ground := Ground.chain }, { on := 0, ground := Ground.phase }, { on := 1, ground := Ground.phase }, { on := 2, ground := Ground.phase }, { on := 3, ground := Ground.phase }, { on := 4, ground := Ground.phase }, { on := 5, ground := Ground.phase }, { on := 6, ground := Ground.phase }, { on := 7, ground := Ground.phase }, { on := 8, ground := Ground.phase }], guard := none }] true).wp Tryz.prog Q { tmps := #[.slice a l.length c, t1, t2, .pointer (some ⟨eb, 0, none⟩), t4, t5, t6, t7, t8, t9, t10, t11, t12, t13, t14, t15, t16, t17, t18, t19, t20, t21, t22, t23, t24, t25, t26, t27, t28, t29, t30, t31, t32, t33, t34, t35, t36, t37, t38, t39, t40, t41, t42, t43, t44, t45, t46, t47, t48, t49, t50, t51, t52, t53, t54, t55, t56, t57, t58, t59, t60, t61, t62, t63, t64, t65, t66, t67, t68, t69, t70, t71, t72, t73, t74, t75, t76, t77, t78, t79, t80, t81, t82, t83, t84, t85, t86, t87, t88, t89, t90, t91, t92, t93, t94, t95, t96], defers := [] } A := by
  obtain ⟨i45, hi45, hq0, hq1, hq2⟩ := info_parts info33
  have HEND : Hid (∀ (u66 u67 u68 u69 u70 u71 u72 u73 u74 : Value) (pa : Option Addr) (pc : Nat) (Wf : World), A.grownBy Wf none → Q .normal { tmps := #[.slice a l.length c, t1, t2, .pointer (some ⟨eb, 0, none⟩), t4, t5, t6, .slice pa (parT (l ++ [(d, nm, p, u, v)]) nm).length pc, t8, t9, t10, t11, t12, t13, t14, t15, t16, t17, t18, t19, t20, t21, t22, t23, t24, t25, t26, t27, t28, t29, t30, t31, t32, t33, t34, t35, t36, t37, t38, t39, t40, t41, t42, t43, t44, t45, t46, t47, t48, t49, t50, t51, t52, t53, t54, t55, t56, t57, t58, t59, t60, t61, t62, t63, t64, t65, u66, u67, u68, u69, u70, u71, u72, u73, u74, t75, t76, t77, t78, t79, t80, t81, t82, t83, t84, t85, t86, t87, t88, t89, t90, t91, t92, t93, t94, t95, t96], defers := [] } Wf) := hEnd
  have HSRC : Hid (∀ W, A.grownBy W none → (l.length ≠ 0 → ∃ ad, a = some ad ∧ ∀ j x, (enc l)[j]? = some x → W.cell? (ad.add j) = some x)) := by
    intro W hg hk0
    exact ents_src (hx.at hB ⟨hg.os, hg.tape, hg.output, hg.size, fun b hb => hg.block b hb (by simp)⟩) hk0
  have hl1 := enc_len l
  have HONE : Hid (∀ x ∈ enc l, x.oneCell' = true) := enc_one l
  have HCN : Hid (∀ W, A.grownBy W none → FivB W eb (.int .i64 d) (.string nm) (.int .i64 p) (.int .i64 u) (.int .i64 v)) := fun W hg => gb_cell0 hV hg
  have HNM : Hid (∀ x ∈ l ++ [(d, nm, p, u, v)], x.2.1.size ≤ 9223372036854775807) := by
    obtain ⟨_, _, _, _, _, hn, _⟩ := hx
    intro x hx2
    rcases List.mem_append.1 hx2 with h | h
    · exact hn x h
    · simp at h; subst h; exact hnm
  have kc := fun W r (h : W.ownsRow A.heap.size 45 5 r (l.length + 1) (enc l ++ [.int .i64 d, .string nm, .int .i64 p, .int .i64 u, .int .i64 v])) => parts_any W.heap.size r (l ++ [(d, nm, p, u, v)]) nm W (Nat.le_refl _) (ents_of_row (dn := l ++ [(d, nm, p, u, v)]) (by rw [enc_snoc, List.length_append]; exact h) (by simp; omega) HNM.out) (by simp; omega)
  have G0 : Hid (A.grownBy A.drew none) := gb_drew (gb_refl _ none)
  clear hEnd hx hV hnm
  refine wp_region_any (by kernel_rfl) ?_
  change wpAny _ _ _ _ _ _ _ (World.drew _)
  obtain ⟨V0, hV0⟩ : ∃ V0, A.drew = V0 := ⟨_, rfl⟩
  rw [hV0] at G0 ⊢
  clear hV0
  refine wpAny_of_J (S := fun W => A.grownBy W none) (J := fun _ => true) _ _ _ _ ?_
  refine wpAnyJ_take (i := 1) (oi := { dst := some 67, op := Op.move (Operand.tmp 0), type := 22, pos := "ref.go:120", after := #[], guard := none }) (v := .slice a l.length c) rfl rfl (waits_of (by kernel_rfl)) (by kernel_rfl) (by kernel_rfl) (by kernel_rfl) (fun _ _ _ h => hQp _ _ _ _ _ h) (Or.inl ⟨by rfl, fun W hS => ?_⟩) G0.out ?_
  · go_simp
  simp only [Act.put, List.setIfInBounds_toArray, List.set_cons_zero, List.set_cons_succ]
  refine wpAnyJ_take (i := 3) (oi := { dst := some 69, op := Op.load 45 (Operand.tmp 3), type := 45, pos := "ref.go:120", after := #[], guard := none }) (v := .agg #[.int .i64 d, .string nm, .int .i64 p, .int .i64 u, .int .i64 v]) rfl rfl (waits_of (by kernel_rfl)) (by kernel_rfl) (by kernel_rfl) (by kernel_rfl) (fun _ _ _ h => hQp _ _ _ _ _ h) (Or.inl ⟨by rfl, fun W hS => ?_⟩) G0.out ?_
  · obtain ⟨z0, z1, z2, z3, z4, _, _, _, _, _, _⟩ := HCN.out W hS; go_simp
  simp only [Act.put, List.setIfInBounds_toArray, List.set_cons_zero, List.set_cons_succ]
  refine wpAnyJ_take (i := 6) (oi := { dst := some 72, op := Op.fieldAddr 45 (Operand.tmp 3) 1, type := 0, pos := "ref.go:120", after := #[], guard := none }) (v := .pointer (some ⟨eb, 1, none⟩)) rfl rfl (waits_of (by kernel_rfl)) (by kernel_rfl) (by kernel_rfl) (by kernel_rfl) (fun _ _ _ h => hQp _ _ _ _ _ h) (Or.inl ⟨by rfl, fun W hS => ?_⟩) G0.out ?_
  · go_simp
  simp only [Act.put, List.setIfInBounds_toArray, List.set_cons_zero, List.set_cons_succ]
  refine wpAnyJ_take (i := 7) (oi := { dst := some 73, op := Op.load 9 (Operand.tmp 72), type := 9, pos := "ref.go:120", after := #[{ on := 6, ground := Ground.data }], guard := none }) (v := .string nm) rfl rfl (waits_of (by kernel_rfl)) (by kernel_rfl) (by kernel_rfl) (by kernel_rfl) (fun _ _ _ h => hQp _ _ _ _ _ h) (Or.inl ⟨by rfl, fun W hS => ?_⟩) G0.out ?_
  · have z := (HCN.out W hS).c1; go_simp
  simp only [Act.put, List.setIfInBounds_toArray, List.set_cons_zero, List.set_cons_succ]
  refine wpAnyJ_ready (rs := [0, 4]) (by kernel_rfl) (by simp) ?_
  refine AllJ.cons (o := { dst := some 66, op := Op.buildSlice 22 0 #[], type := 22, pos := "ref.go:120", after := #[], guard := none }) rfl (fun K hK => ?_) ?_
  ·
    go_simp
    have G2 : Hid (A.grownBy (V0.alloc (.cells #[] 45)) none) := gb_own G0.out (gb_none (ba _ _)) (by simp)
    have x4 : Hid ((V0.alloc (.cells #[] 45)).ownsRow A.heap.size 45 5 (.slice (some ⟨V0.heap.size, 0, none⟩) 0 0) 0 []) := owns_empty _ 45 5 _ G0.out.size
    refine hK.out _ _ (fun _ => G2.out) ?_
    clear hK K
    try simp only [Act.put, List.setIfInBounds_toArray, List.set_cons_zero, List.set_cons_succ]
    obtain ⟨B3, hB3⟩ : ∃ B3 : Nat, B3 = V0.heap.size := ⟨_, rfl⟩
    obtain ⟨W1, hW1⟩ : ∃ W1, W1 = (V0.alloc (.cells #[] 45)) := ⟨_, rfl⟩
    rw [← hW1, ← hB3] at x4 ⊢
    rw [← hW1] at G2
    have lB3 : A.heap.size ≤ B3 := by rw [hB3]; exact G0.out.size
    clear hW1 hB3
    refine wpAnyJ_ready (rs := [2, 4]) (by kernel_rfl) (by simp) ?_
    refine AllJ.cons (o := { dst := some 68, op := Op.call { callee := Callee.builtin Builtin.append, args := #[Operand.tmp 66, Operand.tmp 67], argTypes := #[22, 22] }, type := 22, pos := "ref.go:120", after := #[{ on := 0, ground := Ground.data }, { on := 1, ground := Ground.data }], guard := none }) rfl (fun K hK => ?_) ?_
    ·
      refine step_app _ rfl _ _ 22 rfl A.heap.size 45 i45 (.agg #[.int .i64 0, .string ⟨#[]⟩, .int .i64 0, .int .i64 0, .int .i64 0]) 5 48 Tryz.underlying22 hi45 hq0 hq1 hq2 rfl (by decide) (some ⟨B3, 0, none⟩) 0 0 [] rfl x4.out a l.length c (enc l) rfl hl1 (HSRC.out W1 G2.out) HONE.out (by unfold maxLen; omega) (by omega) G2.out.size l.length (by omega) ?_
      intro a8 c9 W5 ho10 hg11 ha12
      have G6 : Hid (A.grownBy W5 none) := gb_own G2.out hg11 (fun x hx => (row_lt x4.out hx).1)
      have R7 : Hid (W5.ownsRow A.heap.size 45 5 (.slice a8 l.length c9) l.length (enc l)) := by rw [Hid]; simpa using ho10
      refine hK.out _ _ (fun _ => G6.out) ?_
      clear hK K
      try simp only [Act.put, List.setIfInBounds_toArray, List.set_cons_zero, List.set_cons_succ]
      clear ho10 hg11 ha12
      refine wpAnyJ_ready (rs := [4]) (by kernel_rfl) (by simp) ?_
      refine AllJ.cons (o := { dst := some 70, op := Op.buildSlice 22 1 #[(0, Operand.tmp 69)], type := 22, pos := "ref.go:120", after := #[{ on := 3, ground := Ground.data }], guard := none }) rfl (fun K hK => ?_) ?_
      ·
        go_simp
        have G14 : Hid (A.grownBy (W5.alloc (.cells #[.int .i64 d, .string nm, .int .i64 p, .int .i64 u, .int .i64 v] 45)) none) := gb_own G6.out (gb_none (ba _ _)) (by simp)
        have nd16 : ∀ x, ((.slice a8 l.length c9) : Value).ownBlock = some x → x ≠ W5.heap.size := fun x hx e => by have := (row_lt R7.out hx).2; omega
        have R17 : Hid ((W5.alloc (.cells #[.int .i64 d, .string nm, .int .i64 p, .int .i64 u, .int .i64 v] 45)).ownsRow A.heap.size 45 5 (.slice a8 l.length c9) l.length (enc l)) := row_gb R7.out (gb_none (ba _ _)) (by simp)
        have x18 : Hid (FivB (W5.alloc (.cells #[.int .i64 d, .string nm, .int .i64 p, .int .i64 u, .int .i64 v] 45)) W5.heap.size (.int .i64 d) (.string nm) (.int .i64 p) (.int .i64 u) (.int .i64 v)) := FivB.new _ _ _ _ _ _ 45 _ rfl
        refine hK.out _ _ (fun _ => G14.out) ?_
        clear hK K
        try simp only [Act.put, List.setIfInBounds_toArray, List.set_cons_zero, List.set_cons_succ]
        obtain ⟨B15, hB15⟩ : ∃ B15 : Nat, B15 = W5.heap.size := ⟨_, rfl⟩
        obtain ⟨W13, hW13⟩ : ∃ W13, W13 = (W5.alloc (.cells #[.int .i64 d, .string nm, .int .i64 p, .int .i64 u, .int .i64 v] 45)) := ⟨_, rfl⟩
        rw [← hW13, ← hB15] at x18 ⊢
        rw [← hB15] at nd16
        rw [← hW13] at G14 R17
        have lB15 : A.heap.size ≤ B15 := by rw [hB15]; exact G6.out.size
        clear hW13 hB15
        refine wpAnyJ_ready (rs := [5]) (by kernel_rfl) (by simp) ?_
        refine AllJ.cons (o := { dst := some 71, op := Op.call { callee := Callee.builtin Builtin.append, args := #[Operand.tmp 68, Operand.tmp 70], argTypes := #[22, 22] }, type := 22, pos := "ref.go:120", after := #[{ on := 2, ground := Ground.data }, { on := 4, ground := Ground.data }, { on := 2, ground := Ground.chain }], guard := none }) rfl (fun K hK => ?_) ?_
        ·
          refine step_app _ rfl _ _ 22 rfl A.heap.size 45 i45 (.agg #[.int .i64 0, .string ⟨#[]⟩, .int .i64 0, .int .i64 0, .int .i64 0]) 5 48 Tryz.underlying22 hi45 hq0 hq1 hq2 rfl (by decide) a8 l.length c9 (enc l) rfl R17.out (some ⟨B15, 0, none⟩) 1 1 [.int .i64 d, .string nm, .int .i64 p, .int .i64 u, .int .i64 v] rfl rfl (fun _ => ⟨_, rfl, five_news x18.out⟩) (by intro z hz; simp at hz; rcases hz with rfl | rfl | rfl | rfl | rfl <;> rfl) (by unfold maxLen; omega) (by omega) G14.out.size (l.length + 1) (by omega) ?_
          intro a22 c23 W19 ho24 hg25 ha26
          have G20 : Hid (A.grownBy W19 none) := gb_own G14.out hg25 (fun x hx => (row_lt R17.out hx).1)
          have nd28 : ∀ x, (Value.slice a22 (l.length + 1) c23).ownBlock = some x → x ≠ B15 := fun x hx e => by
            rcases ha26 with h | h
            · rw [h] at hx; exact nd16 x hx e
            · rw [h] at hx; simp only [Option.some.injEq] at hx; have := x18.out.lt; omega
          have C27 : Hid (FivB W19 B15 (.int .i64 d) (.string nm) (.int .i64 p) (.int .i64 u) (.int .i64 v)) := x18.out.gb hg25 (fun e => nd16 _ e.symm rfl)
          have R21 : Hid (W19.ownsRow A.heap.size 45 5 (.slice a22 (l.length + 1) c23) (l.length + 1) (enc l ++ [.int .i64 d, .string nm, .int .i64 p, .int .i64 u, .int .i64 v])) := ho24
          refine hK.out _ _ (fun _ => G20.out) ?_
          clear hK K
          try simp only [Act.put, List.setIfInBounds_toArray, List.set_cons_zero, List.set_cons_succ]
          clear ho24 hg25 ha26
          refine wpAnyJ_ready (rs := [8]) (by kernel_rfl) (by simp) ?_
          refine AllJ.cons (o := { dst := some 74, op := Op.call { callee := Callee.value (Operand.func 31), args := #[Operand.tmp 71, Operand.tmp 73], argTypes := #[22, 9] }, type := 73, pos := "ref.go:120", after := #[{ on := 5, ground := Ground.data }, { on := 7, ground := Ground.data }, { on := 5, ground := Ground.chain }], guard := none }) rfl (fun K hK => ?_) ?_
          ·
            have kk := kc W19 _ R21.out
            go_simp
            go_at_call 31
            refine kk.mono ?_
            rintro ee W29 ⟨rr, rfl, hrr, hb31⟩
            obtain ⟨pa, pc, rfl⟩ := row_slice hrr
            have G30 : Hid (A.grownBy W29 none) := gb_own G20.out (gb_none hb31) (by simp)
            clear kk
            refine hK.out _ _ (fun _ => G30.out) ?_
            clear hK K
            try simp only [Act.put, List.setIfInBounds_toArray, List.set_cons_zero, List.set_cons_succ]
            clear hb31 hrr
            refine wpAnyJ_ready (rs := [9]) (by kernel_rfl) (by simp) ?_
            refine AllJ.cons (o := { dst := some 7, op := Op.assign (Operand.tmp 74), type := 73, pos := "ref.go:120", after := #[{ on := 8, ground := Ground.data }, { on := 8, ground := Ground.chain }, { on := 0, ground := Ground.phase }, { on := 1, ground := Ground.phase }, { on := 2, ground := Ground.phase }, { on := 3, ground := Ground.phase }, { on := 4, ground := Ground.phase }, { on := 5, ground := Ground.phase }, { on := 6, ground := Ground.phase }, { on := 7, ground := Ground.phase }, { on := 8, ground := Ground.phase }], guard := none }) rfl (fun K hK => ?_) ?_
            ·
              go_simp
              refine hK.out _ _ (fun _ => G30.out) ?_
              clear hK K
              try simp only [Act.put, List.setIfInBounds_toArray, List.set_cons_zero, List.set_cons_succ]
              refine wpAnyJ_done (by kernel_rfl) ?_ _
              exact HEND.out _ _ _ _ _ _ _ _ _ _ _ _ G30.out
            exact AllJ.nil
          exact AllJ.nil
        exact AllJ.nil
      exact AllJ.nil
    refine AllJ.cons (o := { dst := some 70, op := Op.buildSlice 22 1 #[(0, Operand.tmp 69)], type := 22, pos := "ref.go:120", after := #[{ on := 3, ground := Ground.data }], guard := none }) rfl (fun K hK => ?_) ?_
    ·
      go_simp
      have G33 : Hid (A.grownBy (W1.alloc (.cells #[.int .i64 d, .string nm, .int .i64 p, .int .i64 u, .int .i64 v] 45)) none) := gb_own G2.out (gb_none (ba _ _)) (by simp)
      have nd35 : ∀ x, ((.slice (some ⟨B3, 0, none⟩) 0 0) : Value).ownBlock = some x → x ≠ W1.heap.size := fun x hx e => by have := (row_lt x4.out hx).2; omega
      have R36 : Hid ((W1.alloc (.cells #[.int .i64 d, .string nm, .int .i64 p, .int .i64 u, .int .i64 v] 45)).ownsRow A.heap.size 45 5 (.slice (some ⟨B3, 0, none⟩) 0 0) 0 []) := row_gb x4.out (gb_none (ba _ _)) (by simp)
      have x37 : Hid (FivB (W1.alloc (.cells #[.int .i64 d, .string nm, .int .i64 p, .int .i64 u, .int .i64 v] 45)) W1.heap.size (.int .i64 d) (.string nm) (.int .i64 p) (.int .i64 u) (.int .i64 v)) := FivB.new _ _ _ _ _ _ 45 _ rfl
      refine hK.out _ _ (fun _ => G33.out) ?_
      clear hK K
      try simp only [Act.put, List.setIfInBounds_toArray, List.set_cons_zero, List.set_cons_succ]
      obtain ⟨B34, hB34⟩ : ∃ B34 : Nat, B34 = W1.heap.size := ⟨_, rfl⟩
      obtain ⟨W32, hW32⟩ : ∃ W32, W32 = (W1.alloc (.cells #[.int .i64 d, .string nm, .int .i64 p, .int .i64 u, .int .i64 v] 45)) := ⟨_, rfl⟩
      rw [← hW32, ← hB34] at x37 ⊢
      rw [← hB34] at nd35
      rw [← hW32] at G33 R36
      have lB34 : A.heap.size ≤ B34 := by rw [hB34]; exact G2.out.size
      clear hW32 hB34
      refine wpAnyJ_ready (rs := [2]) (by kernel_rfl) (by simp) ?_
      refine AllJ.cons (o := { dst := some 68, op := Op.call { callee := Callee.builtin Builtin.append, args := #[Operand.tmp 66, Operand.tmp 67], argTypes := #[22, 22] }, type := 22, pos := "ref.go:120", after := #[{ on := 0, ground := Ground.data }, { on := 1, ground := Ground.data }], guard := none }) rfl (fun K hK => ?_) ?_
      ·
        refine step_app _ rfl _ _ 22 rfl A.heap.size 45 i45 (.agg #[.int .i64 0, .string ⟨#[]⟩, .int .i64 0, .int .i64 0, .int .i64 0]) 5 48 Tryz.underlying22 hi45 hq0 hq1 hq2 rfl (by decide) (some ⟨B3, 0, none⟩) 0 0 [] rfl R36.out a l.length c (enc l) rfl hl1 (HSRC.out W32 G33.out) HONE.out (by unfold maxLen; omega) (by omega) G33.out.size l.length (by omega) ?_
        intro a41 c42 W38 ho43 hg44 ha45
        have G39 : Hid (A.grownBy W38 none) := gb_own G33.out hg44 (fun x hx => (row_lt R36.out hx).1)
        have nd47 : ∀ x, (Value.slice a41 l.length c42).ownBlock = some x → x ≠ B34 := fun x hx e => by
          rcases ha45 with h | h
          · rw [h] at hx; exact nd35 x hx e
          · rw [h] at hx; simp only [Option.some.injEq] at hx; have := x37.out.lt; omega
        have C46 : Hid (FivB W38 B34 (.int .i64 d) (.string nm) (.int .i64 p) (.int .i64 u) (.int .i64 v)) := x37.out.gb hg44 (fun e => nd35 _ e.symm rfl)
        have R40 : Hid (W38.ownsRow A.heap.size 45 5 (.slice a41 l.length c42) l.length (enc l)) := by rw [Hid]; simpa using ho43
        refine hK.out _ _ (fun _ => G39.out) ?_
        clear hK K
        try simp only [Act.put, List.setIfInBounds_toArray, List.set_cons_zero, List.set_cons_succ]
        clear ho43 hg44 ha45
        refine wpAnyJ_ready (rs := [5]) (by kernel_rfl) (by simp) ?_
        refine AllJ.cons (o := { dst := some 71, op := Op.call { callee := Callee.builtin Builtin.append, args := #[Operand.tmp 68, Operand.tmp 70], argTypes := #[22, 22] }, type := 22, pos := "ref.go:120", after := #[{ on := 2, ground := Ground.data }, { on := 4, ground := Ground.data }, { on := 2, ground := Ground.chain }], guard := none }) rfl (fun K hK => ?_) ?_
        ·
          refine step_app _ rfl _ _ 22 rfl A.heap.size 45 i45 (.agg #[.int .i64 0, .string ⟨#[]⟩, .int .i64 0, .int .i64 0, .int .i64 0]) 5 48 Tryz.underlying22 hi45 hq0 hq1 hq2 rfl (by decide) a41 l.length c42 (enc l) rfl R40.out (some ⟨B34, 0, none⟩) 1 1 [.int .i64 d, .string nm, .int .i64 p, .int .i64 u, .int .i64 v] rfl rfl (fun _ => ⟨_, rfl, five_news C46.out⟩) (by intro z hz; simp at hz; rcases hz with rfl | rfl | rfl | rfl | rfl <;> rfl) (by unfold maxLen; omega) (by omega) G39.out.size (l.length + 1) (by omega) ?_
          intro a51 c52 W48 ho53 hg54 ha55
          have G49 : Hid (A.grownBy W48 none) := gb_own G39.out hg54 (fun x hx => (row_lt R40.out hx).1)
          have nd57 : ∀ x, (Value.slice a51 (l.length + 1) c52).ownBlock = some x → x ≠ B34 := fun x hx e => by
            rcases ha55 with h | h
            · rw [h] at hx; exact nd47 x hx e
            · rw [h] at hx; simp only [Option.some.injEq] at hx; have := C46.out.lt; omega
          have C56 : Hid (FivB W48 B34 (.int .i64 d) (.string nm) (.int .i64 p) (.int .i64 u) (.int .i64 v)) := C46.out.gb hg54 (fun e => nd47 _ e.symm rfl)
          have R50 : Hid (W48.ownsRow A.heap.size 45 5 (.slice a51 (l.length + 1) c52) (l.length + 1) (enc l ++ [.int .i64 d, .string nm, .int .i64 p, .int .i64 u, .int .i64 v])) := ho53
          refine hK.out _ _ (fun _ => G49.out) ?_
          clear hK K
          try simp only [Act.put, List.setIfInBounds_toArray, List.set_cons_zero, List.set_cons_succ]
          clear ho53 hg54 ha55
          refine wpAnyJ_ready (rs := [8]) (by kernel_rfl) (by simp) ?_
          refine AllJ.cons (o := { dst := some 74, op := Op.call { callee := Callee.value (Operand.func 31), args := #[Operand.tmp 71, Operand.tmp 73], argTypes := #[22, 9] }, type := 73, pos := "ref.go:120", after := #[{ on := 5, ground := Ground.data }, { on := 7, ground := Ground.data }, { on := 5, ground := Ground.chain }], guard := none }) rfl (fun K hK => ?_) ?_
          ·
            have kk := kc W48 _ R50.out
            go_simp
            go_at_call 31
            refine kk.mono ?_
            rintro ee W58 ⟨rr, rfl, hrr, hb60⟩
            obtain ⟨pa, pc, rfl⟩ := row_slice hrr
            have G59 : Hid (A.grownBy W58 none) := gb_own G49.out (gb_none hb60) (by simp)
            clear kk
            refine hK.out _ _ (fun _ => G59.out) ?_
            clear hK K
            try simp only [Act.put, List.setIfInBounds_toArray, List.set_cons_zero, List.set_cons_succ]
            clear hb60 hrr
            refine wpAnyJ_ready (rs := [9]) (by kernel_rfl) (by simp) ?_
            refine AllJ.cons (o := { dst := some 7, op := Op.assign (Operand.tmp 74), type := 73, pos := "ref.go:120", after := #[{ on := 8, ground := Ground.data }, { on := 8, ground := Ground.chain }, { on := 0, ground := Ground.phase }, { on := 1, ground := Ground.phase }, { on := 2, ground := Ground.phase }, { on := 3, ground := Ground.phase }, { on := 4, ground := Ground.phase }, { on := 5, ground := Ground.phase }, { on := 6, ground := Ground.phase }, { on := 7, ground := Ground.phase }, { on := 8, ground := Ground.phase }], guard := none }) rfl (fun K hK => ?_) ?_
            ·
              go_simp
              refine hK.out _ _ (fun _ => G59.out) ?_
              clear hK K
              try simp only [Act.put, List.setIfInBounds_toArray, List.set_cons_zero, List.set_cons_succ]
              refine wpAnyJ_done (by kernel_rfl) ?_ _
              exact HEND.out _ _ _ _ _ _ _ _ _ _ _ _ G59.out
            exact AllJ.nil
          exact AllJ.nil
        exact AllJ.nil
      exact AllJ.nil
    exact AllJ.nil
  refine AllJ.cons (o := { dst := some 70, op := Op.buildSlice 22 1 #[(0, Operand.tmp 69)], type := 22, pos := "ref.go:120", after := #[{ on := 3, ground := Ground.data }], guard := none }) rfl (fun K hK => ?_) ?_
  ·
    go_simp
    have G62 : Hid (A.grownBy (V0.alloc (.cells #[.int .i64 d, .string nm, .int .i64 p, .int .i64 u, .int .i64 v] 45)) none) := gb_own G0.out (gb_none (ba _ _)) (by simp)
    have x64 : Hid (FivB (V0.alloc (.cells #[.int .i64 d, .string nm, .int .i64 p, .int .i64 u, .int .i64 v] 45)) V0.heap.size (.int .i64 d) (.string nm) (.int .i64 p) (.int .i64 u) (.int .i64 v)) := FivB.new _ _ _ _ _ _ 45 _ rfl
    refine hK.out _ _ (fun _ => G62.out) ?_
    clear hK K
    try simp only [Act.put, List.setIfInBounds_toArray, List.set_cons_zero, List.set_cons_succ]
    obtain ⟨B63, hB63⟩ : ∃ B63 : Nat, B63 = V0.heap.size := ⟨_, rfl⟩
    obtain ⟨W61, hW61⟩ : ∃ W61, W61 = (V0.alloc (.cells #[.int .i64 d, .string nm, .int .i64 p, .int .i64 u, .int .i64 v] 45)) := ⟨_, rfl⟩
    rw [← hW61, ← hB63] at x64 ⊢
    rw [← hW61] at G62
    have lB63 : A.heap.size ≤ B63 := by rw [hB63]; exact G0.out.size
    clear hW61 hB63
    refine wpAnyJ_ready (rs := [0]) (by kernel_rfl) (by simp) ?_
    refine AllJ.cons (o := { dst := some 66, op := Op.buildSlice 22 0 #[], type := 22, pos := "ref.go:120", after := #[], guard := none }) rfl (fun K hK => ?_) ?_
    ·
      go_simp
      have G66 : Hid (A.grownBy (W61.alloc (.cells #[] 45)) none) := gb_own G62.out (gb_none (ba _ _)) (by simp)
      have nd68 : ∀ x, (Value.slice (some ⟨W61.heap.size, 0, none⟩) 0 0).ownBlock = some x → x ≠ B63 := fun x hx e => by simp only [Value.ownBlock, Option.some.injEq] at hx; have := x64.out.lt; omega
      have C69 : Hid (FivB (W61.alloc (.cells #[] 45)) B63 (.int .i64 d) (.string nm) (.int .i64 p) (.int .i64 u) (.int .i64 v)) := x64.out.below (ba _ _)
      have x70 : Hid ((W61.alloc (.cells #[] 45)).ownsRow A.heap.size 45 5 (.slice (some ⟨W61.heap.size, 0, none⟩) 0 0) 0 []) := owns_empty _ 45 5 _ G62.out.size
      refine hK.out _ _ (fun _ => G66.out) ?_
      clear hK K
      try simp only [Act.put, List.setIfInBounds_toArray, List.set_cons_zero, List.set_cons_succ]
      obtain ⟨B67, hB67⟩ : ∃ B67 : Nat, B67 = W61.heap.size := ⟨_, rfl⟩
      obtain ⟨W65, hW65⟩ : ∃ W65, W65 = (W61.alloc (.cells #[] 45)) := ⟨_, rfl⟩
      rw [← hW65, ← hB67] at x70 ⊢
      rw [← hB67] at nd68
      rw [← hW65] at G66 C69
      have lB67 : A.heap.size ≤ B67 := by rw [hB67]; exact G62.out.size
      clear hW65 hB67
      refine wpAnyJ_ready (rs := [2]) (by kernel_rfl) (by simp) ?_
      refine AllJ.cons (o := { dst := some 68, op := Op.call { callee := Callee.builtin Builtin.append, args := #[Operand.tmp 66, Operand.tmp 67], argTypes := #[22, 22] }, type := 22, pos := "ref.go:120", after := #[{ on := 0, ground := Ground.data }, { on := 1, ground := Ground.data }], guard := none }) rfl (fun K hK => ?_) ?_
      ·
        refine step_app _ rfl _ _ 22 rfl A.heap.size 45 i45 (.agg #[.int .i64 0, .string ⟨#[]⟩, .int .i64 0, .int .i64 0, .int .i64 0]) 5 48 Tryz.underlying22 hi45 hq0 hq1 hq2 rfl (by decide) (some ⟨B67, 0, none⟩) 0 0 [] rfl x70.out a l.length c (enc l) rfl hl1 (HSRC.out W65 G66.out) HONE.out (by unfold maxLen; omega) (by omega) G66.out.size l.length (by omega) ?_
        intro a74 c75 W71 ho76 hg77 ha78
        have G72 : Hid (A.grownBy W71 none) := gb_own G66.out hg77 (fun x hx => (row_lt x70.out hx).1)
        have nd80 : ∀ x, (Value.slice a74 l.length c75).ownBlock = some x → x ≠ B63 := fun x hx e => by
          rcases ha78 with h | h
          · rw [h] at hx; exact nd68 x hx e
          · rw [h] at hx; simp only [Option.some.injEq] at hx; have := C69.out.lt; omega
        have C79 : Hid (FivB W71 B63 (.int .i64 d) (.string nm) (.int .i64 p) (.int .i64 u) (.int .i64 v)) := C69.out.gb hg77 (fun e => nd68 _ e.symm rfl)
        have R73 : Hid (W71.ownsRow A.heap.size 45 5 (.slice a74 l.length c75) l.length (enc l)) := by rw [Hid]; simpa using ho76
        refine hK.out _ _ (fun _ => G72.out) ?_
        clear hK K
        try simp only [Act.put, List.setIfInBounds_toArray, List.set_cons_zero, List.set_cons_succ]
        clear ho76 hg77 ha78
        refine wpAnyJ_ready (rs := [5]) (by kernel_rfl) (by simp) ?_
        refine AllJ.cons (o := { dst := some 71, op := Op.call { callee := Callee.builtin Builtin.append, args := #[Operand.tmp 68, Operand.tmp 70], argTypes := #[22, 22] }, type := 22, pos := "ref.go:120", after := #[{ on := 2, ground := Ground.data }, { on := 4, ground := Ground.data }, { on := 2, ground := Ground.chain }], guard := none }) rfl (fun K hK => ?_) ?_
        ·
          refine step_app _ rfl _ _ 22 rfl A.heap.size 45 i45 (.agg #[.int .i64 0, .string ⟨#[]⟩, .int .i64 0, .int .i64 0, .int .i64 0]) 5 48 Tryz.underlying22 hi45 hq0 hq1 hq2 rfl (by decide) a74 l.length c75 (enc l) rfl R73.out (some ⟨B63, 0, none⟩) 1 1 [.int .i64 d, .string nm, .int .i64 p, .int .i64 u, .int .i64 v] rfl rfl (fun _ => ⟨_, rfl, five_news C79.out⟩) (by intro z hz; simp at hz; rcases hz with rfl | rfl | rfl | rfl | rfl <;> rfl) (by unfold maxLen; omega) (by omega) G72.out.size (l.length + 1) (by omega) ?_
          intro a84 c85 W81 ho86 hg87 ha88
          have G82 : Hid (A.grownBy W81 none) := gb_own G72.out hg87 (fun x hx => (row_lt R73.out hx).1)
          have nd90 : ∀ x, (Value.slice a84 (l.length + 1) c85).ownBlock = some x → x ≠ B63 := fun x hx e => by
            rcases ha88 with h | h
            · rw [h] at hx; exact nd80 x hx e
            · rw [h] at hx; simp only [Option.some.injEq] at hx; have := C79.out.lt; omega
          have C89 : Hid (FivB W81 B63 (.int .i64 d) (.string nm) (.int .i64 p) (.int .i64 u) (.int .i64 v)) := C79.out.gb hg87 (fun e => nd80 _ e.symm rfl)
          have R83 : Hid (W81.ownsRow A.heap.size 45 5 (.slice a84 (l.length + 1) c85) (l.length + 1) (enc l ++ [.int .i64 d, .string nm, .int .i64 p, .int .i64 u, .int .i64 v])) := ho86
          refine hK.out _ _ (fun _ => G82.out) ?_
          clear hK K
          try simp only [Act.put, List.setIfInBounds_toArray, List.set_cons_zero, List.set_cons_succ]
          clear ho86 hg87 ha88
          refine wpAnyJ_ready (rs := [8]) (by kernel_rfl) (by simp) ?_
          refine AllJ.cons (o := { dst := some 74, op := Op.call { callee := Callee.value (Operand.func 31), args := #[Operand.tmp 71, Operand.tmp 73], argTypes := #[22, 9] }, type := 73, pos := "ref.go:120", after := #[{ on := 5, ground := Ground.data }, { on := 7, ground := Ground.data }, { on := 5, ground := Ground.chain }], guard := none }) rfl (fun K hK => ?_) ?_
          ·
            have kk := kc W81 _ R83.out
            go_simp
            go_at_call 31
            refine kk.mono ?_
            rintro ee W91 ⟨rr, rfl, hrr, hb93⟩
            obtain ⟨pa, pc, rfl⟩ := row_slice hrr
            have G92 : Hid (A.grownBy W91 none) := gb_own G82.out (gb_none hb93) (by simp)
            clear kk
            refine hK.out _ _ (fun _ => G92.out) ?_
            clear hK K
            try simp only [Act.put, List.setIfInBounds_toArray, List.set_cons_zero, List.set_cons_succ]
            clear hb93 hrr
            refine wpAnyJ_ready (rs := [9]) (by kernel_rfl) (by simp) ?_
            refine AllJ.cons (o := { dst := some 7, op := Op.assign (Operand.tmp 74), type := 73, pos := "ref.go:120", after := #[{ on := 8, ground := Ground.data }, { on := 8, ground := Ground.chain }, { on := 0, ground := Ground.phase }, { on := 1, ground := Ground.phase }, { on := 2, ground := Ground.phase }, { on := 3, ground := Ground.phase }, { on := 4, ground := Ground.phase }, { on := 5, ground := Ground.phase }, { on := 6, ground := Ground.phase }, { on := 7, ground := Ground.phase }, { on := 8, ground := Ground.phase }], guard := none }) rfl (fun K hK => ?_) ?_
            ·
              go_simp
              refine hK.out _ _ (fun _ => G92.out) ?_
              clear hK K
              try simp only [Act.put, List.setIfInBounds_toArray, List.set_cons_zero, List.set_cons_succ]
              refine wpAnyJ_done (by kernel_rfl) ?_ _
              exact HEND.out _ _ _ _ _ _ _ _ _ _ _ _ G92.out
            exact AllJ.nil
          exact AllJ.nil
        exact AllJ.nil
      exact AllJ.nil
    exact AllJ.nil
  exact AllJ.nil
end Go.Proofs.YtfibbjngllelbaaGreat

import Derived.Test.YtlndlpjadajelaaGreatQq38
namespace Go.Proofs.YtlndlpjadajelaaGreat.K.P
open Go.RowKit Go.Shelf Go.Proofs.YtlndlpjadajelaaGreat.K.Ds
attribute [local go_sem] Oper.semAt_some
theorem two_news {W:World} {b:Nat} {x y:Value} (h:TwoB W b x y):∀ j u,[x,y][j]? = some u→W.cell? ((⟨b,0,none⟩:Addr).add j)=some u:=by
 intro j u hj
 have hadd:(⟨b,0,none⟩:Addr).add j=⟨b,j,none⟩:=by unfold Addr.add; split <;> simp_all
 rw [hadd]
 have hj2:j < 2:=by have:=(List.getElem?_eq_some_iff.1 hj).1; simpa using this
 rcases (by omega:j=0∨j=1) with rfl | rfl
 ·simp at hj; subst hj; exact h.c0
 ·simp at hj; subst hj; exact h.c1
set_option maxRecDepth 100000 in
set_option maxHeartbeats 4000000 in
theorem region16 {l n:Nat} {Q:Exit→Act→World→Prop} (hQo:¬ LetsOut Q) (hQp:∀ c a w,Q (.panic c) a w→False) (t0 t1 t2 t3 t5 t6 t7 t8 t11 t12 t13 t14 t15 t16 t17 t18 t19 t20 t21 t22 t23 t24 t25 t26 t27 t28 t29 t30 t31 t32 t33 t34 t35 t36 t37 t38 t39 t40 t41 t42 t43 t44 t45 t46 t47 t48 t49 t50 t51 t52 t53 t54 t55 t56 t57 t58 t59 t60 t61 t62 t63 t64 t65 t66 t67 t68 t69 t70 t71 t72 t73 t74 t75 t76 t77 t78 t79 t80 t81 t82 t83 t84 t85 t86 t87 t88 t89:Value) (Wc A5:World) (P m b1 pn:Nat) (er en nv:Value) (sva bva:Option Addr) (svc bvc:Nat) (ns:List (List UInt8)) (ss bs:List Rq) (sp bu:Rq)
  (hpn:pn < 64) (hss:ss.length=pn) (hbs:bs.length=pn) (hP:P < m) (hm:m≤b1) (hM:Mid Wc P m b1 er en nv (.slice sva pn svc) (.slice bva pn bvc) sp bu A5) (hT:Trio A5 m nv (.slice sva pn svc) (.slice bva pn bvc) ns ss bs)
  (hsl:∀ g,((.slice sva pn svc):Value).ownBlock=some g→m≤g∧g < b1) (hbl:∀ g,((.slice bva pn bvc):Value).ownBlock=some g→m≤g∧g < b1)
  (hEnd:∀ a' Wf sv' bv',Mid Wc P m b1 er en nv (.slice sva pn svc) (.slice bva pn bvc) sp bu Wf→Trio Wf m nv sv' bv' ns (ss ++ [sp]) (bs ++ [bu])→Q .normal a' ((Wf.setCell ⟨P,3,none⟩ sv').setCell ⟨P,4,none⟩ bv')) :
  (Code.region 16 #[⟨some 61, .fieldAddr 92 (.tmp 4) 3, 0, "purse.go:32", #[], none⟩, ⟨some 62, .load 90 (.tmp 61), 90, "purse.go:32", #[⟨0, .data⟩], none⟩, ⟨some 63, .load 23 (.tmp 9), 23, "purse.go:32", #[], none⟩, ⟨some 64, .buildSlice 90 1 #[(0, .tmp 63)], 90, "purse.go:32", #[⟨2, .data⟩], none⟩, ⟨some 65, .call { callee := .builtin .append, args := #[.tmp 62, .tmp 64], argTypes := #[90, 90] }, 90, "purse.go:32", #[⟨1, .data⟩, ⟨3, .data⟩], none⟩, ⟨some 66, .fieldAddr 92 (.tmp 4) 4, 0, "purse.go:32", #[], none⟩, ⟨some 67, .load 90 (.tmp 66), 90, "purse.go:32", #[⟨5, .data⟩], none⟩, ⟨some 68, .load 23 (.tmp 10), 23, "purse.go:32", #[], none⟩, ⟨some 69, .buildSlice 90 1 #[(0, .tmp 68)], 90, "purse.go:32", #[⟨7, .data⟩], none⟩, ⟨some 70, .call { callee := .builtin .append, args := #[.tmp 67, .tmp 69], argTypes := #[90, 90] }, 90, "purse.go:32", #[⟨6, .data⟩, ⟨8, .data⟩, ⟨4, .chain⟩], none⟩, ⟨some 71, .fieldAddr 92 (.tmp 4) 3, 0, "purse.go:32", #[⟨0, .phase⟩, ⟨1, .phase⟩, ⟨2, .phase⟩, ⟨3, .phase⟩, ⟨4, .phase⟩, ⟨5, .phase⟩, ⟨6, .phase⟩, { on := 7, ground := Ground.textOnly Departure.lateStores }, { on := 8, ground := Ground.textOnly Departure.inlinedCapture }, { on := 9, ground := Ground.textOnly Departure.lateStoresUnsure }], none⟩, ⟨none, .store 90 (.tmp 71) (.tmp 65), 0, "purse.go:32", #[⟨10, .data⟩, ⟨4, .data⟩, ⟨9, .chain⟩, ⟨0, .phase⟩, ⟨1, .phase⟩, ⟨2, .phase⟩, ⟨3, .phase⟩, ⟨4, .phase⟩, ⟨5, .phase⟩, ⟨6, .phase⟩, { on := 7, ground := Ground.textOnly Departure.lateStores }, { on := 8, ground := Ground.textOnly Departure.inlinedCapture }, { on := 9, ground := Ground.textOnly Departure.lateStoresUnsure }], none⟩, ⟨some 72, .fieldAddr 92 (.tmp 4) 4, 0, "purse.go:32", #[⟨0, .phase⟩, ⟨1, .phase⟩, ⟨2, .phase⟩, ⟨3, .phase⟩, ⟨4, .phase⟩, ⟨5, .phase⟩, ⟨6, .phase⟩, ⟨7, .phase⟩, ⟨8, .phase⟩, ⟨9, .phase⟩, ⟨10, .phase⟩, ⟨11, .phase⟩], none⟩, ⟨none, .store 90 (.tmp 72) (.tmp 70), 0, "purse.go:32", #[⟨12, .data⟩, ⟨9, .data⟩, ⟨11, .chain⟩, ⟨0, .phase⟩, ⟨1, .phase⟩, ⟨2, .phase⟩, ⟨3, .phase⟩, ⟨4, .phase⟩, ⟨5, .phase⟩, ⟨6, .phase⟩, ⟨7, .phase⟩, ⟨8, .phase⟩, ⟨9, .phase⟩, ⟨10, .phase⟩, ⟨11, .phase⟩], none⟩] true).wpIn (Fence.wide.inRound l) n Tryz.prog Q { tmps := #[t0, t1, t2, t3, .pointer (some ⟨P, 0, none⟩), t5, t6, t7, t8, .pointer (some ⟨b1, 0, none⟩), .pointer (some ⟨b1 + 1, 0, none⟩), t11, t12, t13, t14, t15, t16, t17, t18, t19, t20, t21, t22, t23, t24, t25, t26, t27, t28, t29, t30, t31, t32, t33, t34, t35, t36, t37, t38, t39, t40, t41, t42, t43, t44, t45, t46, t47, t48, t49, t50, t51, t52, t53, t54, t55, t56, t57, t58, t59, t60, t61, t62, t63, t64, t65, t66, t67, t68, t69, t70, t71, t72, t73, t74, t75, t76, t77, t78, t79, t80, t81, t82, t83, t84, t85, t86, t87, t88, t89], defers := [] } A5 := by
 obtain ⟨i31,hi31,hq0,hq1,hq2⟩:=info_parts info31'
 have HEND:Hid _:=hEnd
 have M0:Hid (Mid Wc P m b1 er en nv (.slice sva pn svc) (.slice bva pn bvc) sp bu A5.drew):=hM.gb (gb_drew (gb_refl _ none)) hP hm (by simp)
 have T0:Hid (Trio A5.drew m nv (.slice sva pn svc) (.slice bva pn bvc) ns ss bs):=hT.none (gb_drew (gb_refl _ none))
 have HSL:Hid (∀ g,((.slice sva pn svc):Value).ownBlock=some g→m≤g∧g < b1):=hsl
 have HBL:Hid (∀ g,((.slice bva pn bvc):Value).ownBlock=some g→m≤g∧g < b1):=hbl
 have HSS:Hid (ss.length=pn):=hss
 have HBS:Hid (bs.length=pn):=hbs
 clear hEnd hM hT hsl hbl hss hbs
 obtain ⟨V0,hV0⟩:∃ V0,A5.drew=V0:=⟨_,rfl⟩
 rw [hV0] at M0 T0
 refine wp_region_J (S:=Mid Wc P m b1 er en nv (.slice sva pn svc) (.slice bva pn bvc) sp bu) (J:=fun j=>decide (j < 11)) (by kernel_rfl) ?hd hQo ?_
 case hd =>
  intro j oj hj c hc
  have hlt:j < 14:=(Array.getElem?_eq_some_iff.1 hj).1
  rcases (by omega:j=0∨j=1∨j=2∨j=3∨j=4∨j=5∨j=6∨j=7∨j=8∨j=9∨j=10∨j=11∨j=12∨j=13) with rfl | rfl | rfl | rfl | rfl | rfl | rfl | rfl | rfl | rfl | rfl | rfl | rfl | rfl <;> (simp at hj; subst hj; cases hc)
 rw [hV0]
 clear hV0
 refine wpAnyJ_take (i := 0) (oi := ⟨some 61, .fieldAddr 92 (.tmp 4) 3, 0, "purse.go:32", #[], none⟩) (v := .pointer (some ⟨P, 3, none⟩)) rfl rfl (waits_of (by kernel_rfl)) (by kernel_rfl) (by kernel_rfl) (by kernel_rfl) (fun _ _ _ h => (hQp _ _ _ h).elim) (Or.inl ⟨by rfl, fun W hS => ?_⟩) M0.out ?_
 ·go_simp
 simp only [Act.put,List.setIfInBounds_toArray,List.set_cons_zero,List.set_cons_succ]
 refine wpAnyJ_take (i := 1) (oi := ⟨some 62, .load 90 (.tmp 61), 90, "purse.go:32", #[⟨0, .data⟩], none⟩) (v := (.slice sva pn svc)) rfl rfl (waits_of (by kernel_rfl)) (by kernel_rfl) (by kernel_rfl) (by kernel_rfl) (fun _ _ _ h => (hQp _ _ _ h).elim) (Or.inl ⟨by rfl, fun W hS => ?_⟩) M0.out ?_
 ·have z:=hS.six.c3; go_simp
 simp only [Act.put,List.setIfInBounds_toArray,List.set_cons_zero,List.set_cons_succ]
 refine wpAnyJ_take (i := 2) (oi := ⟨some 63, .load 23 (.tmp 9), 23, "purse.go:32", #[], none⟩) (v := .agg #[.int .i64 sp.1, .int .i64 sp.2]) rfl rfl (waits_of (by kernel_rfl)) (by kernel_rfl) (by kernel_rfl) (by kernel_rfl) (fun _ _ _ h => (hQp _ _ _ h).elim) (Or.inl ⟨by rfl, fun W hS => ?_⟩) M0.out ?_
 ·have z:=hS.t1.c0; have z1:=hS.t1.c1; go_simp
 simp only [Act.put,List.setIfInBounds_toArray,List.set_cons_zero,List.set_cons_succ]
 refine wpAnyJ_take (i := 5) (oi := ⟨some 66, .fieldAddr 92 (.tmp 4) 4, 0, "purse.go:32", #[], none⟩) (v := .pointer (some ⟨P, 4, none⟩)) rfl rfl (waits_of (by kernel_rfl)) (by kernel_rfl) (by kernel_rfl) (by kernel_rfl) (fun _ _ _ h => (hQp _ _ _ h).elim) (Or.inl ⟨by rfl, fun W hS => ?_⟩) M0.out ?_
 ·go_simp
 simp only [Act.put,List.setIfInBounds_toArray,List.set_cons_zero,List.set_cons_succ]
 refine wpAnyJ_take (i := 6) (oi := ⟨some 67, .load 90 (.tmp 66), 90, "purse.go:32", #[⟨5, .data⟩], none⟩) (v := (.slice bva pn bvc)) rfl rfl (waits_of (by kernel_rfl)) (by kernel_rfl) (by kernel_rfl) (by kernel_rfl) (fun _ _ _ h => (hQp _ _ _ h).elim) (Or.inl ⟨by rfl, fun W hS => ?_⟩) M0.out ?_
 ·have z:=hS.six.c4; go_simp
 simp only [Act.put,List.setIfInBounds_toArray,List.set_cons_zero,List.set_cons_succ]
 refine wpAnyJ_ready (rs:=[3,7]) (by kernel_rfl) (by simp) ?_
 refine AllJ.cons (o := ⟨some 64, .buildSlice 90 1 #[(0, .tmp 63)], 90, "purse.go:32", #[⟨2, .data⟩], none⟩) rfl (fun K hK => ?_) ?_
 ·
  go_simp
  have M2:Hid (Mid Wc P m b1 er en nv (.slice sva pn svc) (.slice bva pn bvc) sp bu (V0.alloc (.cells #[.int .i64 sp.1,.int .i64 sp.2] 23))):=M0.out.gb (gb_none (ba _ _)) hP hm (by simp)
  have T3:Hid (Trio (V0.alloc (.cells #[.int .i64 sp.1,.int .i64 sp.2] 23)) m nv (.slice sva pn svc) (.slice bva pn bvc) ns ss bs):=T0.out.none (gb_none (ba _ _))
  have C4:Hid (TwoB (V0.alloc (.cells #[.int .i64 sp.1,.int .i64 sp.2] 23)) V0.heap.size (.int .i64 sp.1) (.int .i64 sp.2)):=TwoB.new _ _ _ 23 _ rfl
  refine hK.out _ _ (fun _=>M2.out) ?_
  clear hK K
  try simp only [Act.put,List.setIfInBounds_toArray,List.set_cons_zero,List.set_cons_succ]
  obtain ⟨B5,hB5⟩:∃ B5:Nat,B5=V0.heap.size:=⟨_,rfl⟩
  obtain ⟨W1,hW1⟩:∃ W1,W1=(V0.alloc (.cells #[.int .i64 sp.1,.int .i64 sp.2] 23)):=⟨_,rfl⟩
  rw [← hW1,← hB5] at C4 ⊢
  rw [← hW1] at M2 T3
  clear hW1
  have lB5:b1 < B5:=by rw [hB5]; have:=M0.out.t2.lt; omega
  clear hB5
  refine wpAnyJ_ready (rs:=[4,7]) (by kernel_rfl) (by simp) ?_
  refine AllJ.cons (o := ⟨some 65, .call { callee := .builtin .append, args := #[.tmp 62, .tmp 64], argTypes := #[90, 90] }, 90, "purse.go:32", #[⟨1, .data⟩, ⟨3, .data⟩], none⟩) rfl (fun K hK => ?_) ?_
  ·
   have R15:W1.ownsRow m 23 2 (.slice sva pn svc) pn (encQ ss):=by have h:=T3.out.s; rw [HSS.out] at h; exact h
   refine step_append_lies _ rfl _ _ 90 rfl m 23 i31 (.agg #[.int .i64 0,.int .i64 0]) 2 16 Tryz.underlying90 hi31 hq0 hq1 hq2 rfl (by decide) (.slice sva pn svc) pn (encQ ss) rfl R15 ⟨B5,0,none⟩ 1 1 [.int .i64 sp.1,.int .i64 sp.2] rfl rfl (two_news C4.out) ?_ (by decide) (by unfold maxLen; omega) (by omega) (by have:=M2.out.t1.lt; omega) W1.heap.size rfl ?_
   ·intro z hz; simp at hz; rcases hz with rfl | rfl <;> rfl
   intro g9 c10 W6 ho11 hg12 ha13 hl14
   have M7:Hid (Mid Wc P m b1 er en nv (.slice sva pn svc) (.slice bva pn bvc) sp bu W6):=M2.out.gb hg12 hP hm HSL.out
   have T8:Hid (Trio W6 m nv (.slice (some ⟨g9,0,none⟩) (pn + 1) c10) (.slice bva pn bvc) ns (ss ++ [sp]) bs):=T3.out.spent hg12 (by rw [HSS.out]; exact ho11) (ha13.imp (fun h=>h) (fun h=>by rw [h]; rfl))
   refine hK.out _ _ (fun _=>M7.out) ?_
   clear hK K R15 ho11 ha13 hl14 hg12
   try simp only [Act.put,List.setIfInBounds_toArray,List.set_cons_zero,List.set_cons_succ]
   refine wpAnyJ_take (i := 10) (oi := ⟨some 71, .fieldAddr 92 (.tmp 4) 3, 0, "purse.go:32", #[⟨0, .phase⟩, ⟨1, .phase⟩, ⟨2, .phase⟩, ⟨3, .phase⟩, ⟨4, .phase⟩, ⟨5, .phase⟩, ⟨6, .phase⟩, { on := 7, ground := Ground.textOnly Departure.lateStores }, { on := 8, ground := Ground.textOnly Departure.inlinedCapture }, { on := 9, ground := Ground.textOnly Departure.lateStoresUnsure }], none⟩) (v := .pointer (some ⟨P, 3, none⟩)) rfl rfl (waits_of (by kernel_rfl)) (by kernel_rfl) (by kernel_rfl) (by kernel_rfl) (fun _ _ _ h => (hQp _ _ _ h).elim) (Or.inl ⟨by rfl, fun W hS => ?_⟩) M7.out ?_
   ·go_simp
   simp only [Act.put,List.setIfInBounds_toArray,List.set_cons_zero,List.set_cons_succ]
   refine wpAnyJ_ready (rs:=[7]) (by kernel_rfl) (by simp) ?_
   refine AllJ.cons (o := ⟨some 68, .load 23 (.tmp 10), 23, "purse.go:32", #[], none⟩) rfl (fun K hK => ?_) ?_
   ·
    have y0:=M7.out.t2.c0
    have y1:=M7.out.t2.c1
    go_simp
    refine hK.out _ _ (fun _=>M7.out) ?_
    clear hK K y0 y1
    try simp only [Act.put,List.setIfInBounds_toArray,List.set_cons_zero,List.set_cons_succ]
    refine wpAnyJ_ready (rs:=[8]) (by kernel_rfl) (by simp) ?_
    refine AllJ.cons (o := ⟨some 69, .buildSlice 90 1 #[(0, .tmp 68)], 90, "purse.go:32", #[⟨7, .data⟩], none⟩) rfl (fun K hK => ?_) ?_
    ·
     go_simp
     have M17:Hid (Mid Wc P m b1 er en nv (.slice sva pn svc) (.slice bva pn bvc) sp bu (W6.alloc (.cells #[.int .i64 bu.1,.int .i64 bu.2] 23))):=M7.out.gb (gb_none (ba _ _)) hP hm (by simp)
     have T18:Hid (Trio (W6.alloc (.cells #[.int .i64 bu.1,.int .i64 bu.2] 23)) m nv (.slice (some ⟨g9,0,none⟩) (pn + 1) c10) (.slice bva pn bvc) ns (ss ++ [sp]) bs):=T8.out.none (gb_none (ba _ _))
     have C19:Hid (TwoB (W6.alloc (.cells #[.int .i64 bu.1,.int .i64 bu.2] 23)) W6.heap.size (.int .i64 bu.1) (.int .i64 bu.2)):=TwoB.new _ _ _ 23 _ rfl
     refine hK.out _ _ (fun _=>M17.out) ?_
     clear hK K
     try simp only [Act.put,List.setIfInBounds_toArray,List.set_cons_zero,List.set_cons_succ]
     obtain ⟨B20,hB20⟩:∃ B20:Nat,B20=W6.heap.size:=⟨_,rfl⟩
     obtain ⟨W16,hW16⟩:∃ W16,W16=(W6.alloc (.cells #[.int .i64 bu.1,.int .i64 bu.2] 23)):=⟨_,rfl⟩
     rw [← hW16,← hB20] at C19 ⊢
     rw [← hW16] at M17 T18
     clear hW16
     have lB20:b1 < B20:=by rw [hB20]; have:=M7.out.t2.lt; omega
     clear hB20
     refine wpAnyJ_ready (rs:=[9]) (by kernel_rfl) (by simp) ?_
     refine AllJ.cons (o := ⟨some 70, .call { callee := .builtin .append, args := #[.tmp 67, .tmp 69], argTypes := #[90, 90] }, 90, "purse.go:32", #[⟨6, .data⟩, ⟨8, .data⟩, ⟨4, .chain⟩], none⟩) rfl (fun K hK => ?_) ?_
     ·
      have R30:W16.ownsRow m 23 2 (.slice bva pn bvc) pn (encQ bs):=by have h:=T18.out.b; rw [HBS.out] at h; exact h
      refine step_append_lies _ rfl _ _ 90 rfl m 23 i31 (.agg #[.int .i64 0,.int .i64 0]) 2 16 Tryz.underlying90 hi31 hq0 hq1 hq2 rfl (by decide) (.slice bva pn bvc) pn (encQ bs) rfl R30 ⟨B20,0,none⟩ 1 1 [.int .i64 bu.1,.int .i64 bu.2] rfl rfl (two_news C19.out) ?_ (by decide) (by unfold maxLen; omega) (by omega) (by have:=M17.out.t1.lt; omega) W16.heap.size rfl ?_
      ·intro z hz; simp at hz; rcases hz with rfl | rfl <;> rfl
      intro g24 c25 W21 ho26 hg27 ha28 hl29
      have M22:Hid (Mid Wc P m b1 er en nv (.slice sva pn svc) (.slice bva pn bvc) sp bu W21):=M17.out.gb hg27 hP hm HBL.out
      have T23:Hid (Trio W21 m nv (.slice (some ⟨g9,0,none⟩) (pn + 1) c10) (.slice (some ⟨g24,0,none⟩) (pn + 1) c25) ns (ss ++ [sp]) (bs ++ [bu])):=T18.out.bud hg27 (by rw [HBS.out]; exact ho26) (ha28.imp (fun h=>h) (fun h=>by rw [h]; rfl))
      refine hK.out _ _ (fun _=>M22.out) ?_
      clear hK K R30 ho26 ha28 hl29 hg27
      try simp only [Act.put,List.setIfInBounds_toArray,List.set_cons_zero,List.set_cons_succ]
      have z3:=M22.out.six.c3
      have z4:=M22.out.six.c4
      have y3:=M22.out.six.f3
      have y4:=M22.out.six.f4
      refine wpAnyJ_ready (rs:=[11]) (by kernel_rfl) (by simp) ?_
      refine AllJ.cons (o := ⟨none, .store 90 (.tmp 71) (.tmp 65), 0, "purse.go:32", #[⟨10, .data⟩, ⟨4, .data⟩, ⟨9, .chain⟩, ⟨0, .phase⟩, ⟨1, .phase⟩, ⟨2, .phase⟩, ⟨3, .phase⟩, ⟨4, .phase⟩, ⟨5, .phase⟩, ⟨6, .phase⟩, { on := 7, ground := Ground.textOnly Departure.lateStores }, { on := 8, ground := Ground.textOnly Departure.inlinedCapture }, { on := 9, ground := Ground.textOnly Departure.lateStoresUnsure }], none⟩) rfl (fun K hK => ?_) AllJ.nil
      go_simp
      refine hK.out _ _ (fun h=>by simp at h) ?_
      clear hK K
      try simp only [Act.put,List.setIfInBounds_toArray,List.set_cons_zero,List.set_cons_succ]
      refine wpAnyJ_ready (rs:=[12]) (by kernel_rfl) (by simp) ?_
      refine AllJ.cons (o := ⟨some 72, .fieldAddr 92 (.tmp 4) 4, 0, "purse.go:32", #[⟨0, .phase⟩, ⟨1, .phase⟩, ⟨2, .phase⟩, ⟨3, .phase⟩, ⟨4, .phase⟩, ⟨5, .phase⟩, ⟨6, .phase⟩, ⟨7, .phase⟩, ⟨8, .phase⟩, ⟨9, .phase⟩, ⟨10, .phase⟩, ⟨11, .phase⟩], none⟩) rfl (fun K hK => ?_) AllJ.nil
      go_simp
      refine hK.out _ _ (fun h=>by simp at h) ?_
      clear hK K
      try simp only [Act.put,List.setIfInBounds_toArray,List.set_cons_zero,List.set_cons_succ]
      refine wpAnyJ_ready (rs:=[13]) (by kernel_rfl) (by simp) ?_
      refine AllJ.cons (o := ⟨none, .store 90 (.tmp 72) (.tmp 70), 0, "purse.go:32", #[⟨12, .data⟩, ⟨9, .data⟩, ⟨11, .chain⟩, ⟨0, .phase⟩, ⟨1, .phase⟩, ⟨2, .phase⟩, ⟨3, .phase⟩, ⟨4, .phase⟩, ⟨5, .phase⟩, ⟨6, .phase⟩, ⟨7, .phase⟩, ⟨8, .phase⟩, ⟨9, .phase⟩, ⟨10, .phase⟩, ⟨11, .phase⟩], none⟩) rfl (fun K hK => ?_) AllJ.nil
      go_simp
      refine hK.out _ _ (fun h=>by simp at h) ?_
      clear hK K
      try simp only [Act.put,List.setIfInBounds_toArray,List.set_cons_zero,List.set_cons_succ]
      exact wpAnyJ_done (by kernel_rfl) (HEND.out _ _ _ _ M22.out T23.out) _
     exact AllJ.nil
    exact AllJ.nil
   exact AllJ.nil
  refine AllJ.cons (o := ⟨some 68, .load 23 (.tmp 10), 23, "purse.go:32", #[], none⟩) rfl (fun K hK => ?_) ?_
  ·
   have y0:=M2.out.t2.c0
   have y1:=M2.out.t2.c1
   go_simp
   refine hK.out _ _ (fun _=>M2.out) ?_
   clear hK K y0 y1
   try simp only [Act.put,List.setIfInBounds_toArray,List.set_cons_zero,List.set_cons_succ]
   refine wpAnyJ_ready (rs:=[4,8]) (by kernel_rfl) (by simp) ?_
   refine AllJ.cons (o := ⟨some 65, .call { callee := .builtin .append, args := #[.tmp 62, .tmp 64], argTypes := #[90, 90] }, 90, "purse.go:32", #[⟨1, .data⟩, ⟨3, .data⟩], none⟩) rfl (fun K hK => ?_) ?_
   ·
    have R40:W1.ownsRow m 23 2 (.slice sva pn svc) pn (encQ ss):=by have h:=T3.out.s; rw [HSS.out] at h; exact h
    refine step_append_lies _ rfl _ _ 90 rfl m 23 i31 (.agg #[.int .i64 0,.int .i64 0]) 2 16 Tryz.underlying90 hi31 hq0 hq1 hq2 rfl (by decide) (.slice sva pn svc) pn (encQ ss) rfl R40 ⟨B5,0,none⟩ 1 1 [.int .i64 sp.1,.int .i64 sp.2] rfl rfl (two_news C4.out) ?_ (by decide) (by unfold maxLen; omega) (by omega) (by have:=M2.out.t1.lt; omega) W1.heap.size rfl ?_
    ·intro z hz; simp at hz; rcases hz with rfl | rfl <;> rfl
    intro g34 c35 W31 ho36 hg37 ha38 hl39
    have M32:Hid (Mid Wc P m b1 er en nv (.slice sva pn svc) (.slice bva pn bvc) sp bu W31):=M2.out.gb hg37 hP hm HSL.out
    have T33:Hid (Trio W31 m nv (.slice (some ⟨g34,0,none⟩) (pn + 1) c35) (.slice bva pn bvc) ns (ss ++ [sp]) bs):=T3.out.spent hg37 (by rw [HSS.out]; exact ho36) (ha38.imp (fun h=>h) (fun h=>by rw [h]; rfl))
    refine hK.out _ _ (fun _=>M32.out) ?_
    clear hK K R40 ho36 ha38 hl39 hg37
    try simp only [Act.put,List.setIfInBounds_toArray,List.set_cons_zero,List.set_cons_succ]
    refine wpAnyJ_take (i := 10) (oi := ⟨some 71, .fieldAddr 92 (.tmp 4) 3, 0, "purse.go:32", #[⟨0, .phase⟩, ⟨1, .phase⟩, ⟨2, .phase⟩, ⟨3, .phase⟩, ⟨4, .phase⟩, ⟨5, .phase⟩, ⟨6, .phase⟩, { on := 7, ground := Ground.textOnly Departure.lateStores }, { on := 8, ground := Ground.textOnly Departure.inlinedCapture }, { on := 9, ground := Ground.textOnly Departure.lateStoresUnsure }], none⟩) (v := .pointer (some ⟨P, 3, none⟩)) rfl rfl (waits_of (by kernel_rfl)) (by kernel_rfl) (by kernel_rfl) (by kernel_rfl) (fun _ _ _ h => (hQp _ _ _ h).elim) (Or.inl ⟨by rfl, fun W hS => ?_⟩) M32.out ?_
    ·go_simp
    simp only [Act.put,List.setIfInBounds_toArray,List.set_cons_zero,List.set_cons_succ]
    refine wpAnyJ_ready (rs:=[8]) (by kernel_rfl) (by simp) ?_
    refine AllJ.cons (o := ⟨some 69, .buildSlice 90 1 #[(0, .tmp 68)], 90, "purse.go:32", #[⟨7, .data⟩], none⟩) rfl (fun K hK => ?_) ?_
    ·
     go_simp
     have M42:Hid (Mid Wc P m b1 er en nv (.slice sva pn svc) (.slice bva pn bvc) sp bu (W31.alloc (.cells #[.int .i64 bu.1,.int .i64 bu.2] 23))):=M32.out.gb (gb_none (ba _ _)) hP hm (by simp)
     have T43:Hid (Trio (W31.alloc (.cells #[.int .i64 bu.1,.int .i64 bu.2] 23)) m nv (.slice (some ⟨g34,0,none⟩) (pn + 1) c35) (.slice bva pn bvc) ns (ss ++ [sp]) bs):=T33.out.none (gb_none (ba _ _))
     have C44:Hid (TwoB (W31.alloc (.cells #[.int .i64 bu.1,.int .i64 bu.2] 23)) W31.heap.size (.int .i64 bu.1) (.int .i64 bu.2)):=TwoB.new _ _ _ 23 _ rfl
     refine hK.out _ _ (fun _=>M42.out) ?_
     clear hK K
     try simp only [Act.put,List.setIfInBounds_toArray,List.set_cons_zero,List.set_cons_succ]
     obtain ⟨B45,hB45⟩:∃ B45:Nat,B45=W31.heap.size:=⟨_,rfl⟩
     obtain ⟨W41,hW41⟩:∃ W41,W41=(W31.alloc (.cells #[.int .i64 bu.1,.int .i64 bu.2] 23)):=⟨_,rfl⟩
     rw [← hW41,← hB45] at C44 ⊢
     rw [← hW41] at M42 T43
     clear hW41
     have lB45:b1 < B45:=by rw [hB45]; have:=M32.out.t2.lt; omega
     clear hB45
     refine wpAnyJ_ready (rs:=[9]) (by kernel_rfl) (by simp) ?_
     refine AllJ.cons (o := ⟨some 70, .call { callee := .builtin .append, args := #[.tmp 67, .tmp 69], argTypes := #[90, 90] }, 90, "purse.go:32", #[⟨6, .data⟩, ⟨8, .data⟩, ⟨4, .chain⟩], none⟩) rfl (fun K hK => ?_) ?_
     ·
      have R55:W41.ownsRow m 23 2 (.slice bva pn bvc) pn (encQ bs):=by have h:=T43.out.b; rw [HBS.out] at h; exact h
      refine step_append_lies _ rfl _ _ 90 rfl m 23 i31 (.agg #[.int .i64 0,.int .i64 0]) 2 16 Tryz.underlying90 hi31 hq0 hq1 hq2 rfl (by decide) (.slice bva pn bvc) pn (encQ bs) rfl R55 ⟨B45,0,none⟩ 1 1 [.int .i64 bu.1,.int .i64 bu.2] rfl rfl (two_news C44.out) ?_ (by decide) (by unfold maxLen; omega) (by omega) (by have:=M42.out.t1.lt; omega) W41.heap.size rfl ?_
      ·intro z hz; simp at hz; rcases hz with rfl | rfl <;> rfl
      intro g49 c50 W46 ho51 hg52 ha53 hl54
      have M47:Hid (Mid Wc P m b1 er en nv (.slice sva pn svc) (.slice bva pn bvc) sp bu W46):=M42.out.gb hg52 hP hm HBL.out
      have T48:Hid (Trio W46 m nv (.slice (some ⟨g34,0,none⟩) (pn + 1) c35) (.slice (some ⟨g49,0,none⟩) (pn + 1) c50) ns (ss ++ [sp]) (bs ++ [bu])):=T43.out.bud hg52 (by rw [HBS.out]; exact ho51) (ha53.imp (fun h=>h) (fun h=>by rw [h]; rfl))
      refine hK.out _ _ (fun _=>M47.out) ?_
      clear hK K R55 ho51 ha53 hl54 hg52
      try simp only [Act.put,List.setIfInBounds_toArray,List.set_cons_zero,List.set_cons_succ]
      have z3:=M47.out.six.c3
      have z4:=M47.out.six.c4
      have y3:=M47.out.six.f3
      have y4:=M47.out.six.f4
      refine wpAnyJ_ready (rs:=[11]) (by kernel_rfl) (by simp) ?_
      refine AllJ.cons (o := ⟨none, .store 90 (.tmp 71) (.tmp 65), 0, "purse.go:32", #[⟨10, .data⟩, ⟨4, .data⟩, ⟨9, .chain⟩, ⟨0, .phase⟩, ⟨1, .phase⟩, ⟨2, .phase⟩, ⟨3, .phase⟩, ⟨4, .phase⟩, ⟨5, .phase⟩, ⟨6, .phase⟩, { on := 7, ground := Ground.textOnly Departure.lateStores }, { on := 8, ground := Ground.textOnly Departure.inlinedCapture }, { on := 9, ground := Ground.textOnly Departure.lateStoresUnsure }], none⟩) rfl (fun K hK => ?_) AllJ.nil
      go_simp
      refine hK.out _ _ (fun h=>by simp at h) ?_
      clear hK K
      try simp only [Act.put,List.setIfInBounds_toArray,List.set_cons_zero,List.set_cons_succ]
      refine wpAnyJ_ready (rs:=[12]) (by kernel_rfl) (by simp) ?_
      refine AllJ.cons (o := ⟨some 72, .fieldAddr 92 (.tmp 4) 4, 0, "purse.go:32", #[⟨0, .phase⟩, ⟨1, .phase⟩, ⟨2, .phase⟩, ⟨3, .phase⟩, ⟨4, .phase⟩, ⟨5, .phase⟩, ⟨6, .phase⟩, ⟨7, .phase⟩, ⟨8, .phase⟩, ⟨9, .phase⟩, ⟨10, .phase⟩, ⟨11, .phase⟩], none⟩) rfl (fun K hK => ?_) AllJ.nil
      go_simp
      refine hK.out _ _ (fun h=>by simp at h) ?_
      clear hK K
      try simp only [Act.put,List.setIfInBounds_toArray,List.set_cons_zero,List.set_cons_succ]
      refine wpAnyJ_ready (rs:=[13]) (by kernel_rfl) (by simp) ?_
      refine AllJ.cons (o := ⟨none, .store 90 (.tmp 72) (.tmp 70), 0, "purse.go:32", #[⟨12, .data⟩, ⟨9, .data⟩, ⟨11, .chain⟩, ⟨0, .phase⟩, ⟨1, .phase⟩, ⟨2, .phase⟩, ⟨3, .phase⟩, ⟨4, .phase⟩, ⟨5, .phase⟩, ⟨6, .phase⟩, ⟨7, .phase⟩, ⟨8, .phase⟩, ⟨9, .phase⟩, ⟨10, .phase⟩, ⟨11, .phase⟩], none⟩) rfl (fun K hK => ?_) AllJ.nil
      go_simp
      refine hK.out _ _ (fun h=>by simp at h) ?_
      clear hK K
      try simp only [Act.put,List.setIfInBounds_toArray,List.set_cons_zero,List.set_cons_succ]
      exact wpAnyJ_done (by kernel_rfl) (HEND.out _ _ _ _ M47.out T48.out) _
     exact AllJ.nil
    exact AllJ.nil
   refine AllJ.cons (o := ⟨some 69, .buildSlice 90 1 #[(0, .tmp 68)], 90, "purse.go:32", #[⟨7, .data⟩], none⟩) rfl (fun K hK => ?_) ?_
   ·
    go_simp
    have M57:Hid (Mid Wc P m b1 er en nv (.slice sva pn svc) (.slice bva pn bvc) sp bu (W1.alloc (.cells #[.int .i64 bu.1,.int .i64 bu.2] 23))):=M2.out.gb (gb_none (ba _ _)) hP hm (by simp)
    have T58:Hid (Trio (W1.alloc (.cells #[.int .i64 bu.1,.int .i64 bu.2] 23)) m nv (.slice sva pn svc) (.slice bva pn bvc) ns ss bs):=T3.out.none (gb_none (ba _ _))
    have C59:Hid (TwoB (W1.alloc (.cells #[.int .i64 bu.1,.int .i64 bu.2] 23)) W1.heap.size (.int .i64 bu.1) (.int .i64 bu.2)):=TwoB.new _ _ _ 23 _ rfl
    have C60:Hid (TwoB (W1.alloc (.cells #[.int .i64 bu.1,.int .i64 bu.2] 23)) B5 (.int .i64 sp.1) (.int .i64 sp.2)):=C4.out.below (ba _ _)
    refine hK.out _ _ (fun _=>M57.out) ?_
    clear hK K
    try simp only [Act.put,List.setIfInBounds_toArray,List.set_cons_zero,List.set_cons_succ]
    obtain ⟨B61,hB61⟩:∃ B61:Nat,B61=W1.heap.size:=⟨_,rfl⟩
    obtain ⟨W56,hW56⟩:∃ W56,W56=(W1.alloc (.cells #[.int .i64 bu.1,.int .i64 bu.2] 23)):=⟨_,rfl⟩
    rw [← hW56,← hB61] at C59 ⊢
    rw [← hW56] at M57 T58 C60
    clear hW56
    have lB61:b1 < B61:=by rw [hB61]; have:=M2.out.t2.lt; omega
    clear hB61
    refine wpAnyJ_ready (rs:=[4]) (by kernel_rfl) (by simp) ?_
    refine AllJ.cons (o := ⟨some 65, .call { callee := .builtin .append, args := #[.tmp 62, .tmp 64], argTypes := #[90, 90] }, 90, "purse.go:32", #[⟨1, .data⟩, ⟨3, .data⟩], none⟩) rfl (fun K hK => ?_) ?_
    ·
     have R71:W56.ownsRow m 23 2 (.slice sva pn svc) pn (encQ ss):=by have h:=T58.out.s; rw [HSS.out] at h; exact h
     refine step_append_lies _ rfl _ _ 90 rfl m 23 i31 (.agg #[.int .i64 0,.int .i64 0]) 2 16 Tryz.underlying90 hi31 hq0 hq1 hq2 rfl (by decide) (.slice sva pn svc) pn (encQ ss) rfl R71 ⟨B5,0,none⟩ 1 1 [.int .i64 sp.1,.int .i64 sp.2] rfl rfl (two_news C60.out) ?_ (by decide) (by unfold maxLen; omega) (by omega) (by have:=M57.out.t1.lt; omega) W56.heap.size rfl ?_
     ·intro z hz; simp at hz; rcases hz with rfl | rfl <;> rfl
     intro g65 c66 W62 ho67 hg68 ha69 hl70
     have M63:Hid (Mid Wc P m b1 er en nv (.slice sva pn svc) (.slice bva pn bvc) sp bu W62):=M57.out.gb hg68 hP hm HSL.out
     have T64:Hid (Trio W62 m nv (.slice (some ⟨g65,0,none⟩) (pn + 1) c66) (.slice bva pn bvc) ns (ss ++ [sp]) bs):=T58.out.spent hg68 (by rw [HSS.out]; exact ho67) (ha69.imp (fun h=>h) (fun h=>by rw [h]; rfl))
     have C72:Hid (TwoB W62 B61 (.int .i64 bu.1) (.int .i64 bu.2)):=C59.out.gb hg68 (fun e=>by have:=HSL.out _ e.symm; omega)
     refine hK.out _ _ (fun _=>M63.out) ?_
     clear hK K R71 ho67 ha69 hl70 hg68
     try simp only [Act.put,List.setIfInBounds_toArray,List.set_cons_zero,List.set_cons_succ]
     refine wpAnyJ_take (i := 10) (oi := ⟨some 71, .fieldAddr 92 (.tmp 4) 3, 0, "purse.go:32", #[⟨0, .phase⟩, ⟨1, .phase⟩, ⟨2, .phase⟩, ⟨3, .phase⟩, ⟨4, .phase⟩, ⟨5, .phase⟩, ⟨6, .phase⟩, { on := 7, ground := Ground.textOnly Departure.lateStores }, { on := 8, ground := Ground.textOnly Departure.inlinedCapture }, { on := 9, ground := Ground.textOnly Departure.lateStoresUnsure }], none⟩) (v := .pointer (some ⟨P, 3, none⟩)) rfl rfl (waits_of (by kernel_rfl)) (by kernel_rfl) (by kernel_rfl) (by kernel_rfl) (fun _ _ _ h => (hQp _ _ _ h).elim) (Or.inl ⟨by rfl, fun W hS => ?_⟩) M63.out ?_
     ·go_simp
     simp only [Act.put,List.setIfInBounds_toArray,List.set_cons_zero,List.set_cons_succ]
     refine wpAnyJ_ready (rs:=[9]) (by kernel_rfl) (by simp) ?_
     refine AllJ.cons (o := ⟨some 70, .call { callee := .builtin .append, args := #[.tmp 67, .tmp 69], argTypes := #[90, 90] }, 90, "purse.go:32", #[⟨6, .data⟩, ⟨8, .data⟩, ⟨4, .chain⟩], none⟩) rfl (fun K hK => ?_) ?_
     ·
      have R82:W62.ownsRow m 23 2 (.slice bva pn bvc) pn (encQ bs):=by have h:=T64.out.b; rw [HBS.out] at h; exact h
      refine step_append_lies _ rfl _ _ 90 rfl m 23 i31 (.agg #[.int .i64 0,.int .i64 0]) 2 16 Tryz.underlying90 hi31 hq0 hq1 hq2 rfl (by decide) (.slice bva pn bvc) pn (encQ bs) rfl R82 ⟨B61,0,none⟩ 1 1 [.int .i64 bu.1,.int .i64 bu.2] rfl rfl (two_news C72.out) ?_ (by decide) (by unfold maxLen; omega) (by omega) (by have:=M63.out.t1.lt; omega) W62.heap.size rfl ?_
      ·intro z hz; simp at hz; rcases hz with rfl | rfl <;> rfl
      intro g76 c77 W73 ho78 hg79 ha80 hl81
      have M74:Hid (Mid Wc P m b1 er en nv (.slice sva pn svc) (.slice bva pn bvc) sp bu W73):=M63.out.gb hg79 hP hm HBL.out
      have T75:Hid (Trio W73 m nv (.slice (some ⟨g65,0,none⟩) (pn + 1) c66) (.slice (some ⟨g76,0,none⟩) (pn + 1) c77) ns (ss ++ [sp]) (bs ++ [bu])):=T64.out.bud hg79 (by rw [HBS.out]; exact ho78) (ha80.imp (fun h=>h) (fun h=>by rw [h]; rfl))
      refine hK.out _ _ (fun _=>M74.out) ?_
      clear hK K R82 ho78 ha80 hl81 hg79
      try simp only [Act.put,List.setIfInBounds_toArray,List.set_cons_zero,List.set_cons_succ]
      have z3:=M74.out.six.c3
      have z4:=M74.out.six.c4
      have y3:=M74.out.six.f3
      have y4:=M74.out.six.f4
      refine wpAnyJ_ready (rs:=[11]) (by kernel_rfl) (by simp) ?_
      refine AllJ.cons (o := ⟨none, .store 90 (.tmp 71) (.tmp 65), 0, "purse.go:32", #[⟨10, .data⟩, ⟨4, .data⟩, ⟨9, .chain⟩, ⟨0, .phase⟩, ⟨1, .phase⟩, ⟨2, .phase⟩, ⟨3, .phase⟩, ⟨4, .phase⟩, ⟨5, .phase⟩, ⟨6, .phase⟩, { on := 7, ground := Ground.textOnly Departure.lateStores }, { on := 8, ground := Ground.textOnly Departure.inlinedCapture }, { on := 9, ground := Ground.textOnly Departure.lateStoresUnsure }], none⟩) rfl (fun K hK => ?_) AllJ.nil
      go_simp
      refine hK.out _ _ (fun h=>by simp at h) ?_
      clear hK K
      try simp only [Act.put,List.setIfInBounds_toArray,List.set_cons_zero,List.set_cons_succ]
      refine wpAnyJ_ready (rs:=[12]) (by kernel_rfl) (by simp) ?_
      refine AllJ.cons (o := ⟨some 72, .fieldAddr 92 (.tmp 4) 4, 0, "purse.go:32", #[⟨0, .phase⟩, ⟨1, .phase⟩, ⟨2, .phase⟩, ⟨3, .phase⟩, ⟨4, .phase⟩, ⟨5, .phase⟩, ⟨6, .phase⟩, ⟨7, .phase⟩, ⟨8, .phase⟩, ⟨9, .phase⟩, ⟨10, .phase⟩, ⟨11, .phase⟩], none⟩) rfl (fun K hK => ?_) AllJ.nil
      go_simp
      refine hK.out _ _ (fun h=>by simp at h) ?_
      clear hK K
      try simp only [Act.put,List.setIfInBounds_toArray,List.set_cons_zero,List.set_cons_succ]
      refine wpAnyJ_ready (rs:=[13]) (by kernel_rfl) (by simp) ?_
      refine AllJ.cons (o := ⟨none, .store 90 (.tmp 72) (.tmp 70), 0, "purse.go:32", #[⟨12, .data⟩, ⟨9, .data⟩, ⟨11, .chain⟩, ⟨0, .phase⟩, ⟨1, .phase⟩, ⟨2, .phase⟩, ⟨3, .phase⟩, ⟨4, .phase⟩, ⟨5, .phase⟩, ⟨6, .phase⟩, ⟨7, .phase⟩, ⟨8, .phase⟩, ⟨9, .phase⟩, ⟨10, .phase⟩, ⟨11, .phase⟩], none⟩) rfl (fun K hK => ?_) AllJ.nil
      go_simp
      refine hK.out _ _ (fun h=>by simp at h) ?_
      clear hK K
      try simp only [Act.put,List.setIfInBounds_toArray,List.set_cons_zero,List.set_cons_succ]
      exact wpAnyJ_done (by kernel_rfl) (HEND.out _ _ _ _ M74.out T75.out) _
     exact AllJ.nil
    exact AllJ.nil
   exact AllJ.nil
  exact AllJ.nil
 refine AllJ.cons (o := ⟨some 68, .load 23 (.tmp 10), 23, "purse.go:32", #[], none⟩) rfl (fun K hK => ?_) ?_
 ·
  have y0:=M0.out.t2.c0
  have y1:=M0.out.t2.c1
  go_simp
  refine hK.out _ _ (fun _=>M0.out) ?_
  clear hK K y0 y1
  try simp only [Act.put,List.setIfInBounds_toArray,List.set_cons_zero,List.set_cons_succ]
  refine wpAnyJ_ready (rs:=[3,8]) (by kernel_rfl) (by simp) ?_
  refine AllJ.cons (o := ⟨some 64, .buildSlice 90 1 #[(0, .tmp 63)], 90, "purse.go:32", #[⟨2, .data⟩], none⟩) rfl (fun K hK => ?_) ?_
  ·
   go_simp
   have M84:Hid (Mid Wc P m b1 er en nv (.slice sva pn svc) (.slice bva pn bvc) sp bu (V0.alloc (.cells #[.int .i64 sp.1,.int .i64 sp.2] 23))):=M0.out.gb (gb_none (ba _ _)) hP hm (by simp)
   have T85:Hid (Trio (V0.alloc (.cells #[.int .i64 sp.1,.int .i64 sp.2] 23)) m nv (.slice sva pn svc) (.slice bva pn bvc) ns ss bs):=T0.out.none (gb_none (ba _ _))
   have C86:Hid (TwoB (V0.alloc (.cells #[.int .i64 sp.1,.int .i64 sp.2] 23)) V0.heap.size (.int .i64 sp.1) (.int .i64 sp.2)):=TwoB.new _ _ _ 23 _ rfl
   refine hK.out _ _ (fun _=>M84.out) ?_
   clear hK K
   try simp only [Act.put,List.setIfInBounds_toArray,List.set_cons_zero,List.set_cons_succ]
   obtain ⟨B87,hB87⟩:∃ B87:Nat,B87=V0.heap.size:=⟨_,rfl⟩
   obtain ⟨W83,hW83⟩:∃ W83,W83=(V0.alloc (.cells #[.int .i64 sp.1,.int .i64 sp.2] 23)):=⟨_,rfl⟩
   rw [← hW83,← hB87] at C86 ⊢
   rw [← hW83] at M84 T85
   clear hW83
   have lB87:b1 < B87:=by rw [hB87]; have:=M0.out.t2.lt; omega
   clear hB87
   refine wpAnyJ_ready (rs:=[4,8]) (by kernel_rfl) (by simp) ?_
   refine AllJ.cons (o := ⟨some 65, .call { callee := .builtin .append, args := #[.tmp 62, .tmp 64], argTypes := #[90, 90] }, 90, "purse.go:32", #[⟨1, .data⟩, ⟨3, .data⟩], none⟩) rfl (fun K hK => ?_) ?_
   ·
    have R97:W83.ownsRow m 23 2 (.slice sva pn svc) pn (encQ ss):=by have h:=T85.out.s; rw [HSS.out] at h; exact h
    refine step_append_lies _ rfl _ _ 90 rfl m 23 i31 (.agg #[.int .i64 0,.int .i64 0]) 2 16 Tryz.underlying90 hi31 hq0 hq1 hq2 rfl (by decide) (.slice sva pn svc) pn (encQ ss) rfl R97 ⟨B87,0,none⟩ 1 1 [.int .i64 sp.1,.int .i64 sp.2] rfl rfl (two_news C86.out) ?_ (by decide) (by unfold maxLen; omega) (by omega) (by have:=M84.out.t1.lt; omega) W83.heap.size rfl ?_
    ·intro z hz; simp at hz; rcases hz with rfl | rfl <;> rfl
    intro g91 c92 W88 ho93 hg94 ha95 hl96
    have M89:Hid (Mid Wc P m b1 er en nv (.slice sva pn svc) (.slice bva pn bvc) sp bu W88):=M84.out.gb hg94 hP hm HSL.out
    have T90:Hid (Trio W88 m nv (.slice (some ⟨g91,0,none⟩) (pn + 1) c92) (.slice bva pn bvc) ns (ss ++ [sp]) bs):=T85.out.spent hg94 (by rw [HSS.out]; exact ho93) (ha95.imp (fun h=>h) (fun h=>by rw [h]; rfl))
    refine hK.out _ _ (fun _=>M89.out) ?_
    clear hK K R97 ho93 ha95 hl96 hg94
    try simp only [Act.put,List.setIfInBounds_toArray,List.set_cons_zero,List.set_cons_succ]
    refine wpAnyJ_take (i := 10) (oi := ⟨some 71, .fieldAddr 92 (.tmp 4) 3, 0, "purse.go:32", #[⟨0, .phase⟩, ⟨1, .phase⟩, ⟨2, .phase⟩, ⟨3, .phase⟩, ⟨4, .phase⟩, ⟨5, .phase⟩, ⟨6, .phase⟩, { on := 7, ground := Ground.textOnly Departure.lateStores }, { on := 8, ground := Ground.textOnly Departure.inlinedCapture }, { on := 9, ground := Ground.textOnly Departure.lateStoresUnsure }], none⟩) (v := .pointer (some ⟨P, 3, none⟩)) rfl rfl (waits_of (by kernel_rfl)) (by kernel_rfl) (by kernel_rfl) (by kernel_rfl) (fun _ _ _ h => (hQp _ _ _ h).elim) (Or.inl ⟨by rfl, fun W hS => ?_⟩) M89.out ?_
    ·go_simp
    simp only [Act.put,List.setIfInBounds_toArray,List.set_cons_zero,List.set_cons_succ]
    refine wpAnyJ_ready (rs:=[8]) (by kernel_rfl) (by simp) ?_
    refine AllJ.cons (o := ⟨some 69, .buildSlice 90 1 #[(0, .tmp 68)], 90, "purse.go:32", #[⟨7, .data⟩], none⟩) rfl (fun K hK => ?_) ?_
    ·
     go_simp
     have M99:Hid (Mid Wc P m b1 er en nv (.slice sva pn svc) (.slice bva pn bvc) sp bu (W88.alloc (.cells #[.int .i64 bu.1,.int .i64 bu.2] 23))):=M89.out.gb (gb_none (ba _ _)) hP hm (by simp)
     have T100:Hid (Trio (W88.alloc (.cells #[.int .i64 bu.1,.int .i64 bu.2] 23)) m nv (.slice (some ⟨g91,0,none⟩) (pn + 1) c92) (.slice bva pn bvc) ns (ss ++ [sp]) bs):=T90.out.none (gb_none (ba _ _))
     have C101:Hid (TwoB (W88.alloc (.cells #[.int .i64 bu.1,.int .i64 bu.2] 23)) W88.heap.size (.int .i64 bu.1) (.int .i64 bu.2)):=TwoB.new _ _ _ 23 _ rfl
     refine hK.out _ _ (fun _=>M99.out) ?_
     clear hK K
     try simp only [Act.put,List.setIfInBounds_toArray,List.set_cons_zero,List.set_cons_succ]
     obtain ⟨B102,hB102⟩:∃ B102:Nat,B102=W88.heap.size:=⟨_,rfl⟩
     obtain ⟨W98,hW98⟩:∃ W98,W98=(W88.alloc (.cells #[.int .i64 bu.1,.int .i64 bu.2] 23)):=⟨_,rfl⟩
     rw [← hW98,← hB102] at C101 ⊢
     rw [← hW98] at M99 T100
     clear hW98
     have lB102:b1 < B102:=by rw [hB102]; have:=M89.out.t2.lt; omega
     clear hB102
     refine wpAnyJ_ready (rs:=[9]) (by kernel_rfl) (by simp) ?_
     refine AllJ.cons (o := ⟨some 70, .call { callee := .builtin .append, args := #[.tmp 67, .tmp 69], argTypes := #[90, 90] }, 90, "purse.go:32", #[⟨6, .data⟩, ⟨8, .data⟩, ⟨4, .chain⟩], none⟩) rfl (fun K hK => ?_) ?_
     ·
      have R112:W98.ownsRow m 23 2 (.slice bva pn bvc) pn (encQ bs):=by have h:=T100.out.b; rw [HBS.out] at h; exact h
      refine step_append_lies _ rfl _ _ 90 rfl m 23 i31 (.agg #[.int .i64 0,.int .i64 0]) 2 16 Tryz.underlying90 hi31 hq0 hq1 hq2 rfl (by decide) (.slice bva pn bvc) pn (encQ bs) rfl R112 ⟨B102,0,none⟩ 1 1 [.int .i64 bu.1,.int .i64 bu.2] rfl rfl (two_news C101.out) ?_ (by decide) (by unfold maxLen; omega) (by omega) (by have:=M99.out.t1.lt; omega) W98.heap.size rfl ?_
      ·intro z hz; simp at hz; rcases hz with rfl | rfl <;> rfl
      intro g106 c107 W103 ho108 hg109 ha110 hl111
      have M104:Hid (Mid Wc P m b1 er en nv (.slice sva pn svc) (.slice bva pn bvc) sp bu W103):=M99.out.gb hg109 hP hm HBL.out
      have T105:Hid (Trio W103 m nv (.slice (some ⟨g91,0,none⟩) (pn + 1) c92) (.slice (some ⟨g106,0,none⟩) (pn + 1) c107) ns (ss ++ [sp]) (bs ++ [bu])):=T100.out.bud hg109 (by rw [HBS.out]; exact ho108) (ha110.imp (fun h=>h) (fun h=>by rw [h]; rfl))
      refine hK.out _ _ (fun _=>M104.out) ?_
      clear hK K R112 ho108 ha110 hl111 hg109
      try simp only [Act.put,List.setIfInBounds_toArray,List.set_cons_zero,List.set_cons_succ]
      have z3:=M104.out.six.c3
      have z4:=M104.out.six.c4
      have y3:=M104.out.six.f3
      have y4:=M104.out.six.f4
      refine wpAnyJ_ready (rs:=[11]) (by kernel_rfl) (by simp) ?_
      refine AllJ.cons (o := ⟨none, .store 90 (.tmp 71) (.tmp 65), 0, "purse.go:32", #[⟨10, .data⟩, ⟨4, .data⟩, ⟨9, .chain⟩, ⟨0, .phase⟩, ⟨1, .phase⟩, ⟨2, .phase⟩, ⟨3, .phase⟩, ⟨4, .phase⟩, ⟨5, .phase⟩, ⟨6, .phase⟩, { on := 7, ground := Ground.textOnly Departure.lateStores }, { on := 8, ground := Ground.textOnly Departure.inlinedCapture }, { on := 9, ground := Ground.textOnly Departure.lateStoresUnsure }], none⟩) rfl (fun K hK => ?_) AllJ.nil
      go_simp
      refine hK.out _ _ (fun h=>by simp at h) ?_
      clear hK K
      try simp only [Act.put,List.setIfInBounds_toArray,List.set_cons_zero,List.set_cons_succ]
      refine wpAnyJ_ready (rs:=[12]) (by kernel_rfl) (by simp) ?_
      refine AllJ.cons (o := ⟨some 72, .fieldAddr 92 (.tmp 4) 4, 0, "purse.go:32", #[⟨0, .phase⟩, ⟨1, .phase⟩, ⟨2, .phase⟩, ⟨3, .phase⟩, ⟨4, .phase⟩, ⟨5, .phase⟩, ⟨6, .phase⟩, ⟨7, .phase⟩, ⟨8, .phase⟩, ⟨9, .phase⟩, ⟨10, .phase⟩, ⟨11, .phase⟩], none⟩) rfl (fun K hK => ?_) AllJ.nil
      go_simp
      refine hK.out _ _ (fun h=>by simp at h) ?_
      clear hK K
      try simp only [Act.put,List.setIfInBounds_toArray,List.set_cons_zero,List.set_cons_succ]
      refine wpAnyJ_ready (rs:=[13]) (by kernel_rfl) (by simp) ?_
      refine AllJ.cons (o := ⟨none, .store 90 (.tmp 72) (.tmp 70), 0, "purse.go:32", #[⟨12, .data⟩, ⟨9, .data⟩, ⟨11, .chain⟩, ⟨0, .phase⟩, ⟨1, .phase⟩, ⟨2, .phase⟩, ⟨3, .phase⟩, ⟨4, .phase⟩, ⟨5, .phase⟩, ⟨6, .phase⟩, ⟨7, .phase⟩, ⟨8, .phase⟩, ⟨9, .phase⟩, ⟨10, .phase⟩, ⟨11, .phase⟩], none⟩) rfl (fun K hK => ?_) AllJ.nil
      go_simp
      refine hK.out _ _ (fun h=>by simp at h) ?_
      clear hK K
      try simp only [Act.put,List.setIfInBounds_toArray,List.set_cons_zero,List.set_cons_succ]
      exact wpAnyJ_done (by kernel_rfl) (HEND.out _ _ _ _ M104.out T105.out) _
     exact AllJ.nil
    exact AllJ.nil
   refine AllJ.cons (o := ⟨some 69, .buildSlice 90 1 #[(0, .tmp 68)], 90, "purse.go:32", #[⟨7, .data⟩], none⟩) rfl (fun K hK => ?_) ?_
   ·
    go_simp
    have M114:Hid (Mid Wc P m b1 er en nv (.slice sva pn svc) (.slice bva pn bvc) sp bu (W83.alloc (.cells #[.int .i64 bu.1,.int .i64 bu.2] 23))):=M84.out.gb (gb_none (ba _ _)) hP hm (by simp)
    have T115:Hid (Trio (W83.alloc (.cells #[.int .i64 bu.1,.int .i64 bu.2] 23)) m nv (.slice sva pn svc) (.slice bva pn bvc) ns ss bs):=T85.out.none (gb_none (ba _ _))
    have C116:Hid (TwoB (W83.alloc (.cells #[.int .i64 bu.1,.int .i64 bu.2] 23)) W83.heap.size (.int .i64 bu.1) (.int .i64 bu.2)):=TwoB.new _ _ _ 23 _ rfl
    have C117:Hid (TwoB (W83.alloc (.cells #[.int .i64 bu.1,.int .i64 bu.2] 23)) B87 (.int .i64 sp.1) (.int .i64 sp.2)):=C86.out.below (ba _ _)
    refine hK.out _ _ (fun _=>M114.out) ?_
    clear hK K
    try simp only [Act.put,List.setIfInBounds_toArray,List.set_cons_zero,List.set_cons_succ]
    obtain ⟨B118,hB118⟩:∃ B118:Nat,B118=W83.heap.size:=⟨_,rfl⟩
    obtain ⟨W113,hW113⟩:∃ W113,W113=(W83.alloc (.cells #[.int .i64 bu.1,.int .i64 bu.2] 23)):=⟨_,rfl⟩
    rw [← hW113,← hB118] at C116 ⊢
    rw [← hW113] at M114 T115 C117
    clear hW113
    have lB118:b1 < B118:=by rw [hB118]; have:=M84.out.t2.lt; omega
    clear hB118
    refine wpAnyJ_ready (rs:=[4]) (by kernel_rfl) (by simp) ?_
    refine AllJ.cons (o := ⟨some 65, .call { callee := .builtin .append, args := #[.tmp 62, .tmp 64], argTypes := #[90, 90] }, 90, "purse.go:32", #[⟨1, .data⟩, ⟨3, .data⟩], none⟩) rfl (fun K hK => ?_) ?_
    ·
     have R128:W113.ownsRow m 23 2 (.slice sva pn svc) pn (encQ ss):=by have h:=T115.out.s; rw [HSS.out] at h; exact h
     refine step_append_lies _ rfl _ _ 90 rfl m 23 i31 (.agg #[.int .i64 0,.int .i64 0]) 2 16 Tryz.underlying90 hi31 hq0 hq1 hq2 rfl (by decide) (.slice sva pn svc) pn (encQ ss) rfl R128 ⟨B87,0,none⟩ 1 1 [.int .i64 sp.1,.int .i64 sp.2] rfl rfl (two_news C117.out) ?_ (by decide) (by unfold maxLen; omega) (by omega) (by have:=M114.out.t1.lt; omega) W113.heap.size rfl ?_
     ·intro z hz; simp at hz; rcases hz with rfl | rfl <;> rfl
     intro g122 c123 W119 ho124 hg125 ha126 hl127
     have M120:Hid (Mid Wc P m b1 er en nv (.slice sva pn svc) (.slice bva pn bvc) sp bu W119):=M114.out.gb hg125 hP hm HSL.out
     have T121:Hid (Trio W119 m nv (.slice (some ⟨g122,0,none⟩) (pn + 1) c123) (.slice bva pn bvc) ns (ss ++ [sp]) bs):=T115.out.spent hg125 (by rw [HSS.out]; exact ho124) (ha126.imp (fun h=>h) (fun h=>by rw [h]; rfl))
     have C129:Hid (TwoB W119 B118 (.int .i64 bu.1) (.int .i64 bu.2)):=C116.out.gb hg125 (fun e=>by have:=HSL.out _ e.symm; omega)
     refine hK.out _ _ (fun _=>M120.out) ?_
     clear hK K R128 ho124 ha126 hl127 hg125
     try simp only [Act.put,List.setIfInBounds_toArray,List.set_cons_zero,List.set_cons_succ]
     refine wpAnyJ_take (i := 10) (oi := ⟨some 71, .fieldAddr 92 (.tmp 4) 3, 0, "purse.go:32", #[⟨0, .phase⟩, ⟨1, .phase⟩, ⟨2, .phase⟩, ⟨3, .phase⟩, ⟨4, .phase⟩, ⟨5, .phase⟩, ⟨6, .phase⟩, { on := 7, ground := Ground.textOnly Departure.lateStores }, { on := 8, ground := Ground.textOnly Departure.inlinedCapture }, { on := 9, ground := Ground.textOnly Departure.lateStoresUnsure }], none⟩) (v := .pointer (some ⟨P, 3, none⟩)) rfl rfl (waits_of (by kernel_rfl)) (by kernel_rfl) (by kernel_rfl) (by kernel_rfl) (fun _ _ _ h => (hQp _ _ _ h).elim) (Or.inl ⟨by rfl, fun W hS => ?_⟩) M120.out ?_
     ·go_simp
     simp only [Act.put,List.setIfInBounds_toArray,List.set_cons_zero,List.set_cons_succ]
     refine wpAnyJ_ready (rs:=[9]) (by kernel_rfl) (by simp) ?_
     refine AllJ.cons (o := ⟨some 70, .call { callee := .builtin .append, args := #[.tmp 67, .tmp 69], argTypes := #[90, 90] }, 90, "purse.go:32", #[⟨6, .data⟩, ⟨8, .data⟩, ⟨4, .chain⟩], none⟩) rfl (fun K hK => ?_) ?_
     ·
      have R139:W119.ownsRow m 23 2 (.slice bva pn bvc) pn (encQ bs):=by have h:=T121.out.b; rw [HBS.out] at h; exact h
      refine step_append_lies _ rfl _ _ 90 rfl m 23 i31 (.agg #[.int .i64 0,.int .i64 0]) 2 16 Tryz.underlying90 hi31 hq0 hq1 hq2 rfl (by decide) (.slice bva pn bvc) pn (encQ bs) rfl R139 ⟨B118,0,none⟩ 1 1 [.int .i64 bu.1,.int .i64 bu.2] rfl rfl (two_news C129.out) ?_ (by decide) (by unfold maxLen; omega) (by omega) (by have:=M120.out.t1.lt; omega) W119.heap.size rfl ?_
      ·intro z hz; simp at hz; rcases hz with rfl | rfl <;> rfl
      intro g133 c134 W130 ho135 hg136 ha137 hl138
      have M131:Hid (Mid Wc P m b1 er en nv (.slice sva pn svc) (.slice bva pn bvc) sp bu W130):=M120.out.gb hg136 hP hm HBL.out
      have T132:Hid (Trio W130 m nv (.slice (some ⟨g122,0,none⟩) (pn + 1) c123) (.slice (some ⟨g133,0,none⟩) (pn + 1) c134) ns (ss ++ [sp]) (bs ++ [bu])):=T121.out.bud hg136 (by rw [HBS.out]; exact ho135) (ha137.imp (fun h=>h) (fun h=>by rw [h]; rfl))
      refine hK.out _ _ (fun _=>M131.out) ?_
      clear hK K R139 ho135 ha137 hl138 hg136
      try simp only [Act.put,List.setIfInBounds_toArray,List.set_cons_zero,List.set_cons_succ]
      have z3:=M131.out.six.c3
      have z4:=M131.out.six.c4
      have y3:=M131.out.six.f3
      have y4:=M131.out.six.f4
      refine wpAnyJ_ready (rs:=[11]) (by kernel_rfl) (by simp) ?_
      refine AllJ.cons (o := ⟨none, .store 90 (.tmp 71) (.tmp 65), 0, "purse.go:32", #[⟨10, .data⟩, ⟨4, .data⟩, ⟨9, .chain⟩, ⟨0, .phase⟩, ⟨1, .phase⟩, ⟨2, .phase⟩, ⟨3, .phase⟩, ⟨4, .phase⟩, ⟨5, .phase⟩, ⟨6, .phase⟩, { on := 7, ground := Ground.textOnly Departure.lateStores }, { on := 8, ground := Ground.textOnly Departure.inlinedCapture }, { on := 9, ground := Ground.textOnly Departure.lateStoresUnsure }], none⟩) rfl (fun K hK => ?_) AllJ.nil
      go_simp
      refine hK.out _ _ (fun h=>by simp at h) ?_
      clear hK K
      try simp only [Act.put,List.setIfInBounds_toArray,List.set_cons_zero,List.set_cons_succ]
      refine wpAnyJ_ready (rs:=[12]) (by kernel_rfl) (by simp) ?_
      refine AllJ.cons (o := ⟨some 72, .fieldAddr 92 (.tmp 4) 4, 0, "purse.go:32", #[⟨0, .phase⟩, ⟨1, .phase⟩, ⟨2, .phase⟩, ⟨3, .phase⟩, ⟨4, .phase⟩, ⟨5, .phase⟩, ⟨6, .phase⟩, ⟨7, .phase⟩, ⟨8, .phase⟩, ⟨9, .phase⟩, ⟨10, .phase⟩, ⟨11, .phase⟩], none⟩) rfl (fun K hK => ?_) AllJ.nil
      go_simp
      refine hK.out _ _ (fun h=>by simp at h) ?_
      clear hK K
      try simp only [Act.put,List.setIfInBounds_toArray,List.set_cons_zero,List.set_cons_succ]
      refine wpAnyJ_ready (rs:=[13]) (by kernel_rfl) (by simp) ?_
      refine AllJ.cons (o := ⟨none, .store 90 (.tmp 72) (.tmp 70), 0, "purse.go:32", #[⟨12, .data⟩, ⟨9, .data⟩, ⟨11, .chain⟩, ⟨0, .phase⟩, ⟨1, .phase⟩, ⟨2, .phase⟩, ⟨3, .phase⟩, ⟨4, .phase⟩, ⟨5, .phase⟩, ⟨6, .phase⟩, ⟨7, .phase⟩, ⟨8, .phase⟩, ⟨9, .phase⟩, ⟨10, .phase⟩, ⟨11, .phase⟩], none⟩) rfl (fun K hK => ?_) AllJ.nil
      go_simp
      refine hK.out _ _ (fun h=>by simp at h) ?_
      clear hK K
      try simp only [Act.put,List.setIfInBounds_toArray,List.set_cons_zero,List.set_cons_succ]
      exact wpAnyJ_done (by kernel_rfl) (HEND.out _ _ _ _ M131.out T132.out) _
     exact AllJ.nil
    exact AllJ.nil
   exact AllJ.nil
  refine AllJ.cons (o := ⟨some 69, .buildSlice 90 1 #[(0, .tmp 68)], 90, "purse.go:32", #[⟨7, .data⟩], none⟩) rfl (fun K hK => ?_) ?_
  ·
   go_simp
   have M141:Hid (Mid Wc P m b1 er en nv (.slice sva pn svc) (.slice bva pn bvc) sp bu (V0.alloc (.cells #[.int .i64 bu.1,.int .i64 bu.2] 23))):=M0.out.gb (gb_none (ba _ _)) hP hm (by simp)
   have T142:Hid (Trio (V0.alloc (.cells #[.int .i64 bu.1,.int .i64 bu.2] 23)) m nv (.slice sva pn svc) (.slice bva pn bvc) ns ss bs):=T0.out.none (gb_none (ba _ _))
   have C143:Hid (TwoB (V0.alloc (.cells #[.int .i64 bu.1,.int .i64 bu.2] 23)) V0.heap.size (.int .i64 bu.1) (.int .i64 bu.2)):=TwoB.new _ _ _ 23 _ rfl
   refine hK.out _ _ (fun _=>M141.out) ?_
   clear hK K
   try simp only [Act.put,List.setIfInBounds_toArray,List.set_cons_zero,List.set_cons_succ]
   obtain ⟨B144,hB144⟩:∃ B144:Nat,B144=V0.heap.size:=⟨_,rfl⟩
   obtain ⟨W140,hW140⟩:∃ W140,W140=(V0.alloc (.cells #[.int .i64 bu.1,.int .i64 bu.2] 23)):=⟨_,rfl⟩
   rw [← hW140,← hB144] at C143 ⊢
   rw [← hW140] at M141 T142
   clear hW140
   have lB144:b1 < B144:=by rw [hB144]; have:=M0.out.t2.lt; omega
   clear hB144
   refine wpAnyJ_ready (rs:=[3]) (by kernel_rfl) (by simp) ?_
   refine AllJ.cons (o := ⟨some 64, .buildSlice 90 1 #[(0, .tmp 63)], 90, "purse.go:32", #[⟨2, .data⟩], none⟩) rfl (fun K hK => ?_) ?_
   ·
    go_simp
    have M146:Hid (Mid Wc P m b1 er en nv (.slice sva pn svc) (.slice bva pn bvc) sp bu (W140.alloc (.cells #[.int .i64 sp.1,.int .i64 sp.2] 23))):=M141.out.gb (gb_none (ba _ _)) hP hm (by simp)
    have T147:Hid (Trio (W140.alloc (.cells #[.int .i64 sp.1,.int .i64 sp.2] 23)) m nv (.slice sva pn svc) (.slice bva pn bvc) ns ss bs):=T142.out.none (gb_none (ba _ _))
    have C148:Hid (TwoB (W140.alloc (.cells #[.int .i64 sp.1,.int .i64 sp.2] 23)) W140.heap.size (.int .i64 sp.1) (.int .i64 sp.2)):=TwoB.new _ _ _ 23 _ rfl
    have C149:Hid (TwoB (W140.alloc (.cells #[.int .i64 sp.1,.int .i64 sp.2] 23)) B144 (.int .i64 bu.1) (.int .i64 bu.2)):=C143.out.below (ba _ _)
    refine hK.out _ _ (fun _=>M146.out) ?_
    clear hK K
    try simp only [Act.put,List.setIfInBounds_toArray,List.set_cons_zero,List.set_cons_succ]
    obtain ⟨B150,hB150⟩:∃ B150:Nat,B150=W140.heap.size:=⟨_,rfl⟩
    obtain ⟨W145,hW145⟩:∃ W145,W145=(W140.alloc (.cells #[.int .i64 sp.1,.int .i64 sp.2] 23)):=⟨_,rfl⟩
    rw [← hW145,← hB150] at C148 ⊢
    rw [← hW145] at M146 T147 C149
    clear hW145
    have lB150:b1 < B150:=by rw [hB150]; have:=M141.out.t2.lt; omega
    clear hB150
    refine wpAnyJ_ready (rs:=[4]) (by kernel_rfl) (by simp) ?_
    refine AllJ.cons (o := ⟨some 65, .call { callee := .builtin .append, args := #[.tmp 62, .tmp 64], argTypes := #[90, 90] }, 90, "purse.go:32", #[⟨1, .data⟩, ⟨3, .data⟩], none⟩) rfl (fun K hK => ?_) ?_
    ·
     have R160:W145.ownsRow m 23 2 (.slice sva pn svc) pn (encQ ss):=by have h:=T147.out.s; rw [HSS.out] at h; exact h
     refine step_append_lies _ rfl _ _ 90 rfl m 23 i31 (.agg #[.int .i64 0,.int .i64 0]) 2 16 Tryz.underlying90 hi31 hq0 hq1 hq2 rfl (by decide) (.slice sva pn svc) pn (encQ ss) rfl R160 ⟨B150,0,none⟩ 1 1 [.int .i64 sp.1,.int .i64 sp.2] rfl rfl (two_news C148.out) ?_ (by decide) (by unfold maxLen; omega) (by omega) (by have:=M146.out.t1.lt; omega) W145.heap.size rfl ?_
     ·intro z hz; simp at hz; rcases hz with rfl | rfl <;> rfl
     intro g154 c155 W151 ho156 hg157 ha158 hl159
     have M152:Hid (Mid Wc P m b1 er en nv (.slice sva pn svc) (.slice bva pn bvc) sp bu W151):=M146.out.gb hg157 hP hm HSL.out
     have T153:Hid (Trio W151 m nv (.slice (some ⟨g154,0,none⟩) (pn + 1) c155) (.slice bva pn bvc) ns (ss ++ [sp]) bs):=T147.out.spent hg157 (by rw [HSS.out]; exact ho156) (ha158.imp (fun h=>h) (fun h=>by rw [h]; rfl))
     have C161:Hid (TwoB W151 B144 (.int .i64 bu.1) (.int .i64 bu.2)):=C149.out.gb hg157 (fun e=>by have:=HSL.out _ e.symm; omega)
     refine hK.out _ _ (fun _=>M152.out) ?_
     clear hK K R160 ho156 ha158 hl159 hg157
     try simp only [Act.put,List.setIfInBounds_toArray,List.set_cons_zero,List.set_cons_succ]
     refine wpAnyJ_take (i := 10) (oi := ⟨some 71, .fieldAddr 92 (.tmp 4) 3, 0, "purse.go:32", #[⟨0, .phase⟩, ⟨1, .phase⟩, ⟨2, .phase⟩, ⟨3, .phase⟩, ⟨4, .phase⟩, ⟨5, .phase⟩, ⟨6, .phase⟩, { on := 7, ground := Ground.textOnly Departure.lateStores }, { on := 8, ground := Ground.textOnly Departure.inlinedCapture }, { on := 9, ground := Ground.textOnly Departure.lateStoresUnsure }], none⟩) (v := .pointer (some ⟨P, 3, none⟩)) rfl rfl (waits_of (by kernel_rfl)) (by kernel_rfl) (by kernel_rfl) (by kernel_rfl) (fun _ _ _ h => (hQp _ _ _ h).elim) (Or.inl ⟨by rfl, fun W hS => ?_⟩) M152.out ?_
     ·go_simp
     simp only [Act.put,List.setIfInBounds_toArray,List.set_cons_zero,List.set_cons_succ]
     refine wpAnyJ_ready (rs:=[9]) (by kernel_rfl) (by simp) ?_
     refine AllJ.cons (o := ⟨some 70, .call { callee := .builtin .append, args := #[.tmp 67, .tmp 69], argTypes := #[90, 90] }, 90, "purse.go:32", #[⟨6, .data⟩, ⟨8, .data⟩, ⟨4, .chain⟩], none⟩) rfl (fun K hK => ?_) ?_
     ·
      have R171:W151.ownsRow m 23 2 (.slice bva pn bvc) pn (encQ bs):=by have h:=T153.out.b; rw [HBS.out] at h; exact h
      refine step_append_lies _ rfl _ _ 90 rfl m 23 i31 (.agg #[.int .i64 0,.int .i64 0]) 2 16 Tryz.underlying90 hi31 hq0 hq1 hq2 rfl (by decide) (.slice bva pn bvc) pn (encQ bs) rfl R171 ⟨B144,0,none⟩ 1 1 [.int .i64 bu.1,.int .i64 bu.2] rfl rfl (two_news C161.out) ?_ (by decide) (by unfold maxLen; omega) (by omega) (by have:=M152.out.t1.lt; omega) W151.heap.size rfl ?_
      ·intro z hz; simp at hz; rcases hz with rfl | rfl <;> rfl
      intro g165 c166 W162 ho167 hg168 ha169 hl170
      have M163:Hid (Mid Wc P m b1 er en nv (.slice sva pn svc) (.slice bva pn bvc) sp bu W162):=M152.out.gb hg168 hP hm HBL.out
      have T164:Hid (Trio W162 m nv (.slice (some ⟨g154,0,none⟩) (pn + 1) c155) (.slice (some ⟨g165,0,none⟩) (pn + 1) c166) ns (ss ++ [sp]) (bs ++ [bu])):=T153.out.bud hg168 (by rw [HBS.out]; exact ho167) (ha169.imp (fun h=>h) (fun h=>by rw [h]; rfl))
      refine hK.out _ _ (fun _=>M163.out) ?_
      clear hK K R171 ho167 ha169 hl170 hg168
      try simp only [Act.put,List.setIfInBounds_toArray,List.set_cons_zero,List.set_cons_succ]
      have z3:=M163.out.six.c3
      have z4:=M163.out.six.c4
      have y3:=M163.out.six.f3
      have y4:=M163.out.six.f4
      refine wpAnyJ_ready (rs:=[11]) (by kernel_rfl) (by simp) ?_
      refine AllJ.cons (o := ⟨none, .store 90 (.tmp 71) (.tmp 65), 0, "purse.go:32", #[⟨10, .data⟩, ⟨4, .data⟩, ⟨9, .chain⟩, ⟨0, .phase⟩, ⟨1, .phase⟩, ⟨2, .phase⟩, ⟨3, .phase⟩, ⟨4, .phase⟩, ⟨5, .phase⟩, ⟨6, .phase⟩, { on := 7, ground := Ground.textOnly Departure.lateStores }, { on := 8, ground := Ground.textOnly Departure.inlinedCapture }, { on := 9, ground := Ground.textOnly Departure.lateStoresUnsure }], none⟩) rfl (fun K hK => ?_) AllJ.nil
      go_simp
      refine hK.out _ _ (fun h=>by simp at h) ?_
      clear hK K
      try simp only [Act.put,List.setIfInBounds_toArray,List.set_cons_zero,List.set_cons_succ]
      refine wpAnyJ_ready (rs:=[12]) (by kernel_rfl) (by simp) ?_
      refine AllJ.cons (o := ⟨some 72, .fieldAddr 92 (.tmp 4) 4, 0, "purse.go:32", #[⟨0, .phase⟩, ⟨1, .phase⟩, ⟨2, .phase⟩, ⟨3, .phase⟩, ⟨4, .phase⟩, ⟨5, .phase⟩, ⟨6, .phase⟩, ⟨7, .phase⟩, ⟨8, .phase⟩, ⟨9, .phase⟩, ⟨10, .phase⟩, ⟨11, .phase⟩], none⟩) rfl (fun K hK => ?_) AllJ.nil
      go_simp
      refine hK.out _ _ (fun h=>by simp at h) ?_
      clear hK K
      try simp only [Act.put,List.setIfInBounds_toArray,List.set_cons_zero,List.set_cons_succ]
      refine wpAnyJ_ready (rs:=[13]) (by kernel_rfl) (by simp) ?_
      refine AllJ.cons (o := ⟨none, .store 90 (.tmp 72) (.tmp 70), 0, "purse.go:32", #[⟨12, .data⟩, ⟨9, .data⟩, ⟨11, .chain⟩, ⟨0, .phase⟩, ⟨1, .phase⟩, ⟨2, .phase⟩, ⟨3, .phase⟩, ⟨4, .phase⟩, ⟨5, .phase⟩, ⟨6, .phase⟩, ⟨7, .phase⟩, ⟨8, .phase⟩, ⟨9, .phase⟩, ⟨10, .phase⟩, ⟨11, .phase⟩], none⟩) rfl (fun K hK => ?_) AllJ.nil
      go_simp
      refine hK.out _ _ (fun h=>by simp at h) ?_
      clear hK K
      try simp only [Act.put,List.setIfInBounds_toArray,List.set_cons_zero,List.set_cons_succ]
      exact wpAnyJ_done (by kernel_rfl) (HEND.out _ _ _ _ M163.out T164.out) _
     exact AllJ.nil
    exact AllJ.nil
   exact AllJ.nil
  exact AllJ.nil
 exact AllJ.nil
end Go.Proofs.YtlndlpjadajelaaGreat.K.P

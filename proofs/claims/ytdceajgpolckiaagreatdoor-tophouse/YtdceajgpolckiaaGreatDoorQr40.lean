import Derived.Test.YtdceajgpolckiaaGreatDoorQr39
import Derived.Test.YtdceajgpolckiaaGreatDoorQr29
open Go.Proofs.Tryz
set_option linter.unusedSimpArgs false
set_option maxHeartbeats 16000000
set_option maxRecDepth 100000
namespace Go.Proofs.YtdceajgpolckiaaGreatDoor
variable {V1 W w w':World} {B b base base' bh fuel h i l n sz:Nat} {cv v x y:Value} {ops:Array Oper} {o:Oper} {a:Act} {K M M' N N':Nat->Prop} {Q:Exit->Act->World->Prop} {E:Prop} {s:Operand} {P:Program} {S:World->Prop} {J:Nat->Bool} {listed:Array Bool} {t:TypeId} {xs:List Value} {ts:List (List Int)}
namespace K.P
open Go.RowKit Go.Shelf K.Ds
attribute [local go_sem] Oper.semAt_some
theorem enJ (h:TwoB W b x y):∀ j u,[x,y][j]? = some u->W.cell? ((⟨b,0,none⟩:Addr).add j)=some u:=by
 intro j u hj;have hadd:(⟨b,0,none⟩:Addr).add j=⟨b,j,none⟩:=by unfold Addr.add;split <;> simp_all
 rw[hadd];have hj2:j<2:=by have:=(cQ.1 hj).1;simpa using this
 rcases (by omega:j=0\/j=1) with rfl|rfl
 ·simp at hj;subst hj;exact h.c0
 ·simp at hj;subst hj;exact h.c1
theorem pF {K:Act->World->Prop}{x:Operand}{m:Nat}{ss:List Rq}{sp:Rq}(hgd:o.guard=none)(ho:o.op=.call { callee:=.builtin .append,args:=#[s,x],argTypes:=#[101,101] })(hs:a.eval s=v)(hR:W.ownsRow m 32 2 v ss.length (oF ss))(hl:ss.length=n)(hn:n<64)(hx:a.eval x=.slice (some ⟨B,0,none⟩) 1 1)(hC:TwoB W B (.int .i64 sp.1) (.int .i64 sp.2))(hm:m<=W.heap.size)(h:∀ g cap w',w'.ownsRow m 32 2 (.slice (some ⟨g,0,none⟩) (n+1) cap) (n+1) (oF ss++[.int .i64 sp.1,.int .i64 sp.2])->W.grownBy w' v.ownBlock->(v.ownBlock=some g\/g=W.heap.size)->g<w'.heap.size->K (a.put o.dst (.slice (some ⟨g,0,none⟩) (n+1) cap)) w') :
  if Region.wanted o (yielded ops a.tmps)=true then Oper.wp prog o a W K Q else E:=by
 obtain⟨i31,hi31,hq0,hq1,hq2⟩:=zV bmJ;rw[hl] at hR;refine step_append_lies _ hgd _ _ 101 ho m 32 i31 (.agg #[.int .i64 0,.int .i64 0]) 2 16 underlying101 hi31 hq0 hq1 hq2 rfl (by decide) _ n (oF ss) hs hR ⟨B,0,none⟩ 1 1 [.int .i64 sp.1,.int .i64 sp.2] hx rfl (enJ hC) ?_ (by decide) (by unfold maxLen;omega) (by omega) hm W.heap.size rfl h;intro z hz;simp at hz;rcases hz with rfl|rfl <;> rfl
theorem oJ {md:Region.Mode}(i:Nat)(hr:Region.ready md ops listed=[i])(ho:ops[i]? = some o)
  (h:∀ K':Act->World->Prop,Shut (∀ a w,(J i=true->S w)->gG P md ops Q S J fuel (listed.setIfInBounds i true) a w->K' a w)->if Region.wanted o (yielded ops a.tmps)=true then Oper.wp P o a w K' Q else K' (a.put o.dst undef) w):gG P md ops Q S J (fuel+1) listed a w :=
 zU hr (by simp) (kX.cons ho h kX.nil)
set_option linter.unusedSimpArgs false in
theorem eoQ (hQo:¬ LetsOut Q)(hQp:∀ c a w,Q (.panic c) a w->False)(t0 t1 t2 t3 t5 t6 t7 t8 t11 t12 t13 t14 t15 t16 t17 t18 t19 t20 t21 t22 t23 t24 t25 t26 t27 t28 t29 t30 t31 t32 t33 t34 t35 t36 t37 t38 t39 t40 t41 t42 t43 t44 t45 t46 t47 t48 t49 t50 t51 t52 t53 t54 t55 t56 t57 t58 t59 t60 t61 t62 t63 t64 t65 t66 t67 t68 t69 t70 t71 t72 t73 t74 t75 t76 t77 t78 t79 t80 t81 t82 t83 t84 t85 t86 t87 t88 t89:Value)(Wc A5:World)(P m b1 pn:Nat)(er en nv:Value)(sva bva:Option Addr)(svc bvc:Nat)(ns:List (List UInt8))(ss bs:List Rq)(sp bu:Rq)
  (hpn:pn<64) (hss:ss.length=pn) (hbs:bs.length=pn) (hP:P<m) (hm:m<=b1) (hM:Mid Wc P m b1 er en nv (.slice sva pn svc) (.slice bva pn bvc) sp bu A5) (hT:Trio A5 m nv (.slice sva pn svc) (.slice bva pn bvc) ns ss bs)
  (hsl:∀ g,((.slice sva pn svc):Value).ownBlock=some g->m<=g/\g<b1) (hbl:∀ g,((.slice bva pn bvc):Value).ownBlock=some g->m<=g/\g<b1)
  (hEnd:∀ a' Wf sv' bv',Mid Wc P m b1 er en nv (.slice sva pn svc) (.slice bva pn bvc) sp bu Wf->Trio Wf m nv sv' bv' ns (ss++[sp]) (bs++[bu])->Q .normal a' ((Wf.setCell ⟨P,3,none⟩ sv').setCell ⟨P,4,none⟩ bv')) :
  (Code.region 16 #[⟨some 61, .fieldAddr 103 (.tmp 4) 3, 0, "purse.go:32", #[], none⟩, ⟨some 62, .load 101 (.tmp 61), 101, "purse.go:32", #[⟨0, .data⟩], none⟩, ⟨some 63, .load 32 (.tmp 9), 32, "purse.go:32", #[], none⟩, ⟨some 64, .buildSlice 101 1 #[(0, .tmp 63)], 101, "purse.go:32", #[⟨2, .data⟩], none⟩, ⟨some 65, .call { callee := .builtin .append, args := #[.tmp 62, .tmp 64], argTypes := #[101, 101] }, 101, "purse.go:32", #[⟨1, .data⟩, ⟨3, .data⟩], none⟩, ⟨some 66, .fieldAddr 103 (.tmp 4) 4, 0, "purse.go:32", #[], none⟩, ⟨some 67, .load 101 (.tmp 66), 101, "purse.go:32", #[⟨5, .data⟩], none⟩, ⟨some 68, .load 32 (.tmp 10), 32, "purse.go:32", #[], none⟩, ⟨some 69, .buildSlice 101 1 #[(0, .tmp 68)], 101, "purse.go:32", #[⟨7, .data⟩], none⟩, ⟨some 70, .call { callee := .builtin .append, args := #[.tmp 67, .tmp 69], argTypes := #[101, 101] }, 101, "purse.go:32", #[⟨6, .data⟩, ⟨8, .data⟩, ⟨4, .chain⟩], none⟩, ⟨some 71, .fieldAddr 103 (.tmp 4) 3, 0, "purse.go:32", #[⟨0, .phase⟩, ⟨1, .phase⟩, ⟨2, .phase⟩, ⟨3, .phase⟩, ⟨4, .phase⟩, ⟨5, .phase⟩, ⟨6, .phase⟩, { on := 7, ground := Ground.textOnly Departure.lateStores }, { on := 8, ground := Ground.textOnly Departure.inlinedCapture }, { on := 9, ground := Ground.textOnly Departure.lateStoresUnsure }], none⟩, ⟨none, .store 101 (.tmp 71) (.tmp 65), 0, "purse.go:32", #[⟨10, .data⟩, ⟨4, .data⟩, ⟨9, .chain⟩, ⟨0, .phase⟩, ⟨1, .phase⟩, ⟨2, .phase⟩, ⟨3, .phase⟩, ⟨4, .phase⟩, ⟨5, .phase⟩, ⟨6, .phase⟩, { on := 7, ground := Ground.textOnly Departure.lateStores }, { on := 8, ground := Ground.textOnly Departure.inlinedCapture }, { on := 9, ground := Ground.textOnly Departure.lateStoresUnsure }], none⟩, ⟨some 72, .fieldAddr 103 (.tmp 4) 4, 0, "purse.go:32", #[⟨0, .phase⟩, ⟨1, .phase⟩, ⟨2, .phase⟩, ⟨3, .phase⟩, ⟨4, .phase⟩, ⟨5, .phase⟩, ⟨6, .phase⟩, ⟨7, .phase⟩, ⟨8, .phase⟩, ⟨9, .phase⟩, ⟨10, .phase⟩, ⟨11, .phase⟩], none⟩, ⟨none, .store 101 (.tmp 72) (.tmp 70), 0, "purse.go:32", #[⟨12, .data⟩, ⟨9, .data⟩, ⟨11, .chain⟩, ⟨0, .phase⟩, ⟨1, .phase⟩, ⟨2, .phase⟩, ⟨3, .phase⟩, ⟨4, .phase⟩, ⟨5, .phase⟩, ⟨6, .phase⟩, ⟨7, .phase⟩, ⟨8, .phase⟩, ⟨9, .phase⟩, ⟨10, .phase⟩, ⟨11, .phase⟩], none⟩] true).wpIn (Fence.wide.inRound l) n prog Q { tmps := #[t0, t1, t2, t3, .pointer (some ⟨P, 0, none⟩), t5, t6, t7, t8, .pointer (some ⟨b1, 0, none⟩), .pointer (some ⟨b1 + 1, 0, none⟩), t11, t12, t13, t14, t15, t16, t17, t18, t19, t20, t21, t22, t23, t24, t25, t26, t27, t28, t29, t30, t31, t32, t33, t34, t35, t36, t37, t38, t39, t40, t41, t42, t43, t44, t45, t46, t47, t48, t49, t50, t51, t52, t53, t54, t55, t56, t57, t58, t59, t60, t61, t62, t63, t64, t65, t66, t67, t68, t69, t70, t71, t72, t73, t74, t75, t76, t77, t78, t79, t80, t81, t82, t83, t84, t85, t86, t87, t88, t89], defers := [] } A5 := by
 have HEND:=qQ hEnd;have M0:Hid (Mid Wc P m b1 er en nv (.slice sva pn svc) (.slice bva pn bvc) sp bu A5.drew):=hM.gb (gJ (jX _ none)) hP hm (by simp);have T0:Hid (Trio A5.drew m nv (.slice sva pn svc) (.slice bva pn bvc) ns ss bs):=hT.none (gJ (jX _ none));have HSL:Hid (∀ g,((.slice sva pn svc):Value).ownBlock=some g->m<=g/\g<b1):=hsl;have HBL:Hid (∀ g,((.slice bva pn bvc):Value).ownBlock=some g->m<=g/\g<b1):=hbl;have HSS:Hid (ss.length=pn):=hss;have HBS:Hid (bs.length=pn):=hbs;clear hEnd hM hT hsl hbl hss hbs;obtain⟨V0,hV0⟩:∃ V0,A5.drew=V0:=⟨_,rfl⟩;rw[hV0] at M0 T0
 refine egZ (S:=Mid Wc P m b1 er en nv (.slice sva pn svc) (.slice bva pn bvc) sp bu) (J:=fun j=>decide (j<11)) (by kernel_rfl) ?hd hQo ?_
 case hd =>
  intro j oj hj c hc;have hlt:j<14:=(yJ.1 hj).1;rcases (by omega:j=0\/j=1\/j=2\/j=3\/j=4\/j=5\/j=6\/j=7\/j=8\/j=9\/j=10\/j=11\/j=12\/j=13) with rfl|rfl|rfl|rfl|rfl|rfl|rfl|rfl|rfl|rfl|rfl|rfl|rfl|rfl <;> (simp at hj;subst hj;cases hc)
 rw[hV0];clear hV0;refine tk 0 (.pointer (some ⟨P,3,none⟩)) rfl rfl (by kernel_rfl) (fun _ _ _ h=>(hQp _ _ _ h).elim) ⟨by rfl,fun W hS=>?_⟩ M0.out ?_
 ·go_simp
 simp only[Act.put,zA,zB,zC];refine tk 1 ((.slice sva pn svc)) rfl rfl (by kernel_rfl) (fun _ _ _ h=>(hQp _ _ _ h).elim) ⟨by rfl,fun W hS=>?_⟩ M0.out ?_
 ·have z:=hS.six.c3;go_simp
 simp only[Act.put,zA,zB,zC];refine tk 2 (.agg #[.int .i64 sp.1,.int .i64 sp.2]) rfl rfl (by kernel_rfl) (fun _ _ _ h=>(hQp _ _ _ h).elim) ⟨by rfl,fun W hS=>?_⟩ M0.out ?_
 ·have z:=hS.t1.c0;have z1:=hS.t1.c1;go_simp
 simp only[Act.put,zA,zB,zC];refine tk 5 (.pointer (some ⟨P,4,none⟩)) rfl rfl (by kernel_rfl) (fun _ _ _ h=>(hQp _ _ _ h).elim) ⟨by rfl,fun W hS=>?_⟩ M0.out ?_
 ·go_simp
 simp only[Act.put,zA,zB,zC];refine tk 6 ((.slice bva pn bvc)) rfl rfl (by kernel_rfl) (fun _ _ _ h=>(hQp _ _ _ h).elim) ⟨by rfl,fun W hS=>?_⟩ M0.out ?_
 ·have z:=hS.six.c4;go_simp
 simp only[Act.put,zA,zB,zC];refine zU (rs:=[3,7]) (by kernel_rfl) (by simp) ?_;refine kX.cons (o:=_) rfl (fun K hK=>?_) ?_
 ·
  go_simp;have M2:Hid (Mid Wc P m b1 er en nv (.slice sva pn svc) (.slice bva pn bvc) sp bu (V0.alloc (.cells #[.int .i64 sp.1,.int .i64 sp.2] 32))):=M0.out.gb (wX (ba _ _)) hP hm (by simp);have T3:Hid (Trio (V0.alloc (.cells #[.int .i64 sp.1,.int .i64 sp.2] 32)) m nv (.slice sva pn svc) (.slice bva pn bvc) ns ss bs):=T0.out.none (wX (ba _ _));have C4:Hid (TwoB (V0.alloc (.cells #[.int .i64 sp.1,.int .i64 sp.2] 32)) V0.heap.size (.int .i64 sp.1) (.int .i64 sp.2)):=TwoB.new _ _ _ 32 _ rfl;refine hK.out _ _ (fun _=>M2.out) ?_;clear hK K
  try simp only[Act.put,zA,zB,zC]
  obtain⟨B5,hB5⟩:∃ B5:Nat,B5=V0.heap.size:=⟨_,rfl⟩;obtain⟨W1,hW1⟩:∃ W1,W1=(V0.alloc (.cells #[.int .i64 sp.1,.int .i64 sp.2] 32)):=⟨_,rfl⟩;rw[<-hW1,<-hB5] at C4 ⊢;rw[<-hW1] at M2 T3;clear hW1;have lB5:b1<B5:=by rw[hB5];have:=M0.out.t2.lt;omega
  clear hB5;refine zU (rs:=[4,7]) (by kernel_rfl) (by simp) ?_;refine kX.cons (o:=_) rfl (fun K hK=>?_) ?_
  ·
   refine pF rfl rfl rfl T3.out.s HSS.out hpn rfl C4.out (by have:=M2.out.t1.lt;omega) ?_;intro g9 c10 W6 ho11 hg12 ha13 hl14;have M7:Hid (Mid Wc P m b1 er en nv (.slice sva pn svc) (.slice bva pn bvc) sp bu W6):=M2.out.gb hg12 hP hm HSL.out;have T8:Hid (Trio W6 m nv (.slice (some ⟨g9,0,none⟩) (pn+1) c10) (.slice bva pn bvc) ns (ss++[sp]) bs):=T3.out.spent hg12 (by rw[HSS.out];exact ho11) (ha13.imp (fun h=>h) (fun h=>by rw[h];rfl));refine hK.out _ _ (fun _=>M7.out) ?_;clear hK K ho11 ha13 hl14 hg12
   try simp only[Act.put,zA,zB,zC]
   refine tk 10 (.pointer (some ⟨P,3,none⟩)) rfl rfl (by kernel_rfl) (fun _ _ _ h=>(hQp _ _ _ h).elim) ⟨by rfl,fun W hS=>?_⟩ M7.out ?_
   ·go_simp
   simp only[Act.put,zA,zB,zC];refine oJ 7 (by kernel_rfl) rfl (fun K hK=>?_);have y0:=M7.out.t2.c0;have y1:=M7.out.t2.c1;go_simp;refine hK.out _ _ (fun _=>M7.out) ?_;clear hK K y0 y1
   try simp only[Act.put,zA,zB,zC]
   refine oJ 8 (by kernel_rfl) rfl (fun K hK=>?_);go_simp;have M17:Hid (Mid Wc P m b1 er en nv (.slice sva pn svc) (.slice bva pn bvc) sp bu (W6.alloc (.cells #[.int .i64 bu.1,.int .i64 bu.2] 32))):=M7.out.gb (wX (ba _ _)) hP hm (by simp);have T18:Hid (Trio (W6.alloc (.cells #[.int .i64 bu.1,.int .i64 bu.2] 32)) m nv (.slice (some ⟨g9,0,none⟩) (pn+1) c10) (.slice bva pn bvc) ns (ss++[sp]) bs):=T8.out.none (wX (ba _ _));have C19:Hid (TwoB (W6.alloc (.cells #[.int .i64 bu.1,.int .i64 bu.2] 32)) W6.heap.size (.int .i64 bu.1) (.int .i64 bu.2)):=TwoB.new _ _ _ 32 _ rfl;refine hK.out _ _ (fun _=>M17.out) ?_;clear hK K
   try simp only[Act.put,zA,zB,zC]
   obtain⟨B20,hB20⟩:∃ B20:Nat,B20=W6.heap.size:=⟨_,rfl⟩;obtain⟨W16,hW16⟩:∃ W16,W16=(W6.alloc (.cells #[.int .i64 bu.1,.int .i64 bu.2] 32)):=⟨_,rfl⟩;rw[<-hW16,<-hB20] at C19 ⊢;rw[<-hW16] at M17 T18;clear hW16;have lB20:b1<B20:=by rw[hB20];have:=M7.out.t2.lt;omega
   clear hB20;refine oJ 9 (by kernel_rfl) rfl (fun K hK=>?_);refine pF rfl rfl rfl T18.out.b HBS.out hpn rfl C19.out (by have:=M17.out.t1.lt;omega) ?_;intro g24 c25 W21 ho26 hg27 ha28 hl29;have M22:Hid (Mid Wc P m b1 er en nv (.slice sva pn svc) (.slice bva pn bvc) sp bu W21):=M17.out.gb hg27 hP hm HBL.out;have T23:Hid (Trio W21 m nv (.slice (some ⟨g9,0,none⟩) (pn+1) c10) (.slice (some ⟨g24,0,none⟩) (pn+1) c25) ns (ss++[sp]) (bs++[bu])):=T18.out.bud hg27 (by rw[HBS.out];exact ho26) (ha28.imp (fun h=>h) (fun h=>by rw[h];rfl));refine hK.out _ _ (fun _=>M22.out) ?_;clear hK K ho26 ha28 hl29 hg27
   try simp only[Act.put,zA,zB,zC]
   have z3:=M22.out.six.c3;have z4:=M22.out.six.c4;have y3:=M22.out.six.f3;have y4:=M22.out.six.f4;refine oJ 11 (by kernel_rfl) rfl (fun K hK=>?_);go_simp;refine hK.out _ _ (fun h=>by simp at h) ?_;clear hK K
   try simp only[Act.put,zA,zB,zC]
   refine oJ 12 (by kernel_rfl) rfl (fun K hK=>?_);go_simp;refine hK.out _ _ (fun h=>by simp at h) ?_;clear hK K
   try simp only[Act.put,zA,zB,zC]
   refine oJ 13 (by kernel_rfl) rfl (fun K hK=>?_);go_simp;refine hK.out _ _ (fun h=>by simp at h) ?_;clear hK K
   try simp only[Act.put,zA,zB,zC]
   exact sH (by kernel_rfl) (HEND.out _ _ _ _ M22.out T23.out) _
  refine kX.cons (o:=_) rfl (fun K hK=>?_) ?_
  ·
   have y0:=M2.out.t2.c0;have y1:=M2.out.t2.c1;go_simp;refine hK.out _ _ (fun _=>M2.out) ?_;clear hK K y0 y1
   try simp only[Act.put,zA,zB,zC]
   refine zU (rs:=[4,8]) (by kernel_rfl) (by simp) ?_;refine kX.cons (o:=_) rfl (fun K hK=>?_) ?_
   ·
    refine pF rfl rfl rfl T3.out.s HSS.out hpn rfl C4.out (by have:=M2.out.t1.lt;omega) ?_;intro g34 c35 W31 ho36 hg37 ha38 hl39;have M32:Hid (Mid Wc P m b1 er en nv (.slice sva pn svc) (.slice bva pn bvc) sp bu W31):=M2.out.gb hg37 hP hm HSL.out;have T33:Hid (Trio W31 m nv (.slice (some ⟨g34,0,none⟩) (pn+1) c35) (.slice bva pn bvc) ns (ss++[sp]) bs):=T3.out.spent hg37 (by rw[HSS.out];exact ho36) (ha38.imp (fun h=>h) (fun h=>by rw[h];rfl));refine hK.out _ _ (fun _=>M32.out) ?_;clear hK K ho36 ha38 hl39 hg37
    try simp only[Act.put,zA,zB,zC]
    refine tk 10 (.pointer (some ⟨P,3,none⟩)) rfl rfl (by kernel_rfl) (fun _ _ _ h=>(hQp _ _ _ h).elim) ⟨by rfl,fun W hS=>?_⟩ M32.out ?_
    ·go_simp
    simp only[Act.put,zA,zB,zC];refine oJ 8 (by kernel_rfl) rfl (fun K hK=>?_);go_simp;have M42:Hid (Mid Wc P m b1 er en nv (.slice sva pn svc) (.slice bva pn bvc) sp bu (W31.alloc (.cells #[.int .i64 bu.1,.int .i64 bu.2] 32))):=M32.out.gb (wX (ba _ _)) hP hm (by simp);have T43:Hid (Trio (W31.alloc (.cells #[.int .i64 bu.1,.int .i64 bu.2] 32)) m nv (.slice (some ⟨g34,0,none⟩) (pn+1) c35) (.slice bva pn bvc) ns (ss++[sp]) bs):=T33.out.none (wX (ba _ _));have C44:Hid (TwoB (W31.alloc (.cells #[.int .i64 bu.1,.int .i64 bu.2] 32)) W31.heap.size (.int .i64 bu.1) (.int .i64 bu.2)):=TwoB.new _ _ _ 32 _ rfl;refine hK.out _ _ (fun _=>M42.out) ?_;clear hK K
    try simp only[Act.put,zA,zB,zC]
    obtain⟨B45,hB45⟩:∃ B45:Nat,B45=W31.heap.size:=⟨_,rfl⟩;obtain⟨W41,hW41⟩:∃ W41,W41=(W31.alloc (.cells #[.int .i64 bu.1,.int .i64 bu.2] 32)):=⟨_,rfl⟩;rw[<-hW41,<-hB45] at C44 ⊢;rw[<-hW41] at M42 T43;clear hW41;have lB45:b1<B45:=by rw[hB45];have:=M32.out.t2.lt;omega
    clear hB45;refine oJ 9 (by kernel_rfl) rfl (fun K hK=>?_);refine pF rfl rfl rfl T43.out.b HBS.out hpn rfl C44.out (by have:=M42.out.t1.lt;omega) ?_;intro g49 c50 W46 ho51 hg52 ha53 hl54;have M47:Hid (Mid Wc P m b1 er en nv (.slice sva pn svc) (.slice bva pn bvc) sp bu W46):=M42.out.gb hg52 hP hm HBL.out;have T48:Hid (Trio W46 m nv (.slice (some ⟨g34,0,none⟩) (pn+1) c35) (.slice (some ⟨g49,0,none⟩) (pn+1) c50) ns (ss++[sp]) (bs++[bu])):=T43.out.bud hg52 (by rw[HBS.out];exact ho51) (ha53.imp (fun h=>h) (fun h=>by rw[h];rfl));refine hK.out _ _ (fun _=>M47.out) ?_;clear hK K ho51 ha53 hl54 hg52
    try simp only[Act.put,zA,zB,zC]
    have z3:=M47.out.six.c3;have z4:=M47.out.six.c4;have y3:=M47.out.six.f3;have y4:=M47.out.six.f4;refine oJ 11 (by kernel_rfl) rfl (fun K hK=>?_);go_simp;refine hK.out _ _ (fun h=>by simp at h) ?_;clear hK K
    try simp only[Act.put,zA,zB,zC]
    refine oJ 12 (by kernel_rfl) rfl (fun K hK=>?_);go_simp;refine hK.out _ _ (fun h=>by simp at h) ?_;clear hK K
    try simp only[Act.put,zA,zB,zC]
    refine oJ 13 (by kernel_rfl) rfl (fun K hK=>?_);go_simp;refine hK.out _ _ (fun h=>by simp at h) ?_;clear hK K
    try simp only[Act.put,zA,zB,zC]
    exact sH (by kernel_rfl) (HEND.out _ _ _ _ M47.out T48.out) _
   refine kX.cons (o:=_) rfl (fun K hK=>?_) ?_
   ·
    go_simp;have M57:Hid (Mid Wc P m b1 er en nv (.slice sva pn svc) (.slice bva pn bvc) sp bu (W1.alloc (.cells #[.int .i64 bu.1,.int .i64 bu.2] 32))):=M2.out.gb (wX (ba _ _)) hP hm (by simp);have T58:Hid (Trio (W1.alloc (.cells #[.int .i64 bu.1,.int .i64 bu.2] 32)) m nv (.slice sva pn svc) (.slice bva pn bvc) ns ss bs):=T3.out.none (wX (ba _ _));have C59:Hid (TwoB (W1.alloc (.cells #[.int .i64 bu.1,.int .i64 bu.2] 32)) W1.heap.size (.int .i64 bu.1) (.int .i64 bu.2)):=TwoB.new _ _ _ 32 _ rfl;have C60:Hid (TwoB (W1.alloc (.cells #[.int .i64 bu.1,.int .i64 bu.2] 32)) B5 (.int .i64 sp.1) (.int .i64 sp.2)):=C4.out.below (ba _ _);refine hK.out _ _ (fun _=>M57.out) ?_;clear hK K
    try simp only[Act.put,zA,zB,zC]
    obtain⟨B61,hB61⟩:∃ B61:Nat,B61=W1.heap.size:=⟨_,rfl⟩;obtain⟨W56,hW56⟩:∃ W56,W56=(W1.alloc (.cells #[.int .i64 bu.1,.int .i64 bu.2] 32)):=⟨_,rfl⟩;rw[<-hW56,<-hB61] at C59 ⊢;rw[<-hW56] at M57 T58 C60;clear hW56;have lB61:b1<B61:=by rw[hB61];have:=M2.out.t2.lt;omega
    clear hB61;refine oJ 4 (by kernel_rfl) rfl (fun K hK=>?_);refine pF rfl rfl rfl T58.out.s HSS.out hpn rfl C60.out (by have:=M57.out.t1.lt;omega) ?_;intro g65 c66 W62 ho67 hg68 ha69 hl70;have M63:Hid (Mid Wc P m b1 er en nv (.slice sva pn svc) (.slice bva pn bvc) sp bu W62):=M57.out.gb hg68 hP hm HSL.out;have T64:Hid (Trio W62 m nv (.slice (some ⟨g65,0,none⟩) (pn+1) c66) (.slice bva pn bvc) ns (ss++[sp]) bs):=T58.out.spent hg68 (by rw[HSS.out];exact ho67) (ha69.imp (fun h=>h) (fun h=>by rw[h];rfl));have C72:Hid (TwoB W62 B61 (.int .i64 bu.1) (.int .i64 bu.2)):=C59.out.gb hg68 (fun e=>by have:=HSL.out _ e.symm;omega);refine hK.out _ _ (fun _=>M63.out) ?_;clear hK K ho67 ha69 hl70 hg68
    try simp only[Act.put,zA,zB,zC]
    refine tk 10 (.pointer (some ⟨P,3,none⟩)) rfl rfl (by kernel_rfl) (fun _ _ _ h=>(hQp _ _ _ h).elim) ⟨by rfl,fun W hS=>?_⟩ M63.out ?_
    ·go_simp
    simp only[Act.put,zA,zB,zC];refine oJ 9 (by kernel_rfl) rfl (fun K hK=>?_);refine pF rfl rfl rfl T64.out.b HBS.out hpn rfl C72.out (by have:=M63.out.t1.lt;omega) ?_;intro g76 c77 W73 ho78 hg79 ha80 hl81;have M74:Hid (Mid Wc P m b1 er en nv (.slice sva pn svc) (.slice bva pn bvc) sp bu W73):=M63.out.gb hg79 hP hm HBL.out;have T75:Hid (Trio W73 m nv (.slice (some ⟨g65,0,none⟩) (pn+1) c66) (.slice (some ⟨g76,0,none⟩) (pn+1) c77) ns (ss++[sp]) (bs++[bu])):=T64.out.bud hg79 (by rw[HBS.out];exact ho78) (ha80.imp (fun h=>h) (fun h=>by rw[h];rfl));refine hK.out _ _ (fun _=>M74.out) ?_;clear hK K ho78 ha80 hl81 hg79
    try simp only[Act.put,zA,zB,zC]
    have z3:=M74.out.six.c3;have z4:=M74.out.six.c4;have y3:=M74.out.six.f3;have y4:=M74.out.six.f4;refine oJ 11 (by kernel_rfl) rfl (fun K hK=>?_);go_simp;refine hK.out _ _ (fun h=>by simp at h) ?_;clear hK K
    try simp only[Act.put,zA,zB,zC]
    refine oJ 12 (by kernel_rfl) rfl (fun K hK=>?_);go_simp;refine hK.out _ _ (fun h=>by simp at h) ?_;clear hK K
    try simp only[Act.put,zA,zB,zC]
    refine oJ 13 (by kernel_rfl) rfl (fun K hK=>?_);go_simp;refine hK.out _ _ (fun h=>by simp at h) ?_;clear hK K
    try simp only[Act.put,zA,zB,zC]
    exact sH (by kernel_rfl) (HEND.out _ _ _ _ M74.out T75.out) _
   exact kX.nil
  exact kX.nil
 refine kX.cons (o:=_) rfl (fun K hK=>?_) ?_
 ·
  have y0:=M0.out.t2.c0;have y1:=M0.out.t2.c1;go_simp;refine hK.out _ _ (fun _=>M0.out) ?_;clear hK K y0 y1
  try simp only[Act.put,zA,zB,zC]
  refine zU (rs:=[3,8]) (by kernel_rfl) (by simp) ?_;refine kX.cons (o:=_) rfl (fun K hK=>?_) ?_
  ·
   go_simp;have M84:Hid (Mid Wc P m b1 er en nv (.slice sva pn svc) (.slice bva pn bvc) sp bu (V0.alloc (.cells #[.int .i64 sp.1,.int .i64 sp.2] 32))):=M0.out.gb (wX (ba _ _)) hP hm (by simp);have T85:Hid (Trio (V0.alloc (.cells #[.int .i64 sp.1,.int .i64 sp.2] 32)) m nv (.slice sva pn svc) (.slice bva pn bvc) ns ss bs):=T0.out.none (wX (ba _ _));have C86:Hid (TwoB (V0.alloc (.cells #[.int .i64 sp.1,.int .i64 sp.2] 32)) V0.heap.size (.int .i64 sp.1) (.int .i64 sp.2)):=TwoB.new _ _ _ 32 _ rfl;refine hK.out _ _ (fun _=>M84.out) ?_;clear hK K
   try simp only[Act.put,zA,zB,zC]
   obtain⟨B87,hB87⟩:∃ B87:Nat,B87=V0.heap.size:=⟨_,rfl⟩;obtain⟨W83,hW83⟩:∃ W83,W83=(V0.alloc (.cells #[.int .i64 sp.1,.int .i64 sp.2] 32)):=⟨_,rfl⟩;rw[<-hW83,<-hB87] at C86 ⊢;rw[<-hW83] at M84 T85;clear hW83;have lB87:b1<B87:=by rw[hB87];have:=M0.out.t2.lt;omega
   clear hB87;refine zU (rs:=[4,8]) (by kernel_rfl) (by simp) ?_;refine kX.cons (o:=_) rfl (fun K hK=>?_) ?_
   ·
    refine pF rfl rfl rfl T85.out.s HSS.out hpn rfl C86.out (by have:=M84.out.t1.lt;omega) ?_;intro g91 c92 W88 ho93 hg94 ha95 hl96;have M89:Hid (Mid Wc P m b1 er en nv (.slice sva pn svc) (.slice bva pn bvc) sp bu W88):=M84.out.gb hg94 hP hm HSL.out;have T90:Hid (Trio W88 m nv (.slice (some ⟨g91,0,none⟩) (pn+1) c92) (.slice bva pn bvc) ns (ss++[sp]) bs):=T85.out.spent hg94 (by rw[HSS.out];exact ho93) (ha95.imp (fun h=>h) (fun h=>by rw[h];rfl));refine hK.out _ _ (fun _=>M89.out) ?_;clear hK K ho93 ha95 hl96 hg94
    try simp only[Act.put,zA,zB,zC]
    refine tk 10 (.pointer (some ⟨P,3,none⟩)) rfl rfl (by kernel_rfl) (fun _ _ _ h=>(hQp _ _ _ h).elim) ⟨by rfl,fun W hS=>?_⟩ M89.out ?_
    ·go_simp
    simp only[Act.put,zA,zB,zC];refine oJ 8 (by kernel_rfl) rfl (fun K hK=>?_);go_simp;have M99:Hid (Mid Wc P m b1 er en nv (.slice sva pn svc) (.slice bva pn bvc) sp bu (W88.alloc (.cells #[.int .i64 bu.1,.int .i64 bu.2] 32))):=M89.out.gb (wX (ba _ _)) hP hm (by simp);have T100:Hid (Trio (W88.alloc (.cells #[.int .i64 bu.1,.int .i64 bu.2] 32)) m nv (.slice (some ⟨g91,0,none⟩) (pn+1) c92) (.slice bva pn bvc) ns (ss++[sp]) bs):=T90.out.none (wX (ba _ _));have C101:Hid (TwoB (W88.alloc (.cells #[.int .i64 bu.1,.int .i64 bu.2] 32)) W88.heap.size (.int .i64 bu.1) (.int .i64 bu.2)):=TwoB.new _ _ _ 32 _ rfl;refine hK.out _ _ (fun _=>M99.out) ?_;clear hK K
    try simp only[Act.put,zA,zB,zC]
    obtain⟨B102,hB102⟩:∃ B102:Nat,B102=W88.heap.size:=⟨_,rfl⟩;obtain⟨W98,hW98⟩:∃ W98,W98=(W88.alloc (.cells #[.int .i64 bu.1,.int .i64 bu.2] 32)):=⟨_,rfl⟩;rw[<-hW98,<-hB102] at C101 ⊢;rw[<-hW98] at M99 T100;clear hW98;have lB102:b1<B102:=by rw[hB102];have:=M89.out.t2.lt;omega
    clear hB102;refine oJ 9 (by kernel_rfl) rfl (fun K hK=>?_);refine pF rfl rfl rfl T100.out.b HBS.out hpn rfl C101.out (by have:=M99.out.t1.lt;omega) ?_;intro g106 c107 W103 ho108 hg109 ha110 hl111;have M104:Hid (Mid Wc P m b1 er en nv (.slice sva pn svc) (.slice bva pn bvc) sp bu W103):=M99.out.gb hg109 hP hm HBL.out;have T105:Hid (Trio W103 m nv (.slice (some ⟨g91,0,none⟩) (pn+1) c92) (.slice (some ⟨g106,0,none⟩) (pn+1) c107) ns (ss++[sp]) (bs++[bu])):=T100.out.bud hg109 (by rw[HBS.out];exact ho108) (ha110.imp (fun h=>h) (fun h=>by rw[h];rfl));refine hK.out _ _ (fun _=>M104.out) ?_;clear hK K ho108 ha110 hl111 hg109
    try simp only[Act.put,zA,zB,zC]
    have z3:=M104.out.six.c3;have z4:=M104.out.six.c4;have y3:=M104.out.six.f3;have y4:=M104.out.six.f4;refine oJ 11 (by kernel_rfl) rfl (fun K hK=>?_);go_simp;refine hK.out _ _ (fun h=>by simp at h) ?_;clear hK K
    try simp only[Act.put,zA,zB,zC]
    refine oJ 12 (by kernel_rfl) rfl (fun K hK=>?_);go_simp;refine hK.out _ _ (fun h=>by simp at h) ?_;clear hK K
    try simp only[Act.put,zA,zB,zC]
    refine oJ 13 (by kernel_rfl) rfl (fun K hK=>?_);go_simp;refine hK.out _ _ (fun h=>by simp at h) ?_;clear hK K
    try simp only[Act.put,zA,zB,zC]
    exact sH (by kernel_rfl) (HEND.out _ _ _ _ M104.out T105.out) _
   refine kX.cons (o:=_) rfl (fun K hK=>?_) ?_
   ·
    go_simp;have M114:Hid (Mid Wc P m b1 er en nv (.slice sva pn svc) (.slice bva pn bvc) sp bu (W83.alloc (.cells #[.int .i64 bu.1,.int .i64 bu.2] 32))):=M84.out.gb (wX (ba _ _)) hP hm (by simp);have T115:Hid (Trio (W83.alloc (.cells #[.int .i64 bu.1,.int .i64 bu.2] 32)) m nv (.slice sva pn svc) (.slice bva pn bvc) ns ss bs):=T85.out.none (wX (ba _ _));have C116:Hid (TwoB (W83.alloc (.cells #[.int .i64 bu.1,.int .i64 bu.2] 32)) W83.heap.size (.int .i64 bu.1) (.int .i64 bu.2)):=TwoB.new _ _ _ 32 _ rfl;have C117:Hid (TwoB (W83.alloc (.cells #[.int .i64 bu.1,.int .i64 bu.2] 32)) B87 (.int .i64 sp.1) (.int .i64 sp.2)):=C86.out.below (ba _ _);refine hK.out _ _ (fun _=>M114.out) ?_;clear hK K
    try simp only[Act.put,zA,zB,zC]
    obtain⟨B118,hB118⟩:∃ B118:Nat,B118=W83.heap.size:=⟨_,rfl⟩;obtain⟨W113,hW113⟩:∃ W113,W113=(W83.alloc (.cells #[.int .i64 bu.1,.int .i64 bu.2] 32)):=⟨_,rfl⟩;rw[<-hW113,<-hB118] at C116 ⊢;rw[<-hW113] at M114 T115 C117;clear hW113;have lB118:b1<B118:=by rw[hB118];have:=M84.out.t2.lt;omega
    clear hB118;refine oJ 4 (by kernel_rfl) rfl (fun K hK=>?_);refine pF rfl rfl rfl T115.out.s HSS.out hpn rfl C117.out (by have:=M114.out.t1.lt;omega) ?_;intro g122 c123 W119 ho124 hg125 ha126 hl127;have M120:Hid (Mid Wc P m b1 er en nv (.slice sva pn svc) (.slice bva pn bvc) sp bu W119):=M114.out.gb hg125 hP hm HSL.out;have T121:Hid (Trio W119 m nv (.slice (some ⟨g122,0,none⟩) (pn+1) c123) (.slice bva pn bvc) ns (ss++[sp]) bs):=T115.out.spent hg125 (by rw[HSS.out];exact ho124) (ha126.imp (fun h=>h) (fun h=>by rw[h];rfl));have C129:Hid (TwoB W119 B118 (.int .i64 bu.1) (.int .i64 bu.2)):=C116.out.gb hg125 (fun e=>by have:=HSL.out _ e.symm;omega);refine hK.out _ _ (fun _=>M120.out) ?_;clear hK K ho124 ha126 hl127 hg125
    try simp only[Act.put,zA,zB,zC]
    refine tk 10 (.pointer (some ⟨P,3,none⟩)) rfl rfl (by kernel_rfl) (fun _ _ _ h=>(hQp _ _ _ h).elim) ⟨by rfl,fun W hS=>?_⟩ M120.out ?_
    ·go_simp
    simp only[Act.put,zA,zB,zC];refine oJ 9 (by kernel_rfl) rfl (fun K hK=>?_);refine pF rfl rfl rfl T121.out.b HBS.out hpn rfl C129.out (by have:=M120.out.t1.lt;omega) ?_;intro g133 c134 W130 ho135 hg136 ha137 hl138;have M131:Hid (Mid Wc P m b1 er en nv (.slice sva pn svc) (.slice bva pn bvc) sp bu W130):=M120.out.gb hg136 hP hm HBL.out;have T132:Hid (Trio W130 m nv (.slice (some ⟨g122,0,none⟩) (pn+1) c123) (.slice (some ⟨g133,0,none⟩) (pn+1) c134) ns (ss++[sp]) (bs++[bu])):=T121.out.bud hg136 (by rw[HBS.out];exact ho135) (ha137.imp (fun h=>h) (fun h=>by rw[h];rfl));refine hK.out _ _ (fun _=>M131.out) ?_;clear hK K ho135 ha137 hl138 hg136
    try simp only[Act.put,zA,zB,zC]
    have z3:=M131.out.six.c3;have z4:=M131.out.six.c4;have y3:=M131.out.six.f3;have y4:=M131.out.six.f4;refine oJ 11 (by kernel_rfl) rfl (fun K hK=>?_);go_simp;refine hK.out _ _ (fun h=>by simp at h) ?_;clear hK K
    try simp only[Act.put,zA,zB,zC]
    refine oJ 12 (by kernel_rfl) rfl (fun K hK=>?_);go_simp;refine hK.out _ _ (fun h=>by simp at h) ?_;clear hK K
    try simp only[Act.put,zA,zB,zC]
    refine oJ 13 (by kernel_rfl) rfl (fun K hK=>?_);go_simp;refine hK.out _ _ (fun h=>by simp at h) ?_;clear hK K
    try simp only[Act.put,zA,zB,zC]
    exact sH (by kernel_rfl) (HEND.out _ _ _ _ M131.out T132.out) _
   exact kX.nil
  refine kX.cons (o:=_) rfl (fun K hK=>?_) ?_
  ·
   go_simp;have M141:Hid (Mid Wc P m b1 er en nv (.slice sva pn svc) (.slice bva pn bvc) sp bu (V0.alloc (.cells #[.int .i64 bu.1,.int .i64 bu.2] 32))):=M0.out.gb (wX (ba _ _)) hP hm (by simp);have T142:Hid (Trio (V0.alloc (.cells #[.int .i64 bu.1,.int .i64 bu.2] 32)) m nv (.slice sva pn svc) (.slice bva pn bvc) ns ss bs):=T0.out.none (wX (ba _ _));have C143:Hid (TwoB (V0.alloc (.cells #[.int .i64 bu.1,.int .i64 bu.2] 32)) V0.heap.size (.int .i64 bu.1) (.int .i64 bu.2)):=TwoB.new _ _ _ 32 _ rfl;refine hK.out _ _ (fun _=>M141.out) ?_;clear hK K
   try simp only[Act.put,zA,zB,zC]
   obtain⟨B144,hB144⟩:∃ B144:Nat,B144=V0.heap.size:=⟨_,rfl⟩;obtain⟨W140,hW140⟩:∃ W140,W140=(V0.alloc (.cells #[.int .i64 bu.1,.int .i64 bu.2] 32)):=⟨_,rfl⟩;rw[<-hW140,<-hB144] at C143 ⊢;rw[<-hW140] at M141 T142;clear hW140;have lB144:b1<B144:=by rw[hB144];have:=M0.out.t2.lt;omega
   clear hB144;refine oJ 3 (by kernel_rfl) rfl (fun K hK=>?_);go_simp;have M146:Hid (Mid Wc P m b1 er en nv (.slice sva pn svc) (.slice bva pn bvc) sp bu (W140.alloc (.cells #[.int .i64 sp.1,.int .i64 sp.2] 32))):=M141.out.gb (wX (ba _ _)) hP hm (by simp);have T147:Hid (Trio (W140.alloc (.cells #[.int .i64 sp.1,.int .i64 sp.2] 32)) m nv (.slice sva pn svc) (.slice bva pn bvc) ns ss bs):=T142.out.none (wX (ba _ _));have C148:Hid (TwoB (W140.alloc (.cells #[.int .i64 sp.1,.int .i64 sp.2] 32)) W140.heap.size (.int .i64 sp.1) (.int .i64 sp.2)):=TwoB.new _ _ _ 32 _ rfl;have C149:Hid (TwoB (W140.alloc (.cells #[.int .i64 sp.1,.int .i64 sp.2] 32)) B144 (.int .i64 bu.1) (.int .i64 bu.2)):=C143.out.below (ba _ _);refine hK.out _ _ (fun _=>M146.out) ?_;clear hK K
   try simp only[Act.put,zA,zB,zC]
   obtain⟨B150,hB150⟩:∃ B150:Nat,B150=W140.heap.size:=⟨_,rfl⟩;obtain⟨W145,hW145⟩:∃ W145,W145=(W140.alloc (.cells #[.int .i64 sp.1,.int .i64 sp.2] 32)):=⟨_,rfl⟩;rw[<-hW145,<-hB150] at C148 ⊢;rw[<-hW145] at M146 T147 C149;clear hW145;have lB150:b1<B150:=by rw[hB150];have:=M141.out.t2.lt;omega
   clear hB150;refine oJ 4 (by kernel_rfl) rfl (fun K hK=>?_);refine pF rfl rfl rfl T147.out.s HSS.out hpn rfl C148.out (by have:=M146.out.t1.lt;omega) ?_;intro g154 c155 W151 ho156 hg157 ha158 hl159;have M152:Hid (Mid Wc P m b1 er en nv (.slice sva pn svc) (.slice bva pn bvc) sp bu W151):=M146.out.gb hg157 hP hm HSL.out;have T153:Hid (Trio W151 m nv (.slice (some ⟨g154,0,none⟩) (pn+1) c155) (.slice bva pn bvc) ns (ss++[sp]) bs):=T147.out.spent hg157 (by rw[HSS.out];exact ho156) (ha158.imp (fun h=>h) (fun h=>by rw[h];rfl));have C161:Hid (TwoB W151 B144 (.int .i64 bu.1) (.int .i64 bu.2)):=C149.out.gb hg157 (fun e=>by have:=HSL.out _ e.symm;omega);refine hK.out _ _ (fun _=>M152.out) ?_;clear hK K ho156 ha158 hl159 hg157
   try simp only[Act.put,zA,zB,zC]
   refine tk 10 (.pointer (some ⟨P,3,none⟩)) rfl rfl (by kernel_rfl) (fun _ _ _ h=>(hQp _ _ _ h).elim) ⟨by rfl,fun W hS=>?_⟩ M152.out ?_
   ·go_simp
   simp only[Act.put,zA,zB,zC];refine oJ 9 (by kernel_rfl) rfl (fun K hK=>?_);refine pF rfl rfl rfl T153.out.b HBS.out hpn rfl C161.out (by have:=M152.out.t1.lt;omega) ?_;intro g165 c166 W162 ho167 hg168 ha169 hl170;have M163:Hid (Mid Wc P m b1 er en nv (.slice sva pn svc) (.slice bva pn bvc) sp bu W162):=M152.out.gb hg168 hP hm HBL.out;have T164:Hid (Trio W162 m nv (.slice (some ⟨g154,0,none⟩) (pn+1) c155) (.slice (some ⟨g165,0,none⟩) (pn+1) c166) ns (ss++[sp]) (bs++[bu])):=T153.out.bud hg168 (by rw[HBS.out];exact ho167) (ha169.imp (fun h=>h) (fun h=>by rw[h];rfl));refine hK.out _ _ (fun _=>M163.out) ?_;clear hK K ho167 ha169 hl170 hg168
   try simp only[Act.put,zA,zB,zC]
   have z3:=M163.out.six.c3;have z4:=M163.out.six.c4;have y3:=M163.out.six.f3;have y4:=M163.out.six.f4;refine oJ 11 (by kernel_rfl) rfl (fun K hK=>?_);go_simp;refine hK.out _ _ (fun h=>by simp at h) ?_;clear hK K
   try simp only[Act.put,zA,zB,zC]
   refine oJ 12 (by kernel_rfl) rfl (fun K hK=>?_);go_simp;refine hK.out _ _ (fun h=>by simp at h) ?_;clear hK K
   try simp only[Act.put,zA,zB,zC]
   refine oJ 13 (by kernel_rfl) rfl (fun K hK=>?_);go_simp;refine hK.out _ _ (fun h=>by simp at h) ?_;clear hK K
   try simp only[Act.put,zA,zB,zC]
   exact sH (by kernel_rfl) (HEND.out _ _ _ _ M163.out T164.out) _
  exact kX.nil
 exact kX.nil
theorem eoX {dn:List En}(h:Inv dn):sX dn ⟨#[63]⟩=none:=by
 cases hb:sX dn ⟨#[63]⟩ with
 | none=>rfl
 | some b =>
  exfalso
  have hm:(⟨#[63]⟩:ByteArray)∈dY dn:=by
   refine apZ fun hn=>?_;rw[(tR dn _).2 hn] at hb;cases hb
  unfold dY at hm;obtain⟨e,he2,he3⟩:=tX.1 hm;have h1:=(pH (h.bad e (List.mem_filter.1 he2).1).1).2.2.1;rw[he3] at h1;revert h1;decide
theorem Keeps.imp {a b:World}(h:Keeps a b N)(hN:∀ k,k<a.heap.size->N k->N' k):Keeps a b N':=⟨h.os,h.tape,h.output,h.size,fun k hk hn=>h.block k hk (fun c=>hn (hN k hk c))⟩
theorem jU (a:World)(N:Nat->Prop):Keeps a a N:=⟨rfl,rfl,rfl,vQ _,fun _ _ _=>rfl⟩
theorem nV (h:w.ownsRow base t sz v n xs)(hk:Keeps w w' N)(hn:∀ g,v.ownBlock=some g->¬ N g):w'.ownsRow base t sz v n xs :=
 vD h fun g hg=>hk.block g (yX h hg).2 (hn g hg)
theorem oA (h:w.ownsRow base t sz v n xs)(hb:base'<=base):w.ownsRow base' t sz v n xs:=by
 refine⟨h.1,?_⟩;rcases h.2 with h0|⟨g,cap,cur,hv,hb2,hc⟩
 ·exact .inl h0
 ·exact .inr ⟨g,cap,cur,hv,by omega,hc⟩
def brJ (l:List En) (w:World):Ending->World->Prop:=fun x w'=>∃ er en nv sv bv,x=.returned (.agg #[er,en,nv,sv,bv,.bool true])/\Below w.heap.size w w' /\
 w'.ownsRow w.heap.size 28 1 er l.length (tD (mX [] l).1)/\w'.ownsRow w.heap.size 53 5 en (mX [] l).2.length (enc (mX [] l).2) /\
 w'.ownsRow w.heap.size 9 1 nv (dX (mX [] l).2).length ((dX (mX [] l).2).map encStr) /\
 w'.ownsRow w.heap.size 32 2 sv (dX (mX [] l).2).length (oF ((dX (mX [] l).2).map (wL (mX [] l).2))) /\
 w'.ownsRow w.heap.size 32 2 bv (dX (mX [] l).2).length (oF ((dX (mX [] l).2).map (sI (mX [] l).2)))
structure ClK (V1:World) (P Bk Bn:Nat) (er en nv sv bv:Value) (W:World):Prop where
 six:SixB W P er en nv sv bv (.bool true)
 kp:Keeps V1 W (fun k=>k=P\/k=Bk\/k=Bn)
structure ClJ (V1:World) (P Bk Bn:Nat) (er en nv sv bv:Value) (i:Nat) (W:World):Prop where
 st:ClK V1 P Bk Bn er en nv sv bv W
 k:Boxed W Bk 3 (.int .i64 (i:Int))
 n:Boxed W Bn 4 (.bool false)
theorem eoZ {P Bk Bn:Nat}{er en nv sv bv:Value}(h:ClJ V1 P Bk Bn er en nv sv bv i W)(r:Bool)(d1:P≠Bn)(d2:P≠Bk)(d3:Bn≠Bk) :
  ClK V1 P Bk Bn er en nv sv bv (((W.setCell ⟨P,5,none⟩ (.bool true)).setCell ⟨Bk,0,none⟩ (.int .i64 ((i:Int)+1))).setCell ⟨Bn,0,none⟩ (.bool (!r))) /\
  (r=true->ClJ V1 P Bk Bn er en nv sv bv (i+1) (((W.setCell ⟨P,5,none⟩ (.bool true)).setCell ⟨Bk,0,none⟩ (.int .i64 ((i:Int)+1))).setCell ⟨Bn,0,none⟩ (.bool (!r)))) /\
  Keeps W (((W.setCell ⟨P,5,none⟩ (.bool true)).setCell ⟨Bk,0,none⟩ (.int .i64 ((i:Int)+1))).setCell ⟨Bn,0,none⟩ (.bool (!r))) (fun k=>k=P\/k=Bk\/k=Bn):=by
 have g1:W.grownBy (W.setCell ⟨P,5,none⟩ (.bool true)) (some P):=nQ (jX _ _) 5 _;have g2:(W.setCell ⟨P,5,none⟩ (.bool true)).grownBy ((W.setCell ⟨P,5,none⟩ (.bool true)).setCell ⟨Bk,0,none⟩ (.int .i64 ((i:Int)+1))) (some Bk):=nQ (jX _ _) 0 _;have g3:((W.setCell ⟨P,5,none⟩ (.bool true)).setCell ⟨Bk,0,none⟩ (.int .i64 ((i:Int)+1))).grownBy (((W.setCell ⟨P,5,none⟩ (.bool true)).setCell ⟨Bk,0,none⟩ (.int .i64 ((i:Int)+1))).setCell ⟨Bn,0,none⟩ (.bool (!r))) (some Bn):=nQ (jX _ _) 0 _;have s3:SixB (((W.setCell ⟨P,5,none⟩ (.bool true)).setCell ⟨Bk,0,none⟩ (.int .i64 ((i:Int)+1))).setCell ⟨Bn,0,none⟩ (.bool (!r))) P er en nv sv bv (.bool true):=((h.st.six.put5 (.bool true)).gb g2 (by simpa using d2)).gb g3 (by simpa using d1)
 have kw:Keeps W (((W.setCell ⟨P,5,none⟩ (.bool true)).setCell ⟨Bk,0,none⟩ (.int .i64 ((i:Int)+1))).setCell ⟨Bn,0,none⟩ (.bool (!r))) (fun k=>k=P\/k=Bk\/k=Bn) :=
  aN (aN (biJ g1 (fun k e=>.inl (.inl (by simpa using e.symm)))) g2 (fun k e=>.inl (.inr (.inl (by simpa using e.symm))))) g3 (fun k e=>.inl (.inr (.inr (by simpa using e.symm))))
 have hk:ClK V1 P Bk Bn er en nv sv bv (((W.setCell ⟨P,5,none⟩ (.bool true)).setCell ⟨Bk,0,none⟩ (.int .i64 ((i:Int)+1))).setCell ⟨Bn,0,none⟩ (.bool (!r))):=⟨s3,h.st.kp.trans kw⟩;refine⟨hk,fun hr=>?_,kw⟩;subst hr;refine⟨hk,?_,?_⟩
 ·have b1:Boxed ((W.setCell ⟨P,5,none⟩ (.bool true)).setCell ⟨Bk,0,none⟩ (.int .i64 ((i:Int)+1))) Bk 3 (.int .i64 ((i:Int)+1)):=Boxed.set _ (h.k.kept g1 (by simpa using d2.symm))
  have:=b1.kept g3 (by simpa using d3.symm);simpa using this
 ·exact Boxed.set (.bool false) ((h.n.kept g1 (by simpa using d1.symm)).kept g2 (by simpa using d3))
end K.P
namespace K.P
open Go.RowKit K.Ds
theorem bsQ {H:Type}{R:Value->Option (DataW H × List MemPlace)}{D:DataW H}(h:w.ownsMap P t R b n D)(e:w'.heap[b]? = w.heap[b]?):w'.ownsMap P t R b n D:=by
 obtain⟨es,clock,hb,hr⟩:=h;exact⟨es,clock,e.trans hb,hr⟩
theorem bsX (h:TwoB w b x y)(e:w'.heap[b]? = w.heap[b]?)(hs:w.heap.size<=w'.heap.size):TwoB w' b x y :=
 ⟨(rZ (w:=w) (a:=⟨b,0,none⟩) e).trans h.c0,(rZ (w:=w) (a:=⟨b,1,none⟩) e).trans h.c1,(jV (w:=w) (a:=⟨b,0,none⟩) e).trans h.f0,(jV (w:=w) (a:=⟨b,1,none⟩) e).trans h.f1,uX h.lt hs⟩
theorem BookM.kp {bk bm:Nat}{D:DataW Value}{done:List En}(h:BookM w N bk bm n v D done)(hk:Keeps w w' K)(hd:∀ k,N k->¬ K k):BookM w' N bk bm n v D done:=by
 obtain⟨hl1,hl2,hl3,hl4⟩:=h.lob;refine⟨h.inv,bsX h.two (hk.block bk h.two.lt (hd _ hl1)) hk.size,bsQ h.own (hk.block bm h.own.lt (hd _ hl2)),nV h.row hk (fun g hg=>hd _ (hl4 g hg).1),h.cnt,h.is,fun x b hx=>?_,h.sz,h.lob⟩;obtain⟨bp,np,Dp,h1,h2,h3,h4,h5,h6,h7⟩:=(h.el x b hx).ex;exact⟨bp,np,Dp,h1,⟨bsQ h2.own (hk.block bp h2.own.lt (hd _ h5)),h2.is,h2.el,h2.rng⟩,h3,h4,h5,h6,h7⟩
def Agr (h B:Nat) (w w':World):Prop:=B<=w'.heap.size/\∀ k,h<=k->k<B->w'.heap[k]? = w.heap[k]?
def wD (w:World) (h B:Nat) (cv rv:Value) (l:List yQ) (ts:List (List Int)):Prop :=
 ∃ rs,rr rs=ts/\∀ w',Agr h B w w'->rQ w' B cv l/\tQ w' B rv rs
theorem wD.kp {rv:Value}{l:List yQ}(ht:wD w h B cv rv l ts)(hk:Keeps w w' K)(hB:B<=w.heap.size)(hd:∀ k,h<=k->k<B->¬ K k):wD w' h B cv rv l ts:=by
 obtain⟨rs,h1,h2⟩:=ht;refine⟨rs,h1,fun w'' ha=>h2 w'' ⟨ha.1,fun k hk1 hk2=>?_⟩⟩;rw[ha.2 k hk1 hk2,hk.block k (by omega) (hd k hk1 hk2)]
theorem epX {rv:Value}{l:List yQ}{rs:List Rw}(hc:rQ w B cv l)(hr:tQ w B rv rs)(ac:Adr (fun b=>h<=b) cv)(ar:eoJ (fun b=>h<=b) rv rs):wD w h B cv rv l (rr rs):=by
 refine⟨rs,rfl,fun w' ha=>⟨?_,?_⟩⟩
 ·obtain⟨a,c,rfl,h2,h3,h4,h5⟩:=hc
  refine⟨a,c,rfl,h2,h3,h4,fun hne=>?_⟩;obtain⟨b,o,rfl,hb,hx⟩:=h5 hne;have e:=ha.2 b (ac b o _ _ rfl) hb;exact⟨b,o,rfl,hb,fun i x hi=>⟨(rZ (w:=w) (a:=⟨b,o+i*2,none⟩) e).trans (hx i x hi).1,(rZ (w:=w) (a:=⟨b,o+i*2+1,none⟩) e).trans (hx i x hi).2⟩⟩
 ·obtain⟨a,c,rfl,h2,h3,h4,h5⟩:=hr
  refine⟨a,c,rfl,h2,h3,fun t ht=>?_,fun hne=>?_⟩
  ·obtain⟨a2,c2,hv,k2,k3,k4⟩:=h4 t ht
   refine⟨a2,c2,hv,k2,k3,fun hne=>?_⟩;obtain⟨b,o,rfl,hb,hbn,hx⟩:=k4 hne;have e:=ha.2 b (ar.2 t ht b o _ _ hv) hb;exact⟨b,o,rfl,hb,hbn,fun i x hi=>(rZ (w:=w) (a:=⟨b,o+i,none⟩) e).trans (hx i x hi)⟩
  ·obtain⟨b,o,rfl,hb,hx⟩:=h5 hne
   have e:=ha.2 b (ar.1 b o _ _ rfl) hb;exact⟨b,o,rfl,hb,fun i t hi=>(rZ (w:=w) (a:=⟨b,o+i,none⟩) e).trans (hx i t hi)⟩
structure HouK (w:World) (M:Nat->Prop) (bh bd:Nat) (l:List yQ) (ts:List (List Int)) (done:List En) (cv rv:Value) (bk bm n:Nat) (v:Value) (D:DataW Value) (h B:Nat) (N:Nat->Prop):Prop where
 hc:HouC w bh bd cv rv bk done.length false
 bo:BookM w N bk bm n v D done
 tb:wD w h B cv rv l ts
 nn:∀ k,N k->B<=k/\k<w.heap.size/\k≠bh
 hB:h<=B/\B<=w.heap.size
 ap:bh<h\/B<=bh
 mm:∀ k,k=bh\/N k\/(h<=k/\k<B)->M k
def dZ (w:World) (M:Nat->Prop) (bh bd:Nat) (l:List yQ) (ts:List (List Int)) (done:List En):Prop :=
 ∃ cv rv bk bm n v D h B N,HouK w M bh bd l ts done cv rv bk bm n v D h B N
theorem dZ.kp {bd:Nat}{l:List yQ}{done:List En}(hh:dZ w M bh bd l ts done)(hk:Keeps w w' K)(hd:∀ k,M k->¬ K k):dZ w' M bh bd l ts done:=by
 obtain⟨cv,rv,bk,bm,n,v,D,h,B,N,q⟩:=hh;refine⟨cv,rv,bk,bm,n,v,D,h,B,N,q.hc.kp hk (hd _ (q.mm _ (.inl rfl))),q.bo.kp hk (fun k hN=>hd _ (q.mm _ (.inr (.inl hN)))),q.tb.kp hk q.hB.2 (fun k h1 h2=>hd _ (q.mm _ (.inr (.inr ⟨h1,h2⟩)))),fun k hN=>?_,⟨q.hB.1,bQ q.hB.2 hk.size⟩,q.ap,q.mm⟩;have:=q.nn k hN;exact⟨this.1,uX this.2.1 hk.size,this.2.2⟩
theorem dZ.mono {bd:Nat}{l:List yQ}{done:List En}(hh:dZ w M bh bd l ts done)(hm:∀ k,M k->M' k):dZ w M' bh bd l ts done:=by
 obtain⟨cv,rv,bk,bm,n,v,D,h,B,N,q⟩:=hh;exact⟨cv,rv,bk,bm,n,v,D,h,B,N,q.hc,q.bo,q.tb,q.nn,q.hB,q.ap,fun k hk=>hm k (q.mm k hk)⟩

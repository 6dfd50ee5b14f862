import Derived.Test.YtdceajgpolckiaaGreatDoorQr47
import Derived.Test.YtdceajgpolckiaaGreatDoorQr46
open Go.Proofs.Tryz
set_option linter.unusedSimpArgs false
set_option maxHeartbeats 16000000
set_option maxRecDepth 100000
namespace Go.Proofs.YtdceajgpolckiaaGreatDoor
variable {A W w w':World} {r:Option Nat} {B R b eb g:Nat} {t v x y z:Value} {s:ByteArray} {Q:Exit->Act->World->Prop} {er:Int}
namespace K.P
open Go.RowKit Go.Shelf K.Ds
theorem xI {W':World}(h:A.grownBy W none)(g:W.grownBy W' r)(hr:∀ x,r=some x->A.heap.size<=x):A.grownBy W' none :=
 ⟨g.os.trans h.os,g.tape.trans h.tape,g.output.trans h.output,bQ h.size g.size,fun b hb _=>(g.block b (uX hb h.size) (fun e=>by have:=hr b e.symm;omega)).trans (h.block b hb (by simp))⟩
theorem alX {s:Value}(h:FivB W b x y z s t):∀ j u,[x,y,z,s,t][j]? = some u->W.cell? ((⟨b,0,none⟩:Addr).add j)=some u:=by
 intro j u hj;rw[iU,xZ];have hj2:j<5:=by have:=(cQ.1 hj).1;simpa using this
 rcases (by omega:j=0\/j=1\/j=2\/j=3\/j=4) with rfl|rfl|rfl|rfl|rfl <;> (simp at hj;subst hj)
 ·exact h.c0
 ·exact h.c1
 ·exact h.c2
 ·exact h.c3
 ·exact h.c4
theorem fsQ {s:Value}(h:FivB A eb x y z s t)(g:A.grownBy W none):FivB W eb x y z s t:=h.gb g (by simp)
theorem b5J (hQp:∀ c a d v w,Q (.panic c) (Act.put a d v) w->Q (.panic c) a w)(t0 t1 t2 t4 t5 t6 t7 t8 t9 t11 t12 t13 t14 t15 t16 t17 t18 t19 t20 t21 t22 t23 t24 t25 t26 t27 t28 t29 t30 t31 t32 t33 t34 t35 t36 t37 t38 t39 t40 t41 t42 t43 t44 t45 t46 t47 t48 t49 t50 t51 t52 t53 t54 t55 t56 t57 t58 t59:Value)(A:World)(B eb c:Nat)(a:Option Addr)(l:List En)(d:Int)(nm:ByteArray)(p u v:Int)
  (hsm:l.length<4096) (hB:B<=A.heap.size) (hx:kJ A B (.slice a l.length c) l) (hV:FivB A eb (.int .i64 d) (.string nm) (.int .i64 p) (.int .i64 u) (.int .i64 v))
  (hEnd:∀ (u35 u36 u37 u38 u39 u40:Value) (pa:Option Addr) (pc:Nat) (Wf:World),Wf.ownsRow A.heap.size 53 5 (.slice pa (l.length+1) pc) (l.length+1) (enc l++[.int .i64 d,.string nm,.int .i64 p,.int .i64 u,.int .i64 v])->A.grownBy Wf none->Q .normal { tmps:=#[t0,t1,t2,.slice a l.length c,t4,t5,t6,t7,t8,t9,.pointer (some ⟨eb,0,none⟩),t11,t12,.slice pa (l.length+1) pc,t14,t15,t16,t17,t18,t19,t20,t21,t22,t23,t24,t25,t26,t27,t28,t29,t30,t31,t32,t33,t34,u35,u36,u37,u38,u39,u40,t41,t42,t43,t44,t45,t46,t47,t48,t49,t50,t51,t52,t53,t54,t55,t56,t57,t58,t59],defers:=[] } Wf) :
  (Code.region 5 #[⟨some 35, .buildSlice 47 0 #[], 47, "top.go:55", #[], none⟩, ⟨some 36, .move (.tmp 3), 47, "top.go:55", #[], none⟩, ⟨some 37, .call { callee := .builtin .append, args := #[.tmp 35, .tmp 36], argTypes := #[47, 47] }, 47, "top.go:55", #[⟨0, .data⟩, ⟨1, .data⟩], none⟩, ⟨some 38, .load 53 (.tmp 10), 53, "top.go:55", #[], none⟩, ⟨some 39, .buildSlice 47 1 #[(0, .tmp 38)], 47, "top.go:55", #[⟨3, .data⟩], none⟩, ⟨some 40, .call { callee := .builtin .append, args := #[.tmp 37, .tmp 39], argTypes := #[47, 47] }, 47, "top.go:55", #[⟨2, .data⟩, ⟨4, .data⟩, ⟨2, .chain⟩], none⟩, ⟨some 13, .assign (.tmp 40), 47, "top.go:55", #[⟨5, .data⟩, ⟨5, .chain⟩, ⟨0, .phase⟩, ⟨1, .phase⟩, ⟨2, .phase⟩, ⟨3, .phase⟩, ⟨4, .phase⟩, ⟨5, .phase⟩], none⟩] true).wp prog Q { tmps := #[t0, t1, t2, .slice a l.length c, t4, t5, t6, t7, t8, t9, .pointer (some ⟨eb, 0, none⟩), t11, t12, t13, t14, t15, t16, t17, t18, t19, t20, t21, t22, t23, t24, t25, t26, t27, t28, t29, t30, t31, t32, t33, t34, t35, t36, t37, t38, t39, t40, t41, t42, t43, t44, t45, t46, t47, t48, t49, t50, t51, t52, t53, t54, t55, t56, t57, t58, t59], defers := [] } A := by
 obtain⟨i45,hi45,hq0,hq1,hq2⟩:=zV jS;have HEND:=qQ hEnd
 have HSRC:Hid (∀ W,A.grownBy W none->(l.length≠0->∃ ad,a=some ad/\∀ j x,(enc l)[j]? = some x->W.cell? (ad.add j)=some x)):=by
  intro W hg hk0;exact frJ (hx.at hB ⟨hg.os,hg.tape,hg.output,hg.size,fun b hb=>hg.block b hb (by simp)⟩) hk0
 have hl1:=uN l;have HONE:=qQ (blQ l);have HCN:Hid (∀ W,A.grownBy W none->FivB W eb (.int .i64 d) (.string nm) (.int .i64 p) (.int .i64 u) (.int .i64 v)):=fun W hg=>fsQ hV hg;have G0:Hid (A.grownBy A.drew none):=gJ (jX _ none);clear hEnd hx hV;refine wp_region_any (by kernel_rfl) ?_;change wpAny _ _ _ _ _ _ _ (World.drew _);obtain⟨V0,hV0⟩:∃ V0,A.drew=V0:=⟨_,rfl⟩;rw[hV0] at G0 ⊢;clear hV0;refine yS (S:=fun W=>A.grownBy W none) (J:=fun _=>true) _ _ _ _ ?_;refine tk 1 (.slice a l.length c) rfl rfl (by kernel_rfl) (fun _ _ _ h=>hQp _ _ _ _ _ h) ⟨by rfl,fun W hS=>?_⟩ G0.out ?_
 ·go_simp
 simp only[Act.put,K.P.zA,K.P.zB,K.P.zC];refine tk 3 (.agg #[.int .i64 d,.string nm,.int .i64 p,.int .i64 u,.int .i64 v]) rfl rfl (by kernel_rfl) (fun _ _ _ h=>hQp _ _ _ _ _ h) ⟨by rfl,fun W hS=>?_⟩ G0.out ?_
 ·obtain⟨z0,z1,z2,z3,z4,_,_,_,_,_,_⟩:=HCN.out W hS;go_simp
 simp only[Act.put,K.P.zA,K.P.zB,K.P.zC];refine zU (rs:=[0,4]) (by kernel_rfl) (by simp) ?_;refine kX.cons (o:=_) rfl (fun K hK=>?_) ?_
 ·
  go_simp;have G2:Hid (A.grownBy (V0.alloc (.cells #[] 53)) none):=xI G0.out (wX (ba _ _)) (by simp);have x4:Hid ((V0.alloc (.cells #[] 53)).ownsRow A.heap.size 53 5 (.slice (some ⟨V0.heap.size,0,none⟩) 0 0) 0 []):=b5Z _ 53 5 _ G0.out.size;refine hK.out _ _ (fun _=>G2.out) ?_;clear hK K
  try simp only[Act.put,K.P.zA,K.P.zB,K.P.zC]
  obtain⟨B3,hB3⟩:∃ B3:Nat,B3=V0.heap.size:=⟨_,rfl⟩;obtain⟨W1,hW1⟩:∃ W1,W1=(V0.alloc (.cells #[] 53)):=⟨_,rfl⟩;rw[<-hW1,<-hB3] at x4 ⊢;rw[<-hW1] at G2;have lB3:A.heap.size<=B3:=by rw[hB3];exact G0.out.size
  clear hW1 hB3;refine zU (rs:=[2,4]) (by kernel_rfl) (by simp) ?_;refine kX.cons (o:=_) rfl (fun K hK=>?_) ?_
  ·
   refine aP _ rfl _ _ 47 rfl A.heap.size 53 i45 (.agg #[.int .i64 0,.string ⟨#[]⟩,.int .i64 0,.int .i64 0,.int .i64 0]) 5 48 underlying47 hi45 hq0 hq1 hq2 rfl (by decide) (some ⟨B3,0,none⟩) 0 0 [] rfl x4.out a l.length c (enc l) rfl hl1 (HSRC.out W1 G2.out) HONE.out (by unfold maxLen;omega) (by omega) G2.out.size l.length (by omega) ?_;intro a8 c9 W5 ho10 hg11 ha12;have G6:=qQ (xI G2.out hg11 (fun x hx=>(yX x4.out hx).1));have R7:Hid (W5.ownsRow A.heap.size 53 5 (.slice a8 l.length c9) l.length (enc l)):=by rw[Hid];simpa using ho10
   refine hK.out _ _ (fun _=>G6.out) ?_;clear hK K
   try simp only[Act.put,K.P.zA,K.P.zB,K.P.zC]
   clear ho10 hg11 ha12;refine zU (rs:=[4]) (by kernel_rfl) (by simp) ?_;refine kX.cons (o:=_) rfl (fun K hK=>?_) ?_
   ·
    go_simp;have G14:Hid (A.grownBy (W5.alloc (.cells #[.int .i64 d,.string nm,.int .i64 p,.int .i64 u,.int .i64 v] 53)) none):=xI G6.out (wX (ba _ _)) (by simp);have nd16:∀ x,((.slice a8 l.length c9):Value).ownBlock=some x->x≠W5.heap.size:=fun x hx e=>by have:=(yX R7.out hx).2;omega
    have R17:Hid ((W5.alloc (.cells #[.int .i64 d,.string nm,.int .i64 p,.int .i64 u,.int .i64 v] 53)).ownsRow A.heap.size 53 5 (.slice a8 l.length c9) l.length (enc l)):=oZ R7.out (wX (ba _ _)) (by simp);have x18:Hid (FivB (W5.alloc (.cells #[.int .i64 d,.string nm,.int .i64 p,.int .i64 u,.int .i64 v] 53)) W5.heap.size (.int .i64 d) (.string nm) (.int .i64 p) (.int .i64 u) (.int .i64 v)):=FivB.new _ _ _ _ _ _ 53 _ rfl;refine hK.out _ _ (fun _=>G14.out) ?_;clear hK K
    try simp only[Act.put,K.P.zA,K.P.zB,K.P.zC]
    obtain⟨B15,hB15⟩:∃ B15:Nat,B15=W5.heap.size:=⟨_,rfl⟩;obtain⟨W13,hW13⟩:∃ W13,W13=(W5.alloc (.cells #[.int .i64 d,.string nm,.int .i64 p,.int .i64 u,.int .i64 v] 53)):=⟨_,rfl⟩;rw[<-hW13,<-hB15] at x18 ⊢;rw[<-hB15] at nd16;rw[<-hW13] at G14 R17;have lB15:A.heap.size<=B15:=by rw[hB15];exact G6.out.size
    clear hW13 hB15;refine zU (rs:=[5]) (by kernel_rfl) (by simp) ?_;refine kX.cons (o:=_) rfl (fun K hK=>?_) ?_
    ·
     refine aP _ rfl _ _ 47 rfl A.heap.size 53 i45 (.agg #[.int .i64 0,.string ⟨#[]⟩,.int .i64 0,.int .i64 0,.int .i64 0]) 5 48 underlying47 hi45 hq0 hq1 hq2 rfl (by decide) a8 l.length c9 (enc l) rfl R17.out (some ⟨B15,0,none⟩) 1 1 [.int .i64 d,.string nm,.int .i64 p,.int .i64 u,.int .i64 v] rfl rfl (fun _=>⟨_,rfl,alX x18.out⟩) (by intro z hz;simp at hz;rcases hz with rfl|rfl|rfl|rfl|rfl <;> rfl) (by unfold maxLen;omega) (by omega) G14.out.size (l.length+1) (by omega) ?_;intro a22 c23 W19 ho24 hg25 ha26;have G20:=qQ (xI G14.out hg25 (fun x hx=>(yX R17.out hx).1))
     have nd28:∀ x,(Value.slice a22 (l.length+1) c23).ownBlock=some x->x≠B15:=fun x hx e=>by
      rcases ha26 with h|h
      ·rw[h] at hx;exact nd16 x hx e
      ·rw[h] at hx;simp only[zX] at hx;have:=x18.out.lt;omega
     have C27:=qQ (x18.out.gb hg25 (fun e=>nd16 _ e.symm rfl));have R21:=qQ ho24;refine hK.out _ _ (fun _=>G20.out) ?_;clear hK K
     try simp only[Act.put,K.P.zA,K.P.zB,K.P.zC]
     clear ho24 hg25 ha26;refine zU (rs:=[6]) (by kernel_rfl) (by simp) ?_;refine kX.cons (o:=_) rfl (fun K hK=>?_) ?_
     ·
      go_simp;refine hK.out _ _ (fun _=>G20.out) ?_;clear hK K
      try simp only[Act.put,K.P.zA,K.P.zB,K.P.zC]
      refine sH (by kernel_rfl) ?_ _;exact HEND.out _ _ _ _ _ _ _ _ _ R21.out G20.out
     exact kX.nil
    exact kX.nil
   exact kX.nil
  refine kX.cons (o:=_) rfl (fun K hK=>?_) ?_
  ·
   go_simp;have G30:Hid (A.grownBy (W1.alloc (.cells #[.int .i64 d,.string nm,.int .i64 p,.int .i64 u,.int .i64 v] 53)) none):=xI G2.out (wX (ba _ _)) (by simp);have nd32:∀ x,((.slice (some ⟨B3,0,none⟩) 0 0):Value).ownBlock=some x->x≠W1.heap.size:=fun x hx e=>by have:=(yX x4.out hx).2;omega
   have R33:Hid ((W1.alloc (.cells #[.int .i64 d,.string nm,.int .i64 p,.int .i64 u,.int .i64 v] 53)).ownsRow A.heap.size 53 5 (.slice (some ⟨B3,0,none⟩) 0 0) 0 []):=oZ x4.out (wX (ba _ _)) (by simp);have x34:Hid (FivB (W1.alloc (.cells #[.int .i64 d,.string nm,.int .i64 p,.int .i64 u,.int .i64 v] 53)) W1.heap.size (.int .i64 d) (.string nm) (.int .i64 p) (.int .i64 u) (.int .i64 v)):=FivB.new _ _ _ _ _ _ 53 _ rfl;refine hK.out _ _ (fun _=>G30.out) ?_;clear hK K
   try simp only[Act.put,K.P.zA,K.P.zB,K.P.zC]
   obtain⟨B31,hB31⟩:∃ B31:Nat,B31=W1.heap.size:=⟨_,rfl⟩;obtain⟨W29,hW29⟩:∃ W29,W29=(W1.alloc (.cells #[.int .i64 d,.string nm,.int .i64 p,.int .i64 u,.int .i64 v] 53)):=⟨_,rfl⟩;rw[<-hW29,<-hB31] at x34 ⊢;rw[<-hB31] at nd32;rw[<-hW29] at G30 R33;have lB31:A.heap.size<=B31:=by rw[hB31];exact G2.out.size
   clear hW29 hB31;refine zU (rs:=[2]) (by kernel_rfl) (by simp) ?_;refine kX.cons (o:=_) rfl (fun K hK=>?_) ?_
   ·
    refine aP _ rfl _ _ 47 rfl A.heap.size 53 i45 (.agg #[.int .i64 0,.string ⟨#[]⟩,.int .i64 0,.int .i64 0,.int .i64 0]) 5 48 underlying47 hi45 hq0 hq1 hq2 rfl (by decide) (some ⟨B3,0,none⟩) 0 0 [] rfl R33.out a l.length c (enc l) rfl hl1 (HSRC.out W29 G30.out) HONE.out (by unfold maxLen;omega) (by omega) G30.out.size l.length (by omega) ?_;intro a38 c39 W35 ho40 hg41 ha42;have G36:=qQ (xI G30.out hg41 (fun x hx=>(yX R33.out hx).1))
    have nd44:∀ x,(Value.slice a38 l.length c39).ownBlock=some x->x≠B31:=fun x hx e=>by
     rcases ha42 with h|h
     ·rw[h] at hx;exact nd32 x hx e
     ·rw[h] at hx;simp only[zX] at hx;have:=x34.out.lt;omega
    have C43:=qQ (x34.out.gb hg41 (fun e=>nd32 _ e.symm rfl));have R37:Hid (W35.ownsRow A.heap.size 53 5 (.slice a38 l.length c39) l.length (enc l)):=by rw[Hid];simpa using ho40
    refine hK.out _ _ (fun _=>G36.out) ?_;clear hK K
    try simp only[Act.put,K.P.zA,K.P.zB,K.P.zC]
    clear ho40 hg41 ha42;refine zU (rs:=[5]) (by kernel_rfl) (by simp) ?_;refine kX.cons (o:=_) rfl (fun K hK=>?_) ?_
    ·
     refine aP _ rfl _ _ 47 rfl A.heap.size 53 i45 (.agg #[.int .i64 0,.string ⟨#[]⟩,.int .i64 0,.int .i64 0,.int .i64 0]) 5 48 underlying47 hi45 hq0 hq1 hq2 rfl (by decide) a38 l.length c39 (enc l) rfl R37.out (some ⟨B31,0,none⟩) 1 1 [.int .i64 d,.string nm,.int .i64 p,.int .i64 u,.int .i64 v] rfl rfl (fun _=>⟨_,rfl,alX C43.out⟩) (by intro z hz;simp at hz;rcases hz with rfl|rfl|rfl|rfl|rfl <;> rfl) (by unfold maxLen;omega) (by omega) G36.out.size (l.length+1) (by omega) ?_;intro a48 c49 W45 ho50 hg51 ha52;have G46:=qQ (xI G36.out hg51 (fun x hx=>(yX R37.out hx).1))
     have nd54:∀ x,(Value.slice a48 (l.length+1) c49).ownBlock=some x->x≠B31:=fun x hx e=>by
      rcases ha52 with h|h
      ·rw[h] at hx;exact nd44 x hx e
      ·rw[h] at hx;simp only[zX] at hx;have:=C43.out.lt;omega
     have C53:=qQ (C43.out.gb hg51 (fun e=>nd44 _ e.symm rfl));have R47:=qQ ho50;refine hK.out _ _ (fun _=>G46.out) ?_;clear hK K
     try simp only[Act.put,K.P.zA,K.P.zB,K.P.zC]
     clear ho50 hg51 ha52;refine zU (rs:=[6]) (by kernel_rfl) (by simp) ?_;refine kX.cons (o:=_) rfl (fun K hK=>?_) ?_
     ·
      go_simp;refine hK.out _ _ (fun _=>G46.out) ?_;clear hK K
      try simp only[Act.put,K.P.zA,K.P.zB,K.P.zC]
      refine sH (by kernel_rfl) ?_ _;exact HEND.out _ _ _ _ _ _ _ _ _ R47.out G46.out
     exact kX.nil
    exact kX.nil
   exact kX.nil
  exact kX.nil
 refine kX.cons (o:=_) rfl (fun K hK=>?_) ?_
 ·
  go_simp;have G56:Hid (A.grownBy (V0.alloc (.cells #[.int .i64 d,.string nm,.int .i64 p,.int .i64 u,.int .i64 v] 53)) none):=xI G0.out (wX (ba _ _)) (by simp);have x58:Hid (FivB (V0.alloc (.cells #[.int .i64 d,.string nm,.int .i64 p,.int .i64 u,.int .i64 v] 53)) V0.heap.size (.int .i64 d) (.string nm) (.int .i64 p) (.int .i64 u) (.int .i64 v)):=FivB.new _ _ _ _ _ _ 53 _ rfl;refine hK.out _ _ (fun _=>G56.out) ?_;clear hK K
  try simp only[Act.put,K.P.zA,K.P.zB,K.P.zC]
  obtain⟨B57,hB57⟩:∃ B57:Nat,B57=V0.heap.size:=⟨_,rfl⟩;obtain⟨W55,hW55⟩:∃ W55,W55=(V0.alloc (.cells #[.int .i64 d,.string nm,.int .i64 p,.int .i64 u,.int .i64 v] 53)):=⟨_,rfl⟩;rw[<-hW55,<-hB57] at x58 ⊢;rw[<-hW55] at G56;have lB57:A.heap.size<=B57:=by rw[hB57];exact G0.out.size
  clear hW55 hB57;refine zU (rs:=[0]) (by kernel_rfl) (by simp) ?_;refine kX.cons (o:=_) rfl (fun K hK=>?_) ?_
  ·
   go_simp;have G60:Hid (A.grownBy (W55.alloc (.cells #[] 53)) none):=xI G56.out (wX (ba _ _)) (by simp);have nd62:∀ x,(Value.slice (some ⟨W55.heap.size,0,none⟩) 0 0).ownBlock=some x->x≠B57:=fun x hx e=>by simp only[Value.ownBlock,zX] at hx;have:=x58.out.lt;omega
   have C63:Hid (FivB (W55.alloc (.cells #[] 53)) B57 (.int .i64 d) (.string nm) (.int .i64 p) (.int .i64 u) (.int .i64 v)):=x58.out.below (ba _ _);have x64:Hid ((W55.alloc (.cells #[] 53)).ownsRow A.heap.size 53 5 (.slice (some ⟨W55.heap.size,0,none⟩) 0 0) 0 []):=b5Z _ 53 5 _ G56.out.size;refine hK.out _ _ (fun _=>G60.out) ?_;clear hK K
   try simp only[Act.put,K.P.zA,K.P.zB,K.P.zC]
   obtain⟨B61,hB61⟩:∃ B61:Nat,B61=W55.heap.size:=⟨_,rfl⟩;obtain⟨W59,hW59⟩:∃ W59,W59=(W55.alloc (.cells #[] 53)):=⟨_,rfl⟩;rw[<-hW59,<-hB61] at x64 ⊢;rw[<-hB61] at nd62;rw[<-hW59] at G60 C63;have lB61:A.heap.size<=B61:=by rw[hB61];exact G56.out.size
   clear hW59 hB61;refine zU (rs:=[2]) (by kernel_rfl) (by simp) ?_;refine kX.cons (o:=_) rfl (fun K hK=>?_) ?_
   ·
    refine aP _ rfl _ _ 47 rfl A.heap.size 53 i45 (.agg #[.int .i64 0,.string ⟨#[]⟩,.int .i64 0,.int .i64 0,.int .i64 0]) 5 48 underlying47 hi45 hq0 hq1 hq2 rfl (by decide) (some ⟨B61,0,none⟩) 0 0 [] rfl x64.out a l.length c (enc l) rfl hl1 (HSRC.out W59 G60.out) HONE.out (by unfold maxLen;omega) (by omega) G60.out.size l.length (by omega) ?_;intro a68 c69 W65 ho70 hg71 ha72;have G66:=qQ (xI G60.out hg71 (fun x hx=>(yX x64.out hx).1))
    have nd74:∀ x,(Value.slice a68 l.length c69).ownBlock=some x->x≠B57:=fun x hx e=>by
     rcases ha72 with h|h
     ·rw[h] at hx;exact nd62 x hx e
     ·rw[h] at hx;simp only[zX] at hx;have:=C63.out.lt;omega
    have C73:=qQ (C63.out.gb hg71 (fun e=>nd62 _ e.symm rfl));have R67:Hid (W65.ownsRow A.heap.size 53 5 (.slice a68 l.length c69) l.length (enc l)):=by rw[Hid];simpa using ho70
    refine hK.out _ _ (fun _=>G66.out) ?_;clear hK K
    try simp only[Act.put,K.P.zA,K.P.zB,K.P.zC]
    clear ho70 hg71 ha72;refine zU (rs:=[5]) (by kernel_rfl) (by simp) ?_;refine kX.cons (o:=_) rfl (fun K hK=>?_) ?_
    ·
     refine aP _ rfl _ _ 47 rfl A.heap.size 53 i45 (.agg #[.int .i64 0,.string ⟨#[]⟩,.int .i64 0,.int .i64 0,.int .i64 0]) 5 48 underlying47 hi45 hq0 hq1 hq2 rfl (by decide) a68 l.length c69 (enc l) rfl R67.out (some ⟨B57,0,none⟩) 1 1 [.int .i64 d,.string nm,.int .i64 p,.int .i64 u,.int .i64 v] rfl rfl (fun _=>⟨_,rfl,alX C73.out⟩) (by intro z hz;simp at hz;rcases hz with rfl|rfl|rfl|rfl|rfl <;> rfl) (by unfold maxLen;omega) (by omega) G66.out.size (l.length+1) (by omega) ?_;intro a78 c79 W75 ho80 hg81 ha82;have G76:=qQ (xI G66.out hg81 (fun x hx=>(yX R67.out hx).1))
     have nd84:∀ x,(Value.slice a78 (l.length+1) c79).ownBlock=some x->x≠B57:=fun x hx e=>by
      rcases ha82 with h|h
      ·rw[h] at hx;exact nd74 x hx e
      ·rw[h] at hx;simp only[zX] at hx;have:=C73.out.lt;omega
     have C83:=qQ (C73.out.gb hg81 (fun e=>nd74 _ e.symm rfl));have R77:=qQ ho80;refine hK.out _ _ (fun _=>G76.out) ?_;clear hK K
     try simp only[Act.put,K.P.zA,K.P.zB,K.P.zC]
     clear ho80 hg81 ha82;refine zU (rs:=[6]) (by kernel_rfl) (by simp) ?_;refine kX.cons (o:=_) rfl (fun K hK=>?_) ?_
     ·
      go_simp;refine hK.out _ _ (fun _=>G76.out) ?_;clear hK K
      try simp only[Act.put,K.P.zA,K.P.zB,K.P.zC]
      refine sH (by kernel_rfl) ?_ _;exact HEND.out _ _ _ _ _ _ _ _ _ R77.out G76.out
     exact kX.nil
    exact kX.nil
   exact kX.nil
  exact kX.nil
 exact kX.nil
end K.P
namespace K.P
open Go.RowKit K.Ds
theorem b6Q {l:List yQ}{q:Qu}{z:Int}(h:xJ (prt l q s)=(z,er)):0<=z/\z<=4096:=by
 have key:∀ x:Except Int Int,xJ x=(z,er)->(∀ v,x=.ok v->0<=v/\v<=4096)->0<=z/\z<=4096:=by
  intro x hx hv;cases x with
  | error e=>simp only[xJ,fQ] at hx;omega
  | ok v=>simp only[xJ,fQ] at hx;have:=hv v rfl;omega
 refine key _ h fun v hv=>?_;unfold prt at hv;split at hv
 ·cases hv
 ·rename_i b hb
  split at hv
  ·cases hv
  ·rename_i i hi
   split at hv
   ·cases hv
   ·rename_i v' hv'
    split at hv
    ·rename_i hc
     cases hv;have hsz:=(oK (agZ hb).1).2.2.1;have hlt:=pK hi
     have:dU l i<=4096:=by
      unfold dU;rw[zJ hlt];exact(hsz _ (List.getElem_mem hlt)).2
     omega
    ·cases hv
theorem FivB.two {a b c d e:Value}(h:FivB w R a b c d e)(x y:Value):FivB ((w.setCell ⟨R,0,none⟩ x).setCell ⟨R,2,none⟩ y) R x b y d e:=by
 obtain⟨c0,c1,c2,c3,c4,f0,f1,f2,f3,f4,lt⟩:=h;refine⟨?_,?_,?_,?_,?_,?_,?_,?_,?_,?_,?_⟩ <;> simp[go_sem, *]
theorem fsX {paid:List En}{e:En}(h:W.ownsRow A.heap.size 53 5 v (paid.length+1) (enc paid++[.int .i64 e.1,.string e.2.1,.int .i64 e.2.2.1,.int .i64 e.2.2.2.1,.int .i64 e.2.2.2.2]))(hl:paid.length<4096)(hn:∀ x∈paid,x.2.1.size<=9223372036854775807)(he:e.2.1.size<=9223372036854775807):kJ W W.heap.size v (paid++[e]):=by
 refine fqZ (base:=A.heap.size) ?_ (by simp;omega) fun x hx=>?_
 ·rw[biX,dJ];exact h
 ·rcases kV.1 hx with h|h
  ·exact hn x h
  ·simp at h;subst h;exact he
theorem kJ.nm {l:List En}(h:kJ w B v l):∀ x∈l,x.2.1.size<=9223372036854775807:=by
 obtain⟨_,_,_,_,_,hn,_⟩:=h;exact hn
theorem b6X (done l:List En):(mX done l).1.length=l.length:=by
 induction l generalizing done with
 | nil=>rfl
 | cons e es ih=>simp only[mX,pJ];rw[ih]
theorem b6Z (paid:List En)(e:En):(mX [] (paid++[e])).1[paid.length]? = some (eX (mX [] paid).2 (nrm e)):=by
 rw[pB];simp only;rw[jF (by rw[b6X];exact vQ _),b6X];simp
theorem b6J (A:World)(paid:List En)(e:En)(hpl:paid.length<4096)(hpb:∀ x∈paid,-9223372036854775808<=x.2.2.1/\x.2.2.1<=9223372036854775807)(heb:-9223372036854775808<=e.2.2.1/\e.2.2.1<=9223372036854775807)(hn:∀ x∈paid,x.2.1.size<=9223372036854775807)(he:e.2.1.size<=9223372036854775807)(W:World)(v:Value)
  (h:W.ownsRow A.heap.size 53 5 v (paid.length+1) (enc paid++[.int .i64 e.1,.string e.2.1,.int .i64 e.2.2.1,.int .i64 e.2.2.2.1,.int .i64 e.2.2.2.2])):kJ W W.heap.size v (paid++[e])/\Calls prog 31 #[v] W (brJ (paid++[e]) W):=by
 have hE:=fsX h hpl hn he;refine⟨hE,b5X _ _ _ W (vQ _) hE (by simp;omega) fun x hx=>?_⟩;rcases kV.1 hx with h|h
 ·exact hpb x h
 ·simp at h;subst h;exact heb
theorem fsZ (B C:Nat)(l:List yQ)(cs pv:Value)(ra:Option Addr)(rn rc:Nat)(t:Tu)(lp lq:Int)(paid:List En)(w:World)(hB:B<=w.heap.size)(hC:C<=w.heap.size)(hp:rQ w B cs l)(hq:Qm w B t.q t.v0 t.v1 t.v2 t.v3 t.v4 t.v5)(hn:xA w B t.nv t.ns)(hE:kJ w C pv paid)(hpl:paid.length<4096)
  (hpb:∀ x∈paid,-9223372036854775808<=x.2.2.1/\x.2.2.1<=9223372036854775807) (nm0:ByteArray) (sz0:Int) (hl0:l[0]? = some (nm0,sz0)) (z er:Int) (hz:xJ (prt l t.q nm0)=(z,er)) (e:En) (he:(if er=0 then (3,pN,z,lp,lq) else (2,pN,0,lp,lq))=e) (r:Int) (hr:eX (mX [] paid).2 (nrm e)=r) :
  Calls prog 32 #[.agg #[cs,.slice ra rn rc],tuv t,rv lp lq,pv] w fun x w'=>∃ v,x=.returned (.tuple #[v,.bool (decide (r=0))])/\kJ w' w'.heap.size v (paid++[e])/\Below w.heap.size w w':=by
 obtain⟨v0,v1,v2,v3,v4,v5,q,u,d,lo,hi,nv,ns⟩:=t;simp only at hq hn hz;have hzb:=b6Q hz;have HE:=qQ hE;have HNM:=qQ hE.nm;have HPB:=qQ hpb;have HR:=qQ hr;have h0:0<l.length:=(cQ.1 hl0).1;obtain⟨ca,cc,rfl,_⟩:=hp.slice;obtain⟨kk,kc,kl,kh,ka,kn,kd,kb,km,kp,rfl,rfl,rfl,rfl,rfl,rfl⟩:=hq.shape;obtain⟨na,nc,rfl,_⟩:=hn.slice;obtain⟨pa,pc,rfl,_⟩:=hE.slice;obtain⟨W,hW⟩:∃ W,(((w.alloc (.cells #[.slice ca l.length cc,.slice ra rn rc] 25)).alloc (.cells #[.int .i64 kk,.string kc,.int .i64 kl,.int .i64 kh,.slice ka kn kd,.slice kb km kp,.int .i64 u,.int .i64 d,.int .i64 lo,.int .i64 hi,.slice na ns.length nc] 66)).alloc (.cells #[.int .i64 lp,.int .i64 lq] 32)).alloc (.cells #[.int .i64 2,.string pN,.int .i64 0,.int .i64 lp,.int .i64 lq] 53)=W:=⟨_,rfl⟩;have hbW:Below w.heap.size w W:=hW▸bal (bal (bal (ba _ _) _) _) _;have T0:Cl W w.heap.size 0 (.slice ca l.length cc):=hW▸(((Cl.new _ 25 _ _ rfl rfl).at (ba _ _)).at (ba _ _)).at (ba _ _);have A0:Cl W (w.heap.size+1) 0 (.int .i64 kk):=hW▸((Cl.new _ 66 _ _ (by simp) rfl).at (ba _ _)).at (ba _ _);have A1:Cl W (w.heap.size+1) 1 (.string kc):=hW▸((Cl.new _ 66 _ _ (by simp) rfl).at (ba _ _)).at (ba _ _);have A2:Cl W (w.heap.size+1) 2 (.int .i64 kl):=hW▸((Cl.new _ 66 _ _ (by simp) rfl).at (ba _ _)).at (ba _ _);have A3:Cl W (w.heap.size+1) 3 (.int .i64 kh):=hW▸((Cl.new _ 66 _ _ (by simp) rfl).at (ba _ _)).at (ba _ _);have A4:Cl W (w.heap.size+1) 4 (.slice ka kn kd):=hW▸((Cl.new _ 66 _ _ (by simp) rfl).at (ba _ _)).at (ba _ _);have A5:Cl W (w.heap.size+1) 5 (.slice kb km kp):=hW▸((Cl.new _ 66 _ _ (by simp) rfl).at (ba _ _)).at (ba _ _);have HV:Hid (FivB W (w.heap.size+1+1+1) (.int .i64 2) (.string pN) (.int .i64 0) (.int .i64 lp) (.int .i64 lq)):=hW▸FivB.new _ _ _ _ _ _ 53 _ (by simp);obtain⟨b,o,nm,sz,rfl,hb,hgt,c1,_,_⟩:=hp.get hB hbW h0;obtain⟨rfl,rfl⟩:nm=nm0/\sz=sz0:=by rw[hl0] at hgt;simpa [eq_comm] using hgt
 have c1':W.cell? ⟨b,o,none⟩=some (.string nm):=by simpa using c1
 have hbd:Below w.heap.size w W.drew:=hbW.drew;have k2:=buZ l q nm W.drew B _ _ _ _ _ _ _ z er (bQ hB hbd.size) (hp.at hB hbd) (hq.at hB hbd) hz;have m0:=T0.c;have n0:=A0.c;have n1:=A1.c;have n2:=A2.c;have n3:=A3.c;have n4:=A4.c;have n5:=A5.c;have lN:w.heap.size<W.heap.size:=T0.lt;have lM:w.heap.size+1<W.heap.size:=A0.lt;have lb:b<W.heap.size:=uX hb (bQ hB hbW.size);have hlI:(0:Int)<(l.length:Int):=by omega
 clear hp hq hn hE hpb hr hz hgt c1 T0 A0 A1 A2 A3 A4 A5 hl0;go_enter func32,ntmps32;go_wp2;clear hW
 go_region_held3 (fun w'=>w'.cell? ⟨w.heap.size,0,none⟩=some (.slice (some ⟨b,o,none⟩) l.length cc)/\w'.cell? ⟨w.heap.size+1,0,none⟩=some (.int .i64 kk)/\w'.cell? ⟨w.heap.size+1,1,none⟩=some (.string kc)/\w'.cell? ⟨w.heap.size+1,2,none⟩=some (.int .i64 kl)/\w'.cell? ⟨w.heap.size+1,3,none⟩=some (.int .i64 kh)/\w'.cell? ⟨w.heap.size+1,4,none⟩=some (.slice ka kn kd)/\w'.cell? ⟨w.heap.size+1,5,none⟩=some (.slice kb km kp)/\w'.cell? ⟨b,o,none⟩=some (.string nm)) (first|assumption|(simp[go_sem, *];done)) ((go_at_call 29;refine k2.mono ?_;rintro x3 w3 hA;obtain⟨rfl,hb3⟩:=hA;have z0:=(hb3.cell (p:=⟨w.heap.size,0,none⟩) lN).trans m0;have z1:=(hb3.cell (p:=⟨w.heap.size+1,0,none⟩) lM).trans n0;have z2:=(hb3.cell (p:=⟨w.heap.size+1,1,none⟩) lM).trans n1;have z3:=(hb3.cell (p:=⟨w.heap.size+1,2,none⟩) lM).trans n2;have z4:=(hb3.cell (p:=⟨w.heap.size+1,3,none⟩) lM).trans n3;have z5:=(hb3.cell (p:=⟨w.heap.size+1,4,none⟩) lM).trans n4;have z6:=(hb3.cell (p:=⟨w.heap.size+1,5,none⟩) lM).trans n5;have z7:=(hb3.cell (p:=⟨b,o,none⟩) lb).trans c1'))
 have B0:Below w.heap.size w w3:=bt hbd hb3;have HV3:=qQ ((HV.out.below (aQ _ _).drew).below hb3);clear k2 m0 n0 n1 n2 n3 n4 n5 lN lM lb hb3 z0 z1 z2 z3 z4 z5 z6 z7;by_cases c:er=0
 ·subst c
  rw[zQ rfl] at he;subst he;have B3:Below w.heap.size w ((w3.setCell ⟨w.heap.size+1+1+1,0,none⟩ (.int .i64 3)).setCell ⟨w.heap.size+1+1+1,2,none⟩ (.int .i64 z)):=bs (bs B0 (by show w.heap.size<=w.heap.size+1+1+1;omega) _) (by show w.heap.size<=w.heap.size+1+1+1;omega) _;have HV4:Hid (FivB ((w3.setCell ⟨w.heap.size+1+1+1,0,none⟩ (.int .i64 3)).setCell ⟨w.heap.size+1+1+1,2,none⟩ (.int .i64 z)) (w.heap.size+1+1+1) (.int .i64 3) (.string pN) (.int .i64 z) (.int .i64 lp) (.int .i64 lq)):=HV3.out.two _ _;have q0:=HV3.out.c0;have q2:=HV3.out.c2;have g0:=HV3.out.f0;have g2:=HV3.out.f2;go_wp2;refine b5J (fun _ _ d _ _ h=>by cases d <;> exact h) _ _ _ _ _ _ _ _ _ _ _ _ _ _ _ _ _ _ _ _ _ _ _ _ _ _ _ _ _ _ _ _ _ _ _ _ _ _ _ _ _ _ _ _ _ _ _ _ _ _ _ _ _ _ _ _ _ _ ((w3.setCell ⟨w.heap.size+1+1+1,0,none⟩ (.int .i64 3)).setCell ⟨w.heap.size+1+1+1,2,none⟩ (.int .i64 z)) C (w.heap.size+1+1+1) pc pa paid 3 pN z lp lq hpl (bQ hC B3.size) (HE.out.at hC B3) HV4.out ?_;intro u35 u36 u37 u38 u39 u40 pa' pc' Wf hrow hg;have hWf:Below w.heap.size w Wf:=B3.grown hg B3.size (by simp);obtain⟨hE2,kb⟩:=b6J ((w3.setCell ⟨w.heap.size+1+1+1,0,none⟩ (.int .i64 3)).setCell ⟨w.heap.size+1+1+1,2,none⟩ (.int .i64 z)) paid (3,pN,z,lp,lq) hpl HPB.out ⟨by simp only;omega,by simp only;omega⟩ HNM.out (show pN.size<=9223372036854775807 by decide) Wf _ hrow;have HE2:=qQ hE2;clear hrow hg hE2;go_wp2_with fail;refine kb.mono ?_;rintro x w5 ⟨er',en,nv,sv,bv,rfl,hb5,r0,r1,r2,r3,r4⟩;simp only[dJ,pJ,yG,xZ] at r0;obtain⟨a0,c0,rfl⟩:=wZ r0;obtain⟨a1,c1,rfl⟩:=wZ r1;obtain⟨a2,c2,rfl⟩:=wZ r2;obtain⟨a3,c3,rfl⟩:=wZ r3;obtain⟨a4,c4,rfl⟩:=wZ r4;obtain⟨g,rfl,_,hgl,hc⟩:=sS r0 (j:=paid.length) (u:=.int .i64 r) (by unfold tD;rw[uA,b6Z,HR.out];rfl);have hc2:∀ o,(w5.alloc o).cell? ⟨g,paid.length,none⟩=some (.int .i64 r):=fun o=>((ba w5 o).cell (p:=⟨g,paid.length,none⟩) hgl).trans hc;have G5:=bt hWf hb5;have HF:Hid (∀ o,kJ (w5.alloc o) (w5.alloc o).heap.size (.slice pa' (paid.length+1) pc') (paid++[(3,pN,z,lp,lq)])):=fun o=>((HE2.out.at (vQ _) hb5).at hb5.size (ba _ o)).mono (bQ hb5.size (ba w5 o).size);have hl1:((paid.length+1:Nat):Int) - 1=(paid.length:Int):=by omega
  clear kb HE2 r0 r1 r2 r3 r4 hc hb5 hWf HV HE HNM HPB;by_cases hr0:r=0
  ·subst hr0
   go_wp2;go_quiet (fail);go_wp2;go_ret2;exact⟨_,by first|rfl|simp,(HF.out _).at (vQ _) (Go.below_drewN (aQ _ _) _),Go.below_drewN (bal G5 _) _⟩
  ·have hr1:(r == 0)=false:=by simpa using hr0
   have hr2:decide (r=0)=false:=by simpa using hr0
   go_wp2;go_quiet (fail);go_wp2;go_ret2;exact⟨_,by first|rfl|simp[hr2],(HF.out _).at (vQ _) (Go.below_drewN (aQ _ _) _),Go.below_drewN (bal G5 _) _⟩
 ·have h5:(er == 0)=false:=by simpa using c
  rw[xQ c] at he;subst he;go_wp2;refine b5J (fun _ _ d _ _ h=>by cases d <;> exact h) _ _ _ _ _ _ _ _ _ _ _ _ _ _ _ _ _ _ _ _ _ _ _ _ _ _ _ _ _ _ _ _ _ _ _ _ _ _ _ _ _ _ _ _ _ _ _ _ _ _ _ _ _ _ _ _ _ _ w3 C (w.heap.size+1+1+1) pc pa paid 2 pN 0 lp lq hpl (bQ hC B0.size) (HE.out.at hC B0) HV3.out ?_;intro u35 u36 u37 u38 u39 u40 pa' pc' Wf hrow hg;have hWf:Below w.heap.size w Wf:=B0.grown hg B0.size (by simp);obtain⟨hE2,kb⟩:=b6J w3 paid (2,pN,0,lp,lq) hpl HPB.out ⟨by simp only;omega,by simp only;omega⟩ HNM.out (show pN.size<=9223372036854775807 by decide) Wf _ hrow;have HE2:=qQ hE2;clear hrow hg hE2;go_wp2_with fail;refine kb.mono ?_;rintro x w5 ⟨er',en,nv,sv,bv,rfl,hb5,r0,r1,r2,r3,r4⟩;simp only[dJ,pJ,yG,xZ] at r0;obtain⟨a0,c0,rfl⟩:=wZ r0;obtain⟨a1,c1,rfl⟩:=wZ r1;obtain⟨a2,c2,rfl⟩:=wZ r2;obtain⟨a3,c3,rfl⟩:=wZ r3;obtain⟨a4,c4,rfl⟩:=wZ r4;obtain⟨g,rfl,_,hgl,hc⟩:=sS r0 (j:=paid.length) (u:=.int .i64 r) (by unfold tD;rw[uA,b6Z,HR.out];rfl);have hc2:∀ o,(w5.alloc o).cell? ⟨g,paid.length,none⟩=some (.int .i64 r):=fun o=>((ba w5 o).cell (p:=⟨g,paid.length,none⟩) hgl).trans hc;have G5:=bt hWf hb5;have HF:Hid (∀ o,kJ (w5.alloc o) (w5.alloc o).heap.size (.slice pa' (paid.length+1) pc') (paid++[(2,pN,0,lp,lq)])):=fun o=>((HE2.out.at (vQ _) hb5).at hb5.size (ba _ o)).mono (bQ hb5.size (ba w5 o).size);have hl1:((paid.length+1:Nat):Int) - 1=(paid.length:Int):=by omega
  clear kb HE2 r0 r1 r2 r3 r4 hc hb5 hWf HV HE HNM HPB;by_cases hr0:r=0
  ·subst hr0
   go_wp2;go_quiet (fail);go_wp2;go_ret2;exact⟨_,by first|rfl|simp,(HF.out _).at (vQ _) (Go.below_drewN (aQ _ _) _),Go.below_drewN (bal G5 _) _⟩
  ·have hr1:(r == 0)=false:=by simpa using hr0
   have hr2:decide (r=0)=false:=by simpa using hr0
   go_wp2;go_quiet (fail);go_wp2;go_ret2;exact⟨_,by first|rfl|simp[hr2],(HF.out _).at (vQ _) (Go.below_drewN (aQ _ _) _),Go.below_drewN (bal G5 _) _⟩
end K.P
section
open Go.RowKit Ds
def pld (pl:List K.Tu):List Tn:=pl.map fun t=>⟨t.q,t.u,t.d,t.lo,t.hi,K.nd t.ns⟩
theorem b7Q (pl:List K.Tu)(i:Nat):(pld pl)[i]? = pl[i]?.map fun t=>⟨t.q,t.u,t.d,t.lo,t.hi,K.nd t.ns⟩:=by simp[pld]
def yA (w:World) (res:Option (List Pt)) (e:Ending) (w':World):Prop :=
 ∃ a n c us b,e=.returned (.tuple #[.slice a n c,.bool b])/\Below w.heap.size w w'/\((res=none/\b=false)\/(res=some (rd us)/\b=true/\dQ w' w'.heap.size (.slice a n c) us))
theorem yA.none (h:Below w.heap.size w w'):yA w .none (.returned (.tuple #[.slice .none 0 0,.bool false])) w':=⟨_,_,_,[],_,rfl,h,.inl ⟨rfl,rfl⟩⟩
theorem yA.stop (h:Below w.heap.size w w')(hp:dQ w' w'.heap.size (.slice (some ⟨g,0,Option.none⟩) 1 1) [(.slice Option.none 0 0,[],1)]):yA w (some kZ) (.returned (.tuple #[.slice (some ⟨g,0,Option.none⟩) 1 1,.bool true])) w' :=
 ⟨_,_,_,[(.slice Option.none 0 0,[],1)],_,rfl,h,.inr ⟨rfl,rfl,hp⟩⟩
theorem ftZ (a:Int)(la:Option Addr)(ln lc:Nat)(ra:Option Addr)(rn rc:Nat)(pa:Option Addr)(pn pc:Nat)(ea:Option Addr)(en ec:Nat)(w:World) :
  Calls prog 15 #[.agg #[.slice la ln lc,.slice ra rn rc],.slice pa pn pc,.int .i64 a,.slice ea en ec,.int .i64 0] w (yA w (some kZ)):=by
 have hS:dQ ((w.alloc (.cells #[.slice la ln lc,.slice ra rn rc] 25)).alloc (.cells #[.slice none 0 0,.int .i64 1] 77)) (w.heap.size+1+1) (.slice (some ⟨w.heap.size+1,0,none⟩) 1 1) [(.slice none 0 0,[],1)]:=by
  have h:=dR (w.alloc (.cells #[.slice la ln lc,.slice ra rn rc] 25)) 0 0 (.slice none 0 0) [] 1 (kQ _) (dI _ _ _);have hz:(w.alloc (.cells #[.slice la ln lc,.slice ra rn rc] 25)).heap.size=w.heap.size+1:=by simp
  rw[hz] at h;exact h
 have HS:=qQ hS;have hbW:Below w.heap.size w ((w.alloc (.cells #[.slice la ln lc,.slice ra rn rc] 25)).alloc (.cells #[.slice none 0 0,.int .i64 1] 77)):=bal (ba _ _) _;clear hS;by_cases h1:a<0
 ·go_enter func15,ntmps15
  go_wp2;exact uQ (v:=.tuple #[.slice (some ⟨w.heap.size+1,0,none⟩) 1 1,.bool true]) (by simp[results,results15,go_sem]) rfl (yA.stop hbW (by simpa using HS.out))
 ·by_cases h2:(pn:Int)<=a
  ·have h3:a ≥ (pn:Int):=h2
   go_enter func15,ntmps15;go_wp2;exact uQ (v:=.tuple #[.slice (some ⟨w.heap.size+1,0,none⟩) 1 1,.bool true]) (by simp[results,results15,go_sem]) rfl (yA.stop hbW (by simpa using HS.out))
  ·have h3:¬ a ≥ (pn:Int):=h2
   go_enter func15,ntmps15;go_wp2;exact uQ (v:=.tuple #[.slice (some ⟨w.heap.size+1,0,none⟩) 1 1,.bool true]) (by simp[results,results15,go_sem]) rfl (yA.stop hbW (by simpa using HS.out))

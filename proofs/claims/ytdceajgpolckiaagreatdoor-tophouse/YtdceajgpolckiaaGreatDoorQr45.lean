import Derived.Test.YtdceajgpolckiaaGreatDoorQr44
open Go.Proofs.Tryz
set_option linter.unusedSimpArgs false
set_option maxHeartbeats 16000000
set_option maxRecDepth 100000
namespace Go.Proofs.YtdceajgpolckiaaGreatDoor
variable {Q:Exit->Act->World->Prop} {ops:Array Oper} {rest:List Oper} {o1 o2:Oper} {act:Act} {W0 w3:World} {a ea ta:Option Addr} {c:Nat} {ts:List (List Int)} {hv ov:Value} {G M:Nat->Prop}
section
open Go.RowKit Go.Shelf Ds
theorem e9Q (hQp:∀ c a d v w,Q (.panic c) (Act.put a d v) w->Q (.panic c) a w)(t0 t1 t2 t3 t4 t6 t7 t8 t9 t10 t11 t12 t13 t14 t15 t16 t17 t18 t19 t20 t21 t22 t23 t24 t25 t26 t27 t28 t29 t30 t31 t32 t33 t34 t35 t36 t37 t38 t39 t40 t41 t42 t43 t44 t45 t46 t47 t48 t49 t50 t51 t52 t53 t54 t55 t56 t57 t58 t59 t60 t61 t62 t63 t64 t65 t66 t67 t68 t69 t70 t71 t72 t73 t74 t75 t76 t77 t78 t79 t80 t81 t82 t83 t84 t85 t86 t87 t88 t89 t90 t91 t92 t93 t94 t95 t96 t97 t98 t99 t100 t101 t102 t103 t104 t105 t106 t107 t108 t109 t110 t111 t112 t113 t114 t115 t116 t117 t118 t119 t120 t121 t122 t123 t124 t125 t126 t127 t128 t129 t130 t131 t132 t133 t134 t135 t136 t137 t138 t139 t140 t141 t142 t143 t144 t145 t146 t147 t148 t149 t150 t151 t152 t153 t154 t155 t156 t157 t158 t159 t160 t161 t162 t163:Value)(A:World)(tb:Nat)(x0 x1:Value)(R:Value->World->Prop)
  (hC:∀ W,Below A.heap.size A W->W.cell? ⟨tb,0,none⟩=some x0/\W.cell? ⟨tb,1,none⟩=some x1)
  (hH:∀ V:World,Below A.heap.size A V->Calls prog 9 #[.agg #[x0,x1],.slice (some ⟨V.heap.size,0,none⟩) 100 100,t14] (V.alloc (.cells (madeCells #[.int .i64 0] 100) 2)) fun e W'=>∃ ov sl,e=.returned (.tuple #[ov,sl,.bool true])/\R ov W'/\Below A.heap.size A W')
  (hEnd:∀ (u97 u98 u99 u100 u101 u102 u103 u104 ov sl:Value) (Wf:World),Below A.heap.size A Wf->R ov Wf->Q .normal { tmps:=#[t0,t1,t2,t3,t4,.pointer (some ⟨tb,0,none⟩),t6,t7,t8,t9,t10,t11,t12,t13,t14,t15,t16,t17,t18,t19,ov,sl,.bool true,t23,t24,t25,t26,t27,t28,t29,t30,t31,t32,t33,t34,t35,t36,t37,t38,t39,t40,t41,t42,t43,t44,t45,t46,t47,t48,t49,t50,t51,t52,t53,t54,t55,t56,t57,t58,t59,t60,t61,t62,t63,t64,t65,t66,t67,t68,t69,t70,t71,t72,t73,t74,t75,t76,t77,t78,t79,t80,t81,t82,t83,t84,t85,t86,t87,t88,t89,t90,t91,t92,t93,t94,t95,t96,u97,u98,u99,u100,u101,u102,u103,u104,t105,t106,t107,t108,t109,t110,t111,t112,t113,t114,t115,t116,t117,t118,t119,t120,t121,t122,t123,t124,t125,t126,t127,t128,t129,t130,t131,t132,t133,t134,t135,t136,t137,t138,t139,t140,t141,t142,t143,t144,t145,t146,t147,t148,t149,t150,t151,t152,t153,t154,t155,t156,t157,t158,t159,t160,t161,t162,t163],defers:=[] } Wf) :
  (Code.region 24 #[⟨some 98, .load 25 (.tmp 5), 25, "top.go:159", #[], none⟩, ⟨some 99, .makeSlice 43 (.const (Value.int IntKind.i64 100)) (.const (Value.int IntKind.i64 100)), 43, "top.go:159", #[], none⟩, ⟨some 100, .move (.tmp 14), 26, "top.go:159", #[], none⟩, ⟨some 101, .call { callee := .value (.func 9), args := #[.tmp 98, .tmp 99, .tmp 100], argTypes := #[25, 43, 26] }, 44, "top.go:159", #[⟨0, .data⟩, ⟨1, .data⟩, ⟨2, .data⟩], none⟩, ⟨some 97, .move (.tmp 101), 44, "top.go:159", #[⟨3, .data⟩], none⟩, ⟨some 102, .extract (.tmp 97) 0, 42, "top.go:159", #[⟨4, .data⟩], none⟩, ⟨some 103, .extract (.tmp 97) 1, 43, "top.go:159", #[⟨4, .data⟩, ⟨8, .gcOnly .lateStores⟩], none⟩, ⟨some 104, .extract (.tmp 97) 2, 4, "top.go:159", #[⟨4, .data⟩, ⟨9, .gcOnly .lateStores⟩], none⟩, ⟨some 20, .assign (.tmp 102), 42, "top.go:159", #[⟨5, .data⟩, ⟨3, .chain⟩, ⟨0, .phase⟩, ⟨1, .phase⟩, ⟨2, .phase⟩, ⟨3, .phase⟩, ⟨4, .phase⟩, ⟨5, .phase⟩, { on := 6, ground := Ground.textOnly Departure.lateStores }, { on := 7, ground := Ground.textOnly Departure.lateStores }], none⟩, ⟨some 21, .assign (.tmp 103), 43, "top.go:159", #[⟨6, .data⟩, ⟨8, .chain⟩, ⟨0, .phase⟩, ⟨1, .phase⟩, ⟨2, .phase⟩, ⟨3, .phase⟩, ⟨4, .phase⟩, ⟨5, .phase⟩, ⟨6, .phase⟩, { on := 7, ground := Ground.textOnly Departure.lateStores }, ⟨8, .phase⟩], none⟩, ⟨some 22, .assign (.tmp 104), 4, "top.go:159", #[⟨7, .data⟩, ⟨9, .chain⟩, ⟨0, .phase⟩, ⟨1, .phase⟩, ⟨2, .phase⟩, ⟨3, .phase⟩, ⟨4, .phase⟩, ⟨5, .phase⟩, ⟨6, .phase⟩, ⟨7, .phase⟩, ⟨8, .phase⟩, ⟨9, .phase⟩], none⟩] true).wp prog Q { tmps := #[t0, t1, t2, t3, t4, .pointer (some ⟨tb, 0, none⟩), t6, t7, t8, t9, t10, t11, t12, t13, t14, t15, t16, t17, t18, t19, t20, t21, t22, t23, t24, t25, t26, t27, t28, t29, t30, t31, t32, t33, t34, t35, t36, t37, t38, t39, t40, t41, t42, t43, t44, t45, t46, t47, t48, t49, t50, t51, t52, t53, t54, t55, t56, t57, t58, t59, t60, t61, t62, t63, t64, t65, t66, t67, t68, t69, t70, t71, t72, t73, t74, t75, t76, t77, t78, t79, t80, t81, t82, t83, t84, t85, t86, t87, t88, t89, t90, t91, t92, t93, t94, t95, t96, t97, t98, t99, t100, t101, t102, t103, t104, t105, t106, t107, t108, t109, t110, t111, t112, t113, t114, t115, t116, t117, t118, t119, t120, t121, t122, t123, t124, t125, t126, t127, t128, t129, t130, t131, t132, t133, t134, t135, t136, t137, t138, t139, t140, t141, t142, t143, t144, t145, t146, t147, t148, t149, t150, t151, t152, t153, t154, t155, t156, t157, t158, t159, t160, t161, t162, t163], defers := [] } A := by
 have HEND:=qQ hEnd;have HC:=qQ hC;have HH:=qQ hH;have hmk:∀ u:World,(Instr.makeSlice 43 (.int .i64 100) (.int .i64 100)).run prog u=.ok (.slice (some ⟨u.heap.size,0,none⟩) 100 100) (u.alloc (.cells (madeCells #[.int .i64 0] 100) 2)):=run_make_row' (P:=prog) 43 2 (.int .i64 0) 8 underlying43 eC rfl .i64 .i64 100 (by omega) (by omega);have G0:Hid (Below A.heap.size A A.drew):=(aQ _ _).drew;clear hEnd hC hH;refine wp_region_any (by kernel_rfl) ?_;change wpAny _ _ _ _ _ _ _ (World.drew _);obtain⟨V0,hV0⟩:∃ V0,A.drew=V0:=⟨_,rfl⟩;rw[hV0] at G0 ⊢;clear hV0;refine K.P.yS (S:=fun W=>Below A.heap.size A W) (J:=fun _=>true) _ _ _ _ ?_;refine K.P.tk 0 (.agg #[x0,x1]) rfl rfl (by kernel_rfl) (fun _ _ _ h=>hQp _ _ _ _ _ h) ⟨by rfl,fun W hS=>?_⟩ G0.out ?_
 ·obtain⟨z0,z1⟩:=HC.out W hS;go_simp
 simp only[Act.put,K.P.zA,K.P.zB,K.P.zC];refine K.P.tk 2 (t14) rfl rfl (by kernel_rfl) (fun _ _ _ h=>hQp _ _ _ _ _ h) ⟨by rfl,fun W hS=>?_⟩ G0.out ?_
 ·go_simp
 simp only[Act.put,K.P.zA,K.P.zB,K.P.zC];refine K.P.zU (rs:=[1]) (by kernel_rfl) (by simp) ?_;refine K.P.kX.cons (o:=_) rfl (fun K hK=>?_) K.P.kX.nil;have kk:=HH.out V0 G0.out;go_simp
 try simp only[hmk]
 obtain⟨V1,hV1⟩:∃ V1,V0.alloc (.cells (madeCells #[.int .i64 0] 100) 2)=V1:=⟨_,rfl⟩;have G1:Hid (Below A.heap.size A V1):=hV1▸bal G0.out _;rw[hV1] at kk
 try rw[hV1]
 clear hV1 hmk;refine hK.out _ _ (fun _=>G1.out) ?_;clear hK K
 try simp only[Act.put,K.P.zA,K.P.zB,K.P.zC]
 refine K.P.zU (rs:=[3]) (by kernel_rfl) (by simp) ?_;refine K.P.kX.cons (o:=_) rfl (fun K hK=>?_) K.P.kX.nil;go_simp;go_at_call 9;refine kk.mono ?_;rintro e1 W1 ⟨ov,sl,rfl,hR,hb⟩;have G2:=qQ hb;have HR:=qQ hR;clear kk hR hb;refine hK.out _ _ (fun _=>G2.out) ?_;clear hK K
 try simp only[Act.put,K.P.zA,K.P.zB,K.P.zC]
 refine K.P.tk 4 (.tuple #[ov,sl,.bool true]) rfl rfl (by kernel_rfl) (fun _ _ _ h=>hQp _ _ _ _ _ h) ⟨by rfl,fun W hS=>?_⟩ G2.out ?_
 ·go_simp
 simp only[Act.put,K.P.zA,K.P.zB,K.P.zC];refine K.P.tk 5 (ov) rfl rfl (by kernel_rfl) (fun _ _ _ h=>hQp _ _ _ _ _ h) ⟨by rfl,fun W hS=>?_⟩ G2.out ?_
 ·go_simp
 simp only[Act.put,K.P.zA,K.P.zB,K.P.zC];refine K.P.tk 6 (sl) rfl rfl (by kernel_rfl) (fun _ _ _ h=>hQp _ _ _ _ _ h) ⟨by rfl,fun W hS=>?_⟩ G2.out ?_
 ·go_simp
 simp only[Act.put,K.P.zA,K.P.zB,K.P.zC];refine K.P.tk 7 (.bool true) rfl rfl (by kernel_rfl) (fun _ _ _ h=>hQp _ _ _ _ _ h) ⟨by rfl,fun W hS=>?_⟩ G2.out ?_
 ·go_simp
 simp only[Act.put,K.P.zA,K.P.zB,K.P.zC];refine K.P.tk 8 (ov) rfl rfl (by kernel_rfl) (fun _ _ _ h=>hQp _ _ _ _ _ h) ⟨by rfl,fun W hS=>?_⟩ G2.out ?_
 ·go_simp
 simp only[Act.put,K.P.zA,K.P.zB,K.P.zC];refine K.P.tk 9 (sl) rfl rfl (by kernel_rfl) (fun _ _ _ h=>hQp _ _ _ _ _ h) ⟨by rfl,fun W hS=>?_⟩ G2.out ?_
 ·go_simp
 simp only[Act.put,K.P.zA,K.P.zB,K.P.zC];refine K.P.tk 10 (.bool true) rfl rfl (by kernel_rfl) (fun _ _ _ h=>hQp _ _ _ _ _ h) ⟨by rfl,fun W hS=>?_⟩ G2.out ?_
 ·go_simp
 simp only[Act.put,K.P.zA,K.P.zB,K.P.zC];exact K.P.sH (by kernel_rfl) (HEND.out _ _ _ _ _ _ _ _ _ _ W1 G2.out HR.out) _
end
section
open Go.RowKit Ds
open K (Cl)
open K.P (HSt Keeps xX vJ jU dZ HouK DskM iG vZ pZ Ev Sn uD gV TwoB oV oU nV yX oA oZ vD enc dN)
theorem oC {N0 bd bw:Nat}{l:List K.Ds.yQ}{s:HSt}{os:List (Sn vU)}{y:Sn vU}{er us lu ld:Int}{tn tc en ec:Nat}{i4:TypeInfo}
  (HI:HuI W0 w3 N0 bd bw a c l ts hv ov s os M G) (HS:aD w3 G y [.int .i64 er,.slice ta tn tc,.int .i64 us,.int .i64 lu,.int .i64 ld,.slice ea en ec]) (hol:os.length<=1000000000000) (hi4:prog.info? 51=some i4) (hz40:i4.zero=some (.agg #[.int .i64 0,.slice none 0 0,.int .i64 0,.int .i64 0,.int .i64 0,.slice none 0 0])) (hz41:i4.size=6) (hz42:i4.bytes=80)
  (h1g:o1.guard=none) (x:Operand) (h1:o1.op=.buildSlice 42 1 #[(0,x)]) (d1:Option Tmp) (hd1:o1.dst=d1) (hx:act.eval x=.agg #[.int .i64 er,.slice ta tn tc,.int .i64 us,.int .i64 lu,.int .i64 ld,.slice ea en ec]) (h2g:o2.guard=none) (s0 x2:Operand) (h2:o2.op=.call { callee:=.builtin .append,args:=#[s0,x2],argTypes:=#[42,42] })
  (hs0:(act.put d1 (.slice (some ⟨w3.heap.size,0,none⟩) 1 1)).eval s0=ov) (hx2:(act.put d1 (.slice (some ⟨w3.heap.size,0,none⟩) 1 1)).eval x2=.slice (some ⟨w3.heap.size,0,none⟩) 1 1)
  (hK:∀ g9 cap w5,Hid (HuI W0 w5 N0 bd bw a c l ts hv (.slice (some ⟨g9,0,none⟩) (os.length+1) cap) s (os++[y]) M G)->wpList prog ops Q rest ((act.put d1 (.slice (some ⟨w3.heap.size,0,none⟩) 1 1)).put o2.dst (.slice (some ⟨g9,0,none⟩) (os.length+1) cap)) w5):wpList prog ops Q (o1::o2::rest) act w3:=by
 obtain⟨css,q1,q2,q3,q4⟩:=HI.out;have hN3:N0<=w3.heap.size:=by have:=HI.be.size;have:=HI.bs.2.2.2;omega
 refine ahX h1g 42 51 x h1 w3.heap.size rfl d1 hd1 underlying42 _ hx _ (e5X _ _ _ _ _ _ _ _ _ _) ?_;refine uE _ h2g s0 x2 42 h2 N0 51 i4 _ 6 80 underlying42 hi4 hz40 hz41 hz42 rfl (by decide) ov os.length css.flatten hs0 (q2.alloc _) ⟨w3.heap.size,0,none⟩ 1 1 [.int .i64 er,.slice ta tn tc,.int .i64 us,.int .i64 lu,.int .i64 ld,.slice ea en ec] hx2 rfl (fun j u hj=>?_) (fun u hu=>?_) (by decide) (by unfold maxLen;omega) (by omega) (by simp;omega) (w3.heap.size+1) (by simp) ?_
 ·have e:(⟨w3.heap.size,0,none⟩:Addr).add j=⟨w3.heap.size,j,none⟩:=by unfold Addr.add;split <;> simp_all
  rw[e];exact(Bx.new w3 [.int .i64 er,.slice ta tn tc,.int .i64 us,.int .i64 lu,.int .i64 ld,.slice ea en ec] 51 rfl j u hj).c
 ·simp only[fX,yF,uF] at hu
  rcases hu with rfl|rfl|rfl|rfl|rfl|rfl <;> rfl
 ·intro g9 cap w5 hown hgrow hat hglt
  have hg3:w3.grownBy w5 ov.ownBlock:=⟨hgrow.os,hgrow.tape,hgrow.output,bQ (by simp) hgrow.size,fun k hk hn=>(hgrow.block k (by simp;omega) hn).trans (vM _ _ _ hk)⟩;exact hK g9 cap w5 (HI.snoc HS rfl css q1 q2 q3 q4 hg3 hown (hat.imp id (fun h=>by omega)))
theorem e9X (B:Nat)(cv rv sv:Value)(l:List K.Ds.yQ)(rs:List K.Rw)(wa:Option Addr)(wc:Nat)(words:List Int)(xs:List Stp)(w:World)(hB:B<=w.heap.size)(hp:K.rQ w B cv l)(hq:K.tQ w B rv rs)
  (hw0:wa=none->words.length=0/\wc=0) (hw1:∀ ad,wa=some ad->∀ j u,words[j]? = some u->ad.block<w.heap.size/\w.cell? (ad.add j)=some (.int .i64 u)) (h64:oV words) (hwl:words.length<=1000000) (hs:bvQ w B sv xs) (hxl:xs.length<=1000000000000) (hact:∀ x∈xs,x.act=1\/x.act=2\/x.act=3) (hwr:K.Ds.iJ l (K.rr rs)=0) (hgd:∀ j x,xs[j]? = some x->(cJ l (K.rr rs) ⟨words,-1,false,false,[]⟩ (xs.take j)).1.brk=false/\(x.act≠1->(cJ l (K.rr rs) ⟨words,-1,false,false,[]⟩ (xs.take j)).1.up=true)) :
  Calls prog 9 #[.agg #[cv,rv],.slice wa words.length wc,sv] w (e1X l (K.rr rs) words xs w):=by
 have HP:=qQ hp;have HQ:=qQ hq;have HS:=qQ hs;have HAT:=qQ hact;have HWR:=qQ hwr;have HGD:=qQ hgd;clear hact hwr hgd;have H64:=qQ h64;obtain⟨i2,hi2,hz20,hz21,hz22⟩:=zV eC;obtain⟨i4,hi4,hz40,hz41,hz42⟩:=zV e1Q;obtain⟨ca,cc,rfl,_⟩:=hp.slice;obtain⟨ra,rc,rfl,_⟩:=hq.slice;obtain⟨sa,sc,rfl,hsc,hsl,_⟩:=hs
 have A:Hid (∀ ad,wa=some ad->∀ j u,(words.map (Value.int .i64))[j]? = some u->∀ o1 o2,((w.alloc o1).alloc o2).cell? (ad.add j)=some u):=by
  intro ad ha j u hj o1 o2;rw[uA] at hj;cases e:words[j]? with
  | none=>rw[e] at hj;cases hj
  | some x =>
   rw[e] at hj;cases hj;obtain⟨h1,h2⟩:=hw1 ad ha j x e;have hb:(ad.add j).block=ad.block:=by unfold Addr.add;split <;> rfl
   rw[cH _ _ _ (by simp;omega),cH _ _ _ (by omega)];exact h2
 have HMD:Hid (((w.alloc (.cells #[.slice ca l.length cc,.slice ra rs.length rc] 25)).alloc (.cells #[] 2)).ownsRow (w.heap.size+1) 2 1 (.slice (some ⟨w.heap.size+1,0,none⟩) 0 0) 0 []):=by
  have:=zR (base:=w.heap.size+1) (e:=2) (size:=1) (w.alloc (.cells #[.slice ca l.length cc,.slice ra rs.length rc] 25)) #[] 0 (by simp) (kQ _) (by simp);simp at this;exact this
 have HW0:=qQ hw0;clear hp hq hw1 h64 hw0;go_enter func9,ntmps9;go_wp2_with (at_builtin;refine e1J rfl _ _ 43 rfl (w.heap.size+1) 2 i2 (.int .i64 0) 1 8 underlying43 hi2 hz20 hz21 hz22 rfl (by decide) _ _ _ rfl HMD.out wa words.length wc (words.map (.int .i64)) rfl ?qc0 ?qc1 ?qc2 ?qc3 ?qc4 ?qc5 ?qc6 ?qc7 ?_)
 case qc0=>exact HW0.out
 case qc1=>simp
 case qc2=>intro ad ha j u hj;exact A.out ad ha j u hj _ _
 case qc3=>intro u hu;simp at hu;obtain⟨z,_,rfl⟩:=hu;rfl
 case qc4=>rw[xZ];simp[maxLen];omega
 case qc5=>rw[xZ];omega
 case qc6=>simp
 case qc7=>show Value.slice (some ⟨w.heap.size+1,0,none⟩) 0 0≠_;simp
 intro v' w1 hown hgrow hnil;have h9:=e1Z (words:=words) (by simpa using hown) hnil;obtain⟨a,c,bw,rfl,rfl,hb1,hb2,hds⟩:=h9
 have hb0:Below (w.heap.size+1) (w.alloc (.cells #[.slice ca l.length cc,.slice ra rs.length rc] 25)) w1:=by
  refine⟨hgrow.os,hgrow.tape,hgrow.output,bQ (by simp) hgrow.size,fun k hk=>(hgrow.block k (by simp;omega) (by simp[Value.ownBlock];omega)).trans (vM _ _ _ (by simp;omega))⟩
 obtain⟨W0,hW0⟩:∃ W0,w.alloc (.cells #[.slice ca l.length cc,.slice ra rs.length rc] 25)=W0:=⟨_,rfl⟩;have hWs:W0.heap.size=w.heap.size+1:=by rw[<-hW0];simp
 have HT0:Hid (TwoB W0 w.heap.size (.slice ca l.length cc) (.slice ra rs.length rc)):=hW0▸TwoB.new _ _ _ 25 _ rfl;have HBW:Hid (Below w.heap.size w W0):=hW0▸ba _ _
 have hI0:HuI W0 (w1.alloc (.cells #[.slice (some ⟨bw,0,none⟩) words.length c,.int .i64 (-1),.bool false] 87)) (w.heap.size+1) w1.heap.size bw (some ⟨bw,0,none⟩) c l (K.rr rs) (.pointer none) (.slice none 0 0) ⟨words,-1,false,false,[]⟩ [] (fun _=>False) (fun _=>False):=by
  rw[hW0] at hb0;have hz:=hb0.size;refine⟨hb0.alloc (by omega) _,hds,⟨by omega,hb1,by simp;omega,by omega⟩,H64.out,⟨by simp,by simp⟩,fun k h=>h.elim,fun k h=>h.elim,fun _=>rfl,(fun h=>by cases h),[],rfl,⟨rfl,.inl ⟨rfl,rfl⟩⟩,(fun g hg=>by cases hg),fun i x cs hx=>by simp at hx⟩
 have HI0:=qQ hI0;clear hI0 hds hb0 hown hgrow hnil HMD HW0 A hW0;go_wp2
 go_loopw [22,10,11] (fun iv hv ov wr=>∃ (i:Nat) (M G:Nat->Prop),iv=.int .i64 (i:Int)/\i<=xs.length/\Hid (HuI W0 wr (w.heap.size+1) w1.heap.size bw (some ⟨bw,0,none⟩) c l (K.rr rs) hv ov (cJ l (K.rr rs) ⟨words,-1,false,false,[]⟩ (xs.take i)).1 (cJ l (K.rr rs) ⟨words,-1,false,false,[]⟩ (xs.take i)).2 M G)) (fun iv _ _ _=>xs.length - (intOf iv).toNat)
 case atStart=>exact⟨0,fun _=>False,fun _=>False,rfl,kQ _,HI0⟩
 case round =>
  obtain⟨i,M,G,rfl,hi,HI⟩:=hrel;by_cases h1:i<xs.length
  ·obtain⟨x,hx⟩:∃ x,xs[i]? = some x:=⟨_,zJ h1⟩
   have HAX:=qQ (HAT.out x (qX hx))
   have hbe:Below B w wr:=by
    have q1:=HBW.out;have q2:=HI.out.be;exact⟨q2.os.trans q1.os,q2.tape.trans q1.tape,q2.output.trans q1.output,bQ q1.size q2.size,fun k hk=>(q2.block k (by omega)).trans (q1.block k (by omega))⟩
   have HBE:=qQ hbe;obtain⟨sa',sc',hsv,_,_,hst⟩:=HS.out;cases hsv;obtain⟨b,o,rfl,hbB,hst⟩:=hst (fun e=>by rw[e] at h1;simp at h1);obtain⟨v0,v1,v2,v3,v4,v5,xa,xc,nb,hc,hQm,hIn,hnl,hlo,hhi,hn,hwd,hnm,hpn⟩:=(hst i x hx).keep hbe hbB;have hx18:=hc;have HCC:=qQ hc;have HQm:=qQ hQm;have HIn:=qQ hIn;obtain⟨kk,kc,kl,kh,ka,kn,kd,kb,km,kp,rfl,rfl,rfl,rfl,rfl,rfl⟩:=hQm.shape;have HX:Hid ((xa=none->xc=0)/\vX x.lo/\vX x.hi/\vX x.n/\vX x.word/\x.nm.size<=9223372036854775807/\x.pn.size<=9223372036854775807):=⟨hnl,hlo,hhi,hn,hwd,hnm,hpn⟩;have HR:=qQ hc;clear hc hQm hIn hnl hlo hhi hn hwd hnm hpn hst hbe hx18;have hii:(i:Int)<(xs.length:Int):=by omega
   obtain⟨S,os,hSo⟩:∃ S os,cJ l (K.rr rs) ⟨words,-1,false,false,[]⟩ (xs.take i)=(S,os):=⟨_,_,rfl⟩;have HSG:Hid (S.brk=false/\(x.act≠1->S.up=true)):=by have:=HGD.out i x hx;rw[hSo] at this;exact this
   have hosl:os.length=i:=by
    have:=nC l (K.rr rs) (xs.take i) ⟨words,-1,false,false,[]⟩;rw[hSo,lA] at this;simp only at this;omega
   have HOL:=qQ hosl
   have HI1:Hid (HuI W0 wr (w.heap.size+1) w1.heap.size bw (some ⟨bw,0,none⟩) c l (K.rr rs) u10 u11 S os M G):=by
    have:=HI.out;rw[hSo] at this;exact this
   have NXT:Hid (∀ s' x',bJ l (K.rr rs) S x=(s',x')->cJ l (K.rr rs) ⟨words,-1,false,false,[]⟩ (xs.take (i+1))=(s',os++[x'])):=fun s' x' he=>by
    rw[fZ,hx];simp only[Option.toList_some];rw[mC,hSo];simp only;rw[he]
   obtain⟨w2,hw2⟩:∃ w2,(wr.alloc (.cells #[.int .i64 x.act,.int .i64 x.n,.string x.nm,.int .i64 x.bu,.int .i64 x.bd,.string x.pn,.int .i64 kk,.string kc,.int .i64 kl,.int .i64 kh,.slice ka kn kd,.slice kb km kp,.int .i64 x.u,.int .i64 x.d,.int .i64 x.lo,.int .i64 x.hi,.slice xa x.bits.length xc,.int .i64 x.word] 41)).alloc (.cells #[.int .i64 0,.slice none 0 0,.int .i64 0,.int .i64 0,.int .i64 0,.slice none 0 0] 51)=w2:=⟨_,rfl⟩;have hbw2:Below wr.heap.size wr w2:=hw2▸bal (ba _ _) _;have HW2:=qQ hbw2;have hs2:wr.heap.size+2<=w2.heap.size:=by rw[<-hw2];simp
   have HBS:Hid (Bx w2 wr.heap.size [.int .i64 x.act,.int .i64 x.n,.string x.nm,.int .i64 x.bu,.int .i64 x.bd,.string x.pn,.int .i64 kk,.string kc,.int .i64 kl,.int .i64 kh,.slice ka kn kd,.slice kb km kp,.int .i64 x.u,.int .i64 x.d,.int .i64 x.lo,.int .i64 x.hi,.slice xa x.bits.length xc,.int .i64 x.word]):=hw2▸(Bx.new wr [.int .i64 x.act,.int .i64 x.n,.string x.nm,.int .i64 x.bu,.int .i64 x.bd,.string x.pn,.int .i64 kk,.string kc,.int .i64 kl,.int .i64 kh,.slice ka kn kd,.slice kb km kp,.int .i64 x.u,.int .i64 x.d,.int .i64 x.lo,.int .i64 x.hi,.slice xa x.bits.length xc,.int .i64 x.word] 41 rfl).at (ba _ _);have HBX:Hid (Bx w2 (wr.heap.size+1) [.int .i64 0,.slice none 0 0,.int .i64 0,.int .i64 0,.int .i64 0,.slice none 0 0]):=hw2▸Bx.new _ [.int .i64 0,.slice none 0 0,.int .i64 0,.int .i64 0,.int .i64 0,.slice none 0 0] 51 (by simp);have HI2:=qQ (HI1.out.at hbw2)
   have hNE:∀ k,(M k\/k=w1.heap.size\/k=bw)->k<wr.heap.size:=fun k hk=>by
    rcases hk with m|m|m
    ·exact(HI1.out.mm k m).2.1
    ·have:=HI1.out.ds.c0.lt;omega
    ·have:=HI1.out.bs.2.2.1;omega
   have HNE:=qQ hNE;have a0:=(HBS.out 0 _ rfl).c;have a1:=(HBS.out 1 _ rfl).c;clear hSo hx HI hbw2 hNE hosl;go_upto_region 6 with fail;refine aF ?_;(iterate 3 go_step);refine bM rfl 41 _ rfl b (o+i*18) rfl _ _ HR.out underlying41 rfl bwZ ?_;(iterate 3 go_step);refine wpList_store_rowTo rfl 41 _ _ rfl rfl wr.heap.size _ rfl rfl 41 _ (Go.heap_alloc_last _ _) bwZ rfl e5Z ?_;rw[apX];go_upto_region 8 with fail;clear hw2;by_cases h6:x.act=1
   ·as_aux_lemma =>
    obtain⟨er,her⟩:∃ er,K.Ds.iJ l (K.rr rs)=er:=⟨_,rfl⟩;have HER:=qQ her;have hbe2:Below B w w2:=HBE.out.trans (HW2.out.mono (bQ hB HBE.out.size));have kO:=K.P.euQ B w1.heap.size bw _ _ l rs (some ⟨bw,0,none⟩) c S.disk S.left w2 (bQ hB hbe2.size) (HP.out.keep hbe2) (HQ.out.keep hbe2) HI2.out.ds HI2.out.bs.2.2.1 HI2.out.w64 er her;have t0:=(HI2.out.be.cell (p:=⟨w.heap.size,0,none⟩) (by simp)).trans HT0.out.c0;have t1:=(HI2.out.be.cell (p:=⟨w.heap.size,1,none⟩) (by simp)).trans HT0.out.c1;have b1:(x.act == 1)=true:=by simpa using h6
    clear her hbe2;go_wp2_with fail;refine kO.mono ?_;rintro x5 w' ⟨hb5,h5⟩;have HB5:=qQ hb5;have hkb:Keeps w2 w' (fun _=>False):=xX hb5;have hnb:¬ False:=fun h=>h;rcases h5 with⟨h0,rfl⟩|⟨h0,bh,rfl,hou⟩
    ·exact absurd (HER.out.symm.trans HWR.out) h0
    ·skip
     subst h0;obtain⟨w3,hw3⟩:∃ w3,w'.setCell ⟨wr.heap.size+1,0,none⟩ (.int .i64 0)=w3:=⟨_,rfl⟩;have HBw:Bx w' (wr.heap.size+1) [.int .i64 0,.slice none 0 0,.int .i64 0,.int .i64 0,.int .i64 0,.slice none 0 0]:=HBX.out.kp hkb hnb;have y0:=(HBw 0 _ rfl).c;have y1:=(HBw 0 _ rfl).f;have HB3:Hid (Bx w3 (wr.heap.size+1) [.int .i64 0,.slice none 0 0,.int .i64 0,.int .i64 0,.int .i64 0,.slice none 0 0]):=hw3▸HBw.set (i:=0) (by simp) _;have HW3:Hid (Keeps w' w3 (fun k=>k=wr.heap.size+1)):=hw3▸vJ (jU w' (fun k=>k=wr.heap.size+1)) (p:=⟨wr.heap.size+1,0,none⟩) (.inl rfl) _;have r0:=(HB3.out 0 _ rfl).c;clear HBw hkb hnb;have HOU:=qQ hou
     have hmb:w2.heap.size<=bh/\bh<w'.heap.size:=by
      obtain⟨_,_,_,_,_,_,_,_,_,_,q⟩:=hou;exact q.mm bh (.inl rfl)
     have HMB:=qQ hmb;clear kO t0 t1 b1 hb5 a0 a1 hou hmb;go_upto_region 23 with fail;clear hw3 y0 y1 r0
     have HI3:Hid (HuI W0 w3 (w.heap.size+1) w1.heap.size bw (some ⟨bw,0,none⟩) c l (K.rr rs) (.pointer (some ⟨bh,0,none⟩)) u11 ⟨S.disk,S.left,true,false,K.P.oU S.disk⟩ os (fun k=>w2.heap.size<=k/\k<w'.heap.size) G) :=
      HI1.out.call (s':=⟨S.disk,S.left,true,false,K.P.oU S.disk⟩) (xX (bt HW2.out HB5.out)) (HI2.out.ds.at HB5.out) HI1.out.w64 HI1.out.i64 (fun k=>w2.heap.size<=k/\k<w'.heap.size) G (fun _ m=>.inr ⟨by omega,m.2⟩) (fun _ m=>.inl m) (fun _ m=>m) (fun h=>by cases h) (fun _=>⟨HER.out,bh,rfl,HMB.out,fun _=>HOU.out,fun h=>by cases h⟩) HW3.out
     have HS3:Hid (aD w3 G ⟨0,none,[]⟩ [.int .i64 0,.slice none 0 0,.int .i64 0,.int .i64 0,.int .i64 0,.slice none 0 0]):=ahQ w3 G 0
     have HE3:Hid (bJ l (K.rr rs) S x=(⟨S.disk,S.left,true,false,K.P.oU S.disk⟩,⟨0,none,[]⟩)):=by
      unfold bJ jL;rw[Hid,xQ (fun h=>by omega),zQ h6,HER.out];simp[pZ]
     have r0:=(HB3.out 0 _ rfl).c;have r1:=(HB3.out 1 _ rfl).c;have r2:=(HB3.out 2 _ rfl).c;have r3:=(HB3.out 3 _ rfl).c;have r4:=(HB3.out 4 _ rfl).c;have r5:=(HB3.out 5 _ rfl).c;refine aF ?_;(iterate 6 go_step);refine oC HI3.out HS3.out (by have:=HOL.out;omega) hi4 hz40 hz41 hz42 rfl _ rfl _ rfl rfl rfl _ _ rfl rfl rfl ?_;intro g9 cap w5 h5;have HN6:Hid _:=NXT.out ⟨S.disk,S.left,true,false,K.P.oU S.disk⟩ ⟨0,none,[]⟩ HE3.out;clear r0 r1 r2 r3 r4 r5 HB3;go_wp2;refine⟨⟨i+1,(fun k=>w2.heap.size<=k/\k<w'.heap.size),G,by go_num,h1,?_⟩,by simp[intOf];omega⟩;rw[HN6.out];exact h5
   by_cases h7:x.act=4
   ·have:=HAX.out;omega
   have b1:(x.act == 1)=false:=by simpa using h6
   have b4:(x.act == 4)=false:=by simpa using h7
   by_cases h8:x.act=6
   ·have:=HAX.out;omega
   by_cases h9:S.up=false
   ·have:=HSG.out.2 h6;rw[h9] at this;cases this
   have h9':S.up=true:=by simpa using h9
   obtain⟨hwe,bh,hv0,hmb,hhou,hbrk⟩:=HI2.out.up h9';subst hv0;have HWE:=qQ hwe;have HMB:=qQ hmb;by_cases h2:x.act=2
   ·as_aux_lemma =>
    have b6:(x.act == 6)=false:=by simpa using h8
    have dk0:=HI2.out.ds.c0.c;go_wp2_with fail;go_quiet (fail);obtain⟨w4,hw4⟩:∃ w4,w2.drewN nq=w4:=⟨_,rfl⟩;have hb4:Below w2.heap.size w2 w4:=hw4▸(⟨rfl,rfl,rfl,vQ _,fun _ _=>rfl⟩:Below w2.heap.size w2 (w2.drewN nq));have HI4:=qQ (HI2.out.at hb4);have HBX4:=qQ (HBX.out.at hb4);have HBS4:=qQ (HBS.out.at hb4);have HW4:=qQ (bt HW2.out hb4);have hs4:wr.heap.size+2<=w4.heap.size:=by have:=hb4.size;omega
    have e0:=(HBS4.out 0 _ rfl).c;have HMM:Hid (¬ M w1.heap.size/\¬ M bw):=⟨fun m=>(HI4.out.mm _ m).2.2.1 rfl,fun m=>(HI4.out.mm _ m).2.2.2.1 rfl⟩;have HNB:Hid (¬ (M (wr.heap.size+1)\/wr.heap.size+1=w1.heap.size\/wr.heap.size+1=bw)):=fun h=>by have:=HNE.out _ h;omega
    clear hb4 a0 a1 dk0;have b2:(x.act == 2)=true:=by simpa using h2
    have e2:=(HBS4.out 2 _ rfl).c;have e3:=(HBS4.out 3 _ rfl).c;have e4:=(HBS4.out 4 _ rfl).c;obtain⟨_,bh',hv1,hmb',hhou',hbrk'⟩:=HI4.out.up h9';cases hv1;cases hbk:S.brk with
    | false =>
     as_aux_lemma =>
     obtain⟨s',er,hdo⟩:∃ s' er,vZ S (1,x.nm,0,x.bu,x.bd)=(s',er):=⟨_,_,rfl⟩;have kP:=K.P.euX M bh w1.heap.size bw (some ⟨bw,0,none⟩) c l (K.rr rs) S.disk S.left S.done x.nm x.bu x.bd w4 (hhou' hbk) HI4.out.ds HMM.out HI4.out.bs.2.2.1 HI4.out.i64 HX.out.2.2.2.2.2.1 s' er (by rw[bwX h9' hbk];exact hdo);have HDO:=qQ hdo;have HBK:=qQ hbk;clear hdo hhou' hbrk' hmb' hbk;go_wp2_with fail;refine kP.mono ?_;rintro x5 w' ⟨rfl,hk5,hd5,hh5,hc5⟩;have HK5:=qQ hk5;have HD5:=qQ hd5;have HH5:Hid ((s'.brk=false->dZ w' (fun k=>M k\/w4.heap.size<=k/\k<w'.heap.size) bh w1.heap.size l (K.rr rs) s'.done)/\(s'.brk=true->Cl w' bh 5 (.bool true))):=⟨hh5,hc5⟩;obtain⟨w3,hw3⟩:∃ w3,w'.setCell ⟨wr.heap.size+1,0,none⟩ (.int .i64 er)=w3:=⟨_,rfl⟩;have HBw:Bx w' (wr.heap.size+1) [.int .i64 0,.slice none 0 0,.int .i64 0,.int .i64 0,.int .i64 0,.slice none 0 0]:=HBX4.out.kp hk5 HNB.out;have y0:=(HBw 0 _ rfl).c;have y1:=(HBw 0 _ rfl).f;have HB3:Hid (Bx w3 (wr.heap.size+1) [.int .i64 er,.slice none 0 0,.int .i64 0,.int .i64 0,.int .i64 0,.slice none 0 0]):=hw3▸HBw.set (i:=0) (by simp) _;have HW3:Hid (Keeps w' w3 (fun k=>k=wr.heap.size+1)):=hw3▸vJ (jU w' (fun k=>k=wr.heap.size+1)) (p:=⟨wr.heap.size+1,0,none⟩) (.inl rfl) _;clear HBw hk5 hd5 hh5 hc5 kP;go_upto_region 23 with fail;clear hw3 y0 y1 e0 e2 e3 e4 b1 b4 b6 b2
     have HI3:Hid (HuI W0 w3 (w.heap.size+1) w1.heap.size bw (some ⟨bw,0,none⟩) c l (K.rr rs) (.pointer (some ⟨bh,0,none⟩)) u11 s' os (fun k=>M k\/w4.heap.size<=k/\k<w'.heap.size) G):=by
      have q1:=bvZ (e:=(1,x.nm,0,x.bu,x.bd)) HI1.out.w64 HI1.out.i64;have q2:=bvJ (s:=S) (e:=(1,x.nm,0,x.bu,x.bd));rw[HDO.out] at q1 q2;have q3:=HK5.out.size;exact HI1.out.call (s':=s') ((xX HW4.out).trans HK5.out) HD5.out q1.1 q1.2 (fun k=>M k\/w4.heap.size<=k/\k<w'.heap.size) G (fun _ m=>m.imp id (fun m=>⟨by omega,m.2⟩)) (fun _ m=>.inl m) (fun _ m=>m) (fun h=>by rw[q2,h9'] at h;cases h) (fun _=>⟨HWE.out,bh,rfl,.inl HMB.out,HH5.out.1,HH5.out.2⟩) HW3.out
     have HS3:Hid (aD w3 G ⟨er,none,[]⟩ [.int .i64 er,.slice none 0 0,.int .i64 0,.int .i64 0,.int .i64 0,.slice none 0 0]):=ahQ w3 G er
     have HE3:Hid (bJ l (K.rr rs) S x=(s',⟨er,none,[]⟩)):=by
      unfold bJ jL;rw[Hid,xQ (fun h=>h8 h.1),xQ h6,xQ h7,zQ h2];simp[pZ,h9',HBK.out,HDO.out]
     have r0:=(HB3.out 0 _ rfl).c;have r1:=(HB3.out 1 _ rfl).c;have r2:=(HB3.out 2 _ rfl).c;have r3:=(HB3.out 3 _ rfl).c;have r4:=(HB3.out 4 _ rfl).c;have r5:=(HB3.out 5 _ rfl).c;refine aF ?_;(iterate 6 go_step);refine oC HI3.out HS3.out (by have:=HOL.out;omega) hi4 hz40 hz41 hz42 rfl _ rfl _ rfl rfl rfl _ _ rfl rfl rfl ?_;intro g9 cap w5 h5;have HN6:Hid _:=NXT.out s' ⟨er,none,[]⟩ HE3.out;clear r0 r1 r2 r3 r4 r5 HB3;go_wp2;refine⟨⟨i+1,(fun k=>M k\/w4.heap.size<=k/\k<w'.heap.size),G,by go_num,h1,?_⟩,by simp[intOf];omega⟩;rw[HN6.out];exact h5
    | true=>have:=HSG.out.1;rw[hbk] at this;cases this
   by_cases h3:x.act=3
   ·as_aux_lemma =>
    have b6:(x.act == 6)=false:=by simpa using h8
    have dk0:=HI2.out.ds.c0.c;go_wp2_with fail;go_quiet (fail);obtain⟨w4,hw4⟩:∃ w4,w2.drewN nq=w4:=⟨_,rfl⟩;have hb4:Below w2.heap.size w2 w4:=hw4▸(⟨rfl,rfl,rfl,vQ _,fun _ _=>rfl⟩:Below w2.heap.size w2 (w2.drewN nq));have HI4:=qQ (HI2.out.at hb4);have HBX4:=qQ (HBX.out.at hb4);have HBS4:=qQ (HBS.out.at hb4);have HW4:=qQ (bt HW2.out hb4);have hs4:wr.heap.size+2<=w4.heap.size:=by have:=hb4.size;omega
    have e0:=(HBS4.out 0 _ rfl).c;have HMM:Hid (¬ M w1.heap.size/\¬ M bw):=⟨fun m=>(HI4.out.mm _ m).2.2.1 rfl,fun m=>(HI4.out.mm _ m).2.2.2.1 rfl⟩;have HNB:Hid (¬ (M (wr.heap.size+1)\/wr.heap.size+1=w1.heap.size\/wr.heap.size+1=bw)):=fun h=>by have:=HNE.out _ h;omega
    clear hb4 a0 a1 dk0;have b2:(x.act == 2)=false:=by simpa using h2
    have b3:(x.act == 3)=true:=by simpa using h3
    obtain⟨_,bh',hv1,hmb',hhou',hbrk'⟩:=HI4.out.up h9';cases hv1
    have HRA:Hid (w4.rangeAt wr.heap.size 5 [.string x.pn,.int .i64 kk,.string kc,.int .i64 kl,.int .i64 kh,.slice ka kn kd,.slice kb km kp,.int .i64 x.u,.int .i64 x.d,.int .i64 x.lo,.int .i64 x.hi,.slice xa x.bits.length xc]):=fun j v hj=>by
     have e:([.string x.pn,.int .i64 kk,.string kc,.int .i64 kl,.int .i64 kh,.slice ka kn kd,.slice kb km kp,.int .i64 x.u,.int .i64 x.d,.int .i64 x.lo,.int .i64 x.hi,.slice xa x.bits.length xc]:List Value)=(([.int .i64 x.act,.int .i64 x.n,.string x.nm,.int .i64 x.bu,.int .i64 x.bd,.string x.pn,.int .i64 kk,.string kc,.int .i64 kl,.int .i64 kh,.slice ka kn kd,.slice kb km kp,.int .i64 x.u,.int .i64 x.d,.int .i64 x.lo,.int .i64 x.hi,.slice xa x.bits.length xc,.int .i64 x.word]:List Value).drop 5).take 12:=rfl;rw[e,aL] at hj;split at hj
     ·rw[yK] at hj
      exact(HBS4.out (5+j) v hj).c
     ·cases hj
    have hbW:Below B wr w4:=HW4.out.mono (bQ hB HBE.out.size);have HQ4':=qQ (HQm.out.keep hbW);have HIn4:=qQ (HIn.out.keep hbW);clear hbW;cases hbk:S.brk with
    | false =>
     as_aux_lemma =>
     obtain⟨nm0,sz0,hl0,hnam⟩:=e4J HWE.out;obtain⟨z,ez,hz⟩:∃ z ez,K.xJ (K.prt l x.q nm0)=(z,ez):=⟨_,_,rfl⟩;obtain⟨ls,lu,ld,e1,hA⟩:∃ ls lu ld e1,rY x.u x.d x.lo x.hi l (K.rr rs) x.q=(ls,lu,ld,e1):=⟨_,_,_,_,rfl⟩;obtain⟨s',er,t2,hst⟩:=e4X S (kG e1 x.bits) (gV x.pn z ez lu ld) (wJ ls x.bits 0 []);have HST:=qQ hst;have HEE:=qQ (e5Q h3 HWE.out hnam hz hA hst);have hw4:=HI4.out.be.size;have hN0:=HI4.out.bs;have kP:=e0Z M bh w1.heap.size bw B nb (some ⟨bw,0,none⟩) c l (K.rr rs) S.disk S.left S.done x.pn _ _ _ _ _ _ xa xc x.bits x.q x.u x.d x.lo x.hi w4 (hhou' hbk) HI4.out.ds HMM.out (fun k m=>⟨by have:=(HI4.out.mm k m).1;omega,(HI4.out.mm k m).2.1⟩) ⟨by omega,by omega⟩ HI4.out.bs.2.2.1 HI4.out.i64 HX.out.2.2.2.2.2.2 (by omega) HQ4'.out HIn4.out HX.out.1 HX.out.2.1 HX.out.2.2.1 nm0 sz0 hl0 z ez hz ls lu ld e1 hA s' er t2 (by rw[bwX h9' hbk];exact hst);clear hst hz hA hnam hl0 hhou' hbrk' hmb' hbk hN0 hw4;go_upto_region 20 with fail;refine aF ?_;(iterate 6 go_step);refine bM rfl 39 _ rfl wr.heap.size 5 rfl _ _ HRA.out underlying39 rfl ahZ ?_;go_wp2_with fail;refine kP.mono ?_;rintro x5 w' ⟨hk5,hd5,M',hm5,hh5,hc5,hres⟩;have HK5:=qQ hk5;have HD5:=qQ hd5;have HM5:=qQ hm5;have HH5:Hid ((s'.brk=false->dZ w' M' bh w1.heap.size l (K.rr rs) s'.done)/\(s'.brk=true->Cl w' bh 5 (.bool true))):=⟨hh5,hc5⟩;have HTO:=e4Z HST.out h9';clear hk5 hd5 hm5 hh5 hc5 kP;rcases hres with⟨h0,rfl⟩|⟨h0,vs,us,g,htl,hne,hvl,hul,rfl,hg1,hg2,hrow⟩
     ·have HT2:Hid (t2=none):=HTO.1 h0
      clear HTO h0;obtain⟨w3,hw3⟩:∃ w3,((((w'.setCell ⟨wr.heap.size+1,1,none⟩ (.slice none 0 0)).setCell ⟨wr.heap.size+1,2,none⟩ (.int .i64 0)).setCell ⟨wr.heap.size+1,3,none⟩ (.int .i64 0)).setCell ⟨wr.heap.size+1,4,none⟩ (.int .i64 0)).setCell ⟨wr.heap.size+1,0,none⟩ (.int .i64 er)=w3:=⟨_,rfl⟩;have HBw:Bx w' (wr.heap.size+1) [.int .i64 0,.slice none 0 0,.int .i64 0,.int .i64 0,.int .i64 0,.slice none 0 0]:=HBX4.out.kp HK5.out HNB.out;have y0:=(HBw 0 _ rfl).c;have y1:=(HBw 1 _ rfl).c;have y2:=(HBw 2 _ rfl).c;have y3:=(HBw 3 _ rfl).c;have y4:=(HBw 4 _ rfl).c;have z0:=(HBw 0 _ rfl).f;have z1:=(HBw 1 _ rfl).f;have z2:=(HBw 2 _ rfl).f;have z3:=(HBw 3 _ rfl).f;have z4:=(HBw 4 _ rfl).f;have HB3:Hid (Bx w3 (wr.heap.size+1) [.int .i64 er,.slice none 0 0,.int .i64 0,.int .i64 0,.int .i64 0,.slice none 0 0]):=hw3▸((((HBw.set (i:=1) (by simp) _).set (i:=2) (by simp) _).set (i:=3) (by simp) _).set (i:=4) (by simp) _).set (i:=0) (by simp) _;have HW3:Hid (Keeps w' w3 (fun k=>k=wr.heap.size+1)):=hw3▸(vJ (vJ (vJ (vJ (vJ (jU w' (fun k=>k=wr.heap.size+1)) (p:=⟨wr.heap.size+1,1,none⟩) (.inl rfl) _) (p:=⟨wr.heap.size+1,2,none⟩) (.inl rfl) _) (p:=⟨wr.heap.size+1,3,none⟩) (.inl rfl) _) (p:=⟨wr.heap.size+1,4,none⟩) (.inl rfl) _) (p:=⟨wr.heap.size+1,0,none⟩) (.inl rfl) _);clear HBw;go_upto_region 23 with fail;clear hw3 y0 y1 y2 y3 y4 z0 z1 z2 z3 z4 e0 b1 b4 b6 b2 b3
      have HI3:Hid (HuI W0 w3 (w.heap.size+1) w1.heap.size bw (some ⟨bw,0,none⟩) c l (K.rr rs) (.pointer (some ⟨bh,0,none⟩)) u11 s' os (fun k=>M' k\/k=bh) G):=by
       have q1:=bwQ HST.out HI1.out.w64 HI1.out.i64;have q3:=HK5.out.size;have q4:=(HI1.out.mm bh HMB.out).2.1
       exact HI1.out.call (s':=s') ((xX HW4.out).trans HK5.out) HD5.out q1.1 q1.2.1 (fun k=>M' k\/k=bh) G (fun k m=>by
        rcases m with m|rfl
        ·exact(HM5.out k m).imp id (fun m=>⟨by omega,m.2⟩)
        ·exact .inl HMB.out) (fun k m=>.inl m) (fun _ m=>m) (fun h=>by rw[q1.2.2,h9'] at h;cases h) (fun _=>⟨HWE.out,bh,rfl,.inr rfl,fun h=>(HH5.out.1 h).mono (fun k m=>.inl m),HH5.out.2⟩) HW3.out
      have HS3:Hid (aD w3 G ⟨er,none,[]⟩ [.int .i64 er,.slice none 0 0,.int .i64 0,.int .i64 0,.int .i64 0,.slice none 0 0]):=ahQ w3 G er
      have HE3:Hid (bJ l (K.rr rs) S x=(s',⟨er,none,[]⟩)):=by
       rw[Hid,HEE.out,HT2.out];rfl
      have r0:=(HB3.out 0 _ rfl).c;have r1:=(HB3.out 1 _ rfl).c;have r2:=(HB3.out 2 _ rfl).c;have r3:=(HB3.out 3 _ rfl).c;have r4:=(HB3.out 4 _ rfl).c;have r5:=(HB3.out 5 _ rfl).c;refine aF ?_;(iterate 6 go_step);refine oC HI3.out HS3.out (by have:=HOL.out;omega) hi4 hz40 hz41 hz42 rfl _ rfl _ rfl rfl rfl _ _ rfl rfl rfl ?_;intro g9 cap w5 h5;have HN6:Hid _:=NXT.out s' ⟨er,none,[]⟩ HE3.out;clear r0 r1 r2 r3 r4 r5 HB3;go_wp2;refine⟨⟨i+1,(fun k=>M' k\/k=bh),G,by go_num,h1,?_⟩,by simp[intOf];omega⟩;rw[HN6.out];exact h5
     ·subst h0
      have HT2:Hid (t2=some (vs,us)):=by rw[Hid,HTO.2 rfl];exact htl
      have HVS:Hid (vs≠[]/\vs.length<=4096/\us<=65536):=⟨hne,hvl,hul⟩;have HGG:Hid (w4.heap.size<=g/\¬ M' g/\K.RowI w' g vs):=⟨hg1,hg2,hrow⟩;clear HTO htl hne hvl hul hg1 hg2 hrow;obtain⟨w3,hw3⟩:∃ w3,((((w'.setCell ⟨wr.heap.size+1,1,none⟩ (.slice (some ⟨g,0,none⟩) vs.length vs.length)).setCell ⟨wr.heap.size+1,2,none⟩ (.int .i64 (us:Int))).setCell ⟨wr.heap.size+1,3,none⟩ (.int .i64 lu)).setCell ⟨wr.heap.size+1,4,none⟩ (.int .i64 ld)).setCell ⟨wr.heap.size+1,0,none⟩ (.int .i64 0)=w3:=⟨_,rfl⟩;have HBw:Bx w' (wr.heap.size+1) [.int .i64 0,.slice none 0 0,.int .i64 0,.int .i64 0,.int .i64 0,.slice none 0 0]:=HBX4.out.kp HK5.out HNB.out;have y0:=(HBw 0 _ rfl).c;have y1:=(HBw 1 _ rfl).c;have y2:=(HBw 2 _ rfl).c;have y3:=(HBw 3 _ rfl).c;have y4:=(HBw 4 _ rfl).c;have z0:=(HBw 0 _ rfl).f;have z1:=(HBw 1 _ rfl).f;have z2:=(HBw 2 _ rfl).f;have z3:=(HBw 3 _ rfl).f;have z4:=(HBw 4 _ rfl).f;have HB3:Hid (Bx w3 (wr.heap.size+1) [.int .i64 0,.slice (some ⟨g,0,none⟩) vs.length vs.length,.int .i64 (us:Int),.int .i64 lu,.int .i64 ld,.slice none 0 0]):=hw3▸((((HBw.set (i:=1) (by simp) _).set (i:=2) (by simp) _).set (i:=3) (by simp) _).set (i:=4) (by simp) _).set (i:=0) (by simp) _;have HW3:Hid (Keeps w' w3 (fun k=>k=wr.heap.size+1)):=hw3▸(vJ (vJ (vJ (vJ (vJ (jU w' (fun k=>k=wr.heap.size+1)) (p:=⟨wr.heap.size+1,1,none⟩) (.inl rfl) _) (p:=⟨wr.heap.size+1,2,none⟩) (.inl rfl) _) (p:=⟨wr.heap.size+1,3,none⟩) (.inl rfl) _) (p:=⟨wr.heap.size+1,4,none⟩) (.inl rfl) _) (p:=⟨wr.heap.size+1,0,none⟩) (.inl rfl) _);clear HBw;go_upto_region 23 with fail;clear hw3 y0 y1 y2 y3 y4 z0 z1 z2 z3 z4 e0 b1 b4 b6 b2 b3
      have HI3:Hid (HuI W0 w3 (w.heap.size+1) w1.heap.size bw (some ⟨bw,0,none⟩) c l (K.rr rs) (.pointer (some ⟨bh,0,none⟩)) u11 s' os (fun k=>M' k\/k=bh) (fun k=>G k\/k=g)):=by
       have q1:=bwQ HST.out HI1.out.w64 HI1.out.i64;have q3:=HK5.out.size;have q4:=(HI1.out.mm bh HMB.out).2.1
       exact HI1.out.call (s':=s') ((xX HW4.out).trans HK5.out) HD5.out q1.1 q1.2.1 (fun k=>M' k\/k=bh) (fun k=>G k\/k=g) (fun k m=>by
        rcases m with m|rfl
        ·exact(HM5.out k m).imp id (fun m=>⟨by omega,m.2⟩)
        ·exact .inl HMB.out) (fun k m=>by
        rcases m with m|rfl
        ·exact .inl m
        ·have:=HGG.out.1
         refine .inr ⟨by omega,HGG.out.2.2.lt,fun z=>?_⟩;rcases z with z|rfl
         ·exact HGG.out.2.1 z
         ·omega) (fun _ m=>.inl m) (fun h=>by rw[q1.2.2,h9'] at h;cases h) (fun _=>⟨HWE.out,bh,rfl,.inr rfl,fun h=>(HH5.out.1 h).mono (fun k m=>.inl m),HH5.out.2⟩) HW3.out
      have HS3:Hid (aD w3 (fun k=>G k\/k=g) ⟨0,some (vs,us,lu,ld),[]⟩ [.int .i64 0,.slice (some ⟨g,0,none⟩) vs.length vs.length,.int .i64 (us:Int),.int .i64 lu,.int .i64 ld,.slice none 0 0]):=by
       refine⟨_,_,_,_,_,rfl,.inr ⟨vs,us,g,rfl,HVS.out.1,HVS.out.2.1,HVS.out.2.2,rfl,rfl,.inr rfl,agJ HGG.out.2.2 HW3.out (by have:=HGG.out.1;omega)⟩,⟨rfl,.inl ⟨rfl,rfl⟩⟩,fun g hg=>by cases hg⟩
      have HE3:Hid (bJ l (K.rr rs) S x=(s',⟨0,some (vs,us,lu,ld),[]⟩)):=by
       rw[Hid,HEE.out,HT2.out];rfl
      have r0:=(HB3.out 0 _ rfl).c;have r1:=(HB3.out 1 _ rfl).c;have r2:=(HB3.out 2 _ rfl).c;have r3:=(HB3.out 3 _ rfl).c;have r4:=(HB3.out 4 _ rfl).c;have r5:=(HB3.out 5 _ rfl).c;refine aF ?_;(iterate 6 go_step);refine oC HI3.out HS3.out (by have:=HOL.out;omega) hi4 hz40 hz41 hz42 rfl _ rfl _ rfl rfl rfl _ _ rfl rfl rfl ?_;intro g9 cap w5 h5;have HN6:Hid _:=NXT.out s' ⟨0,some (vs,us,lu,ld),[]⟩ HE3.out;clear r0 r1 r2 r3 r4 r5 HB3;go_wp2;refine⟨⟨i+1,(fun k=>M' k\/k=bh),(fun k=>G k\/k=g),by go_num,h1,?_⟩,by simp[intOf];omega⟩;rw[HN6.out];exact h5
    | true=>have:=HSG.out.1;rw[hbk] at this;cases this
   have:=HAX.out;omega
  ·as_aux_lemma =>
   have hii:i=xs.length:=by omega
   subst hii;obtain⟨k0,k1,k2,_⟩:=HI.out.ds;have e0:=k0.c;have e2:=k2.c;have hlen:(cJ l (K.rr rs) ⟨words,-1,false,false,[]⟩ xs).1.disk.length=words.length:=bvX l (K.rr rs) xs _;rw[zF] at HI e0;rw[hlen] at e0;clear k0 k1 k2;go_wp2
   go_region
   go_wp2
   have hbe:Below w.heap.size w wr:=by
    have q1:=HBW.out;have q2:=HI.out.be;exact⟨q2.os.trans q1.os,q2.tape.trans q1.tape,q2.output.trans q1.output,bQ q1.size q2.size,fun k hk=>(q2.block k (by omega)).trans (q1.block k (by omega))⟩
   exact uQ (v:=.tuple #[u11,.slice (some ⟨bw,0,none⟩) words.length c,.bool true]) (by simp[results,results9,go_sem]) rfl ⟨W0,w1.heap.size,bw,_,c,_,_,_,_,M,G,rfl,rfl,hbe.drew,HI.out.at (aQ _ _).drew⟩
end
namespace K
open Go.RowKit Go.Proofs.YtdceajgpolckiaaGreatDoor.Ds
theorem e9Z (B n1 n2:Nat)(u v:Value)(x y:List Int)(w:World)(hx:jQ w B n1 u x)(hy:jQ w B n2 v y)(r:Int)(hr:nX x y=r) :
  Calls prog 21 #[u,v] w fun e w'=>e=.returned (.int .i64 r)/\∃ q,w' = w.drewN q:=by
 obtain⟨ax,cx,rfl,hcx,hlx,hxx⟩:=hx;obtain⟨ay,cy,rfl,hcy,hly,hyy⟩:=hy;have HX:=qQ hxx;have HY:=qQ hyy;have HR:=qQ hr;clear hxx hyy hr;go_enter func21,ntmps21;go_wp2
 go_loopw [8] (fun s wr=>∃ i:Nat,s=.int .i64 (i:Int)/\i<=x.length/\i<=y.length/\nX (x.drop i) (y.drop i)=r/\∃ q,wr=w.drewN q) (fun s _=>x.length - (intOf s).toNat)
 case atStart=>exact⟨0,rfl,kQ _,kQ _,HR.out,0,rfl⟩
 case round =>
  obtain⟨i,rfl,hix,hiy,hc,q,rfl⟩:=hrel;have HC:=qQ hc;clear hc;by_cases h1:i<x.length
  ·obtain⟨bx,ox,rfl,hbx,hnx,hcx⟩:=HX.out (ne_of_lt h1)
   obtain⟨zx,hzx⟩:=cX h1;have cx1:=hcx i zx hzx;by_cases h2:i<y.length
   ·obtain⟨by',oy,rfl,hby,hny,hcy⟩:=HY.out (ne_of_lt h2)
    obtain⟨zy,hzy⟩:=cX h2;have cy1:=hcy i zy hzy;have st:=_root_.Go.Proofs.YtdceajgpolckiaaGreatDoor.cmpT_step hzx hzy;have ST:=qQ st;clear st hcx hcy HX HY hzx hzy;by_cases c1:zx=zy
    ·subst c1
     go_wp2;go_quiet (fail);go_wp2
     go_roundw
     case rel=>exact⟨i+1,by go_num,h1,h2,by rw[<-HC.out,ST.out];simp,_,rfl⟩
     case measure=>simp[intOf];omega
    ·by_cases c2:zx<zy
     ·have hr1:r = -1:=by rw[<-HC.out,ST.out];simp[c2]
      subst hr1;go_wp2;go_quiet (fail);go_wp2;go_quiet (fail);go_wp2;go_ret;exact⟨rfl,dr2 _ _ _ _⟩
     ·have hr1:r=1:=by rw[<-HC.out,ST.out];simp[c2,show zy<zx by omega]
      subst hr1;go_wp2;go_quiet (fail);go_wp2;go_quiet (fail);go_wp2;go_ret;exact⟨rfl,dr2 _ _ _ _⟩
   ·have hr1:r=1:=by
     rw[<-HC.out,lJ h1,fY (show y.length<=i by omega)];rfl
    subst hr1;clear hcx HX HY;go_wp2;go_ret;exact⟨rfl,_,rfl⟩
  ·by_cases h2:i<y.length
   ·have hr1:r = -1:=by
     rw[<-HC.out,fY (show x.length<=i by omega),lJ h2];rfl
    subst hr1;have h3:x.length<y.length:=by omega
    clear HX HY;go_wp2;go_ret;exact⟨rfl,_,rfl⟩
   ·have hr1:r=0:=by
     rw[<-HC.out,fY (show x.length<=i by omega),fY (show y.length<=i by omega)];rfl
    subst hr1;have h3:¬ x.length<y.length:=by omega
    clear HX HY;go_wp2;go_ret;exact⟨rfl,_,rfl⟩

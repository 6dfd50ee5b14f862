import Derived.Test.YtdceajgpolckiaaGreatDoorQr48
open Go.Proofs.Tryz
set_option linter.unusedSimpArgs false
set_option maxHeartbeats 16000000
set_option maxRecDepth 100000
namespace Go.Proofs.YtdceajgpolckiaaGreatDoor
variable {Q:Exit->Act->World->Prop} {B j nb:Nat} {w:World} {v:Value} {xs:List Int}
section
open Go.RowKit Go.Shelf Ds
theorem ftJ (hQp:∀ c a d v w,Q (.panic c) (Act.put a d v) w->Q (.panic c) a w)(t0 t1 t2 t3 t6 t7 t8 t9 t10 t11 t12 t14 t15 t16 t17 t18 t19 t20 t21 t22 t24 t25 t26 t27 t28 t29 t30 t31 t32 t33 t34 t35 t36 t37 t38 t39 t40 t41 t42 t43 t44 t45 t46 t47 t48 t49 t50 t51 t52 t53 t54 t55 t56 t57 t58 t59 t60 t61 t62 t63 t64 t65 t66 t67 t68 t69 t70 t71 t72 t73 t74 t75 t76 t77 t78 t79 t80 t81 t82 t83 t84 t85 t86 t87 t88 t89 t90 t91 t92 t93 t94 t95 t96 t97 t98 t99 t100 t101 t102 t103 t104 t105 t106 t107 t108 t109 t110 t111 t112 t113 t114 t115 t116 t117 t118 t119 t120 t121 t122 t123 t124 t125 t126 t127 t128 t129 t130 t131 t132 t133 t134 t135 t136 t137 t138 t139 t140:Value)(A:World)(tb qb xb:Nat)(x0 x1 q0 q1 q2 q3 q4 q5 q6 q7 q8 q9 q10 s:Value)(kp k nx:Int)(hk:kp - 1=k)(hkb:0<=k/\k<=8192)(res:Option (List Pt))
  (hC:∀ W,Below A.heap.size A W->W.cell? ⟨tb,0,none⟩=some x0/\W.cell? ⟨tb,1,none⟩=some x1/\W.cell? ⟨qb,0,none⟩=some q0/\W.cell? ⟨qb,1,none⟩=some q1/\W.cell? ⟨qb,2,none⟩=some q2/\W.cell? ⟨qb,3,none⟩=some q3/\W.cell? ⟨qb,4,none⟩=some q4/\W.cell? ⟨qb,5,none⟩=some q5/\W.cell? ⟨qb,6,none⟩=some q6/\W.cell? ⟨qb,7,none⟩=some q7/\W.cell? ⟨qb,8,none⟩=some q8/\W.cell? ⟨qb,9,none⟩=some q9/\W.cell? ⟨qb,10,none⟩=some q10/\W.cell? ⟨xb,0,none⟩=some s)
  (hN:∀ W,Below A.heap.size A W->Calls prog 17 #[.agg #[q0,q1,q2,q3,q4,q5,q6,q7,q8,q9,q10],s] W fun e W'=>e=.returned (.int .i64 nx)/\Below W.heap.size W W')
  (hT:∀ W,Below A.heap.size A W->Calls prog 15 #[.agg #[x0,x1],t1,.int .i64 nx,t3,.int .i64 k] W (yA W res))
  (hEnd:∀ (u98 u99 u100 u101 u102 u103 u104 u105 u106 u107 u108 u109 u110:Value) (sa:Option Addr) (sn sc:Nat) (us:List Tr) (sb:Bool) (Wf:World),Below A.heap.size A Wf->((res=none/\sb=false)\/(res=some (rd us)/\sb=true/\dQ Wf Wf.heap.size (.slice sa sn sc) us))->Q .normal { tmps:=#[t0,t1,t2,t3,.int .i64 kp,.pointer (some ⟨tb,0,none⟩),t6,t7,t8,t9,t10,t11,t12,.pointer (some ⟨qb,0,none⟩),t14,t15,t16,t17,t18,t19,t20,t21,t22,.pointer (some ⟨xb,0,none⟩),.slice sa sn sc,.bool sb,t26,t27,t28,t29,t30,t31,t32,t33,t34,t35,t36,t37,t38,t39,t40,t41,t42,t43,t44,t45,t46,t47,t48,t49,t50,t51,t52,t53,t54,t55,t56,t57,t58,t59,t60,t61,t62,t63,t64,t65,t66,t67,t68,t69,t70,t71,t72,t73,t74,t75,t76,t77,t78,t79,t80,t81,t82,t83,t84,t85,t86,t87,t88,t89,t90,t91,t92,t93,t94,t95,t96,t97,u98,u99,u100,u101,u102,u103,u104,u105,u106,u107,u108,u109,u110,t111,t112,t113,t114,t115,t116,t117,t118,t119,t120,t121,t122,t123,t124,t125,t126,t127,t128,t129,t130,t131,t132,t133,t134,t135,t136,t137,t138,t139,t140],defers:=[] } Wf) :
  (Code.region 23 #[⟨some 99, .load 25 (.tmp 5), 25, "top.go:84", #[], none⟩, ⟨some 100, .move (.tmp 1), 57, "top.go:84", #[], none⟩, ⟨some 101, .load 66 (.tmp 13), 66, "top.go:84", #[], none⟩, ⟨some 102, .fieldAddr 77 (.tmp 23) 0, 0, "top.go:84", #[], none⟩, ⟨some 103, .load 37 (.tmp 102), 37, "top.go:84", #[⟨3, .data⟩], none⟩, ⟨some 104, .call { callee := .value (.func 17), args := #[.tmp 101, .tmp 103], argTypes := #[66, 37] }, 3, "top.go:84", #[⟨2, .data⟩, ⟨4, .data⟩], none⟩, ⟨some 105, .move (.tmp 3), 47, "top.go:84", #[], none⟩, ⟨some 106, .move (.tmp 4), 3, "top.go:84", #[], none⟩, ⟨some 107, .binOp BinOp.sub 3 (.tmp 106) (.const (Value.int IntKind.i64 1)) 3, 3, "top.go:84", #[⟨7, .data⟩], none⟩, ⟨some 108, .call { callee := .value (.func 15), args := #[.tmp 99, .tmp 100, .tmp 104, .tmp 105, .tmp 107], argTypes := #[25, 57, 3, 47, 3] }, 62, "top.go:84", #[⟨0, .data⟩, ⟨1, .data⟩, ⟨5, .data⟩, ⟨6, .data⟩, ⟨8, .data⟩, ⟨5, .chain⟩], none⟩, ⟨some 98, .move (.tmp 108), 62, "top.go:84", #[⟨9, .data⟩], none⟩, ⟨some 109, .extract (.tmp 98) 0, 61, "top.go:84", #[⟨10, .data⟩], none⟩, ⟨some 110, .extract (.tmp 98) 1, 4, "top.go:84", #[⟨10, .data⟩, ⟨13, .gcOnly .lateStores⟩], none⟩, ⟨some 24, .assign (.tmp 109), 61, "top.go:84", #[⟨11, .data⟩, ⟨9, .chain⟩, ⟨0, .phase⟩, ⟨1, .phase⟩, ⟨2, .phase⟩, ⟨3, .phase⟩, ⟨4, .phase⟩, ⟨5, .phase⟩, ⟨6, .phase⟩, ⟨7, .phase⟩, ⟨8, .phase⟩, ⟨9, .phase⟩, ⟨10, .phase⟩, ⟨11, .phase⟩, { on := 12, ground := Ground.textOnly Departure.lateStores }], none⟩, ⟨some 25, .assign (.tmp 110), 4, "top.go:84", #[⟨12, .data⟩, ⟨13, .chain⟩, ⟨0, .phase⟩, ⟨1, .phase⟩, ⟨2, .phase⟩, ⟨3, .phase⟩, ⟨4, .phase⟩, ⟨5, .phase⟩, ⟨6, .phase⟩, ⟨7, .phase⟩, ⟨8, .phase⟩, ⟨9, .phase⟩, ⟨10, .phase⟩, ⟨11, .phase⟩, ⟨12, .phase⟩, ⟨13, .phase⟩], none⟩] true).wp prog Q { tmps := #[t0, t1, t2, t3, .int .i64 kp, .pointer (some ⟨tb, 0, none⟩), t6, t7, t8, t9, t10, t11, t12, .pointer (some ⟨qb, 0, none⟩), t14, t15, t16, t17, t18, t19, t20, t21, t22, .pointer (some ⟨xb, 0, none⟩), t24, t25, t26, t27, t28, t29, t30, t31, t32, t33, t34, t35, t36, t37, t38, t39, t40, t41, t42, t43, t44, t45, t46, t47, t48, t49, t50, t51, t52, t53, t54, t55, t56, t57, t58, t59, t60, t61, t62, t63, t64, t65, t66, t67, t68, t69, t70, t71, t72, t73, t74, t75, t76, t77, t78, t79, t80, t81, t82, t83, t84, t85, t86, t87, t88, t89, t90, t91, t92, t93, t94, t95, t96, t97, t98, t99, t100, t101, t102, t103, t104, t105, t106, t107, t108, t109, t110, t111, t112, t113, t114, t115, t116, t117, t118, t119, t120, t121, t122, t123, t124, t125, t126, t127, t128, t129, t130, t131, t132, t133, t134, t135, t136, t137, t138, t139, t140], defers := [] } A := by
 have HEND:=qQ hEnd;have HC:=qQ hC;have HN:=qQ hN;have HT:=qQ hT;have hwk:IntKind.i64.wrap k=k:=by rw[sU];omega
 have G0:Hid (Below A.heap.size A A.drew):=(aQ _ _).drew;clear hEnd hC hN hT;refine wp_region_any (by kernel_rfl) ?_;change wpAny _ _ _ _ _ _ _ (World.drew _);obtain⟨V0,hV0⟩:∃ V0,A.drew=V0:=⟨_,rfl⟩;rw[hV0] at G0 ⊢;clear hV0;refine K.P.yS (S:=fun W=>Below A.heap.size A W) (J:=fun _=>true) _ _ _ _ ?_;refine K.P.tk 0 (.agg #[x0,x1]) rfl rfl (by kernel_rfl) (fun _ _ _ h=>hQp _ _ _ _ _ h) ⟨by rfl,fun W hS=>?_⟩ G0.out ?_
 ·obtain⟨z0,z1,z2,z3,z4,z5,z6,z7,z8,z9,z10,z11,z12,z13⟩:=HC.out W hS;go_simp
 simp only[Act.put,K.P.zA,K.P.zB,K.P.zC];refine K.P.tk 1 (t1) rfl rfl (by kernel_rfl) (fun _ _ _ h=>hQp _ _ _ _ _ h) ⟨by rfl,fun W hS=>?_⟩ G0.out ?_
 ·go_simp
 simp only[Act.put,K.P.zA,K.P.zB,K.P.zC];refine K.P.tk 2 (.agg #[q0,q1,q2,q3,q4,q5,q6,q7,q8,q9,q10]) rfl rfl (by kernel_rfl) (fun _ _ _ h=>hQp _ _ _ _ _ h) ⟨by rfl,fun W hS=>?_⟩ G0.out ?_
 ·obtain⟨z0,z1,z2,z3,z4,z5,z6,z7,z8,z9,z10,z11,z12,z13⟩:=HC.out W hS;go_simp
 simp only[Act.put,K.P.zA,K.P.zB,K.P.zC];refine K.P.tk 3 (.pointer (some ⟨xb,0,none⟩)) rfl rfl (by kernel_rfl) (fun _ _ _ h=>hQp _ _ _ _ _ h) ⟨by rfl,fun W hS=>?_⟩ G0.out ?_
 ·go_simp
 simp only[Act.put,K.P.zA,K.P.zB,K.P.zC];refine K.P.tk 4 (s) rfl rfl (by kernel_rfl) (fun _ _ _ h=>hQp _ _ _ _ _ h) ⟨by rfl,fun W hS=>?_⟩ G0.out ?_
 ·obtain⟨z0,z1,z2,z3,z4,z5,z6,z7,z8,z9,z10,z11,z12,z13⟩:=HC.out W hS;go_simp
 simp only[Act.put,K.P.zA,K.P.zB,K.P.zC];refine K.P.tk 6 (t3) rfl rfl (by kernel_rfl) (fun _ _ _ h=>hQp _ _ _ _ _ h) ⟨by rfl,fun W hS=>?_⟩ G0.out ?_
 ·go_simp
 simp only[Act.put,K.P.zA,K.P.zB,K.P.zC];refine K.P.tk 7 (.int .i64 kp) rfl rfl (by kernel_rfl) (fun _ _ _ h=>hQp _ _ _ _ _ h) ⟨by rfl,fun W hS=>?_⟩ G0.out ?_
 ·go_simp
 simp only[Act.put,K.P.zA,K.P.zB,K.P.zC];refine K.P.tk 8 (.int .i64 k) rfl rfl (by kernel_rfl) (fun _ _ _ h=>hQp _ _ _ _ _ h) ⟨by rfl,fun W hS=>?_⟩ G0.out ?_
 ·go_simp
 simp only[Act.put,K.P.zA,K.P.zB,K.P.zC];refine K.P.zU (rs:=[5]) (by kernel_rfl) (by simp) ?_;refine K.P.kX.cons (o:=_) rfl (fun K hK=>?_) ?_
 ·
  have kk:=HN.out V0 G0.out;go_simp;go_at_call 17;refine kk.mono ?_;rintro e1 W1 ⟨rfl,hb1⟩;have G1:=qQ (G0.out.trans (hb1.mono G0.out.size));clear kk;refine hK.out _ _ (fun _=>G1.out) ?_;clear hK K
  try simp only[Act.put,K.P.zA,K.P.zB,K.P.zC]
  clear hb1;refine K.P.zU (rs:=[9]) (by kernel_rfl) (by simp) ?_;refine K.P.kX.cons (o:=_) rfl (fun K hK=>?_) ?_
  ·
   have kk:=HT.out W1 G1.out;go_simp;go_at_call 15;refine kk.mono ?_;rintro e2 W2 ⟨sa,sn,sc,us,sb,rfl,hb2,hres⟩;have G2:=qQ (G1.out.trans (hb2.mono G1.out.size));have HRS:=qQ hres;clear kk hres;refine hK.out _ _ (fun _=>G2.out) ?_;clear hK K
   try simp only[Act.put,K.P.zA,K.P.zB,K.P.zC]
   clear hb2;refine K.P.tk 10 (.tuple #[.slice sa sn sc,.bool sb]) rfl rfl (by kernel_rfl) (fun _ _ _ h=>hQp _ _ _ _ _ h) ⟨by rfl,fun W hS=>?_⟩ G2.out ?_
   ·go_simp
   simp only[Act.put,K.P.zA,K.P.zB,K.P.zC];refine K.P.tk 11 (.slice sa sn sc) rfl rfl (by kernel_rfl) (fun _ _ _ h=>hQp _ _ _ _ _ h) ⟨by rfl,fun W hS=>?_⟩ G2.out ?_
   ·go_simp
   simp only[Act.put,K.P.zA,K.P.zB,K.P.zC];refine K.P.tk 12 (.bool sb) rfl rfl (by kernel_rfl) (fun _ _ _ h=>hQp _ _ _ _ _ h) ⟨by rfl,fun W hS=>?_⟩ G2.out ?_
   ·go_simp
   simp only[Act.put,K.P.zA,K.P.zB,K.P.zC];refine K.P.tk 13 (.slice sa sn sc) rfl rfl (by kernel_rfl) (fun _ _ _ h=>hQp _ _ _ _ _ h) ⟨by rfl,fun W hS=>?_⟩ G2.out ?_
   ·go_simp
   simp only[Act.put,K.P.zA,K.P.zB,K.P.zC];refine K.P.tk 14 (.bool sb) rfl rfl (by kernel_rfl) (fun _ _ _ h=>hQp _ _ _ _ _ h) ⟨by rfl,fun W hS=>?_⟩ G2.out ?_
   ·go_simp
   simp only[Act.put,K.P.zA,K.P.zB,K.P.zC];refine K.P.sH (by kernel_rfl) ?_ _;exact HEND.out _ _ _ _ _ _ _ _ _ _ _ _ _ _ _ _ _ _ _ G2.out HRS.out
  exact K.P.kX.nil
 exact K.P.kX.nil
end
section
open Go.RowKit Ds
theorem fuQ (W:World)(s t:Value)(n:Nat)(hn:W.heap.size=n):∀ j u,[s,t][j]? = some u->(W.alloc (.cells #[s,t] 110)).cell? ((⟨n,0,none⟩:Addr).add j)=some u:=by
 subst hn;intro j u hj
 match j,hj with
 | 0,hj=>simp at hj;subst hj;simp[go_sem,Addr.add]
 | 1,hj=>simp at hj;subst hj;simp[go_sem,Addr.add]
theorem fuX:(prog.info? 110).map (fun i=>(i.zero,i.size,i.bytes))=some (some (.agg #[.slice none 0 0,.slice none 0 0]),2,48):=by kernel_rfl
def zI (g:List Int->Option (List Pt)) (D:List Pt) (j:Nat) (fs:List Fl):Prop:=fs.length=j/\vA g D=(vA g (D.drop j)).map (fd fs ++ ·)
theorem alZ {g:List Int->Option (List Pt)}{D:List Pt}{p:Pt}(h:D[j]? = some p):vA g (D.drop j)=match g p.1 with
  | none=>none
  | some y=>if (pV [(p.1,1)] y).2=0 then (match vA g (D.drop (j+1)) with
   | none=>none
   | some fs=>some ((p.1,(pV [(p.1,1)] y).1)::fs)) else none:=by
 rw[lJ (cQ.1 h).1,(cQ.1 h).2];rfl
theorem zI.none {g:List Int->Option (List Pt)}{D:List Pt}{p:Pt}{fs:List Fl}(h:zI g D j fs)(hp:D[j]? = some p)(hg:g p.1=Option.none):vA g D=Option.none:=by
 rw[h.2,alZ hp,hg];rfl
theorem zI.bad {g:List Int->Option (List Pt)}{D:List Pt}{p:Pt}{fs:List Fl}{y:List Pt}(h:zI g D j fs)(hp:D[j]? = some p)(hg:g p.1=some y)(hb:(pV [(p.1,1)] y).2≠0):vA g D=Option.none:=by
 rw[h.2,alZ hp,hg];simp only[xQ hb];rfl
theorem zI.step {g:List Int->Option (List Pt)}{D:List Pt}{p:Pt}{fs:List Fl}{y z:List Pt}{f:Fl}(h:zI g D j fs)(hp:D[j]? = some p)(hg:g p.1=some y)(hb:pV [(p.1,1)] y=(z,0))(h1:f.1.2=p.1)(h2:rd f.2.2=z):zI g D (j+1) (fs++[f]):=by
 refine⟨by simp[h.1],?_⟩;rw[h.2,alZ hp,hg];simp only[hb,aU];cases vA g (D.drop (j+1)) with
 | none=>rfl
 | some gs=>simp[fd,h1,h2]
theorem zI.all {g:List Int->Option (List Pt)}{D:List Pt}{fs:List Fl}(h:zI g D j fs)(hj:D.length<=j):vA g D=some (fd fs):=by
 rw[h.2,fY hj];simp[vA]
theorem fuZ {D:List Pt}{ls:List (List Pt)}{x:List Pt}(h:ls[j]? = some x):yU D (ls.drop j)=if (pV D x).2=0 then yU (pV D x).1 (ls.drop (j+1)) else ([],(pV D x).2):=by
 rw[lJ (cQ.1 h).1,(cQ.1 h).2];rfl
theorem fuJ {g:List Int->Option (List Pt)}{ls:List (List Pt)}(h:(yU kZ ls).2≠0):xK g ls=none:=by
 unfold xK;rw[xQ h]
theorem fvQ {g:List Int->Option (List Pt)}{ls:List (List Pt)}{D:List Pt}(h:yU kZ ls=(D,0)):xK g ls=match vA g D with
  | none=>none
  | some fs=>if (nG D (eV fs)).2=0 then some (nG D (eV fs)).1 else none:=by
 unfold xK;rw[h];simp only[aU];cases vA g D <;> rfl
theorem fvX (h:jQ w B nb v xs):K.jQ w B nb v xs:=by
 obtain⟨a,c,hv,hc,hl,hx⟩:=h;exact⟨a,c,hv,hc,by omega,hx⟩
theorem fvZ (l:List K.Ds.yQ)(ts:List K.Rw)(nm0:ByteArray)(sz0:Int)(hl0:l[0]? = some (nm0,sz0))(pl:List K.Tu)(hI:∀ t∈pl,vX t.lo/\vX t.hi):∀ (k:Nat) (a:Int) (paid:List K.P.En) (B C:Nat) (cs rs plv pv:Value) (w:World),B<=w.heap.size->C<=w.heap.size->K.rQ w B cs l->K.tQ w B rs ts->K.mG w B plv pl->K.P.kJ w C pv paid->paid.length+k<4096 ->
  (∀ x∈paid,-9223372036854775808<=x.2.2.1/\x.2.2.1<=9223372036854775807)->∀ res,eY l (K.rr ts) (fun q=>K.xJ (K.prt l q nm0)) K.P.pN (pld pl) k a paid=res ->
  Calls prog 15 #[.agg #[cs,rs],plv,.int .i64 a,pv,.int .i64 (k:Int)] w (yA w res):=by
 intro k
 induction k with
 | zero =>
  intro a paid B C cs rs plv pv w hB hC hp hr hpl hE hpn hpb res hres;simp only[eY] at hres;subst hres;obtain⟨ca,cc,rfl,_⟩:=hp.slice;obtain⟨ra,rc,rfl,_⟩:=hr.slice;obtain⟨pa,pc,rfl,_⟩:=hpl.slice;obtain⟨ea,ec,rfl,_⟩:=hE.slice;exact ftZ _ _ _ _ _ _ _ _ _ _ _ _ _ _
 | succ k ih =>
  intro a paid B C cs rs plv pv w hB hC hp hr hpl hE hpn hpb res hres;have HIH:Hid _:=ih;have HP:Hid (K.rQ w B cs l):=hp;have HRW:Hid (K.tQ w B rs ts):=hr;have HPL:Hid (K.mG w B plv pl):=hpl;have HE:Hid (K.P.kJ w C pv paid):=hE;have HPB:Hid (∀ x∈paid,-9223372036854775808<=x.2.2.1/\x.2.2.1<=9223372036854775807):=hpb;obtain⟨ca,cc,rfl,_⟩:=hp.slice;obtain⟨ra,rc,rfl,_⟩:=hr.slice;obtain⟨pa,pc,rfl,_,hpl63⟩:=hpl.slice;obtain⟨ea,ec,rfl,_⟩:=hE.slice
  have hS:dQ ((w.alloc (.cells #[.slice ca l.length cc,.slice ra ts.length rc] 25)).alloc (.cells #[.slice none 0 0,.int .i64 1] 77)) (w.heap.size+1+1) (.slice (some ⟨w.heap.size+1,0,none⟩) 1 1) [(.slice none 0 0,[],1)]:=by
   have h:=dR (w.alloc (.cells #[.slice ca l.length cc,.slice ra ts.length rc] 25)) 0 0 (.slice none 0 0) [] 1 (kQ _) (dI _ _ _);have hz:(w.alloc (.cells #[.slice ca l.length cc,.slice ra ts.length rc] 25)).heap.size=w.heap.size+1:=by simp
   rw[hz] at h;exact h
  obtain⟨W,hW⟩:∃ W,(w.alloc (.cells #[.slice ca l.length cc,.slice ra ts.length rc] 25)).alloc (.cells #[.slice none 0 0,.int .i64 1] 77)=W:=⟨_,rfl⟩;have hWs:W.heap.size=w.heap.size+1+1:=by rw[<-hW];simp
  have hbW:Below w.heap.size w W:=hW▸bal (ba _ _) _;have HS:Hid (dQ W (w.heap.size+1+1) (.slice (some ⟨w.heap.size+1,0,none⟩) 1 1) [(.slice none 0 0,[],1)]):=hW▸hS;have T0:Hid (K.Cl W w.heap.size 0 (.slice ca l.length cc)):=hW▸(K.Cl.new _ 25 _ _ rfl rfl).at (ba _ _);have T1:Hid (K.Cl W w.heap.size 1 (.slice ra ts.length rc)):=hW▸(K.Cl.new _ 25 _ _ rfl rfl).at (ba _ _);have HST:Hid (∀ W',Below W.heap.size W W'->yA w (some kZ) (.returned (.tuple #[.slice (some ⟨w.heap.size+1,0,none⟩) 1 1,.bool true])) W'):=fun W' hb=>yA.stop (bt hbW hb) ((HS.out.at (by omega) hb).mono (by have:=hb.size;omega));have hk1:(((k+1:Nat):Int) == 0)=false:=by simp;omega
  clear hp hr hpl hE hpb hS ih;rw[eY] at hres;by_cases h1:a<0
  ·rw[zQ h1] at hres
   subst hres;go_enter func15,ntmps15;go_wp2;exact uQ (v:=.tuple #[.slice (some ⟨w.heap.size+1,0,none⟩) 1 1,.bool true]) (by simp[results,results15,go_sem]) rfl (HST.out _ (aQ _ _))
  ·rw[xQ h1] at hres
   obtain⟨i,rfl⟩:=gA (show 0<=a by omega);rw[aK,b7Q] at hres;by_cases h2:i<pl.length
   ·obtain⟨b,o,t,rfl,hb,hti,hat,hq,hn⟩:=HPL.out.get hB hbW h2
    rw[hti] at hres;simp only[Option.map_some] at hres;obtain⟨hlo,hhi⟩:=hI t (qX hti);obtain⟨v0,v1,v2,v3,v4,v5,q,u,d,lo,hi,nv,ns⟩:=t;simp only at hres hq hn hlo hhi;obtain⟨⟨c0,c1,c2,c3,c4,c5⟩,c6,c7,c8,c9,c10⟩:=hat;simp only at c0 c1 c2 c3 c4 c5 c6 c7 c8 c9 c10;have HQ:Hid (K.Qm W B q v0 v1 v2 v3 v4 v5):=hq;have HN:Hid (K.xA W B nv ns):=hn;obtain⟨kk,kc,kl,kh,ka,kn,kd,kb,km,kp,rfl,rfl,rfl,rfl,rfl,rfl⟩:=hq.shape;obtain⟨na,nc,rfl,_⟩:=hn.slice;obtain⟨⟨ls,p,q1,e1⟩,hans⟩:∃ y,rY u d lo hi l (K.rr ts) q=y:=⟨_,rfl⟩;obtain⟨⟨z,er⟩,hz⟩:∃ y,K.xJ (K.prt l q nm0)=y:=⟨_,rfl⟩;rw[hans,hz] at hres;simp only at hres;obtain⟨en,hen⟩:∃ y,uP K.P.pN (z,er) p q1=y:=⟨_,rfl⟩;obtain⟨r,hdo⟩:∃ y,K.P.eX (K.P.mX [] paid).2 (K.P.nrm en)=y:=⟨_,rfl⟩;rw[hen,hdo] at hres;have HRES:Hid ((if e1=0 then if r=0 then xK (fun x=>eY l (K.rr ts) (fun q=>K.xJ (K.prt l q nm0)) K.P.pN (pld pl) k (eU (K.nd ns) x) (paid++[en])) ls else some kZ else some kZ)=res):=hres;have HZ:Hid (K.xJ (K.prt l q nm0)=(z,er)/\uP K.P.pN (z,er) p q1=en/\K.P.eX (K.P.mX [] paid).2 (K.P.nrm en)=r):=⟨hz,hen,hdo⟩;obtain⟨W2,hW2⟩:∃ W2,W.alloc (.cells #[.int .i64 kk,.string kc,.int .i64 kl,.int .i64 kh,.slice ka kn kd,.slice kb km kp,.int .i64 u,.int .i64 d,.int .i64 lo,.int .i64 hi,.slice na ns.length nc] 66)=W2:=⟨_,rfl⟩;have hb2:Below W.heap.size W W2:=hW2▸ba _ _;have hbw2:Below w.heap.size w W2:=bt hbW hb2;have C0:Hid (∀ j x,#[Value.int .i64 kk,.string kc,.int .i64 kl,.int .i64 kh,.slice ka kn kd,.slice kb km kp,.int .i64 u,.int .i64 d,.int .i64 lo,.int .i64 hi,.slice na ns.length nc][j]? = some x->K.Cl W2 (w.heap.size+1+1) j x):=fun j x hx=>hW2▸K.Cl.new _ 66 _ _ hWs.symm hx;have kA:=a9Z B u d lo hi _ _ _ _ _ _ _ _ l ts q W2 (bQ hB hbw2.size) (HP.out.at hB hbw2) (HRW.out.at hB hbw2) (HQ.out.at (bQ hB hbW.size) hb2) hlo hhi ls p q1 e1 hans;have t0:=(T0.out.at hb2).c;have t1:=(T1.out.at hb2).c;have hiI:(i:Int)<(pl.length:Int):=by omega
    have hiN:¬ (i:Int) ≥ (pl.length:Int):=by omega
    have g0:=(C0.out 0 _ rfl).c;have g1:=(C0.out 1 _ rfl).c;have g2:=(C0.out 2 _ rfl).c;have g3:=(C0.out 3 _ rfl).c;have g4:=(C0.out 4 _ rfl).c;have g5:=(C0.out 5 _ rfl).c;have g6:=(C0.out 6 _ rfl).c;have g7:=(C0.out 7 _ rfl).c;have g8:=(C0.out 8 _ rfl).c;have g9:=(C0.out 9 _ rfl).c;have g10:=(C0.out 10 _ rfl).c;clear hq hn hres hz hen hdo hans hti;go_enter func15,ntmps15;go_wp2_with fail;refine kA.mono ?_;rintro x3 w3 ⟨lv,zs,rfl,hzs,hds,hzl,hb3⟩;have hbw3:Below w.heap.size w w3:=bt hbw2 hb3;have hbW3:Below W.heap.size W w3:=bt hb2 hb3;have HZS:Hid (rds zs=ls/\qD w3 w3.heap.size lv zs/\zs.length<=4096):=⟨hzs,hds.dss (by have:=hb2.size;omega),hzl⟩;obtain⟨la,lc,rfl,_⟩:=hds;clear kA hzs hzl t0 t1 g0 g1 g2 g3 g4 g5 g6 g7 g8 g9 g10 c0 c1 c2 c3 c4 c5 c6 c7 c8 c9 c10;obtain⟨W4,hW4⟩:∃ W4,w3.alloc (.cells #[.int .i64 p,.int .i64 q1] 32)=W4:=⟨_,rfl⟩;have hb4:Below w3.heap.size w3 W4:=hW4▸ba _ _;have hbw4:Below w.heap.size w W4:=bt hbw3 hb4;have hbW4:Below W.heap.size W W4:=bt hbW3 hb4;have hb24:Below W2.heap.size W2 W4:=bt hb3 hb4;have R0:Hid (K.Cl W4 w3.heap.size 0 (.int .i64 p)/\K.Cl W4 w3.heap.size 1 (.int .i64 q1)):=⟨hW4▸K.Cl.new _ 32 _ _ rfl rfl,hW4▸K.Cl.new _ 32 _ _ rfl rfl⟩;by_cases he1:e1=0
    ·subst he1
     have HRES2:Hid ((if r=0 then xK (fun x=>eY l (K.rr ts) (fun q=>K.xJ (K.prt l q nm0)) K.P.pN (pld pl) k (eU (K.nd ns) x) (paid++[en])) ls else some kZ)=res):=HRES.out;clear HRES;have kP:=K.P.fsZ B C l (.slice ca l.length cc) (.slice ea paid.length ec) ra ts.length rc ⟨.int .i64 kk,.string kc,.int .i64 kl,.int .i64 kh,.slice ka kn kd,.slice kb km kp,q,u,d,lo,hi,.slice na ns.length nc,ns⟩ p q1 paid W4 (bQ hB hbw4.size) (bQ hC hbw4.size) (HP.out.at hB hbw4) (HQ.out.at (bQ hB hbW.size) hbW4) (HN.out.at (bQ hB hbW.size) hbW4) (HE.out.at hC hbw4) (by omega) HPB.out nm0 sz0 hl0 z er HZ.out.1 en HZ.out.2.1 r HZ.out.2.2;have t0:=(T0.out.at hbW4).c;have t1:=(T1.out.at hbW4).c;have r0:=R0.out.1.c;have r1:=R0.out.2.c;have g0:=((C0.out 0 _ rfl).at hb24).c;have g1:=((C0.out 1 _ rfl).at hb24).c;have g2:=((C0.out 2 _ rfl).at hb24).c;have g3:=((C0.out 3 _ rfl).at hb24).c;have g4:=((C0.out 4 _ rfl).at hb24).c;have g5:=((C0.out 5 _ rfl).at hb24).c;have g6:=((C0.out 6 _ rfl).at hb24).c;have g7:=((C0.out 7 _ rfl).at hb24).c;have g8:=((C0.out 8 _ rfl).at hb24).c;have g9:=((C0.out 9 _ rfl).at hb24).c;have g10:=((C0.out 10 _ rfl).at hb24).c;clear hW hW2;go_wp2_with fail;refine kP.mono ?_;rintro x5 w5 ⟨pv5,rfl,hE5,hb5⟩;have HE5:Hid (K.P.kJ w5 w5.heap.size pv5 (paid++[en])):=hE5;obtain⟨ea5,ec5,rfl,_⟩:=hE5.slice;have hbw5:Below w.heap.size w w5:=bt hbw4 hb5;have hbW5:Below W.heap.size W w5:=bt hbW4 hb5;have hb25:Below W2.heap.size W2 w5:=bt hb24 hb5;have hb35:Below w3.heap.size w3 w5:=bt hb4 hb5
     have HPB2:Hid (∀ x∈paid++[en],-9223372036854775808<=x.2.2.1/\x.2.2.1<=9223372036854775807):=by
      intro x hx;rcases kV.1 hx with h|h
      ·exact HPB.out x h
      ·simp at h;subst h;have hzb:=K.P.b6Q HZ.out.1;rw[<-HZ.out.2.1];unfold uP;split <;> simp only <;> omega
     clear kP t0 t1 r0 r1 g0 g1 g2 g3 g4 g5 g6 g7 g8 g9 g10 hE5 hW4;by_cases hr0:r=0
     ·have hrd:decide (r=0)=true:=by simpa using hr0
      rw[hrd];have HRES3:Hid (xK (fun x=>eY l (K.rr ts) (fun q=>K.xJ (K.prt l q nm0)) K.P.pN (pld pl) k (eU (K.nd ns) x) (paid++[en])) ls=res):=by have:=HRES2.out;rw[zQ hr0] at this;exact this
      clear HRES2 hrd;go_wp2;have HZ5:Hid (qD w5 w3.heap.size (.slice la zs.length lc) zs):=HZS.out.2.1.at (vQ _) hb35;have H0:Hid (dQ w5 w5.heap.size (.slice (some ⟨w.heap.size+1,0,none⟩) 1 1) [(.slice none 0 0,[],1)]):=(HS.out.at (by omega) hbW5).mono (by have:=hbW5.size;omega);have h35:=hb35.size
      go_loopw [16,18,79] (fun ev dv iv wr=>∃ (j:Nat) (us:List Tr),iv=.int .i64 (j:Int)/\ev=.int .i64 0/\j<=zs.length/\Hid (dQ wr wr.heap.size dv us/\yU kZ ls=yU (rd us) (ls.drop j))/\Below w5.heap.size w5 wr) (fun _ _ iv _=>zs.length - (intOf iv).toNat)
      case atStart=>exact⟨0,[(.slice none 0 0,[],1)],rfl,rfl,kQ _,⟨H0.out,rfl⟩,aQ _ _⟩
      case round =>
       obtain⟨j,us,rfl,rfl,hj,HD,hbl⟩:=hrel;have hbw:Below w.heap.size w wr:=bt hbw5 hbl;obtain⟨da,dc,rfl,_⟩:=id HD.out.1;by_cases h7:j<zs.length
       ·obtain⟨zb,zo,xa,xc,xs,rfl,hzb,hzj,d1,hxp⟩:=HZ5.out.get h35 hbl h7
        obtain⟨⟨d2,e2⟩,hbo⟩:∃ y,pV (rd us) (rd xs)=y:=⟨_,rfl⟩;have hlj:ls[j]? = some (rd xs):=by rw[<-HZS.out.1];simp[rds,hzj]
        have HBF:Hid (yU kZ ls=if e2=0 then yU d2 (ls.drop (j+1)) else ([],e2)):=by have:=HD.out.2;rw[fuZ hlj,hbo] at this;exact this
        have kB:=b2X wr.heap.size _ _ us xs wr (vQ _) HD.out.1 (hxp.mono (bQ h35 hbl.size)) d2 e2 hbo;clear hzj hxp hbo hlj;go_wp2_with fail;refine kB.mono ?_;rintro x6 w6 ⟨v6,us6,rfl,hr6,ho6,hb6,_⟩;have HO6:Hid (dQ w6 w6.heap.size v6 us6/\rd us6=d2):=⟨ho6.parts,hr6⟩;obtain⟨a6,n6,rfl⟩:=ho6.slice;have B6:Below w5.heap.size w5 w6:=bt hbl hb6;clear kB hr6 ho6;by_cases he2:e2=0
        ·subst he2
         have HD2:Hid (dQ w6 w6.heap.size (.slice a6 us6.length n6) us6/\yU kZ ls=yU (rd us6) (ls.drop (j+1))):=⟨HO6.out.1,by have:=HBF.out;rw[zQ rfl] at this;rw[HO6.out.2];exact this⟩;go_wp2
         go_roundw
         case rel=>exact⟨j+1,us6,by go_num,rfl,h7,HD2,B6⟩
         case measure=>simp[intOf];omega
        ·have h8:(e2 == 0)=false:=by simpa using he2
         have h9:(e2 != 0)=true:=by simpa using he2
         have hrs:res=none:=by rw[<-HRES3.out];refine fuJ ?_;rw[HBF.out,xQ he2];exact he2
         subst hrs;have B9:=bt hbw5 B6;go_wp2;exact uQ (v:=.tuple #[.slice none 0 0,.bool false]) (by simp[results,results15,go_sem]) rfl (yA.none B9)
       ·have HBF:Hid (yU kZ ls=(rd us,0)):=by
         have h8:=HD.out.2;rw[fY (by rw[<-HZS.out.1,a9X];omega)] at h8;exact h8
        obtain⟨G,hG⟩:∃ G,(fun x=>eY l (K.rr ts) (fun q=>K.xJ (K.prt l q nm0)) K.P.pN (pld pl) k (eU (K.nd ns) x) (paid++[en]))=G:=⟨_,rfl⟩;have HG:Hid (∀ x,eY l (K.rr ts) (fun q=>K.xJ (K.prt l q nm0)) K.P.pN (pld pl) k (eU (K.nd ns) x) (paid++[en])=G x):=fun x=>by rw[<-hG]
        have HRES4:Hid ((match vA G (rd us) with
          | none=>none
          | some fs=>if (nG (rd us) (eV fs)).2=0 then some (nG (rd us) (eV fs)).1 else none)=res):=by rw[<-HRES3.out,hG];exact(fvQ HBF.out).symm
        clear hG;have HUL:us.length<=1073741824:=by obtain⟨_,_,_,_,h,_⟩:=HD.out.1;exact h
        have HDU:Hid (dQ wr wr.heap.size (.slice da us.length dc) us):=HD.out.1;clear HRES3 HD HBF HZ5 H0;go_wp2;obtain⟨V,rfl⟩:∃ V,V=wr:=⟨_,rfl⟩
        go_loopw [21,94] (fun fv iv wq=>∃ (j:Nat) (fs:List Fl),iv=.int .i64 (j:Int)/\j<=us.length/\Hid (fA wq V.heap.size fv fs/\zI G (rd us) j fs)/\Below V.heap.size V wq) (fun _ iv _=>us.length - (intOf iv).toNat)
        case atStart=>exact⟨0,[],rfl,kQ _,⟨fA.nil _ _,rfl,by simp[fd]⟩,aQ _ _⟩
        case round =>
         obtain⟨m,fs,rfl,hm,HF,hbq⟩:=hrel;obtain⟨fa,fc,rfl⟩:=HF.out.1.slice;have hbwq:Below w.heap.size w wr:=bt hbw hbq;have hbW9:Below W.heap.size W wr:=bt hbW5 (bt hbl hbq);have hb29:Below W2.heap.size W2 wr:=bt hb25 (bt hbl hbq);have hb59:Below w5.heap.size w5 wr:=bt hbl hbq;by_cases h8:m<us.length
         ·obtain⟨pb,po,sa,sc,ys,kw,rfl,hpb',hus,d1,d2,hIy⟩:=HDU.out.get (vQ _) hbq h8
          have HGP:Hid ((rd us)[m]? = some (ys,kw)):=sV hus;have HIV:Hid (jQ wr V.heap.size V.heap.size (.slice sa ys.length sc) ys):=hIy.mono (vQ _) (.inr (vQ _));obtain⟨W7,hW7⟩:∃ W7,wr.alloc (.cells #[.slice sa ys.length sc,.int .i64 kw] 77)=W7:=⟨_,rfl⟩;have hb7:Below wr.heap.size wr W7:=hW7▸ba _ _;have hb27:Below W2.heap.size W2 W7:=bt hb29 hb7;have hbw7:Below w.heap.size w W7.drew:=(bt hbwq hb7).drew;have hbW7:Below W.heap.size W W7.drew:=(bt hbW9 hb7).drew;have hb57:Below w5.heap.size w5 W7.drew:=(bt hb59 hb7).drew;have HIY:Hid (jQ W7 W7.heap.size W7.heap.size (.slice sa ys.length sc) ys):=(hIy.at (by have:=hbq.size;omega) hb7).mono (by have:=(bt hbq hb7).size;omega) (.inr (by have:=(bt hbq hb7).size;omega));have lN:w.heap.size<W7.heap.size:=by have:=(bt hbW9 hb7).size;omega
          have lM:w.heap.size+1+1<W7.heap.size:=by have h77:=((C0.out 0 _ rfl).at hb27).lt;omega
          have lQ:wr.heap.size<W7.heap.size:=by rw[<-hW7];simp
          have hCC:∀ W',Below W7.heap.size W7 W'->W'.cell? ⟨w.heap.size,0,none⟩=some (.slice ca l.length cc)/\W'.cell? ⟨w.heap.size,1,none⟩=some (.slice ra ts.length rc)/\W'.cell? ⟨w.heap.size+1+1,0,none⟩=some (.int .i64 kk)/\W'.cell? ⟨w.heap.size+1+1,1,none⟩=some (.string kc)/\W'.cell? ⟨w.heap.size+1+1,2,none⟩=some (.int .i64 kl)/\W'.cell? ⟨w.heap.size+1+1,3,none⟩=some (.int .i64 kh)/\W'.cell? ⟨w.heap.size+1+1,4,none⟩=some (.slice ka kn kd)/\W'.cell? ⟨w.heap.size+1+1,5,none⟩=some (.slice kb km kp)/\W'.cell? ⟨w.heap.size+1+1,6,none⟩=some (.int .i64 u)/\W'.cell? ⟨w.heap.size+1+1,7,none⟩=some (.int .i64 d)/\W'.cell? ⟨w.heap.size+1+1,8,none⟩=some (.int .i64 lo)/\W'.cell? ⟨w.heap.size+1+1,9,none⟩=some (.int .i64 hi)/\W'.cell? ⟨w.heap.size+1+1,10,none⟩=some (.slice na ns.length nc)/\W'.cell? ⟨wr.heap.size,0,none⟩=some (.slice sa ys.length sc):=fun W' hb' =>
           ⟨((T0.out.at (bt hbW9 hb7)).at hb').c,((T1.out.at (bt hbW9 hb7)).at hb').c,((C0.out 0 _ rfl).at (bt hb27 hb')).c,((C0.out 1 _ rfl).at (bt hb27 hb')).c,((C0.out 2 _ rfl).at (bt hb27 hb')).c,((C0.out 3 _ rfl).at (bt hb27 hb')).c,((C0.out 4 _ rfl).at (bt hb27 hb')).c,((C0.out 5 _ rfl).at (bt hb27 hb')).c,((C0.out 6 _ rfl).at (bt hb27 hb')).c,((C0.out 7 _ rfl).at (bt hb27 hb')).c,((C0.out 8 _ rfl).at (bt hb27 hb')).c,((C0.out 9 _ rfl).at (bt hb27 hb')).c,((C0.out 10 _ rfl).at (bt hb27 hb')).c,(hb'.cell (p:=⟨wr.heap.size,0,none⟩) lQ).trans (by rw[<-hW7];simp[go_sem])⟩
          have hNN:∀ W',Below W7.heap.size W7 W'->Calls prog 17 #[.agg #[.int .i64 kk,.string kc,.int .i64 kl,.int .i64 kh,.slice ka kn kd,.slice kb km kp,.int .i64 u,.int .i64 d,.int .i64 lo,.int .i64 hi,.slice na ns.length nc],.slice sa ys.length sc] W' fun e W''=>e=.returned (.int .i64 (eU (K.nd ns) ys))/\Below W'.heap.size W' W'':=fun W' hb' =>
           b4J B W7.heap.size ⟨.int .i64 kk,.string kc,.int .i64 kl,.int .i64 kh,.slice ka kn kd,.slice kb km kp,q,u,d,lo,hi,.slice na ns.length nc,ns⟩ (.slice sa ys.length sc) ys W' (bQ hB (bt (bt hbwq hb7) hb').size) hb'.size (HQ.out.at (bQ hB hbW.size) (bt (bt hbW9 hb7) hb')) (HN.out.at (bQ hB hbW.size) (bt (bt hbW9 hb7) hb')) ((fvX HIY.out).keep hb') _ rfl
          have hTT:∀ W',Below W7.heap.size W7 W'->Calls prog 15 #[.agg #[.slice ca l.length cc,.slice ra ts.length rc],.slice (some ⟨b,o,none⟩) pl.length pc,.int .i64 (eU (K.nd ns) ys),.slice ea5 (paid.length+1) ec5,.int .i64 (k:Int)] W' (yA W' (G ys)):=by
           intro W' hb';have hw':=bt (bt hbwq hb7) hb';have h5':=bt (bt hb59 hb7) hb';refine HIH.out _ (paid++[en]) B w5.heap.size _ _ _ _ W' (bQ hB hw'.size) h5'.size (HP.out.at hB hw') (HRW.out.at hB hw') (HPL.out.at hB hw') ?_ (by simp;omega) ?_ _ (HG.out ys)
           ·have:=HE5.out.at (vQ _) h5';simpa using this
           ·exact HPB2.out
          have HCC:Hid (∀ W',Below W7.heap.size W7 W'->W'.cell? ⟨wr.heap.size,0,none⟩=some (.slice sa ys.length sc)):=fun W' hb'=>(hb'.cell (p:=⟨wr.heap.size,0,none⟩) lQ).trans (by rw[<-hW7];simp[go_sem]);have HCC3:Hid _:=hCC;have HNN3:Hid _:=hNN;have HTT3:Hid _:=hTT;have hbV7:Below V.heap.size V W7:=bt hbq hb7;clear hCC hNN hTT;go_wp2;clear hW7 d1 d2;refine ftJ (fun _ _ d _ _ h=>by cases d <;> exact h) _ _ _ _ _ _ _ _ _ _ _ _ _ _ _ _ _ _ _ _ _ _ _ _ _ _ _ _ _ _ _ _ _ _ _ _ _ _ _ _ _ _ _ _ _ _ _ _ _ _ _ _ _ _ _ _ _ _ _ _ _ _ _ _ _ _ _ _ _ _ _ _ _ _ _ _ _ _ _ _ _ _ _ _ _ _ _ _ _ _ _ _ _ _ _ _ _ _ _ _ _ _ _ _ _ _ _ _ _ _ _ _ _ _ _ _ _ _ _ _ _ _ _ _ _ _ _ _ _ _ _ _ _ _ _ _ _ W7 w.heap.size (w.heap.size+1+1) wr.heap.size (.slice ca l.length cc) (.slice ra ts.length rc) (.int .i64 kk) (.string kc) (.int .i64 kl) (.int .i64 kh) (.slice ka kn kd) (.slice kb km kp) (.int .i64 u) (.int .i64 d) (.int .i64 lo) (.int .i64 hi) (.slice na ns.length nc) (.slice sa ys.length sc) _ (k:Int) (eU (K.nd ns) ys) (by omega) (by omega) (G ys) HCC3.out HNN3.out HTT3.out ?_;intro u98 u99 u100 u101 u102 u103 u104 u105 u106 u107 u108 u109 u110 ta tn tc us9 sb9 wf hbf hres9;have hbVf:Below V.heap.size V wf:=bt hbV7 hbf;have hbwf:Below w.heap.size w wf:=bt hbw hbVf;have hQf:W7.heap.size<=wf.heap.size:=hbf.size;clear HCC3 HNN3 HTT3;rcases hres9 with⟨hno,rfl⟩|⟨hso,rfl,hP9⟩
          ·have hrs:res=none:=by rw[<-HRES4.out,HF.out.2.none HGP.out hno]
           subst hrs;go_wp2;exact uQ (v:=.tuple #[.slice none 0 0,.bool false]) (by simp[results,results15,go_sem]) rfl (yA.none hbwf)
          ·obtain⟨ta',tc',hte,_⟩:=id hP9
           simp only[gZ] at hte;obtain⟨rfl,rfl,rfl⟩:=hte;have HP9:Hid (dQ wf wf.heap.size (.slice ta us9.length tc) us9):=hP9;have HSO:Hid (G ys=some (rd us9)):=hso;obtain⟨⟨d2,e2⟩,hbo⟩:∃ y,pV [(ys,1)] (rd us9)=y:=⟨_,rfl⟩;have HBO:Hid (pV [(ys,1)] (rd us9)=(d2,e2)):=hbo;obtain⟨W10,hW10⟩:∃ W10,wf.alloc (.cells #[.slice sa ys.length sc,.int .i64 1] 77)=W10:=⟨_,rfl⟩;have hb10:Below wf.heap.size wf W10:=hW10▸ba _ _;have hI9:jQ wf W7.heap.size W7.heap.size (.slice sa ys.length sc) ys:=HIY.out.keep hbf;have hP1:dQ W10 (wf.heap.size+1) (.slice (some ⟨wf.heap.size,0,none⟩) 1 1) [(.slice sa ys.length sc,ys,1)]:=hW10▸dR wf W7.heap.size W7.heap.size _ ys 1 hQf hI9;have h10s:W10.heap.size=wf.heap.size+1:=by rw[<-hW10];simp
           have kB:=b2X W10.heap.size _ _ [(.slice sa ys.length sc,ys,1)] us9 W10 (vQ _) (hP1.mono (by omega)) ((HP9.out.at (vQ _) hb10).mono (by omega)) d2 e2 hbo;have y0:=HCC.out wf hbf;have hb710:Below W7.heap.size W7 W10:=bt hbf hb10;clear hP9 hso hbo hP1 hI9;go_wp2_with fail;refine kB.mono ?_;rintro x11 w11 ⟨v11,us11,rfl,hr11,ho11,hb11,hf11⟩;obtain⟨a11,c11,rfl⟩:=ho11.slice;have hb711:Below W7.heap.size W7 w11:=bt hb710 hb11;have hbw11:Below w.heap.size w w11:=bt hbw (bt hbV7 hb711);clear kB y0 hW10;by_cases he2:e2=0
           ·subst he2
            obtain⟨mm,hm1,hm2,hm3⟩:=c4Q (v:=.slice fa fs.length fc) (lo:=V.heap.size) (n:=W10.heap.size) (fun g e=>⟨(HF.out.1.lt g e).1,uX (HF.out.1.lt g e).2 (by have:=hb7.size;omega)⟩) (by have:=hbVf.size;omega);have y0:=HCC.out w11 hb711;have bw:Below wr.heap.size wr (w11.alloc (.cells #[.slice sa ys.length sc,.slice a11 us11.length c11] 110)):=bal (bt hb7 hb711) _;have HFk:Hid (fA (w11.alloc (.cells #[.slice sa ys.length sc,.slice a11 us11.length c11] 110)) V.heap.size (.slice fa fs.length fc) fs):=HF.out.1.keep bw;have HPI:Hid (jQ (w11.alloc (.cells #[.slice sa ys.length sc,.slice a11 us11.length c11] 110)) (w11.alloc (.cells #[.slice sa ys.length sc,.slice a11 us11.length c11] 110)).heap.size mm (.slice sa ys.length sc) ys):=(HIV.out.keep (bw.mono hbq.size)).mono (by have:=bw.size;have:=hbq.size;omega) (.inr hm1);have HPN:Hid (kU (w11.alloc (.cells #[.slice sa ys.length sc,.slice a11 us11.length c11] 110)) (w11.alloc (.cells #[.slice sa ys.length sc,.slice a11 us11.length c11] 110)).heap.size mm (.slice a11 us11.length c11) us11):=(a0Q ho11 hf11 hm2).at2 (ba _ _);have HMM:Hid (∀ g,(Value.slice fa fs.length fc).ownBlock=some g->mm=g):=hm3;have HFS:Hid (zI G (rd us) (m+1) (fs++[((.slice sa ys.length sc,ys),(.slice a11 us11.length c11,us11))])):=HF.out.2.step (f:=((.slice sa ys.length sc,ys),(.slice a11 us11.length c11,us11))) HGP.out HSO.out HBO.out rfl hr11;have hfl:fs.length<=1073741824:=by have:=HF.out.2.1;omega
            have hw11:V.heap.size<=w11.heap.size:=by have:=(bt hbV7 hb711).size;omega
            have BB:Hid (Below V.heap.size V (w11.alloc (.cells #[.slice sa ys.length sc,.slice a11 us11.length c11] 110))):=bal (bt hbV7 hb711) _;obtain⟨i0,hi0,hz0,hz1,hz2⟩:=zV fuX;clear ho11 hf11 hr11 hm3 bw HP9 HSO HBO HF;go_wp2_with (at_builtin;refine uE _ rfl _ _ 108 rfl V.heap.size 110 i0 (.agg #[.slice none 0 0,.slice none 0 0]) 2 48 underlying108 hi0 hz0 hz1 hz2 rfl (by decide) _ _ _ rfl HFk.out.1 ⟨w11.heap.size,0,none⟩ 1 1 [.slice sa ys.length sc,.slice a11 us11.length c11] rfl ?q1 ?q2 ?q3 (by decide) ?q4 ?q5 ?q6 (w11.heap.size+1) ?q7 ?_)
            case q1=>rfl
            case q2=>exact fuQ _ _ _ _ rfl
            case q3=>intro u hu;simp at hu;rcases hu with rfl|rfl <;> rfl
            case q4=>simp[maxLen];omega
            case q5=>omega
            case q6=>simp;omega
            case q7=>simp
            intro g cap w12 hown hgrow hat hlt
            have HFn:Hid (fA w12 V.heap.size (.slice (some ⟨g,0,none⟩) (fs.length+1) cap) (fs++[((.slice sa ys.length sc,ys),(.slice a11 us11.length c11,us11))])) :=
             HFk.out.app (f:=((.slice sa ys.length sc,ys),(.slice a11 us11.length c11,us11))) hown hgrow (hat.imp (fun e=>by rw[e];rfl) (fun e=>by rw[e];simp[Value.ownBlock])) HPI.out HPN.out HMM.out
            have B12:Below V.heap.size V w12:=BB.out.grown hgrow (by simp;omega) (aO HFk.out.1);clear hown hgrow hat hlt HFk HPI HPN HMM BB;go_wp2
            go_roundw
            case rel=>exact⟨m+1,fs++[((.slice sa ys.length sc,ys),(.slice a11 us11.length c11,us11))],by go_num,h8,⟨HFn.out,HFS.out⟩,B12⟩
            case measure=>simp[intOf];omega
           ·have h9:(e2 == 0)=false:=by simpa using he2
            have h9':(e2 != 0)=true:=by simpa using he2
            have hrs:res=none:=by rw[<-HRES4.out,HF.out.2.bad HGP.out HSO.out (by rw[HBO.out];exact he2)]
            subst hrs;go_wp2;exact uQ (v:=.tuple #[.slice none 0 0,.bool false]) (by simp[results,results15,go_sem]) rfl (yA.none hbw11)
         ·obtain rfl:m=us.length:=by omega
          have hfe:vA G (rd us)=some (fd fs):=HF.out.2.all (by rw[tV];exact vQ _);have HRES5:Hid ((if (nG (rd us) (eV (fd fs))).2=0 then some (nG (rd us) (eV (fd fs))).1 else none)=res):=by have:=HRES4.out;rw[hfe] at this;exact this
          obtain⟨⟨bl,be⟩,hbi⟩:∃ y,nG (rd us) (eV (fd fs))=y:=⟨_,rfl⟩;have HRES6:Hid ((if be=0 then some bl else none)=res):=by have:=HRES5.out;rw[hbi] at this;exact this
          have hfl:fs.length<=1073741824:=by have:=HF.out.2.1;have:=HUL;omega
          have kB:=fiQ wr.heap.size _ _ us fs wr (vQ _) ((HDU.out.at (vQ _) hbq).mono hbq.size) (HF.out.1.fws hfl) bl be hbi;clear hfe HRES4 HRES5 hbi HF;go_wp2_with fail;refine kB.mono ?_;rintro x11 w11 ⟨v11,us11,rfl,hr11,ho11,hb11,hf11⟩;obtain⟨a11,c11,rfl⟩:=ho11.slice;have HPP:Hid (dQ w11 w11.heap.size (.slice a11 us11.length c11) us11/\rd us11=bl):=⟨ho11.parts,hr11⟩;have hbw11:Below w.heap.size w w11:=bt hbwq hb11;clear kB ho11 hf11 hr11;by_cases hbe:be=0
          ·subst hbe
           have HT:Hid (yA w res (.returned (.tuple #[.slice a11 us11.length c11,.bool true])) w11):=⟨_,_,_,us11,_,rfl,hbw11,.inr ⟨by rw[<-HRES6.out,HPP.out.2];rfl,rfl,HPP.out.1⟩⟩;go_wp2;exact uQ (v:=.tuple #[.slice a11 us11.length c11,.bool true]) (by simp[results,results15,go_sem]) rfl HT.out
          ·have h9:(be == 0)=false:=by simpa using hbe
           have HT:Hid (yA w res (.returned (.tuple #[.slice a11 us11.length c11,.bool false])) w11):=⟨_,_,_,us11,_,rfl,hbw11,.inl ⟨by rw[<-HRES6.out,xQ hbe],rfl⟩⟩;go_wp2;exact uQ (v:=.tuple #[.slice a11 us11.length c11,.bool false]) (by simp[results,results15,go_sem]) rfl HT.out
     ·have hrd:decide (r=0)=false:=by simpa using hr0
      rw[hrd];have HRES3:Hid (some kZ=res):=by have:=HRES2.out;rw[xQ hr0] at this;exact this
      obtain rfl:=HRES3.out;go_wp2;exact uQ (v:=.tuple #[.slice (some ⟨w.heap.size+1,0,none⟩) 1 1,.bool true]) (by simp[results,results15,go_sem]) rfl (HST.out _ hbW5)
    ·have h5:(e1 == 0)=false:=by simpa using he1
     have h6:(e1 != 0)=true:=by simpa using he1
     have HRES3:Hid (some kZ=res):=by have:=HRES.out;rw[xQ he1] at this;exact this
     obtain rfl:=HRES3.out;clear hW hW2;go_wp2;exact uQ (v:=.tuple #[.slice (some ⟨w.heap.size+1,0,none⟩) 1 1,.bool true]) (by simp[results,results15,go_sem]) rfl (HST.out _ hbW4)
   ·have h3:(i:Int) ≥ (pl.length:Int):=by omega
    rw[bL (by omega)] at hres;simp only[Option.map_none] at hres;subst hres;go_enter func15,ntmps15;go_wp2;exact uQ (v:=.tuple #[.slice (some ⟨w.heap.size+1,0,none⟩) 1 1,.bool true]) (by simp[results,results15,go_sem]) rfl (HST.out _ (aQ _ _))

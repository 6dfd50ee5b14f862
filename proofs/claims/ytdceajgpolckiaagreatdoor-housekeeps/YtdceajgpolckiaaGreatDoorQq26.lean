import Derived.Test.YtdceajgpolckiaaGreatDoorQq13
import Derived.Test.YtdceajgpolckiaaGreatDoorQq24
open Go.Proofs.Tryz
set_option linter.unusedSimpArgs false
set_option maxHeartbeats 16000000
set_option maxRecDepth 100000
namespace Go.Proofs.YtdceajgpolckiaaGreatDoor
section
open Go.RowKit Ds
theorem cmX (zs:List Dz):(rds zs).length=zs.length:=by simp[rds]
def fU (u d lo hi:Int) (l:List K.Ds.jQ) (rs:List (List Int)) (q:K.Ds.Qu):List (List Pt) × Int × Int × Int :=
 if (K.xU (K.iV l rs q)).2≠0 then ([],0,0,(K.xU (K.iV l rs q)).2)
 else if (gJ u d lo hi (K.xU (K.iV l rs q)).1).2≠0 then ([],0,0,(gJ u d lo hi (K.xU (K.iV l rs q)).1).2)
 else if (mD u d (K.cF (K.typ l q)).1.2.1).2.2≠0 then ([],0,0,(mD u d (K.cF (K.typ l q)).1.2.1).2.2)
 else ((gJ u d lo hi (K.xU (K.iV l rs q)).1).1,(mD u d (K.cF (K.typ l q)).1.2.1).1,(mD u d (K.cF (K.typ l q)).1.2.1).2.1,0)
def cmZ (w:World) (ls:List (List Pt)) (p q er:Int) (e:Ending) (w':World):Prop :=
 ∃ v zs,e=.returned (.tuple #[v,rv p q,.int .i64 er])/\rds zs=ls/\mJ w' w.heap.size v zs/\zs.length<=4096/\Below w.heap.size w w'
theorem adQ {w:World}{B nb:Nat}{v:Value}{xs:List Int}(h:K.zQ w B nb v xs)(hl:xs.length<=1073741824):zQ w B nb v xs:=by
 obtain⟨a,c,hv,hc,_,hx⟩:=h;exact⟨a,c,hv,hc,hl,hx⟩
theorem cmJ {w:World}{B:Nat}{l:List K.Ds.jQ}{rs:List (List Int)}{q:K.Ds.Qu}{v0 v1 v2 v3 v4 v5:Value}(hq:K.Qm w B q v0 v1 v2 v3 v4 v5){xs:List Int}{e:Int}(h:K.xU (K.iV l rs q)=(xs,e)):xs.length<=4096/\∀ n∈xs,aX n:=by
 unfold K.iV at h;split at h
 ·rename_i h0
  obtain⟨hce,hle,_⟩:=K.Ds.gN h0;split at h
  ·rename_i b hb
   simp only[K.xU,cQ] at h;obtain⟨rfl,_⟩:=h;have hs:=(K.Ds.iK hce).2.2.1;obtain⟨h1,h2⟩:=K.fP hs hle q 1 _ hb hq.ne;have h3:=K.Ds.sL hs q 1 _ hb;unfold K.Ds.oZ at h3;refine⟨by omega,fun n hn=>?_⟩;have:=h2 n hn;unfold aX;omega
  ·simp only[K.xU,cQ] at h
   obtain⟨rfl,_⟩:=h;exact⟨by simp,by simp⟩
 ·simp only[K.xU,cQ] at h
  obtain⟨rfl,_⟩:=h;exact⟨by simp,by simp⟩
theorem cnQ {u d lo hi:Int}{ns:List Int}{l:List (List Pt)}{er:Int}(h:gJ u d lo hi ns=(l,er)):l.length<=ns.length:=by
 have e:l=(gJ u d lo hi ns).1:=by rw[h]
 rw[e];clear e h
 induction ns with
 | nil=>simp[gJ]
 | cons n ns ih =>
  unfold gJ;split
  ·simp
  ·split
   ·simp
   ·simp;exact ih
structure Nb (W:World) (N:Nat) (u d:Int) (cv tv v0 v1 v2 v3 v4 v5:Value):Prop where
 r0:K.Cl W N 0 (.int .i64 u)
 r1:K.Cl W N 1 (.int .i64 d)
 t0:K.Cl W (N+1) 0 cv
 t1:K.Cl W (N+1) 1 tv
 a0:K.Cl W (N+1+1) 0 v0
 a1:K.Cl W (N+1+1) 1 v1
 a2:K.Cl W (N+1+1) 2 v2
 a3:K.Cl W (N+1+1) 3 v3
 a4:K.Cl W (N+1+1) 4 v4
 a5:K.Cl W (N+1+1) 5 v5
 z0:K.Cl W (N+1+1+1) 0 (.int .i64 0)
 z1:K.Cl W (N+1+1+1) 1 (.int .i64 0)
theorem Nb.at {W W':World}{N:Nat}{u d:Int}{cv tv v0 v1 v2 v3 v4 v5:Value}(h:Nb W N u d cv tv v0 v1 v2 v3 v4 v5)(hb:Below W.heap.size W W'):Nb W' N u d cv tv v0 v1 v2 v3 v4 v5 :=
 ⟨h.r0.at hb,h.r1.at hb,h.t0.at hb,h.t1.at hb,h.a0.at hb,h.a1.at hb,h.a2.at hb,h.a3.at hb,h.a4.at hb,h.a5.at hb,h.z0.at hb,h.z1.at hb⟩
theorem Nb.new (w:World)(u d:Int)(cv tv v0 v1 v2 v3 v4 v5:Value):Nb ((((w.alloc (.cells #[.int .i64 u,.int .i64 d] 32)).alloc (.cells #[cv,tv] 25)).alloc (.cells #[v0,v1,v2,v3,v4,v5] 36)).alloc (.cells #[.int .i64 0,.int .i64 0] 32)) w.heap.size u d cv tv v0 v1 v2 v3 v4 v5:=by
 constructor
 all_goals first
  | exact(((K.Cl.new _ 32 _ _ rfl rfl).at (ba _ _)).at (ba _ _)).at (ba _ _)
  | exact((K.Cl.new _ 25 _ _ (by simp) rfl).at (ba _ _)).at (ba _ _)
  | exact(K.Cl.new _ 36 _ _ (by simp) rfl).at (ba _ _)
  | exact K.Cl.new _ 32 _ _ (by simp) rfl
theorem cnX (u d lo hi:Int)(xa:Option Addr)(xc:Nat)(xs:List Int)(w1:World)(HXI:Hid (zQ w1 w1.heap.size w1.heap.size (.slice xa xs.length xc) xs))(h1:aX lo)(h2:aX hi)(h3:∀ n∈xs,aX n)(h4:xs.length<=4096)(hl:List (List Pt))(e2:Int)(HHS:Hid (gJ u d lo hi xs=(hl,e2))) :
  Calls prog 40 #[rv u d,.int .i64 lo,.int .i64 hi,.slice xa xs.length xc] w1 (mT w1 hl e2):=b0Z _ _ u d lo hi _ xs w1 (vQ _) HXI.out h1 h2 h3 (by omega) hl e2 HHS.out
theorem cnZ (B:Nat)(u d lo hi:Int)(cv tv v0 v1 v2 v3 v4 v5:Value)(l:List K.Ds.jQ)(ts:List K.Rw)(q:K.Ds.Qu)(w:World)(hB:B<=w.heap.size)(hp:K.eQ w B cv l)(hr:K.iQ w B tv ts)(hq:K.Qm w B q v0 v1 v2 v3 v4 v5)(hlo:aX lo)(hhi:aX hi)
  (ls:List (List Pt)) (p' q' er:Int) (hA:fU u d lo hi l (K.rr ts) q=(ls,p',q',er)) :
  Calls prog 19 #[rv u d,.int .i64 lo,.int .i64 hi,.agg #[cv,tv],.agg #[v0,v1,v2,v3,v4,v5]] w (cmZ w ls p' q' er):=by
 have HP:Hid (K.eQ w B cv l):=hp;have HRW:Hid (K.iQ w B tv ts):=hr;have HQ:Hid (K.Qm w B q v0 v1 v2 v3 v4 v5):=hq;have HI:Hid (aX lo/\aX hi):=⟨hlo,hhi⟩;obtain⟨⟨xs,e1⟩,hx⟩:∃ y,K.xU (K.iV l (K.rr ts) q)=y:=⟨_,rfl⟩;have hbd:=cmJ hq hx;obtain⟨⟨hl,e2⟩,hh⟩:∃ y,gJ u d lo hi xs=y:=⟨_,rfl⟩;obtain⟨⟨⟨b1,b2,b3⟩,e3⟩,ht⟩:∃ y,K.cF (K.typ l q)=y:=⟨_,rfl⟩;obtain⟨⟨p,q1,e4⟩,hlo'⟩:∃ y,mD u d b2=y:=⟨_,rfl⟩;unfold fU at hA;rw[hx,hh,ht] at hA;simp only at hA;rw[hlo'] at hA;simp only at hA;obtain⟨la,lc,rfl,_⟩:=hp.slice;obtain⟨ra,rc,rfl,_⟩:=hr.slice;obtain⟨kk,kc,kl,kh,ka,kn,kd,kb,km,kp,rfl,rfl,rfl,rfl,rfl,rfl⟩:=hq.shape;have hb0:Below w.heap.size w ((((w.alloc (.cells #[.int .i64 u,.int .i64 d] 32)).alloc (.cells #[.slice la l.length lc,.slice ra ts.length rc] 25)).alloc (.cells #[.int .i64 kk,.string kc,.int .i64 kl,.int .i64 kh,.slice ka kn kd,.slice kb km kp] 36)).alloc (.cells #[.int .i64 0,.int .i64 0] 32)):=bal (bal (bal (ba _ _) _) _) _;have HN0:Hid (Nb ((((w.alloc (.cells #[.int .i64 u,.int .i64 d] 32)).alloc (.cells #[.slice la l.length lc,.slice ra ts.length rc] 25)).alloc (.cells #[.int .i64 kk,.string kc,.int .i64 kl,.int .i64 kh,.slice ka kn kd,.slice kb km kp] 36)).alloc (.cells #[.int .i64 0,.int .i64 0] 32)) w.heap.size u d (.slice la l.length lc) (.slice ra ts.length rc) (.int .i64 kk) (.string kc) (.int .i64 kl) (.int .i64 kh) (.slice ka kn kd) (.slice kb km kp)):=Nb.new _ _ _ _ _ _ _ _ _ _ _;have HXS:Hid (K.xU (K.iV l (K.rr ts) q)=(xs,e1)/\xs.length<=4096/\(∀ n∈xs,aX n)):=⟨hx,hbd.1,hbd.2⟩;have HHS:Hid (gJ u d lo hi xs=(hl,e2)):=hh;have HTY:Hid (K.cF (K.typ l q)=((b1,b2,b3),e3)):=ht;have HLO:Hid (mD u d b2=(p,q1,e4)):=hlo';have HA:Hid ((if e1≠0 then (([],0,0,e1):List (List Pt) × Int × Int × Int) else if e2≠0 then ([],0,0,e2) else if e4≠0 then ([],0,0,e4) else (hl,p,q1,0))=(ls,p',q',er)):=hA;have hxl:xs.length<=4096:=hbd.1;clear hx hh ht hlo' hA hp hr hq hbd hlo hhi;obtain⟨w0,hw0⟩:∃ w0,((((w.alloc (.cells #[.int .i64 u,.int .i64 d] 32)).alloc (.cells #[.slice la l.length lc,.slice ra ts.length rc] 25)).alloc (.cells #[.int .i64 kk,.string kc,.int .i64 kl,.int .i64 kh,.slice ka kn kd,.slice kb km kp] 36)).alloc (.cells #[.int .i64 0,.int .i64 0] 32))=w0:=⟨_,rfl⟩;rw[hw0] at hb0 HN0;have kr:=K.cmQ l ts q w0 B _ _ _ _ _ _ _ _ xs e1 (uQ hB hb0.size) (HP.out.at hB hb0) (HRW.out.at hB hb0) (HQ.out.at hB hb0) HXS.out.1;have mr0:=HN0.out.r0.c;have mr1:=HN0.out.r1.c;have mt0:=HN0.out.t0.c;have mt1:=HN0.out.t1.c;have ma0:=HN0.out.a0.c;have ma1:=HN0.out.a1.c;have ma2:=HN0.out.a2.c;have ma3:=HN0.out.a3.c;have ma4:=HN0.out.a4.c;have ma5:=HN0.out.a5.c;have mz0:=HN0.out.z0.c;have mz1:=HN0.out.z1.c;have mf0:=HN0.out.z0.f;have mf1:=HN0.out.z1.f;go_enter func19,ntmps19;go_wp2_with fail;clear hw0 mr0 mr1 mt0 mt1 ma0 ma1 ma2 ma3 ma4 ma5 mz0 mz1 mf0 mf1;refine kr.mono ?_;rintro e w1 ⟨xa,xc,rfl,hI1,hb1⟩;have hbw1:=bt hb0 hb1;have HN:Hid (Nb w1 w.heap.size u d (.slice la l.length lc) (.slice ra ts.length rc) (.int .i64 kk) (.string kc) (.int .i64 kl) (.int .i64 kh) (.slice ka kn kd) (.slice kb km kp)):=HN0.out.at hb1;have hlw1:w.heap.size+1+1+1<w1.heap.size:=HN.out.z0.lt;have HXI:Hid (zQ w1 w1.heap.size w1.heap.size (.slice xa xs.length xc) xs):=adQ hI1 (by omega);clear kr hI1 hb1 HN0 hb0;by_cases h1:e1=0
 ·subst h1
  have hA:=HA.out;rw[qQ (by simp)] at hA;have mr0:=HN.out.r0.c;have mr1:=HN.out.r1.c;have mt0:=HN.out.t0.c;have mt1:=HN.out.t1.c;have ma0:=HN.out.a0.c;have ma1:=HN.out.a1.c;have ma2:=HN.out.a2.c;have ma3:=HN.out.a3.c;have ma4:=HN.out.a4.c;have ma5:=HN.out.a5.c;have mz0:=HN.out.z0.c;have mz1:=HN.out.z1.c;have mf0:=HN.out.z0.f;have mf1:=HN.out.z1.f;have khd:=cnX u d lo hi xa xc xs w1 HXI HI.out.1 HI.out.2 HXS.out.2.2 hxl hl e2 HHS;go_wp2_with fail;refine khd.mono ?_;rintro e w2 ⟨v2,zs,rfl,k1,k2,k3⟩;have HD2:Hid (mJ w2 w1.heap.size v2 zs/\rds zs=hl):=⟨k2.dssA,k1⟩;obtain⟨a2,c2,hv2,_⟩:=k2.dssA;subst hv2;have hbw2:=bt hbw1 k3;have HN2:Hid (Nb w2 w.heap.size u d (.slice la l.length lc) (.slice ra ts.length rc) (.int .i64 kk) (.string kc) (.int .i64 kl) (.int .i64 kh) (.slice ka kn kd) (.slice kb km kp)):=HN.out.at k3
  have hzl:zs.length<=4096:=by
   have e1:=congrArg List.length HD2.out.2;rw[cmX] at e1;have:=cnQ HHS.out;omega
  clear khd k1 k2 k3 mr0 mr1 mt0 mt1 ma0 ma1 ma2 ma3 ma4 ma5 mz0 mz1 mf0 mf1 HN;by_cases h2:e2=0
  ·subst h2
   rw[qQ (by simp)] at hA;have mr0:=HN2.out.r0.c;have mr1:=HN2.out.r1.c;have mt0:=HN2.out.t0.c;have mt1:=HN2.out.t1.c;have ma0:=HN2.out.a0.c;have ma1:=HN2.out.a1.c;have ma2:=HN2.out.a2.c;have ma3:=HN2.out.a3.c;have ma4:=HN2.out.a4.c;have ma5:=HN2.out.a5.c;have mz0:=HN2.out.z0.c;have mz1:=HN2.out.z1.c;have mf0:=HN2.out.z0.f;have mf1:=HN2.out.z1.f;have kt:=K.cgZ l q w2 B _ _ _ _ _ _ _ b1 b2 b3 e3 (uQ hB hbw2.size) (HP.out.at hB hbw2) (HQ.out.at hB hbw2) HTY.out;go_wp2_with fail;refine kt.mono ?_;rintro e w3 ⟨rfl,hb3⟩;have hbw3:=bt hbw2 hb3;have HN3:Hid (Nb (w3.alloc (.cells #[.int .i64 b1,.int .i64 b2,.int .i64 b3] 123)) w.heap.size u d (.slice la l.length lc) (.slice ra ts.length rc) (.int .i64 kk) (.string kc) (.int .i64 kl) (.int .i64 kh) (.slice ka kn kd) (.slice kb km kp)):=(HN2.out.at hb3).at (ba _ _);have HD3:Hid (mJ (w3.alloc (.cells #[.int .i64 b1,.int .i64 b2,.int .i64 b3] 123)) w1.heap.size (.slice a2 zs.length c2) zs):=HD2.out.1.keep (bal hb3 _);have hbw3':=bal hbw3 (.cells #[.int .i64 b1,.int .i64 b2,.int .i64 b3] 123);clear kt hb3 mr0 mr1 mt0 mt1 ma0 ma1 ma2 ma3 ma4 ma5 mz0 mz1 mf0 mf1 HN2;have mr0:=HN3.out.r0.c;have mr1:=HN3.out.r1.c;have mt0:=HN3.out.t0.c;have mt1:=HN3.out.t1.c;have ma0:=HN3.out.a0.c;have ma1:=HN3.out.a1.c;have ma2:=HN3.out.a2.c;have ma3:=HN3.out.a3.c;have ma4:=HN3.out.a4.c;have ma5:=HN3.out.a5.c;have mz0:=HN3.out.z0.c;have mz1:=HN3.out.z1.c;have mf0:=HN3.out.z0.f;have mf1:=HN3.out.z1.f;go_wp2_with fail;refine(bwZ u d b2 p q1 e4 HLO.out _).mono ?_;rintro e w4 ⟨rfl,hb4⟩;have hbw4:=bt hbw3' hb4;have HN4:Hid (Nb w4 w.heap.size u d (.slice la l.length lc) (.slice ra ts.length rc) (.int .i64 kk) (.string kc) (.int .i64 kl) (.int .i64 kh) (.slice ka kn kd) (.slice kb km kp)):=HN3.out.at hb4;have HD4:Hid (mJ w4 w1.heap.size (.slice a2 zs.length c2) zs):=HD3.out.keep hb4;clear hb4 mr0 mr1 mt0 mt1 ma0 ma1 ma2 ma3 ma4 ma5 mz0 mz1 mf0 mf1 HN3 HD3;by_cases h4:e4=0
   ·subst h4
    rw[qQ (by simp)] at hA;simp only[cQ] at hA;obtain⟨rfl,rfl,rfl,rfl⟩:=hA;have HN5:Hid (Nb (w4.alloc (.cells #[.int .i64 p,.int .i64 q1] 32)) w.heap.size u d (.slice la l.length lc) (.slice ra ts.length rc) (.int .i64 kk) (.string kc) (.int .i64 kl) (.int .i64 kh) (.slice ka kn kd) (.slice kb km kp)):=HN4.out.at (ba _ _);have HC5:Hid (Fc w4.heap.size p q1 (w4.alloc (.cells #[.int .i64 p,.int .i64 q1] 32))):=byX _ _ _;obtain⟨j1,j2,j3,j4⟩:=HC5.out;obtain⟨W,hW⟩:∃ W,w4.alloc (.cells #[.int .i64 p,.int .i64 q1] 32)=W:=⟨_,rfl⟩;have hbW:Below w.heap.size w W:=hW▸bal hbw4 _;have HDW:Hid (mJ W w1.heap.size (.slice a2 zs.length c2) zs):=hW▸HD4.out.keep (ba _ _);have hlW:w.heap.size+1+1+1<W.heap.size:=hW▸HN5.out.z0.lt;rw[hW] at HN5 j1 j2 j3 j4;have mr0:=HN5.out.r0.c;have mr1:=HN5.out.r1.c;have mt0:=HN5.out.t0.c;have mt1:=HN5.out.t1.c;have ma0:=HN5.out.a0.c;have ma1:=HN5.out.a1.c;have ma2:=HN5.out.a2.c;have ma3:=HN5.out.a3.c;have ma4:=HN5.out.a4.c;have ma5:=HN5.out.a5.c;have mz0:=HN5.out.z0.c;have mz1:=HN5.out.z1.c;have mf0:=HN5.out.z0.f;have mf1:=HN5.out.z1.f;go_wp2_with fail;clear hW
    go_region_law (fail)
    go_wp2;exact bodyPost_ret (v:=.tuple #[.slice a2 zs.length c2,rv p q1,.int .i64 0]) (by simp[results,results19,go_sem,mz0,mz1]) rfl ⟨_,zs,rfl,HD2.out.2,(((HDW.out.set hlw1).set hlw1).mono hbw1.size).keep (Below.refl _ _).drew,hzl,(bs (bs hbW (by dsimp only;omega) _) (by dsimp only;omega) _).drew⟩
   ·have h5:(e4 == 0)=false:=by simpa using h4
    have h6:(e4 != 0)=true:=by simpa using h4
    rw[if_pos h4] at hA;simp only[Prod.mk.injEq] at hA;obtain⟨rfl,rfl,rfl,rfl⟩:=hA;have HN5:Hid (Nb (w4.alloc (.cells #[.int .i64 p,.int .i64 q1] 32)) w.heap.size u d (.slice la l.length lc) (.slice ra ts.length rc) (.int .i64 kk) (.string kc) (.int .i64 kl) (.int .i64 kh) (.slice ka kn kd) (.slice kb km kp)):=HN4.out.at (ba _ _);have mr0:=HN5.out.r0.c;have mr1:=HN5.out.r1.c;have mt0:=HN5.out.t0.c;have mt1:=HN5.out.t1.c;have ma0:=HN5.out.a0.c;have ma1:=HN5.out.a1.c;have ma2:=HN5.out.a2.c;have ma3:=HN5.out.a3.c;have ma4:=HN5.out.a4.c;have ma5:=HN5.out.a5.c;have mz0:=HN5.out.z0.c;have mz1:=HN5.out.z1.c;have mf0:=HN5.out.z0.f;have mf1:=HN5.out.z1.f;go_wp2_with fail;exact bodyPost_ret (v:=.tuple #[.slice none 0 0,rv 0 0,.int .i64 e4]) (by simp[results,results19,go_sem,mz0,mz1]) rfl ⟨_,[],rfl,rfl,mJ.nil _ _,by simp,bs (bs (bal hbw4 _) (by dsimp only;omega) _) (by dsimp only;omega) _⟩
  ·have h5:(e2 == 0)=false:=by simpa using h2
   have h6:(e2 != 0)=true:=by simpa using h2
   rw[if_pos h2] at hA;simp only[Prod.mk.injEq] at hA;obtain⟨rfl,rfl,rfl,rfl⟩:=hA;have mr0:=HN2.out.r0.c;have mr1:=HN2.out.r1.c;have mt0:=HN2.out.t0.c;have mt1:=HN2.out.t1.c;have ma0:=HN2.out.a0.c;have ma1:=HN2.out.a1.c;have ma2:=HN2.out.a2.c;have ma3:=HN2.out.a3.c;have ma4:=HN2.out.a4.c;have ma5:=HN2.out.a5.c;have mz0:=HN2.out.z0.c;have mz1:=HN2.out.z1.c;have mf0:=HN2.out.z0.f;have mf1:=HN2.out.z1.f;go_wp2_with fail;exact bodyPost_ret (v:=.tuple #[.slice none 0 0,rv 0 0,.int .i64 e2]) (by simp[results,results19,go_sem,mz0,mz1]) rfl ⟨_,[],rfl,rfl,mJ.nil _ _,by simp,bs (bs hbw2 (by dsimp only;omega) _) (by dsimp only;omega) _⟩
 ·have hA:=HA.out
  have h5:(e1 == 0)=false:=by simpa using h1
  have h6:(e1 != 0)=true:=by simpa using h1
  rw[if_pos h1] at hA;simp only[Prod.mk.injEq] at hA;obtain⟨rfl,rfl,rfl,rfl⟩:=hA;have mr0:=HN.out.r0.c;have mr1:=HN.out.r1.c;have mt0:=HN.out.t0.c;have mt1:=HN.out.t1.c;have ma0:=HN.out.a0.c;have ma1:=HN.out.a1.c;have ma2:=HN.out.a2.c;have ma3:=HN.out.a3.c;have ma4:=HN.out.a4.c;have ma5:=HN.out.a5.c;have mz0:=HN.out.z0.c;have mz1:=HN.out.z1.c;have mf0:=HN.out.z0.f;have mf1:=HN.out.z1.f;go_wp2_with fail;exact bodyPost_ret (v:=.tuple #[.slice none 0 0,rv 0 0,.int .i64 e1]) (by simp[results,results19,go_sem,mz0,mz1]) rfl ⟨_,[],rfl,rfl,mJ.nil _ _,by simp,bs (bs hbw1 (by dsimp only;omega) _) (by dsimp only;omega) _⟩
theorem adX {k d:List Pt}(h:gV k=(d,0))(hs:∀ p∈k,∃ z,p.1=[z]):∀ p∈d,∃ z,p.1=[z]:=by
 intro p hp;obtain⟨hd,g,hg,hw,_⟩:=dT h;have h1:=j0 hd.rise hd.pos hp;have h2:0<wt k p.1:=by rw[hw];exact Int.mul_pos hg h1
 obtain⟨p',hp',he⟩:=wW h2;obtain⟨z,hz⟩:=hs p' hp';exact⟨z,by rw[<-he,hz]⟩
theorem coX {u d lo hi n:Int}{l:List Pt}(h:nZ u d lo hi n=(l,0)):bU l=(l,0)/\∀ p∈l,∃ z,p.1=[z]:=by
 unfold nZ at h;split at h
 ·simp only[cQ] at h;rename_i c;exact absurd h.2 c
 ·split at h
  ·simp at h
  ·split at h
   ·exact⟨(dT h).1.own,adX h (by simp)⟩
   ·split at h
    ·simp at h
    ·exact⟨(dT h).1.own,adX h (by
      intro p hp;obtain⟨i,_,rfl⟩:=tZ.1 hp;exact⟨_,rfl⟩)⟩
theorem adZ {u d lo hi:Int}:∀ {ns:List Int} {ls:List (List Pt)},gJ u d lo hi ns=(ls,0)->ls.length=ns.length/\∀ x∈ls,∃ n,nZ u d lo hi n=(x,0)
 | [],ls,h=>by simp only[gJ,cQ] at h;obtain⟨rfl,_⟩:=h;exact⟨rfl,fun x hx=>by cases hx⟩
 | n::ns,ls,h=>by
  simp only[gJ] at h;by_cases c1:(nZ u d lo hi n).2=0
  ·rw[qQ (by simpa using c1)] at h
   by_cases c2:(gJ u d lo hi ns).2=0
   ·rw[qQ (by simpa using c2)] at h
    simp only[cQ,and_true] at h;subst h;have ih:=adZ (ns:=ns) (ls:=(gJ u d lo hi ns).1) (by rw[<-c2]);refine⟨by simp[ih.1],fun x hx=>?_⟩;rcases yX.1 hx with rfl|hx
    ·exact⟨n,by rw[<-c1]⟩
    ·exact ih.2 x hx
   ·rw[xQ c2] at h
    simp only[cQ] at h;exact absurd h.2 c2
  ·rw[xQ c1] at h
   simp only[cQ] at h;exact absurd h.2 c1
def mP (ls:List (List Pt)):Prop:=∀ x∈ls,bU x=(x,0)/\∀ p∈x,∃ z,p.1=[z]
theorem adJ {u d lo hi:Int}{l:List K.Ds.jQ}{rs:List (List Int)}{q:K.Ds.Qu}{ls:List (List Pt)}{p q':Int}(h:fU u d lo hi l rs q=(ls,p,q',0)):mP ls/\(K.xU (K.iV l rs q)).2=0/\ls.length=(K.xU (K.iV l rs q)).1.length/\mD u d (K.cF (K.typ l q)).1.2.1=(p,q',0):=by
 unfold fU at h;by_cases c1:(K.xU (K.iV l rs q)).2=0
 ·rw[qQ (by simpa using c1)] at h
  by_cases c2:(gJ u d lo hi (K.xU (K.iV l rs q)).1).2=0
  ·rw[qQ (by simpa using c2)] at h
   by_cases c3:(mD u d (K.cF (K.typ l q)).1.2.1).2.2=0
   ·rw[qQ (by simpa using c3)] at h
    simp only[cQ,and_true] at h;obtain⟨rfl,rfl,rfl⟩:=h;obtain⟨h1,h2⟩:=adZ (u:=u) (d:=d) (lo:=lo) (hi:=hi) (ns:=(K.xU (K.iV l rs q)).1) (ls:=(gJ u d lo hi (K.xU (K.iV l rs q)).1).1) (by rw[<-c2]);exact⟨fun x hx=>let ⟨n,hn⟩:=h2 x hx;coX hn,c1,h1,by rw[<-c3]⟩
   ·rw[xQ c3] at h
    simp only[cQ] at h;exact absurd h.2.2.2 c3
  ·rw[xQ c2] at h
   simp only[cQ] at h;exact absurd h.2.2.2 c2
 ·rw[xQ c1] at h
  simp only[cQ] at h;exact absurd h.2.2.2 c1
theorem coZ {T pl:Int}{l:List Pt}{o:List Int}(h:o∈uZ T pl l):∃ p∈l,p.1=o:=by
 induction l with
 | nil=>simp[uZ] at h
 | cons p l ih =>
  rw[uT] at h;split at h
  ·rcases yX.1 h with rfl|h
   ·exact⟨p,by simp,rfl⟩
   ·obtain⟨q,hq,e⟩:=ih h
    exact⟨q,by simp[hq],e⟩
  ·obtain⟨q,hq,e⟩:=ih h
   exact⟨q,by simp[hq],e⟩
theorem aeQ {T:Int}{l:List Pt}{pl nd u0:Int}{bits:List Int}{o:List Int}{u:Int}{r:List Int}(h:vA T l pl nd u0 bits=some (o,u,r)):∃ p∈l,p.1=o:=by
 induction bits generalizing pl nd u0 with
 | nil=>cases h
 | cons b bits ih =>
  simp only[vA] at h;cases e:(uZ T pl l)[(2*nd+b).toNat]? with
  | some o' =>
   rw[e] at h;simp only[vX,cQ] at h;obtain⟨rfl,_⟩:=h;exact coZ (uX e)
  | none =>
   rw[e] at h;exact ih h
theorem coJ {l:List Pt}{bits:List Int}{o:List Int}{u:Int}{r:List Int}(h:nU l bits=some (o,u,r)):∃ p∈l,p.1=o:=by
 match l,h with
 | [p],h =>
  simp only[nU,vX,cQ] at h;exact⟨p,by simp,h.1⟩
 | [],h=>exact aeQ (show vA _ _ _ _ _ bits=_ from h)
 | _::_::_,h=>exact aeQ (show vA _ _ _ _ _ bits=_ from h)
def oJ:List (List Pt)->List Int->Nat->List Int->Option (List Int × Nat)
 | [],_,us,vs=>some (vs,us)
 | d::r,bits,us,vs=>match nU d (bits.drop us) with
  | none=>none
  | some (o,k,_)=>oJ r bits (us+k.toNat) (vs++[o.getD 0 0])
theorem nN (zs:List Dz):(rds zs).length=zs.length:=by simp[rds]
def DnP (ls:List (List Pt)) (bits:List Int) (w:World) (e:Ending) (w':World):Prop :=
 Below w.heap.size w w'/\((oJ ls bits 0 []=none/\e=.returned (.tuple #[.slice none 0 0,.int .i64 0,.bool false])) \/
  (∃ vs us,oJ ls bits 0 []=some (vs,us)/\vs.length=ls.length/\us<=bits.length/\e=.returned (.tuple #[.slice (some ⟨w.heap.size,0,none⟩) vs.length vs.length,.int .i64 (us:Int),.bool true])/\K.RowI w' w.heap.size vs))
theorem cpX (B nb:Nat)(pv u:Value)(zs:List Dz)(bits:List Int)(w:World)(hB:B<=w.heap.size)(hp:gK w B pv zs)(hzl:zs.length<=4096)(ht:mP (rds zs))(hv:zQ w B nb u bits)(hnil:∀ n c,u=.slice none n c->c=0)(hbad:dY bits=false)(hlen:bits.length<=65536) :
  Calls prog 51 #[pv,u] w (DnP (rds zs) bits w):=by
 have HV:Hid (zQ w B nb u bits):=hv;have HP:Hid (gK w B pv zs):=hp;have HT:Hid (mP (rds zs)):=ht;have HBad:Hid (dY bits=false):=hbad;have HNil:Hid (∀ n c,u=.slice none n c->c=0):=hnil;have hmk:=K.cP zs.length (by omega);obtain⟨pa,pc,rfl,hpc,_⟩:=hp;obtain⟨a,c,rfl,hc,hl,_⟩:=hv;have HR0:Hid (K.RowI (w.alloc (.cells (madeCells #[.int .i64 0] zs.length) 3)) w.heap.size (List.replicate zs.length 0)):=K.RowI.made w zs.length;clear hbad ht hnil;go_enter func51,ntmps51;go_wp2
 go_loopw [18,8] (fun iv uv wr=>∃ (i us:Nat) (vs:List Int),iv=.int .i64 (i:Int)/\uv=.int .i64 (us:Int)/\i<=zs.length/\us<=bits.length/\Hid (vs.length=i/\oJ (rds zs) bits 0 []=oJ ((rds zs).drop i) bits us vs)/\Hid (Below w.heap.size w wr)/\Hid (K.RowI wr w.heap.size (vs++List.replicate (zs.length - i) 0))) (fun iv _ _=>zs.length - (intOf iv).toNat)
 case atStart=>exact⟨0,0,[],rfl,rfl,nQ _,nQ _,⟨rfl,rfl⟩,ba _ _,HR0⟩
 case round =>
  obtain⟨i,us,vs,rfl,rfl,hi,hus,HS,HW,HR⟩:=hrel;by_cases h1:i<zs.length
  ·obtain⟨b,o,na,nc,ts,rfl,hb,hgt,d1,hP⟩:=HP.out.get hB HW.out h1
   have hws:=HW.out.size;have hw1:w.heap.size<wr.heap.size:=HR.out.lt;have hdr:(rds zs)[i]? = some (rd ts):=by rw[rds,xA,hgt];rfl
   have htel:=HT.out (rd ts) (uX hdr)
   obtain⟨A,hAi,hA⟩:∃ A,zQ wr B nb (.slice A (bits.drop us).length (c - us)) (bits.drop us)/\(if c=us then a else a.map (fun p=>p.add us))=A:=by
    refine⟨_,?_,rfl⟩;have hv:=HV.out.at hB HW.out;cases a with
    | none =>
     have hc0:=HNil.out _ _ rfl;obtain rfl:us=0:=by omega
     rw[xQ hc0,rM];exact hv
    | some p =>
     obtain⟨a',c',hva,hca,hla,hxa⟩:=id hv;cases hva;by_cases he:bits=[]
     ·subst he
      rw[List.drop_nil];exact⟨_,_,rfl,by simp,by simp,fun h=>absurd rfl h⟩
     ·obtain⟨b',o',hab,_⟩:=hxa he
      cases hab;have h2:=hv.drop2 us hus;rw[Option.map_some,iA];exact h2
   have hdl:(bits.drop us).length=bits.length - us:=vL;rw[hdl] at hAi;have kd:=coQ B nb (.slice na ts.length nc) (.slice A (bits.length - us) (c - us)) ts (bits.drop us) wr (uQ hB hws) hP hAi (cW HBad.out us) (by omega) htel.1;have HDR:Hid ((rds zs)[i]? = some (rd ts)):=hdr;have HTL:Hid (∀ p∈rd ts,∃ z,p.1=[z]):=htel.2;clear hgt hdr htel hAi hdl hP;go_wp2_with fail;refine kd.mono ?_;rintro e w5 ⟨hb5,⟨hn,rfl⟩|⟨ya,yc,oo,k,r,hn,rfl,hI5⟩⟩
   ·have HN:Hid (oJ (rds zs) bits 0 []=none):=by
     rw[Hid,HS.out.2,zU (by rw[nN];exact h1)];have e:=(lQ.1 HDR.out).2;rw[e,oJ,hn]
    clear kd hA hn;go_wp2;exact yQ (v:=.tuple #[.slice none 0 0,.int .i64 0,.bool false]) (by simp[results,results51,go_sem]) rfl ⟨bal (bt HW.out hb5) _,.inl ⟨HN.out,rfl⟩⟩
   ·obtain⟨p,hp,rfl⟩:=coJ hn
    obtain⟨z,hz⟩:=HTL.out p hp;rw[hz] at hn hI5 ⊢;obtain⟨j,hkj,hj,_⟩:=bqJ hn;subst hkj;have hdl:(bits.drop us).length=bits.length - us:=vL;rw[hdl] at hj
    have HN:Hid (oJ (rds zs) bits 0 []=oJ ((rds zs).drop (i+1)) bits (us+j) (vs++[z])):=by
     rw[Hid,HS.out.2,zU (by rw[nN];exact h1)];have e:=(lQ.1 HDR.out).2;rw[e,oJ,hn];rfl
    obtain⟨_,_,hv5,_,_,hx5⟩:=hI5 0 (by omega);simp only[xV,bY] at hv5;obtain⟨rfl,-,rfl⟩:=hv5;obtain⟨yb,yo,rfl,_,_,hcell⟩:=hx5 (by simp);have c5:=hcell 0 z rfl;rw[xN] at c5;have hyb:w.heap.size<w5.heap.size:=qX hw1 hb5.size
    have hybl:yb<w5.heap.size:=by
     refine Classical.byContradiction fun hx=>?_;rw[World.cell?,Array.getElem?_eq_none (by simpa using hx)] at c5;cases c5
    have HW5:Hid (Below w.heap.size w w5):=bt HW.out hb5;have HR5:Hid (K.RowI w5 w.heap.size (vs++List.replicate (zs.length - i) 0)):=HR.out.keep hb5 hw1;have hlv:(vs++List.replicate (zs.length - i) 0).length=zs.length:=by simp[HS.out.1];omega
    obtain⟨y0,hy0⟩:∃ y0,(vs++List.replicate (zs.length - i) 0)[i]? = some y0:=⟨_,dZ (by omega)⟩;have q1:=HR5.out.cells i y0 hy0;have q2:=HR5.out.thaw i (by omega)
    have hset:(vs++List.replicate (zs.length - i) 0).set i z=vs++[z]++List.replicate (zs.length - (i+1)) 0:=by
     rw[iO _ _ (by rw[HS.out.1];exact vQ _),HS.out.1,uK,show zs.length - i=(zs.length - (i+1))+1 by omega,List.replicate_succ];simp
    have FR:Hid (∀ X,Below w5.heap.size w5 X->K.RowI (X.setCell ⟨w.heap.size,i,none⟩ (.int .i64 z)) w.heap.size (vs++[z]++List.replicate (zs.length - (i+1)) 0)):=fun X hX=>by
     rw[<-hset];exact(HR5.out.keep hX hyb).set i z
    have HVL:Hid ((vs++[z]).length=i+1):=by rw[Hid,zJ,HS.out.1];rfl
    have hw3:IntKind.i64.wrap ((us:Int)+(j:Int))=((us+j:Nat):Int):=by rw[bJ];omega
    have z1:(i:Int)<(zs.length:Int):=by omega
    clear kd hA hn hI5 hx5 hcell hy0 hset hlv hdl hp hz HR HW;go_wp2;refine⟨⟨i+1,us+j,vs++[z],by go_num,by simp,h1,by omega,⟨HVL.out,HN.out⟩,bal (bs HW5.out (by simp) _) _,?_⟩,by simp[intOf];omega⟩;exact(FR.out w5 (aQ _ _)).keep (ba _ _) (by simpa using hyb)
  ·obtain rfl:i=zs.length:=by omega
   have HE:=HS.out.2;rw[bH (by rw[nN];exact vQ _),oJ] at HE;have HEE:Hid (oJ (rds zs) bits 0 []=some (vs,us)):=HE;have hR:=HR.out;rw[uK,List.replicate_zero,xD] at hR;have HRR:Hid (K.RowI wr w.heap.size vs):=hR;have HVL:Hid (vs.length=zs.length):=HS.out.1;clear HE hR;go_wp2;exact yQ (v:=.tuple #[.slice (some ⟨w.heap.size,0,none⟩) zs.length zs.length,.int .i64 (us:Int),.bool true]) (by simp[results,results51,go_sem]) rfl ⟨HW.out,.inr ⟨vs,us,HEE.out,by rw[nN,HVL.out],hus,by rw[HVL.out],HRR.out⟩⟩

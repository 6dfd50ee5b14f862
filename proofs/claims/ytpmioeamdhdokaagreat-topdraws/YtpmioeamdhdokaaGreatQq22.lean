import Derived.Test.YtpmioeamdhdokaaGreatQq08
import Derived.Test.YtpmioeamdhdokaaGreatQq09
import Derived.Test.YtpmioeamdhdokaaGreatQq10
import Derived.Test.YtpmioeamdhdokaaGreatQq16
import Derived.Test.YtpmioeamdhdokaaGreatQq13
import Derived.Test.YtpmioeamdhdokaaGreatQq18
import Derived.Test.YtpmioeamdhdokaaGreatQq19
import Derived.Test.YtpmioeamdhdokaaGreatQq20
import Derived.Test.YtpmioeamdhdokaaGreatQq15
import Derived.Test.YtpmioeamdhdokaaGreatQq17
import Derived.Test.YtpmioeamdhdokaaGreatQq14
import Derived.Test.YtpmioeamdhdokaaGreatQq07
namespace Go.Proofs.YtpmioeamdhdokaaGreat
open Go.RowKit Go.Proofs.YtpmioeamdhdokaaGreat.Ds
theorem rds_len (zs:List Dz):(rds zs).length=zs.length:=by simp [rds]
def ansT (u d lo hi:Int) (l:List K.Ds.Col) (rs:List (List Int)) (q:K.Ds.Qu):List (List Pt) × Int × Int × Int :=
 if (K.runV (K.runT l rs q)).2≠0 then ([],0,0,(K.runV (K.runT l rs q)).2)
 else if (hidsT u d lo hi (K.runV (K.runT l rs q)).1).2≠0 then ([],0,0,(hidsT u d lo hi (K.runV (K.runT l rs q)).1).2)
 else if (lostT u d (K.typV (K.typ l q)).1.2.1).2.2≠0 then ([],0,0,(lostT u d (K.typV (K.typ l q)).1.2.1).2.2)
 else ((hidsT u d lo hi (K.runV (K.runT l rs q)).1).1,(lostT u d (K.typV (K.typ l q)).1.2.1).1,(lostT u d (K.typV (K.typ l q)).1.2.1).2.1,0)
def AnsQ (w:World) (ls:List (List Pt)) (p q er:Int) (e:Ending) (w':World):Prop :=
 ∃ v zs,e=.returned (.tuple #[v,rv p q,.int .i64 er])∧rds zs=ls∧DssA w' w.heap.size v zs∧zs.length≤4096∧Below w.heap.size w w'
theorem ints_K {w:World} {B nb:Nat} {v:Value} {xs:List Int} (h:K.Ints w B nb v xs) (hl:xs.length≤1073741824):Ints w B nb v xs:=by
 obtain ⟨a,c,hv,hc,_,hx⟩:=h
 exact ⟨a,c,hv,hc,hl,hx⟩
theorem run_bd {w:World} {B:Nat} {l:List K.Ds.Col} {rs:List (List Int)} {q:K.Ds.Qu} {v0 v1 v2 v3 v4 v5:Value} (hq:K.Qm w B q v0 v1 v2 v3 v4 v5) {xs:List Int} {e:Int} (h:K.runV (K.runT l rs q)=(xs,e)):xs.length≤4096∧∀ n∈xs,I64 n:=by
 unfold K.runT at h
 split at h
 ·rename_i h0
  obtain ⟨hce,hle,_⟩:=K.Ds.wroE_ok h0
  split at h
  ·rename_i b hb
   simp only [K.runV,Prod.mk.injEq] at h
   obtain ⟨rfl,_⟩:=h
   have hs:=(K.Ds.colE_ok hce).2.2.1
   obtain ⟨h1,h2⟩:=K.ans_ok hs hle q 1 _ hb hq.ne
   have h3:=K.Ds.bnd_bd hs q 1 _ hb
   unfold K.Ds.BOk at h3
   refine ⟨by omega,fun n hn=>?_⟩
   have:=h2 n hn
   unfold I64
   omega
  ·simp only [K.runV,Prod.mk.injEq] at h
   obtain ⟨rfl,_⟩:=h
   exact ⟨by simp,by simp⟩
 ·simp only [K.runV,Prod.mk.injEq] at h
  obtain ⟨rfl,_⟩:=h
  exact ⟨by simp,by simp⟩
theorem hids_len {u d lo hi:Int} {ns:List Int} {l:List (List Pt)} {er:Int} (h:hidsT u d lo hi ns=(l,er)):l.length≤ns.length:=by
 have e:l=(hidsT u d lo hi ns).1:=by rw [h]
 rw [e]
 clear e h
 induction ns with
 | nil=>simp [hidsT]
 | cons n ns ih =>
  unfold hidsT
  split
  ·simp
  ·split
   ·simp
   ·simp; exact ih
structure Nb (W:World) (N:Nat) (u d:Int) (cv tv v0 v1 v2 v3 v4 v5:Value):Prop where
 r0:K.Cl W N 0 (.int .i64 u)
 r1:K.Cl W N 1 (.int .i64 d)
 t0:K.Cl W (N + 1) 0 cv
 t1:K.Cl W (N + 1) 1 tv
 a0:K.Cl W (N + 1 + 1) 0 v0
 a1:K.Cl W (N + 1 + 1) 1 v1
 a2:K.Cl W (N + 1 + 1) 2 v2
 a3:K.Cl W (N + 1 + 1) 3 v3
 a4:K.Cl W (N + 1 + 1) 4 v4
 a5:K.Cl W (N + 1 + 1) 5 v5
 z0:K.Cl W (N + 1 + 1 + 1) 0 (.int .i64 0)
 z1:K.Cl W (N + 1 + 1 + 1) 1 (.int .i64 0)
theorem Nb.at {W W':World} {N:Nat} {u d:Int} {cv tv v0 v1 v2 v3 v4 v5:Value} (h:Nb W N u d cv tv v0 v1 v2 v3 v4 v5) (hb:Below W.heap.size W W'):Nb W' N u d cv tv v0 v1 v2 v3 v4 v5 :=
 ⟨h.r0.at hb,h.r1.at hb,h.t0.at hb,h.t1.at hb,h.a0.at hb,h.a1.at hb,h.a2.at hb,h.a3.at hb,h.a4.at hb,h.a5.at hb,h.z0.at hb,h.z1.at hb⟩
theorem Nb.new (w:World) (u d:Int) (cv tv v0 v1 v2 v3 v4 v5:Value):Nb ((((w.alloc (.cells #[.int .i64 u,.int .i64 d] 37)).alloc (.cells #[cv,tv] 25)).alloc (.cells #[v0,v1,v2,v3,v4,v5] 52)).alloc (.cells #[.int .i64 0,.int .i64 0] 37)) w.heap.size u d cv tv v0 v1 v2 v3 v4 v5:=by
 constructor
 all_goals first
  | exact (((K.Cl.new _ 37 _ _ rfl rfl).at (ba _ _)).at (ba _ _)).at (ba _ _)
  | exact ((K.Cl.new _ 25 _ _ (by simp) rfl).at (ba _ _)).at (ba _ _)
  | exact (K.Cl.new _ 52 _ _ (by simp) rfl).at (ba _ _)
  | exact K.Cl.new _ 37 _ _ (by simp) rfl
theorem hidesA (u d lo hi:Int) (xa:Option Addr) (xc:Nat) (xs:List Int) (w1:World) (HXI:Hid (Ints w1 w1.heap.size w1.heap.size (.slice xa xs.length xc) xs)) (h1:I64 lo) (h2:I64 hi) (h3:∀ n∈xs,I64 n) (h4:xs.length≤4096) (hl:List (List Pt)) (e2:Int) (HHS:Hid (hidsT u d lo hi xs=(hl,e2))) :
  Calls Tryz.prog 47 #[rv u d,.int .i64 lo,.int .i64 hi,.slice xa xs.length xc] w1 (HidsP w1 hl e2):=hideAll_any _ _ u d lo hi _ xs w1 (Nat.le_refl _) HXI.out h1 h2 h3 (by omega) hl e2 HHS.out
set_option maxHeartbeats 4000000 in
set_option maxRecDepth 100000 in
theorem nanswer_any (B:Nat) (u d lo hi:Int) (cv tv v0 v1 v2 v3 v4 v5:Value) (l:List K.Ds.Col) (ts:List K.Rw) (q:K.Ds.Qu) (w:World) (hB:B≤w.heap.size) (hp:K.Cols w B cv l) (hr:K.Rws w B tv ts) (hq:K.Qm w B q v0 v1 v2 v3 v4 v5) (hlo:I64 lo) (hhi:I64 hi)
  (ls:List (List Pt)) (p' q' er:Int) (hA:ansT u d lo hi l (K.rr ts) q=(ls,p',q',er)) :
  Calls Tryz.prog 23 #[rv u d,.int .i64 lo,.int .i64 hi,.agg #[cv,tv],.agg #[v0,v1,v2,v3,v4,v5]] w (AnsQ w ls p' q' er):=by
 have HP:Hid (K.Cols w B cv l):=hp
 have HRW:Hid (K.Rws w B tv ts):=hr
 have HQ:Hid (K.Qm w B q v0 v1 v2 v3 v4 v5):=hq
 have HI:Hid (I64 lo∧I64 hi):=⟨hlo,hhi⟩
 obtain ⟨⟨xs,e1⟩,hx⟩:∃ y,K.runV (K.runT l (K.rr ts) q)=y:=⟨_,rfl⟩
 have hbd:=run_bd hq hx
 obtain ⟨⟨hl,e2⟩,hh⟩:∃ y,hidsT u d lo hi xs=y:=⟨_,rfl⟩
 obtain ⟨⟨⟨b1,b2,b3⟩,e3⟩,ht⟩:∃ y,K.typV (K.typ l q)=y:=⟨_,rfl⟩
 obtain ⟨⟨p,q1,e4⟩,hlo'⟩:∃ y,lostT u d b2=y:=⟨_,rfl⟩
 unfold ansT at hA
 rw [hx,hh,ht] at hA
 simp only at hA
 rw [hlo'] at hA
 simp only at hA
 obtain ⟨la,lc,rfl,_⟩:=hp.slice
 obtain ⟨ra,rc,rfl,_⟩:=hr.slice
 obtain ⟨kk,kc,kl,kh,ka,kn,kd,kb,km,kp,rfl,rfl,rfl,rfl,rfl,rfl⟩:=hq.shape
 have hb0:Below w.heap.size w ((((w.alloc (.cells #[.int .i64 u,.int .i64 d] 37)).alloc (.cells #[.slice la l.length lc,.slice ra ts.length rc] 25)).alloc (.cells #[.int .i64 kk,.string kc,.int .i64 kl,.int .i64 kh,.slice ka kn kd,.slice kb km kp] 52)).alloc (.cells #[.int .i64 0,.int .i64 0] 37)):=bal (bal (bal (ba _ _) _) _) _
 have HN0:Hid (Nb ((((w.alloc (.cells #[.int .i64 u,.int .i64 d] 37)).alloc (.cells #[.slice la l.length lc,.slice ra ts.length rc] 25)).alloc (.cells #[.int .i64 kk,.string kc,.int .i64 kl,.int .i64 kh,.slice ka kn kd,.slice kb km kp] 52)).alloc (.cells #[.int .i64 0,.int .i64 0] 37)) w.heap.size u d (.slice la l.length lc) (.slice ra ts.length rc) (.int .i64 kk) (.string kc) (.int .i64 kl) (.int .i64 kh) (.slice ka kn kd) (.slice kb km kp)):=Nb.new _ _ _ _ _ _ _ _ _ _ _
 have HXS:Hid (K.runV (K.runT l (K.rr ts) q)=(xs,e1)∧xs.length≤4096∧(∀ n∈xs,I64 n)):=⟨hx,hbd.1,hbd.2⟩
 have HHS:Hid (hidsT u d lo hi xs=(hl,e2)):=hh
 have HTY:Hid (K.typV (K.typ l q)=((b1,b2,b3),e3)):=ht
 have HLO:Hid (lostT u d b2=(p,q1,e4)):=hlo'
 have HA:Hid ((if e1≠0 then (([],0,0,e1):List (List Pt) × Int × Int × Int) else if e2≠0 then ([],0,0,e2) else if e4≠0 then ([],0,0,e4) else (hl,p,q1,0))=(ls,p',q',er)):=hA
 have hxl:xs.length≤4096:=hbd.1
 clear hx hh ht hlo' hA hp hr hq hbd hlo hhi
 obtain ⟨w0,hw0⟩:∃ w0,((((w.alloc (.cells #[.int .i64 u,.int .i64 d] 37)).alloc (.cells #[.slice la l.length lc,.slice ra ts.length rc] 25)).alloc (.cells #[.int .i64 kk,.string kc,.int .i64 kl,.int .i64 kh,.slice ka kn kd,.slice kb km kp] 52)).alloc (.cells #[.int .i64 0,.int .i64 0] 37))=w0:=⟨_,rfl⟩
 rw [hw0] at hb0 HN0
 have kr:=K.askRun_any l ts q w0 B _ _ _ _ _ _ _ _ xs e1 (Nat.le_trans hB hb0.size) (HP.out.at hB hb0) (HRW.out.at hB hb0) (HQ.out.at hB hb0) HXS.out.1
 have mr0:=HN0.out.r0.c
 have mr1:=HN0.out.r1.c
 have mt0:=HN0.out.t0.c
 have mt1:=HN0.out.t1.c
 have ma0:=HN0.out.a0.c
 have ma1:=HN0.out.a1.c
 have ma2:=HN0.out.a2.c
 have ma3:=HN0.out.a3.c
 have ma4:=HN0.out.a4.c
 have ma5:=HN0.out.a5.c
 have mz0:=HN0.out.z0.c
 have mz1:=HN0.out.z1.c
 have mf0:=HN0.out.z0.f
 have mf1:=HN0.out.z1.f
 go_enter Tryz.func23,Tryz.ntmps23
 go_wp2_with fail
 clear hw0 mr0 mr1 mt0 mt1 ma0 ma1 ma2 ma3 ma4 ma5 mz0 mz1 mf0 mf1
 refine kr.mono ?_
 rintro e w1 ⟨xa,xc,rfl,hI1,hb1⟩
 have hbw1:=bt hb0 hb1
 have HN:Hid (Nb w1 w.heap.size u d (.slice la l.length lc) (.slice ra ts.length rc) (.int .i64 kk) (.string kc) (.int .i64 kl) (.int .i64 kh) (.slice ka kn kd) (.slice kb km kp)):=HN0.out.at hb1
 have hlw1:w.heap.size + 1 + 1 + 1 < w1.heap.size:=HN.out.z0.lt
 have HXI:Hid (Ints w1 w1.heap.size w1.heap.size (.slice xa xs.length xc) xs):=ints_K hI1 (by omega)
 clear kr hI1 hb1 HN0 hb0
 by_cases h1:e1=0
 ·subst h1
  have hA:=HA.out
  rw [if_neg (by simp)] at hA
  have mr0:=HN.out.r0.c
  have mr1:=HN.out.r1.c
  have mt0:=HN.out.t0.c
  have mt1:=HN.out.t1.c
  have ma0:=HN.out.a0.c
  have ma1:=HN.out.a1.c
  have ma2:=HN.out.a2.c
  have ma3:=HN.out.a3.c
  have ma4:=HN.out.a4.c
  have ma5:=HN.out.a5.c
  have mz0:=HN.out.z0.c
  have mz1:=HN.out.z1.c
  have mf0:=HN.out.z0.f
  have mf1:=HN.out.z1.f
  have khd:=hidesA u d lo hi xa xc xs w1 HXI HI.out.1 HI.out.2 HXS.out.2.2 hxl hl e2 HHS
  go_wp2_with fail
  refine khd.mono ?_
  rintro e w2 ⟨v2,zs,rfl,k1,k2,k3⟩
  have HD2:Hid (DssA w2 w1.heap.size v2 zs∧rds zs=hl):=⟨k2.dssA,k1⟩
  obtain ⟨a2,c2,hv2,_⟩:=k2.dssA
  subst hv2
  have hbw2:=bt hbw1 k3
  have HN2:Hid (Nb w2 w.heap.size u d (.slice la l.length lc) (.slice ra ts.length rc) (.int .i64 kk) (.string kc) (.int .i64 kl) (.int .i64 kh) (.slice ka kn kd) (.slice kb km kp)):=HN.out.at k3
  have hzl:zs.length≤4096:=by
   have e1:=congrArg List.length HD2.out.2
   rw [rds_len] at e1
   have:=hids_len HHS.out
   omega
  clear khd k1 k2 k3 mr0 mr1 mt0 mt1 ma0 ma1 ma2 ma3 ma4 ma5 mz0 mz1 mf0 mf1 HN
  by_cases h2:e2=0
  ·subst h2
   rw [if_neg (by simp)] at hA
   have mr0:=HN2.out.r0.c
   have mr1:=HN2.out.r1.c
   have mt0:=HN2.out.t0.c
   have mt1:=HN2.out.t1.c
   have ma0:=HN2.out.a0.c
   have ma1:=HN2.out.a1.c
   have ma2:=HN2.out.a2.c
   have ma3:=HN2.out.a3.c
   have ma4:=HN2.out.a4.c
   have ma5:=HN2.out.a5.c
   have mz0:=HN2.out.z0.c
   have mz1:=HN2.out.z1.c
   have mf0:=HN2.out.z0.f
   have mf1:=HN2.out.z1.f
   have kt:=K.type_any l q w2 B _ _ _ _ _ _ _ b1 b2 b3 e3 (Nat.le_trans hB hbw2.size) (HP.out.at hB hbw2) (HQ.out.at hB hbw2) HTY.out
   go_wp2_with fail
   refine kt.mono ?_
   rintro e w3 ⟨rfl,hb3⟩
   have hbw3:=bt hbw2 hb3
   have HN3:Hid (Nb (w3.alloc (.cells #[.int .i64 b1,.int .i64 b2,.int .i64 b3] 135)) w.heap.size u d (.slice la l.length lc) (.slice ra ts.length rc) (.int .i64 kk) (.string kc) (.int .i64 kl) (.int .i64 kh) (.slice ka kn kd) (.slice kb km kp)):=(HN2.out.at hb3).at (ba _ _)
   have HD3:Hid (DssA (w3.alloc (.cells #[.int .i64 b1,.int .i64 b2,.int .i64 b3] 135)) w1.heap.size (.slice a2 zs.length c2) zs):=HD2.out.1.keep (bal hb3 _)
   have hbw3':=bal hbw3 (.cells #[.int .i64 b1,.int .i64 b2,.int .i64 b3] 135)
   clear kt hb3 mr0 mr1 mt0 mt1 ma0 ma1 ma2 ma3 ma4 ma5 mz0 mz1 mf0 mf1 HN2
   have mr0:=HN3.out.r0.c
   have mr1:=HN3.out.r1.c
   have mt0:=HN3.out.t0.c
   have mt1:=HN3.out.t1.c
   have ma0:=HN3.out.a0.c
   have ma1:=HN3.out.a1.c
   have ma2:=HN3.out.a2.c
   have ma3:=HN3.out.a3.c
   have ma4:=HN3.out.a4.c
   have ma5:=HN3.out.a5.c
   have mz0:=HN3.out.z0.c
   have mz1:=HN3.out.z1.c
   have mf0:=HN3.out.z0.f
   have mf1:=HN3.out.z1.f
   go_wp2_with fail
   refine (lost_any u d b2 p q1 e4 HLO.out _).mono ?_
   rintro e w4 ⟨rfl,hb4⟩
   have hbw4:=bt hbw3' hb4
   have HN4:Hid (Nb w4 w.heap.size u d (.slice la l.length lc) (.slice ra ts.length rc) (.int .i64 kk) (.string kc) (.int .i64 kl) (.int .i64 kh) (.slice ka kn kd) (.slice kb km kp)):=HN3.out.at hb4
   have HD4:Hid (DssA w4 w1.heap.size (.slice a2 zs.length c2) zs):=HD3.out.keep hb4
   clear hb4 mr0 mr1 mt0 mt1 ma0 ma1 ma2 ma3 ma4 ma5 mz0 mz1 mf0 mf1 HN3 HD3
   by_cases h4:e4=0
   ·subst h4
    rw [if_neg (by simp)] at hA
    simp only [Prod.mk.injEq] at hA
    obtain ⟨rfl,rfl,rfl,rfl⟩:=hA
    have HN5:Hid (Nb (w4.alloc (.cells #[.int .i64 p,.int .i64 q1] 37)) w.heap.size u d (.slice la l.length lc) (.slice ra ts.length rc) (.int .i64 kk) (.string kc) (.int .i64 kl) (.int .i64 kh) (.slice ka kn kd) (.slice kb km kp)):=HN4.out.at (ba _ _)
    have HC5:Hid (Fc w4.heap.size p q1 (w4.alloc (.cells #[.int .i64 p,.int .i64 q1] 37))):=fc_new _ _ _
    obtain ⟨j1,j2,j3,j4⟩:=HC5.out
    obtain ⟨W,hW⟩:∃ W,w4.alloc (.cells #[.int .i64 p,.int .i64 q1] 37)=W:=⟨_,rfl⟩
    have hbW:Below w.heap.size w W:=hW▸bal hbw4 _
    have HDW:Hid (DssA W w1.heap.size (.slice a2 zs.length c2) zs):=hW▸HD4.out.keep (ba _ _)
    have hlW:w.heap.size + 1 + 1 + 1 < W.heap.size:=hW▸HN5.out.z0.lt
    rw [hW] at HN5 j1 j2 j3 j4
    have mr0:=HN5.out.r0.c
    have mr1:=HN5.out.r1.c
    have mt0:=HN5.out.t0.c
    have mt1:=HN5.out.t1.c
    have ma0:=HN5.out.a0.c
    have ma1:=HN5.out.a1.c
    have ma2:=HN5.out.a2.c
    have ma3:=HN5.out.a3.c
    have ma4:=HN5.out.a4.c
    have ma5:=HN5.out.a5.c
    have mz0:=HN5.out.z0.c
    have mz1:=HN5.out.z1.c
    have mf0:=HN5.out.z0.f
    have mf1:=HN5.out.z1.f
    go_wp2_with fail
    clear hW
    go_region_law (fail)
    go_wp2
    exact bodyPost_ret (v:=.tuple #[.slice a2 zs.length c2,rv p q1,.int .i64 0]) (by simp [results,Tryz.results23,go_sem,mz0,mz1]) rfl ⟨_,zs,rfl,HD2.out.2,(((HDW.out.set hlw1).set hlw1).mono hbw1.size).keep (Below.refl _ _).drew,hzl,(bs (bs hbW (by dsimp only; omega) _) (by dsimp only; omega) _).drew⟩
   ·have h5:(e4 == 0)=false:=by simpa using h4
    have h6:(e4 != 0)=true:=by simpa using h4
    rw [if_pos h4] at hA
    simp only [Prod.mk.injEq] at hA
    obtain ⟨rfl,rfl,rfl,rfl⟩:=hA
    have HN5:Hid (Nb (w4.alloc (.cells #[.int .i64 p,.int .i64 q1] 37)) w.heap.size u d (.slice la l.length lc) (.slice ra ts.length rc) (.int .i64 kk) (.string kc) (.int .i64 kl) (.int .i64 kh) (.slice ka kn kd) (.slice kb km kp)):=HN4.out.at (ba _ _)
    have mr0:=HN5.out.r0.c
    have mr1:=HN5.out.r1.c
    have mt0:=HN5.out.t0.c
    have mt1:=HN5.out.t1.c
    have ma0:=HN5.out.a0.c
    have ma1:=HN5.out.a1.c
    have ma2:=HN5.out.a2.c
    have ma3:=HN5.out.a3.c
    have ma4:=HN5.out.a4.c
    have ma5:=HN5.out.a5.c
    have mz0:=HN5.out.z0.c
    have mz1:=HN5.out.z1.c
    have mf0:=HN5.out.z0.f
    have mf1:=HN5.out.z1.f
    go_wp2_with fail
    exact bodyPost_ret (v:=.tuple #[.slice none 0 0,rv 0 0,.int .i64 e4]) (by simp [results,Tryz.results23,go_sem,mz0,mz1]) rfl ⟨_,[],rfl,rfl,DssA.nil _ _,by simp,bs (bs (bal hbw4 _) (by dsimp only; omega) _) (by dsimp only; omega) _⟩
  ·have h5:(e2 == 0)=false:=by simpa using h2
   have h6:(e2 != 0)=true:=by simpa using h2
   rw [if_pos h2] at hA
   simp only [Prod.mk.injEq] at hA
   obtain ⟨rfl,rfl,rfl,rfl⟩:=hA
   have mr0:=HN2.out.r0.c
   have mr1:=HN2.out.r1.c
   have mt0:=HN2.out.t0.c
   have mt1:=HN2.out.t1.c
   have ma0:=HN2.out.a0.c
   have ma1:=HN2.out.a1.c
   have ma2:=HN2.out.a2.c
   have ma3:=HN2.out.a3.c
   have ma4:=HN2.out.a4.c
   have ma5:=HN2.out.a5.c
   have mz0:=HN2.out.z0.c
   have mz1:=HN2.out.z1.c
   have mf0:=HN2.out.z0.f
   have mf1:=HN2.out.z1.f
   go_wp2_with fail
   exact bodyPost_ret (v:=.tuple #[.slice none 0 0,rv 0 0,.int .i64 e2]) (by simp [results,Tryz.results23,go_sem,mz0,mz1]) rfl ⟨_,[],rfl,rfl,DssA.nil _ _,by simp,bs (bs hbw2 (by dsimp only; omega) _) (by dsimp only; omega) _⟩
 ·have hA:=HA.out
  have h5:(e1 == 0)=false:=by simpa using h1
  have h6:(e1 != 0)=true:=by simpa using h1
  rw [if_pos h1] at hA
  simp only [Prod.mk.injEq] at hA
  obtain ⟨rfl,rfl,rfl,rfl⟩:=hA
  have mr0:=HN.out.r0.c
  have mr1:=HN.out.r1.c
  have mt0:=HN.out.t0.c
  have mt1:=HN.out.t1.c
  have ma0:=HN.out.a0.c
  have ma1:=HN.out.a1.c
  have ma2:=HN.out.a2.c
  have ma3:=HN.out.a3.c
  have ma4:=HN.out.a4.c
  have ma5:=HN.out.a5.c
  have mz0:=HN.out.z0.c
  have mz1:=HN.out.z1.c
  have mf0:=HN.out.z0.f
  have mf1:=HN.out.z1.f
  go_wp2_with fail
  exact bodyPost_ret (v:=.tuple #[.slice none 0 0,rv 0 0,.int .i64 e1]) (by simp [results,Tryz.results23,go_sem,mz0,mz1]) rfl ⟨_,[],rfl,rfl,DssA.nil _ _,by simp,bs (bs hbw1 (by dsimp only; omega) _) (by dsimp only; omega) _⟩
theorem made_sing {k d:List Pt} (h:makeT k=(d,0)) (hs:∀ p∈k,∃ z,p.1=[z]):∀ p∈d,∃ z,p.1=[z]:=by
 intro p hp
 obtain ⟨hd,g,hg,hw,_⟩:=make_told h
 have h1:=mem_wt_pos hd.rise hd.pos hp
 have h2:0 < wt k p.1:=by rw [hw]; exact Int.mul_pos hg h1
 obtain ⟨p',hp',he⟩:=wt_pos_mem h2
 obtain ⟨z,hz⟩:=hs p' hp'
 exact ⟨z,by rw [← he,hz]⟩
theorem hide_sing {u d lo hi n:Int} {l:List Pt} (h:hideT u d lo hi n=(l,0)):ownT l=(l,0)∧∀ p∈l,∃ z,p.1=[z]:=by
 unfold hideT at h
 split at h
 ·simp only [Prod.mk.injEq] at h; rename_i c; exact absurd h.2 c
 ·split at h
  ·simp at h
  ·split at h
   ·exact ⟨(make_told h).1.own,made_sing h (by simp)⟩
   ·split at h
    ·simp at h
    ·exact ⟨(make_told h).1.own,made_sing h (by
      intro p hp
      obtain ⟨i,_,rfl⟩:=List.mem_map.1 hp
      exact ⟨_,rfl⟩)⟩
theorem hids_mem {u d lo hi:Int}:∀ {ns:List Int} {ls:List (List Pt)},hidsT u d lo hi ns=(ls,0)→ls.length=ns.length∧∀ x∈ls,∃ n,hideT u d lo hi n=(x,0)
 | [],ls,h=>by simp only [hidsT,Prod.mk.injEq] at h; obtain ⟨rfl,_⟩:=h; exact ⟨rfl,fun x hx=>by cases hx⟩
 | n :: ns,ls,h=>by
  simp only [hidsT] at h
  by_cases c1:(hideT u d lo hi n).2=0
  ·rw [if_neg (by simpa using c1)] at h
   by_cases c2:(hidsT u d lo hi ns).2=0
   ·rw [if_neg (by simpa using c2)] at h
    simp only [Prod.mk.injEq,and_true] at h
    subst h
    have ih:=hids_mem (ns:=ns) (ls:=(hidsT u d lo hi ns).1) (by rw [← c2])
    refine ⟨by simp [ih.1],fun x hx=>?_⟩
    rcases List.mem_cons.1 hx with rfl | hx
    ·exact ⟨n,by rw [← c1]⟩
    ·exact ih.2 x hx
   ·rw [if_pos c2] at h
    simp only [Prod.mk.injEq] at h
    exact absurd h.2 c2
  ·rw [if_pos c1] at h
   simp only [Prod.mk.injEq] at h
   exact absurd h.2 c1
def Tel (ls:List (List Pt)):Prop:=∀ x∈ls,ownT x=(x,0)∧∀ p∈x,∃ z,p.1=[z]
theorem ans_tel {u d lo hi:Int} {l:List K.Ds.Col} {rs:List (List Int)} {q:K.Ds.Qu} {ls:List (List Pt)} {p q':Int} (h:ansT u d lo hi l rs q=(ls,p,q',0)):Tel ls∧(K.runV (K.runT l rs q)).2=0∧ls.length=(K.runV (K.runT l rs q)).1.length∧lostT u d (K.typV (K.typ l q)).1.2.1=(p,q',0):=by
 unfold ansT at h
 by_cases c1:(K.runV (K.runT l rs q)).2=0
 ·rw [if_neg (by simpa using c1)] at h
  by_cases c2:(hidsT u d lo hi (K.runV (K.runT l rs q)).1).2=0
  ·rw [if_neg (by simpa using c2)] at h
   by_cases c3:(lostT u d (K.typV (K.typ l q)).1.2.1).2.2=0
   ·rw [if_neg (by simpa using c3)] at h
    simp only [Prod.mk.injEq,and_true] at h
    obtain ⟨rfl,rfl,rfl⟩:=h
    obtain ⟨h1,h2⟩:=hids_mem (u:=u) (d:=d) (lo:=lo) (hi:=hi) (ns:=(K.runV (K.runT l rs q)).1) (ls:=(hidsT u d lo hi (K.runV (K.runT l rs q)).1).1) (by rw [← c2])
    exact ⟨fun x hx=>let ⟨n,hn⟩:=h2 x hx; hide_sing hn,c1,h1,by rw [← c3]⟩
   ·rw [if_pos c3] at h
    simp only [Prod.mk.injEq] at h
    exact absurd h.2.2.2 c3
  ·rw [if_pos c2] at h
   simp only [Prod.mk.injEq] at h
   exact absurd h.2.2.2 c2
 ·rw [if_pos c1] at h
  simp only [Prod.mk.injEq] at h
  exact absurd h.2.2.2 c1
theorem lvT_mem {T pl:Int} {l:List Pt} {o:List Int} (h:o∈lvT T pl l):∃ p∈l,p.1=o:=by
 induction l with
 | nil=>simp [lvT] at h
 | cons p l ih =>
  rw [lvT_cons] at h
  split at h
  ·rcases List.mem_cons.1 h with rfl | h
   ·exact ⟨p,by simp,rfl⟩
   ·obtain ⟨q,hq,e⟩:=ih h
    exact ⟨q,by simp [hq],e⟩
  ·obtain ⟨q,hq,e⟩:=ih h
   exact ⟨q,by simp [hq],e⟩
theorem roT_mem {T:Int} {l:List Pt} {pl nd u0:Int} {bits:List Int} {o:List Int} {u:Int} {r:List Int} (h:roT T l pl nd u0 bits=some (o,u,r)):∃ p∈l,p.1=o:=by
 induction bits generalizing pl nd u0 with
 | nil=>cases h
 | cons b bits ih =>
  simp only [roT] at h
  cases e:(lvT T pl l)[(2 * nd + b).toNat]? with
  | some o' =>
   rw [e] at h
   simp only [Option.some.injEq,Prod.mk.injEq] at h
   obtain ⟨rfl,_⟩:=h
   exact lvT_mem (List.mem_of_getElem? e)
  | none =>
   rw [e] at h
   exact ih h
theorem roN_mem {l:List Pt} {bits:List Int} {o:List Int} {u:Int} {r:List Int} (h:roN l bits=some (o,u,r)):∃ p∈l,p.1=o:=by
 match l,h with
 | [p],h =>
  simp only [roN,Option.some.injEq,Prod.mk.injEq] at h
  exact ⟨p,by simp,h.1⟩
 | [],h=>exact roT_mem (show roT _ _ _ _ _ bits=_ from h)
 | _ :: _ :: _,h=>exact roT_mem (show roT _ _ _ _ _ bits=_ from h)
def drwT:List (List Pt)→List Int→Nat→List Int→Option (List Int × Nat)
 | [],_,us,vs=>some (vs,us)
 | d :: r,bits,us,vs=>match roN d (bits.drop us) with
  | none=>none
  | some (o,k,_)=>drwT r bits (us + k.toNat) (vs ++ [o.getD 0 0])
theorem rds_length (zs:List Dz):(rds zs).length=zs.length:=by simp [rds]
def DnP (ls:List (List Pt)) (bits:List Int) (w:World) (e:Ending) (w':World):Prop :=
 Below w.heap.size w w'∧((drwT ls bits 0 []=none∧e=.returned (.tuple #[.slice none 0 0,.int .i64 0,.bool false])) ∨
  (∃ vs us,drwT ls bits 0 []=some (vs,us)∧vs.length=ls.length∧us≤bits.length∧e=.returned (.tuple #[.slice (some ⟨w.heap.size,0,none⟩) vs.length vs.length,.int .i64 (us:Int),.bool true])∧K.RowI w' w.heap.size vs))
set_option maxHeartbeats 2000000 in
set_option maxRecDepth 100000 in
theorem drawn_any (B nb:Nat) (pv u:Value) (zs:List Dz) (bits:List Int) (w:World) (hB:B≤w.heap.size) (hp:Dss w B pv zs) (hzl:zs.length≤4096) (ht:Tel (rds zs)) (hv:Ints w B nb u bits) (hnil:∀ n c,u=.slice none n c→c=0) (hbad:badB bits=false) (hlen:bits.length≤65536) :
  Calls Tryz.prog 57 #[pv,u] w (DnP (rds zs) bits w):=by
 have HV:Hid (Ints w B nb u bits):=hv
 have HP:Hid (Dss w B pv zs):=hp
 have HT:Hid (Tel (rds zs)):=ht
 have HBad:Hid (badB bits=false):=hbad
 have HNil:Hid (∀ n c,u=.slice none n c→c=0):=hnil
 have hmk:=K.make_ints zs.length (by omega)
 obtain ⟨pa,pc,rfl,hpc,_⟩:=hp
 obtain ⟨a,c,rfl,hc,hl,_⟩:=hv
 have HR0:Hid (K.RowI (w.alloc (.cells (madeCells #[.int .i64 0] zs.length) 3)) w.heap.size (List.replicate zs.length 0)):=K.RowI.made w zs.length
 clear hbad ht hnil
 go_enter Tryz.func57,Tryz.ntmps57
 go_wp2
 go_loopw [18,8] (fun iv uv wr=>∃ (i us:Nat) (vs:List Int),iv=.int .i64 (i:Int)∧uv=.int .i64 (us:Int)∧i≤zs.length∧us≤bits.length∧Hid (vs.length=i∧drwT (rds zs) bits 0 []=drwT ((rds zs).drop i) bits us vs)∧Hid (Below w.heap.size w wr)∧Hid (K.RowI wr w.heap.size (vs ++ List.replicate (zs.length - i) 0))) (fun iv _ _=>zs.length - (intOf iv).toNat)
 case atStart=>exact ⟨0,0,[],rfl,rfl,Nat.zero_le _,Nat.zero_le _,⟨rfl,rfl⟩,ba _ _,HR0⟩
 case round =>
  obtain ⟨i,us,vs,rfl,rfl,hi,hus,HS,HW,HR⟩:=hrel
  by_cases h1:i < zs.length
  ·obtain ⟨b,o,na,nc,ts,rfl,hb,hgt,d1,hP⟩:=HP.out.get hB HW.out h1
   have hws:=HW.out.size
   have hw1:w.heap.size < wr.heap.size:=HR.out.lt
   have hdr:(rds zs)[i]? = some (rd ts):=by rw [rds,List.getElem?_map,hgt]; rfl
   have htel:=HT.out (rd ts) (List.mem_of_getElem? hdr)
   obtain ⟨A,hAi,hA⟩:∃ A,Ints wr B nb (.slice A (bits.drop us).length (c - us)) (bits.drop us)∧(if c=us then a else a.map (fun p=>p.add us))=A:=by
    refine ⟨_,?_,rfl⟩
    have hv:=HV.out.at hB HW.out
    cases a with
    | none =>
     have hc0:=HNil.out _ _ rfl
     obtain rfl:us=0:=by omega
     rw [if_pos hc0,List.drop_zero]
     exact hv
    | some p =>
     obtain ⟨a',c',hva,hca,hla,hxa⟩:=id hv
     cases hva
     by_cases he:bits=[]
     ·subst he
      rw [List.drop_nil]
      exact ⟨_,_,rfl,by simp,by simp,fun h=>absurd rfl h⟩
     ·obtain ⟨b',o',hab,_⟩:=hxa he
      cases hab
      have h2:=hv.drop2 us hus
      rw [Option.map_some,Addr.add_lit]
      exact h2
   have hdl:(bits.drop us).length=bits.length - us:=List.length_drop
   rw [hdl] at hAi
   have kd:=draw_any B nb (.slice na ts.length nc) (.slice A (bits.length - us) (c - us)) ts (bits.drop us) wr (Nat.le_trans hB hws) hP hAi (bad_drop HBad.out us) (by omega) htel.1
   have HDR:Hid ((rds zs)[i]? = some (rd ts)):=hdr
   have HTL:Hid (∀ p∈rd ts,∃ z,p.1=[z]):=htel.2
   clear hgt hdr htel hAi hdl hP
   go_wp2_with fail
   refine kd.mono ?_
   rintro e w5 ⟨hb5,⟨hn,rfl⟩ | ⟨ya,yc,oo,k,r,hn,rfl,hI5⟩⟩
   ·have HN:Hid (drwT (rds zs) bits 0 []=none):=by
     rw [Hid,HS.out.2,List.drop_eq_getElem_cons (by rw [rds_length]; exact h1)]
     have e:=(List.getElem?_eq_some_iff.1 HDR.out).2
     rw [e,drwT,hn]
    clear kd hA hn
    go_wp2
    exact bodyPost_ret (v:=.tuple #[.slice none 0 0,.int .i64 0,.bool false]) (by simp [results,Tryz.results57,go_sem]) rfl ⟨bal (bt HW.out hb5) _,.inl ⟨HN.out,rfl⟩⟩
   ·obtain ⟨p,hp,rfl⟩:=roN_mem hn
    obtain ⟨z,hz⟩:=HTL.out p hp
    rw [hz] at hn hI5 ⊢
    obtain ⟨j,hkj,hj,_⟩:=roN_take hn
    subst hkj
    have hdl:(bits.drop us).length=bits.length - us:=List.length_drop
    rw [hdl] at hj
    have HN:Hid (drwT (rds zs) bits 0 []=drwT ((rds zs).drop (i + 1)) bits (us + j) (vs ++ [z])):=by
     rw [Hid,HS.out.2,List.drop_eq_getElem_cons (by rw [rds_length]; exact h1)]
     have e:=(List.getElem?_eq_some_iff.1 HDR.out).2
     rw [e,drwT,hn]
     rfl
    obtain ⟨_,_,hv5,_,_,hx5⟩:=hI5 0 (by omega)
    simp only [Value.slice.injEq,List.length_singleton] at hv5
    obtain ⟨rfl,-,rfl⟩:=hv5
    obtain ⟨yb,yo,rfl,_,_,hcell⟩:=hx5 (by simp)
    have c5:=hcell 0 z rfl
    rw [Nat.add_zero] at c5
    have hyb:w.heap.size < w5.heap.size:=Nat.lt_of_lt_of_le hw1 hb5.size
    have hybl:yb < w5.heap.size:=by
     refine Classical.byContradiction fun hx=>?_
     rw [World.cell?,Array.getElem?_eq_none (by simpa using hx)] at c5
     cases c5
    have HW5:Hid (Below w.heap.size w w5):=bt HW.out hb5
    have HR5:Hid (K.RowI w5 w.heap.size (vs ++ List.replicate (zs.length - i) 0)):=HR.out.keep hb5 hw1
    have hlv:(vs ++ List.replicate (zs.length - i) 0).length=zs.length:=by simp [HS.out.1]; omega
    obtain ⟨y0,hy0⟩:∃ y0,(vs ++ List.replicate (zs.length - i) 0)[i]? = some y0:=⟨_,List.getElem?_eq_getElem (by omega)⟩
    have q1:=HR5.out.cells i y0 hy0
    have q2:=HR5.out.thaw i (by omega)
    have hset:(vs ++ List.replicate (zs.length - i) 0).set i z=vs ++ [z] ++ List.replicate (zs.length - (i + 1)) 0:=by
     rw [List.set_append_right _ _ (by rw [HS.out.1]; exact Nat.le_refl _),HS.out.1,Nat.sub_self,show zs.length - i=(zs.length - (i + 1)) + 1 by omega,List.replicate_succ]
     simp
    have FR:Hid (∀ X,Below w5.heap.size w5 X→K.RowI (X.setCell ⟨w.heap.size,i,none⟩ (.int .i64 z)) w.heap.size (vs ++ [z] ++ List.replicate (zs.length - (i + 1)) 0)):=fun X hX=>by
     rw [← hset]
     exact (HR5.out.keep hX hyb).set i z
    have HVL:Hid ((vs ++ [z]).length=i + 1):=by rw [Hid,List.length_append,HS.out.1]; rfl
    have hw3:IntKind.i64.wrap ((us:Int) + (j:Int))=((us + j:Nat):Int):=by rw [IntKind.wrap_i64]; omega
    have z1:(i:Int) < (zs.length:Int):=by omega
    clear kd hA hn hI5 hx5 hcell hy0 hset hlv hdl hp hz HR HW
    go_wp2
    refine ⟨⟨i + 1,us + j,vs ++ [z],by go_num,by simp,h1,by omega,⟨HVL.out,HN.out⟩,bal (bs HW5.out (by simp) _) _,?_⟩,by simp [intOf]; omega⟩
    exact (FR.out w5 (Below.refl _ _)).keep (ba _ _) (by simpa using hyb)
  ·obtain rfl:i=zs.length:=by omega
   have HE:=HS.out.2
   rw [List.drop_of_length_le (by rw [rds_length]; exact Nat.le_refl _),drwT] at HE
   have HEE:Hid (drwT (rds zs) bits 0 []=some (vs,us)):=HE
   have hR:=HR.out
   rw [Nat.sub_self,List.replicate_zero,List.append_nil] at hR
   have HRR:Hid (K.RowI wr w.heap.size vs):=hR
   have HVL:Hid (vs.length=zs.length):=HS.out.1
   clear HE hR
   go_wp2
   exact bodyPost_ret (v:=.tuple #[.slice (some ⟨w.heap.size,0,none⟩) zs.length zs.length,.int .i64 (us:Int),.bool true]) (by simp [results,Tryz.results57,go_sem]) rfl ⟨HW.out,.inr ⟨vs,us,HEE.out,by rw [rds_length,HVL.out],hus,by rw [HVL.out],HRR.out⟩⟩
end Go.Proofs.YtpmioeamdhdokaaGreat

import Derived.Test.YtlndlpjadajelaaGreatQq16
import Derived.Test.YtlndlpjadajelaaGreatQq28
import Derived.Test.YtlndlpjadajelaaGreatQq15
import Derived.Test.YtlndlpjadajelaaGreatQq17
import Derived.Test.YtlndlpjadajelaaGreatQq14
import Derived.Test.YtlndlpjadajelaaGreatQq29
namespace Go.Proofs.YtlndlpjadajelaaGreat
open Go.RowKit Go.Proofs.YtlndlpjadajelaaGreat.Ds
def ansT (u d lo hi:Int) (l:List K.Ds.Col) (rs:List (List Int)) (q:K.Ds.Qu):List (List Pt) × Int × Int × Int :=
 if (K.runV (K.runT l rs q)).2≠0 then ([],0,0,(K.runV (K.runT l rs q)).2)
 else if (hidsT u d lo hi (K.runV (K.runT l rs q)).1).2≠0 then ([],0,0,(hidsT u d lo hi (K.runV (K.runT l rs q)).1).2)
 else if (lostT u d (K.typV (K.typ l q)).1.2.1).2.2≠0 then ([],0,0,(lostT u d (K.typV (K.typ l q)).1.2.1).2.2)
 else ((hidsT u d lo hi (K.runV (K.runT l rs q)).1).1,(lostT u d (K.typV (K.typ l q)).1.2.1).1,(lostT u d (K.typV (K.typ l q)).1.2.1).2.1,0)
def AnsQ (w:World) (ls:List (List Pt)) (p q er:Int) (e:Ending) (w':World):Prop :=
 ∃ v zs,e=.returned (.tuple #[v,rv p q,.int .i64 er])∧rds zs=ls∧DssA w' w.heap.size v zs∧zs.length≤4096∧Below w.heap.size w w'
theorem ints_K {w:World} {B nb:Nat} {v:Value} {xs:List Int} (h:K.Ints w B nb v xs) (hl:xs.length≤1073741824):Ints w B nb v xs:=by
 obtain ⟨a,c,hv,hc,_,hx⟩:=h
 exact ⟨a,c,hv,hc,hl,hx⟩
theorem run_bd {w:World} {B:Nat} {l:List K.Ds.Col} {rs:List (List Int)} {q:K.Ds.Qu} {v0 v1 v2 v3 v4 v5:Value} (hq:K.Qm w B q v0 v1 v2 v3 v4 v5) {xs:List Int} {e:Int} (h:K.runV (K.runT l rs q)=(xs,e)):xs.length≤4096∧∀ n∈xs,I64 n:=by
 unfold K.runT at h
 split at h
 ·rename_i h0
  obtain ⟨hce,hle,_⟩:=K.Ds.wroE_ok h0
  split at h
  ·rename_i b hb
   simp only [K.runV,Prod.mk.injEq] at h
   obtain ⟨rfl,_⟩:=h
   have hs:=(K.Ds.colE_ok hce).2.2.1
   obtain ⟨h1,h2⟩:=K.ans_ok hs hle q 1 _ hb hq.ne
   have h3:=K.Ds.bnd_bd hs q 1 _ hb
   unfold K.Ds.BOk at h3
   refine ⟨by omega,fun n hn=>?_⟩
   have:=h2 n hn
   unfold I64
   omega
  ·simp only [K.runV,Prod.mk.injEq] at h
   obtain ⟨rfl,_⟩:=h
   exact ⟨by simp,by simp⟩
 ·simp only [K.runV,Prod.mk.injEq] at h
  obtain ⟨rfl,_⟩:=h
  exact ⟨by simp,by simp⟩
theorem hids_len {u d lo hi:Int} {ns:List Int} {l:List (List Pt)} {er:Int} (h:hidsT u d lo hi ns=(l,er)):l.length≤ns.length:=by
 have e:l=(hidsT u d lo hi ns).1:=by rw [h]
 rw [e]
 clear e h
 induction ns with
 | nil=>simp [hidsT]
 | cons n ns ih =>
  unfold hidsT
  split
  ·simp
  ·split
   ·simp
   ·simp; exact ih
structure Nb (W:World) (N:Nat) (u d:Int) (cv tv v0 v1 v2 v3 v4 v5:Value):Prop where
 r0:K.Cl W N 0 (.int .i64 u)
 r1:K.Cl W N 1 (.int .i64 d)
 t0:K.Cl W (N + 1) 0 cv
 t1:K.Cl W (N + 1) 1 tv
 a0:K.Cl W (N + 1 + 1) 0 v0
 a1:K.Cl W (N + 1 + 1) 1 v1
 a2:K.Cl W (N + 1 + 1) 2 v2
 a3:K.Cl W (N + 1 + 1) 3 v3
 a4:K.Cl W (N + 1 + 1) 4 v4
 a5:K.Cl W (N + 1 + 1) 5 v5
 z0:K.Cl W (N + 1 + 1 + 1) 0 (.int .i64 0)
 z1:K.Cl W (N + 1 + 1 + 1) 1 (.int .i64 0)
theorem Nb.at {W W':World} {N:Nat} {u d:Int} {cv tv v0 v1 v2 v3 v4 v5:Value} (h:Nb W N u d cv tv v0 v1 v2 v3 v4 v5) (hb:Below W.heap.size W W'):Nb W' N u d cv tv v0 v1 v2 v3 v4 v5 :=
 ⟨h.r0.at hb,h.r1.at hb,h.t0.at hb,h.t1.at hb,h.a0.at hb,h.a1.at hb,h.a2.at hb,h.a3.at hb,h.a4.at hb,h.a5.at hb,h.z0.at hb,h.z1.at hb⟩
theorem Nb.new (w:World) (u d:Int) (cv tv v0 v1 v2 v3 v4 v5:Value):Nb ((((w.alloc (.cells #[.int .i64 u,.int .i64 d] 23)).alloc (.cells #[cv,tv] 27)).alloc (.cells #[v0,v1,v2,v3,v4,v5] 31)).alloc (.cells #[.int .i64 0,.int .i64 0] 23)) w.heap.size u d cv tv v0 v1 v2 v3 v4 v5:=by
 constructor
 all_goals first
  | exact (((K.Cl.new _ 23 _ _ rfl rfl).at (ba _ _)).at (ba _ _)).at (ba _ _)
  | exact ((K.Cl.new _ 27 _ _ (by simp) rfl).at (ba _ _)).at (ba _ _)
  | exact (K.Cl.new _ 31 _ _ (by simp) rfl).at (ba _ _)
  | exact K.Cl.new _ 23 _ _ (by simp) rfl
theorem hidesA (u d lo hi:Int) (xa:Option Addr) (xc:Nat) (xs:List Int) (w1:World) (HXI:Hid (Ints w1 w1.heap.size w1.heap.size (.slice xa xs.length xc) xs)) (h1:I64 lo) (h2:I64 hi) (h3:∀ n∈xs,I64 n) (h4:xs.length≤4096) (hl:List (List Pt)) (e2:Int) (HHS:Hid (hidsT u d lo hi xs=(hl,e2))) :
  Calls Tryz.prog 28 #[rv u d,.int .i64 lo,.int .i64 hi,.slice xa xs.length xc] w1 (HidsP w1 hl e2):=hideAll_any _ _ u d lo hi _ xs w1 (Nat.le_refl _) HXI.out h1 h2 h3 (by omega) hl e2 HHS.out
set_option maxHeartbeats 4000000 in
set_option maxRecDepth 100000 in
theorem nanswer_any (B:Nat) (u d lo hi:Int) (cv tv v0 v1 v2 v3 v4 v5:Value) (l:List K.Ds.Col) (ts:List K.Rw) (q:K.Ds.Qu) (w:World) (hB:B≤w.heap.size) (hp:K.Cols w B cv l) (hr:K.Rws w B tv ts) (hq:K.Qm w B q v0 v1 v2 v3 v4 v5) (hlo:I64 lo) (hhi:I64 hi)
  (ls:List (List Pt)) (p' q' er:Int) (hA:ansT u d lo hi l (K.rr ts) q=(ls,p',q',er)) :
  Calls Tryz.prog 8 #[rv u d,.int .i64 lo,.int .i64 hi,.agg #[cv,tv],.agg #[v0,v1,v2,v3,v4,v5]] w (AnsQ w ls p' q' er):=by
 have HP:Hid (K.Cols w B cv l):=hp
 have HRW:Hid (K.Rws w B tv ts):=hr
 have HQ:Hid (K.Qm w B q v0 v1 v2 v3 v4 v5):=hq
 have HI:Hid (I64 lo∧I64 hi):=⟨hlo,hhi⟩
 obtain ⟨⟨xs,e1⟩,hx⟩:∃ y,K.runV (K.runT l (K.rr ts) q)=y:=⟨_,rfl⟩
 have hbd:=run_bd hq hx
 obtain ⟨⟨hl,e2⟩,hh⟩:∃ y,hidsT u d lo hi xs=y:=⟨_,rfl⟩
 obtain ⟨⟨⟨b1,b2,b3⟩,e3⟩,ht⟩:∃ y,K.typV (K.typ l q)=y:=⟨_,rfl⟩
 obtain ⟨⟨p,q1,e4⟩,hlo'⟩:∃ y,lostT u d b2=y:=⟨_,rfl⟩
 unfold ansT at hA
 rw [hx,hh,ht] at hA
 simp only at hA
 rw [hlo'] at hA
 simp only at hA
 obtain ⟨la,lc,rfl,_⟩:=hp.slice
 obtain ⟨ra,rc,rfl,_⟩:=hr.slice
 obtain ⟨kk,kc,kl,kh,ka,kn,kd,kb,km,kp,rfl,rfl,rfl,rfl,rfl,rfl⟩:=hq.shape
 have hb0:Below w.heap.size w ((((w.alloc (.cells #[.int .i64 u,.int .i64 d] 23)).alloc (.cells #[.slice la l.length lc,.slice ra ts.length rc] 27)).alloc (.cells #[.int .i64 kk,.string kc,.int .i64 kl,.int .i64 kh,.slice ka kn kd,.slice kb km kp] 31)).alloc (.cells #[.int .i64 0,.int .i64 0] 23)):=bal (bal (bal (ba _ _) _) _) _
 have HN0:Hid (Nb ((((w.alloc (.cells #[.int .i64 u,.int .i64 d] 23)).alloc (.cells #[.slice la l.length lc,.slice ra ts.length rc] 27)).alloc (.cells #[.int .i64 kk,.string kc,.int .i64 kl,.int .i64 kh,.slice ka kn kd,.slice kb km kp] 31)).alloc (.cells #[.int .i64 0,.int .i64 0] 23)) w.heap.size u d (.slice la l.length lc) (.slice ra ts.length rc) (.int .i64 kk) (.string kc) (.int .i64 kl) (.int .i64 kh) (.slice ka kn kd) (.slice kb km kp)):=Nb.new _ _ _ _ _ _ _ _ _ _ _
 have HXS:Hid (K.runV (K.runT l (K.rr ts) q)=(xs,e1)∧xs.length≤4096∧(∀ n∈xs,I64 n)):=⟨hx,hbd.1,hbd.2⟩
 have HHS:Hid (hidsT u d lo hi xs=(hl,e2)):=hh
 have HTY:Hid (K.typV (K.typ l q)=((b1,b2,b3),e3)):=ht
 have HLO:Hid (lostT u d b2=(p,q1,e4)):=hlo'
 have HA:Hid ((if e1≠0 then (([],0,0,e1):List (List Pt) × Int × Int × Int) else if e2≠0 then ([],0,0,e2) else if e4≠0 then ([],0,0,e4) else (hl,p,q1,0))=(ls,p',q',er)):=hA
 have hxl:xs.length≤4096:=hbd.1
 clear hx hh ht hlo' hA hp hr hq hbd hlo hhi
 obtain ⟨w0,hw0⟩:∃ w0,((((w.alloc (.cells #[.int .i64 u,.int .i64 d] 23)).alloc (.cells #[.slice la l.length lc,.slice ra ts.length rc] 27)).alloc (.cells #[.int .i64 kk,.string kc,.int .i64 kl,.int .i64 kh,.slice ka kn kd,.slice kb km kp] 31)).alloc (.cells #[.int .i64 0,.int .i64 0] 23))=w0:=⟨_,rfl⟩
 rw [hw0] at hb0 HN0
 have kr:=K.askRun_any l ts q w0 B _ _ _ _ _ _ _ _ xs e1 (Nat.le_trans hB hb0.size) (HP.out.at hB hb0) (HRW.out.at hB hb0) (HQ.out.at hB hb0) HXS.out.1
 have mr0:=HN0.out.r0.c
 have mr1:=HN0.out.r1.c
 have mt0:=HN0.out.t0.c
 have mt1:=HN0.out.t1.c
 have ma0:=HN0.out.a0.c
 have ma1:=HN0.out.a1.c
 have ma2:=HN0.out.a2.c
 have ma3:=HN0.out.a3.c
 have ma4:=HN0.out.a4.c
 have ma5:=HN0.out.a5.c
 have mz0:=HN0.out.z0.c
 have mz1:=HN0.out.z1.c
 have mf0:=HN0.out.z0.f
 have mf1:=HN0.out.z1.f
 go_enter Tryz.func8,Tryz.ntmps8
 go_wp2_with fail
 clear hw0 mr0 mr1 mt0 mt1 ma0 ma1 ma2 ma3 ma4 ma5 mz0 mz1 mf0 mf1
 refine kr.mono ?_
 rintro e w1 ⟨xa,xc,rfl,hI1,hb1⟩
 have hbw1:=bt hb0 hb1
 have HN:Hid (Nb w1 w.heap.size u d (.slice la l.length lc) (.slice ra ts.length rc) (.int .i64 kk) (.string kc) (.int .i64 kl) (.int .i64 kh) (.slice ka kn kd) (.slice kb km kp)):=HN0.out.at hb1
 have hlw1:w.heap.size + 1 + 1 + 1 < w1.heap.size:=HN.out.z0.lt
 have HXI:Hid (Ints w1 w1.heap.size w1.heap.size (.slice xa xs.length xc) xs):=ints_K hI1 (by omega)
 clear kr hI1 hb1 HN0 hb0
 by_cases h1:e1=0
 ·subst h1
  have hA:=HA.out
  rw [if_neg (by simp)] at hA
  have mr0:=HN.out.r0.c
  have mr1:=HN.out.r1.c
  have mt0:=HN.out.t0.c
  have mt1:=HN.out.t1.c
  have ma0:=HN.out.a0.c
  have ma1:=HN.out.a1.c
  have ma2:=HN.out.a2.c
  have ma3:=HN.out.a3.c
  have ma4:=HN.out.a4.c
  have ma5:=HN.out.a5.c
  have mz0:=HN.out.z0.c
  have mz1:=HN.out.z1.c
  have mf0:=HN.out.z0.f
  have mf1:=HN.out.z1.f
  have khd:=hidesA u d lo hi xa xc xs w1 HXI HI.out.1 HI.out.2 HXS.out.2.2 hxl hl e2 HHS
  go_wp2_with fail
  refine khd.mono ?_
  rintro e w2 ⟨v2,zs,rfl,k1,k2,k3⟩
  have HD2:Hid (DssA w2 w1.heap.size v2 zs∧rds zs=hl):=⟨k2.dssA,k1⟩
  obtain ⟨a2,c2,hv2,_⟩:=k2.dssA
  subst hv2
  have hbw2:=bt hbw1 k3
  have HN2:Hid (Nb w2 w.heap.size u d (.slice la l.length lc) (.slice ra ts.length rc) (.int .i64 kk) (.string kc) (.int .i64 kl) (.int .i64 kh) (.slice ka kn kd) (.slice kb km kp)):=HN.out.at k3
  have hzl:zs.length≤4096:=by
   have e1:=congrArg List.length HD2.out.2
   rw [rds_len] at e1
   have:=hids_len HHS.out
   omega
  clear khd k1 k2 k3 mr0 mr1 mt0 mt1 ma0 ma1 ma2 ma3 ma4 ma5 mz0 mz1 mf0 mf1 HN
  by_cases h2:e2=0
  ·subst h2
   rw [if_neg (by simp)] at hA
   have mr0:=HN2.out.r0.c
   have mr1:=HN2.out.r1.c
   have mt0:=HN2.out.t0.c
   have mt1:=HN2.out.t1.c
   have ma0:=HN2.out.a0.c
   have ma1:=HN2.out.a1.c
   have ma2:=HN2.out.a2.c
   have ma3:=HN2.out.a3.c
   have ma4:=HN2.out.a4.c
   have ma5:=HN2.out.a5.c
   have mz0:=HN2.out.z0.c
   have mz1:=HN2.out.z1.c
   have mf0:=HN2.out.z0.f
   have mf1:=HN2.out.z1.f
   have kt:=K.type_any l q w2 B _ _ _ _ _ _ _ b1 b2 b3 e3 (Nat.le_trans hB hbw2.size) (HP.out.at hB hbw2) (HQ.out.at hB hbw2) HTY.out
   go_wp2_with fail
   refine kt.mono ?_
   rintro e w3 ⟨rfl,hb3⟩
   have hbw3:=bt hbw2 hb3
   have HN3:Hid (Nb (w3.alloc (.cells #[.int .i64 b1,.int .i64 b2,.int .i64 b3] 61)) w.heap.size u d (.slice la l.length lc) (.slice ra ts.length rc) (.int .i64 kk) (.string kc) (.int .i64 kl) (.int .i64 kh) (.slice ka kn kd) (.slice kb km kp)):=(HN2.out.at hb3).at (ba _ _)
   have HD3:Hid (DssA (w3.alloc (.cells #[.int .i64 b1,.int .i64 b2,.int .i64 b3] 61)) w1.heap.size (.slice a2 zs.length c2) zs):=HD2.out.1.keep (bal hb3 _)
   have hbw3':=bal hbw3 (.cells #[.int .i64 b1,.int .i64 b2,.int .i64 b3] 61)
   clear kt hb3 mr0 mr1 mt0 mt1 ma0 ma1 ma2 ma3 ma4 ma5 mz0 mz1 mf0 mf1 HN2
   have mr0:=HN3.out.r0.c
   have mr1:=HN3.out.r1.c
   have mt0:=HN3.out.t0.c
   have mt1:=HN3.out.t1.c
   have ma0:=HN3.out.a0.c
   have ma1:=HN3.out.a1.c
   have ma2:=HN3.out.a2.c
   have ma3:=HN3.out.a3.c
   have ma4:=HN3.out.a4.c
   have ma5:=HN3.out.a5.c
   have mz0:=HN3.out.z0.c
   have mz1:=HN3.out.z1.c
   have mf0:=HN3.out.z0.f
   have mf1:=HN3.out.z1.f
   go_wp2_with fail
   refine (lost_any u d b2 p q1 e4 HLO.out _).mono ?_
   rintro e w4 ⟨rfl,hb4⟩
   have hbw4:=bt hbw3' hb4
   have HN4:Hid (Nb w4 w.heap.size u d (.slice la l.length lc) (.slice ra ts.length rc) (.int .i64 kk) (.string kc) (.int .i64 kl) (.int .i64 kh) (.slice ka kn kd) (.slice kb km kp)):=HN3.out.at hb4
   have HD4:Hid (DssA w4 w1.heap.size (.slice a2 zs.length c2) zs):=HD3.out.keep hb4
   clear hb4 mr0 mr1 mt0 mt1 ma0 ma1 ma2 ma3 ma4 ma5 mz0 mz1 mf0 mf1 HN3 HD3
   by_cases h4:e4=0
   ·subst h4
    rw [if_neg (by simp)] at hA
    simp only [Prod.mk.injEq] at hA
    obtain ⟨rfl,rfl,rfl,rfl⟩:=hA
    have HN5:Hid (Nb (w4.alloc (.cells #[.int .i64 p,.int .i64 q1] 23)) w.heap.size u d (.slice la l.length lc) (.slice ra ts.length rc) (.int .i64 kk) (.string kc) (.int .i64 kl) (.int .i64 kh) (.slice ka kn kd) (.slice kb km kp)):=HN4.out.at (ba _ _)
    have HC5:Hid (Fc w4.heap.size p q1 (w4.alloc (.cells #[.int .i64 p,.int .i64 q1] 23))):=fc_new _ _ _
    obtain ⟨j1,j2,j3,j4⟩:=HC5.out
    obtain ⟨W,hW⟩:∃ W,w4.alloc (.cells #[.int .i64 p,.int .i64 q1] 23)=W:=⟨_,rfl⟩
    have hbW:Below w.heap.size w W:=hW▸bal hbw4 _
    have HDW:Hid (DssA W w1.heap.size (.slice a2 zs.length c2) zs):=hW▸HD4.out.keep (ba _ _)
    have hlW:w.heap.size + 1 + 1 + 1 < W.heap.size:=hW▸HN5.out.z0.lt
    rw [hW] at HN5 j1 j2 j3 j4
    have mr0:=HN5.out.r0.c
    have mr1:=HN5.out.r1.c
    have mt0:=HN5.out.t0.c
    have mt1:=HN5.out.t1.c
    have ma0:=HN5.out.a0.c
    have ma1:=HN5.out.a1.c
    have ma2:=HN5.out.a2.c
    have ma3:=HN5.out.a3.c
    have ma4:=HN5.out.a4.c
    have ma5:=HN5.out.a5.c
    have mz0:=HN5.out.z0.c
    have mz1:=HN5.out.z1.c
    have mf0:=HN5.out.z0.f
    have mf1:=HN5.out.z1.f
    go_wp2_with fail
    clear hW
    go_region_law (fail)
    go_wp2
    exact bodyPost_ret (v:=.tuple #[.slice a2 zs.length c2,rv p q1,.int .i64 0]) (by simp [results,Tryz.results8,go_sem,mz0,mz1]) rfl ⟨_,zs,rfl,HD2.out.2,(((HDW.out.set hlw1).set hlw1).mono hbw1.size).keep (Below.refl _ _).drew,hzl,(bs (bs hbW (by dsimp only; omega) _) (by dsimp only; omega) _).drew⟩
   ·have h5:(e4 == 0)=false:=by simpa using h4
    have h6:(e4 != 0)=true:=by simpa using h4
    rw [if_pos h4] at hA
    simp only [Prod.mk.injEq] at hA
    obtain ⟨rfl,rfl,rfl,rfl⟩:=hA
    have HN5:Hid (Nb (w4.alloc (.cells #[.int .i64 p,.int .i64 q1] 23)) w.heap.size u d (.slice la l.length lc) (.slice ra ts.length rc) (.int .i64 kk) (.string kc) (.int .i64 kl) (.int .i64 kh) (.slice ka kn kd) (.slice kb km kp)):=HN4.out.at (ba _ _)
    have mr0:=HN5.out.r0.c
    have mr1:=HN5.out.r1.c
    have mt0:=HN5.out.t0.c
    have mt1:=HN5.out.t1.c
    have ma0:=HN5.out.a0.c
    have ma1:=HN5.out.a1.c
    have ma2:=HN5.out.a2.c
    have ma3:=HN5.out.a3.c
    have ma4:=HN5.out.a4.c
    have ma5:=HN5.out.a5.c
    have mz0:=HN5.out.z0.c
    have mz1:=HN5.out.z1.c
    have mf0:=HN5.out.z0.f
    have mf1:=HN5.out.z1.f
    go_wp2_with fail
    exact bodyPost_ret (v:=.tuple #[.slice none 0 0,rv 0 0,.int .i64 e4]) (by simp [results,Tryz.results8,go_sem,mz0,mz1]) rfl ⟨_,[],rfl,rfl,DssA.nil _ _,by simp,bs (bs (bal hbw4 _) (by dsimp only; omega) _) (by dsimp only; omega) _⟩
  ·have h5:(e2 == 0)=false:=by simpa using h2
   have h6:(e2 != 0)=true:=by simpa using h2
   rw [if_pos h2] at hA
   simp only [Prod.mk.injEq] at hA
   obtain ⟨rfl,rfl,rfl,rfl⟩:=hA
   have mr0:=HN2.out.r0.c
   have mr1:=HN2.out.r1.c
   have mt0:=HN2.out.t0.c
   have mt1:=HN2.out.t1.c
   have ma0:=HN2.out.a0.c
   have ma1:=HN2.out.a1.c
   have ma2:=HN2.out.a2.c
   have ma3:=HN2.out.a3.c
   have ma4:=HN2.out.a4.c
   have ma5:=HN2.out.a5.c
   have mz0:=HN2.out.z0.c
   have mz1:=HN2.out.z1.c
   have mf0:=HN2.out.z0.f
   have mf1:=HN2.out.z1.f
   go_wp2_with fail
   exact bodyPost_ret (v:=.tuple #[.slice none 0 0,rv 0 0,.int .i64 e2]) (by simp [results,Tryz.results8,go_sem,mz0,mz1]) rfl ⟨_,[],rfl,rfl,DssA.nil _ _,by simp,bs (bs hbw2 (by dsimp only; omega) _) (by dsimp only; omega) _⟩
 ·have hA:=HA.out
  have h5:(e1 == 0)=false:=by simpa using h1
  have h6:(e1 != 0)=true:=by simpa using h1
  rw [if_pos h1] at hA
  simp only [Prod.mk.injEq] at hA
  obtain ⟨rfl,rfl,rfl,rfl⟩:=hA
  have mr0:=HN.out.r0.c
  have mr1:=HN.out.r1.c
  have mt0:=HN.out.t0.c
  have mt1:=HN.out.t1.c
  have ma0:=HN.out.a0.c
  have ma1:=HN.out.a1.c
  have ma2:=HN.out.a2.c
  have ma3:=HN.out.a3.c
  have ma4:=HN.out.a4.c
  have ma5:=HN.out.a5.c
  have mz0:=HN.out.z0.c
  have mz1:=HN.out.z1.c
  have mf0:=HN.out.z0.f
  have mf1:=HN.out.z1.f
  go_wp2_with fail
  exact bodyPost_ret (v:=.tuple #[.slice none 0 0,rv 0 0,.int .i64 e1]) (by simp [results,Tryz.results8,go_sem,mz0,mz1]) rfl ⟨_,[],rfl,rfl,DssA.nil _ _,by simp,bs (bs hbw1 (by dsimp only; omega) _) (by dsimp only; omega) _⟩
theorem far_self {L l:List Pt} (h:makeT L=(l,0)):farT l l=(1,1,0):=by
 obtain ⟨hd,g,hg,hw,ht⟩:=make_told h
 have hne:=hd.ne
 cases hl:l with
 | nil=>exact absurd hl hne
 | cons p r =>
  have hp:0 < wt L p.1:=by
   rw [hw]
   exact Int.mul_pos hg (mem_wt_pos hd.rise hd.pos (by rw [hl]; exact List.mem_cons_self ..))
  rw [← hl]
  refine far_make h h (fun o=>Iff.rfl) ⟨by omega,fun o _=>⟨?_,?_⟩⟩ (by omega) (by decide) p.1 hp ?_
  ·rw [Int.mul_one,Int.one_mul]; omega
  ·rw [Int.mul_one,Int.one_mul]; omega
  ·rw [Int.mul_one,Int.one_mul]
theorem hide_made {u d lo hi m:Int} {l:List Pt} (h:hideT u d lo hi m=(l,0)):∃ L,makeT L=(l,0):=by
 unfold hideT at h
 split at h
 ·rename_i h1
  simp only [Prod.mk.injEq] at h
  exact absurd h.2 h1
 ·split at h
  ·simp at h
  ·split at h
   ·exact ⟨_,h⟩
   ·split at h
    ·simp at h
    ·exact ⟨_,h⟩
theorem hide_far {u d lo hi m n:Int} {l:List Pt} (h:hideT u d lo hi m=(l,0)) :
  ∃ (l':List Pt) (f:Nat),hideT u d lo hi n=(l',0)∧(f:Int)≤max (m - n) (n - m)∧farT l l' = (u ^ f,d ^ f,0):=by
 obtain ⟨l',h1,_,h3,h4⟩:=hide_two (n:=n) h
 by_cases c:u=d∨lo=hi
 ·obtain ⟨L,hL⟩:=hide_made h
  have e:=h3 c
  refine ⟨l',0,h1,by simp; omega,?_⟩
  rw [← e,Int.pow_zero,Int.pow_zero]
  exact far_self hL
 ·obtain ⟨f,hf,_,hff⟩:=h4 (fun k=>c (.inl k)) (fun k=>c (.inr k))
  refine ⟨l',f,h1,?_,hff⟩
  rw [hf]
  unfold plcT
  omega
def Nf (u d:Int):Nat→List (List Pt)→List (List Pt)→Prop
 | _,[],[]=>True
 | n,l :: ls,m :: ms=>∃ f,f≤n∧farT l m=(u ^ f,d ^ f,0)∧Nf u d (n - f) ls ms
 | _,_,_=>False
theorem nf_hids {u d lo hi:Int}:∀ {xs ys:List Int} {ls:List (List Pt)},xs.length=ys.length→hidsT u d lo hi xs=(ls,0)→∃ ms,hidsT u d lo hi ys=(ms,0)∧∀ n:Nat,K.Ds.apaS xs ys≤n→Nf u d n ls ms
 | [],[],ls,_,h=>by
  simp only [hidsT,Prod.mk.injEq] at h
  obtain ⟨rfl,_⟩:=h
  exact ⟨[],rfl,fun _ _=>by simp [Nf]⟩
 | x :: xs,y :: ys,ls,hl,h=>by
  unfold hidsT at h
  by_cases c:(hideT u d lo hi x).2=0
  ·by_cases c2:(hidsT u d lo hi xs).2=0
   ·rw [if_neg (by simpa using c),if_neg (by simpa using c2)] at h
    simp only [Prod.mk.injEq] at h
    obtain ⟨rfl,_⟩:=h
    obtain ⟨ms,hms,hn⟩:=nf_hids (ys:=ys) (ls:=(hidsT u d lo hi xs).1) (by simpa using hl) (by rw [← c2])
    obtain ⟨l',f,h1,h2,h3⟩:=hide_far (n:=y) (l:=(hideT u d lo hi x).1) (show hideT u d lo hi x=_ by rw [← c])
    refine ⟨l' :: ms,?_,fun n hap=>?_⟩
    ·unfold hidsT
     rw [h1,hms]
     simp
    ·rw [K.apaS_cons] at hap
     have hnn:=K.apaS_nn xs ys
     simp only [Nf]
     exact ⟨f,by omega,h3,hn _ (by omega)⟩
   ·rw [if_neg (by simpa using c),if_pos (by simpa using c2)] at h
    simp only [Prod.mk.injEq] at h
    exact absurd h.2 c2
  ·rw [if_pos (by simpa using c)] at h
   simp only [Prod.mk.injEq] at h
   exact absurd h.2 c
 | [],_ :: _,_,hl,_=>by simp at hl
 | _ :: _,[],_,hl,_=>by simp at hl
def rp (q:Rat):Nat→Rat
 | 0=>1
 | n + 1=>rp q n * q
theorem rp_one {q:Rat} (h:1≤q):∀ n,1≤rp q n
 | 0=>Rat.le_refl
 | n + 1=>by
  have h1:=rp_one h n
  have:=Rat.mul_le_mul_of_nonneg_left h (show 0≤rp q n by grind)
  simp only [rp]
  grind
theorem rp_add (q:Rat) (n:Nat):∀ m,rp q (n + m)=rp q n * rp q m
 | 0=>by simp only [Nat.add_zero,rp]; rw [Rat.mul_one]
 | m + 1=>by
  rw [← Nat.add_assoc,rp,rp_add q n m,rp]
  grind
theorem rp_mul (q:Rat) (n:Nat):∀ m,rp q (n * m)=rp (rp q n) m
 | 0=>rfl
 | m + 1=>by rw [Nat.mul_succ,rp_add,rp_mul q n m]; rfl
def rq (u d:Int):Rat:=(u:Rat) / (d:Rat)
theorem rq_mul {u d:Int} (hd:1≤d):rq u d * (d:Rat)=(u:Rat):=by
 have:=int_q0 (show 0 < d by omega)
 exact Rat.div_mul_cancel (by grind)
theorem rq_one {u d:Int} (hd:1≤d) (hdu:d≤u):1≤rq u d:=by
 have h1:=int_q0 (show 0 < d by omega)
 have h2:=rq_mul (u:=u) hd
 refine Rat.le_of_mul_le_mul_left (c:=(d:Rat)) ?_ h1
 have:=int_q.2 hdu
 grind
theorem rp_rq {u d:Int} (hd:1≤d):∀ f:Nat,rp (rq u d) f * ((d ^ f:Int):Rat)=((u ^ f:Int):Rat)
 | 0=>by simp [rp]
 | f + 1=>by
  have h1:=rp_rq (u:=u) hd f
  have h2:=rq_mul (u:=u) hd
  rw [rp,Int.pow_succ,Int.pow_succ,Rat.intCast_mul,Rat.intCast_mul,← h1,← h2]
  grind
theorem rq_pow {u d:Int} (hd:1≤d) (f:Nat):rq (u ^ f) (d ^ f)=rp (rq u d) f:=by
 have h1:=rp_rq (u:=u) hd f
 have h3:=pow_pos' hd f
 have h2:=rq_mul (u:=u ^ f) (d:=d ^ f) (by omega)
 have h4:=int_q0 (show 0 < d ^ f by omega)
 have:((d ^ f:Int):Rat) * (rq (u ^ f) (d ^ f) - rp (rq u d) f)=0:=by grind
 rcases Rat.mul_eq_zero.1 this with h | h <;> grind
theorem rb_far {l m:List Pt} {u d:Int} {f:Nat} (hd:1≤d) (hdu:d≤u) (h:farT l m=(u ^ f,d ^ f,0)):Rb (rp (rq u d) f) l m:=by
 obtain ⟨d1,d2,s1,_,_,_,b1,_⟩:=far_told h
 have h3:=pow_pos' hd f
 have h4:=int_q0 (show 0 < d ^ f by omega)
 refine ⟨d1,d2,rp_one (rq_one hd hdu) f,fun o=>?_⟩
 obtain ⟨g1,g2⟩:=bd_rat d1 d2 s1 b1 o
 exact ⟨div_le' h4 (rp_rq hd f) g2,div_le' h4 (rp_rq hd f) g1⟩
theorem pre_wt (x:List Int) (b:List Pt) (o:List Int):wt (pre x b) (x ++ o)=wt b o:=by
 induction b with
 | nil=>rfl
 | cons p b ih =>
  simp only [pre,List.map_cons,wt] at *
  rw [ih]
  by_cases c:p.1=o
  ·rw [if_pos c,if_pos (by rw [c])]
  ·rw [if_neg c,if_neg (by simpa using c)]
theorem pre_not {x:List Int} {b:List Pt} {o:List Int} (h:¬ ∃ r,o=x ++ r):wt (pre x b) o=0:=by
 refine wt_none fun p hp=>?_
 obtain ⟨q,_,rfl⟩:=List.mem_map.1 hp
 intro h0
 exact h ⟨q.1,h0.symm⟩
theorem Rb.pre {L:Rat} {b c:List Pt} (h:Rb L b c) {x:List Int} (h1:Dis (pre x b)) (h2:Dis (pre x c)):Rb L (pre x b) (pre x c):=by
 refine ⟨h1,h2,h.one,fun o=>?_⟩
 unfold chR
 rw [pre_tot,pre_tot]
 by_cases c:∃ r,o=x ++ r
 ·obtain ⟨r,rfl⟩:=c
  rw [pre_wt,pre_wt]
  exact h.le r
 ·rw [pre_not c,pre_not c]
  have z:∀ t:Rat,((0:Int):Rat) / t=0:=fun t=>by rw [Rat.div_def]; grind
  rw [z,z,Rat.mul_zero]
  exact ⟨Rat.le_refl,Rat.le_refl⟩
theorem Rb.both {M L:Rat} {l m b c x y:List Pt} (h:Rb M l m) (g:Rb L b c) (hx:bothT l b=(x,0)) (hy:bothT m c=(y,0)):Rb (M * L) x y:=by
 unfold bothT at hx hy
 have e1:twoE l b=0:=by unfold twoE; rw [h.dx.own,g.dx.own]; rfl
 have e2:twoE m c=0:=by unfold twoE; rw [h.dy.own,g.dy.own]; rfl
 rw [if_pos e1] at hx
 rw [if_pos e2] at hy
 refine h.chain g.one (thn:=fun x=>behT x b) (thn':=fun x=>behT x c) (fun p _ he=>?_) (fun p _ he=>?_) (fun p _ he he'=>?_) hx hy
 ·rw [(beh_dis g.dx he).1]; exact (beh_dis g.dx he).2
 ·rw [(beh_dis g.dy he).1]; exact (beh_dis g.dy he).2
 ·rw [(beh_dis g.dx he).1,(beh_dis g.dy he').1]
  exact g.pre (beh_dis g.dx he).2 (beh_dis g.dy he').2
def bfT:List Pt→List (List Pt)→List Pt × Int
 | x,[]=>(x,0)
 | x,l :: ls=>if (bothT x l).2=0 then bfT (bothT x l).1 ls else ([],(bothT x l).2)
theorem rb_places {u d:Int} (hd:1≤d) (hdu:d≤u):∀ {n:Nat} {ls ms:List (List Pt)} {M:Rat} {x y x' y':List Pt},Nf u d n ls ms→Rb M x y→bfT x ls=(x',0)→bfT y ms=(y',0)→Rb (M * rp (rq u d) n) x' y'
 | n,[],[],M,x,y,x',y',_,h,hx,hy=>by
  simp only [bfT,Prod.mk.injEq] at hx hy
  obtain ⟨rfl,_⟩:=hx
  obtain ⟨rfl,_⟩:=hy
  refine h.up ?_
  have:=Rat.mul_le_mul_of_nonneg_left (rp_one (rq_one hd hdu) n) (show 0≤M by have:=h.one; grind)
  grind
 | n,l :: ls,m :: ms,M,x,y,x',y',hn,h,hx,hy=>by
  simp only [Nf] at hn
  obtain ⟨f,hf,hfar,hn⟩:=hn
  simp only [bfT] at hx hy
  split at hx
  ·rename_i c1
   split at hy
   ·rename_i c2
    have h1:=h.both (rb_far hd hdu hfar) (show bothT x l=_ by rw [← c1]) (show bothT y m=_ by rw [← c2])
    have h2:=rb_places hd hdu hn h1 hx hy
    have e:rp (rq u d) n=rp (rq u d) f * rp (rq u d) (n - f):=by rw [← rp_add]; congr 1; omega
    rw [e,← Rat.mul_assoc]
    exact h2
   ·rename_i c2
    simp only [Prod.mk.injEq] at hy
    exact absurd hy.2 c2
  ·rename_i c1
   simp only [Prod.mk.injEq] at hx
   exact absurd hx.2 c1
 | n,[],_ :: _,_,_,_,_,_,hn,_,_,_=>by simp [Nf] at hn
 | n,_ :: _,[],_,_,_,_,_,hn,_,_,_=>by simp [Nf] at hn
def isW (v:Int) (r:List Int):Bool:=r.getD 0 0 == v
def vsT (rs us:List (List Int)):List (List Int)→List Int
 | []=>[]
 | r :: L=>List.replicate (max (K.Ds.cntT rs r - K.Ds.cntT us r) (K.Ds.cntT us r - K.Ds.cntT rs r)).toNat (r.getD 0 0) ++ vsT rs us L
theorem vs_len (rs us:List (List Int)):∀ L:List (List Int),((vsT rs us L).length:Int)=K.Ds.apaS (L.map (K.Ds.cntT rs)) (L.map (K.Ds.cntT us))
 | []=>rfl
 | r :: L=>by
  have:=vs_len rs us L
  simp only [vsT,List.map_cons,List.length_append,List.length_replicate]
  rw [K.apaS_cons]
  omega
theorem cnt_filter (rs:List (List Int)) (v:Int) (r:List Int):K.Ds.cntT (rs.filter (isW v)) r=if r.getD 0 0=v then K.Ds.cntT rs r else 0:=by
 unfold K.Ds.cntT
 by_cases c:r.getD 0 0=v
 ·rw [if_pos c,List.count_filter (by unfold isW; rw [c]; simp)]
 ·rw [if_neg c,List.count_eq_zero.2]
  ·rfl
  ·intro h
   have:=(List.mem_filter.1 h).2
   unfold isW at this
   exact c (by simpa using this)
theorem vs_count (rs us:List (List Int)) (v:Int):∀ L:List (List Int),K.Ds.apaS (L.map (K.Ds.cntT (rs.filter (isW v)))) (L.map (K.Ds.cntT (us.filter (isW v))))=((vsT rs us L).count v:Int)
 | []=>rfl
 | r :: L=>by
  have:=vs_count rs us v L
  simp only [vsT,List.map_cons,List.count_append]
  rw [K.apaS_cons,this,cnt_filter,cnt_filter,List.count_replicate]
  by_cases c:r.getD 0 0=v
  ·rw [if_pos c,if_pos c,if_pos (by simpa using c)]
   omega
  ·rw [if_neg c,if_neg c,if_neg (by simpa using c)]
   omega
theorem ans_vs {l:List K.Ds.Col} (hs:K.Ds.Szs l) {rs us:List (List Int)} (hl:rs.length≤4096) (hl':us.length≤4096) (h1:∀ r∈rs,K.Ds.RowOk l r) (h2:∀ r∈us,K.Ds.RowOk l r) {q:K.Ds.Qu} {b:K.Ds.Bnd} (hb:K.Ds.bnd l 1 q=.ok b) :
  K.Ds.apaS (K.ans l rs q) (K.ans l us q)≤b.2.1 * ((vsT rs us (K.Ds.allT l)).length:Int) ∧
  ∀ v,(∀ R:List (List Int),K.ans l R q=K.ans l (R.filter (isW v)) q)→K.Ds.apaS (K.ans l rs q) (K.ans l us q)≤b.2.1 * ((vsT rs us (K.Ds.allT l)).count v:Int):=by
 constructor
 ·have:=K.ans_D hs hl hl' h1 h2 q 1 b hb
  rw [vs_len]
  exact this
 ·intro v hv
  have:=K.ans_D hs (rs:=rs.filter (isW v)) (us:=us.filter (isW v)) (Nat.le_trans (List.length_filter_le ..) hl) (Nat.le_trans (List.length_filter_le ..) hl') (fun r hr=>h1 r (List.mem_filter.1 hr).1) (fun r hr=>h2 r (List.mem_filter.1 hr).1) q 1 b hb
  rw [← hv,← hv] at this
  rw [← vs_count]
  exact this
theorem ans_apart {u d lo hi:Int} {l:List K.Ds.Col} {rs us:List (List Int)} {q:K.Ds.Qu} (hq:q≠.none) (h1:K.Ds.wroE l rs=0) (h2:K.Ds.wroE l us=0) {ls:List (List Pt)} {p q1:Int} (hA:ansT u d lo hi l rs q=(ls,p,q1,0)) :
  ∃ (ms:List (List Pt)) (N:Nat),ansT u d lo hi l us q=(ms,p,q1,0)∧p=u ^ N∧q1=d ^ N∧Rt.rightB p q1=true∧d≤u∧1≤d∧(∃ b,K.Ds.bnd l 1 q=.ok b) ∧
   Nf u d (N * (vsT rs us (K.Ds.allT l)).length) ls ms∧∀ v,(∀ R:List (List Int),K.ans l R q=K.ans l (R.filter (isW v)) q)→Nf u d (N * (vsT rs us (K.Ds.allT l)).count v) ls ms:=by
 cases ht:K.typ l q with
 | error e =>
  have hne:=K.typ_ne ht
  have hx:K.runV (K.runT l rs q)=([],e):=by rw [K.runT_typ h1,ht]; rfl
  unfold ansT at hA
  simp only [hx] at hA
  rw [if_pos hne] at hA
  simp only [Prod.mk.injEq] at hA
  exact absurd hA.2.2.2 hne
 | ok b =>
  obtain ⟨b1,b2,b3⟩:=b
  have hx:K.runV (K.runT l rs q)=(K.ans l rs q,0):=by rw [K.runT_typ h1,ht]; rfl
  have hx2:K.runV (K.runT l us q)=(K.ans l us q,0):=by rw [K.runT_typ h2,ht]; rfl
  have hty:K.typV (K.typ l q)=((b1,b2,b3),0):=by rw [ht]; rfl
  unfold ansT at *
  rw [ht] at hty
  simp only [hx,hty,ht,ne_eq,not_true_eq_false,if_false] at hA
  simp only [hx2,hty,ht,ne_eq,not_true_eq_false,if_false]
  obtain ⟨hce,hle,hok⟩:=K.Ds.wroE_ok h1
  obtain ⟨_,hle2,hok2⟩:=K.Ds.wroE_ok h2
  have hsz:=(K.Ds.colE_ok hce).2.2.1
  have hb:=(K.typ_ok ht).2
  have hsd:=K.ans_ok hsz hle q 1 _ hb hq
  have hsd2:=K.ans_ok hsz hle2 q 1 _ hb hq
  obtain ⟨hvl,hvc⟩:=ans_vs hsz hle hle2 hok hok2 hb
  simp only at hvl hvc hsd hsd2
  by_cases c1:(hidsT u d lo hi (K.ans l rs q)).2=0
  ·rw [if_neg (by simpa using c1)] at hA
   by_cases c2:(lostT u d b2).2.2=0
   ·rw [if_neg (by simpa using c2)] at hA
    simp only [Prod.mk.injEq] at hA
    obtain ⟨rfl,hp,hq1,_⟩:=hA
    obtain ⟨ms,hms,hn⟩:=nf_hids (ls:=(hidsT u d lo hi (K.ans l rs q)).1) (ys:=K.ans l us q) (by omega) (show hidsT u d lo hi (K.ans l rs q)=_ by rw [← c1])
    have hlo:lossE u d=0:=by
     by_cases c:lossE u d=0
     ·exact c
     ·unfold lostT at c2; rw [if_pos c] at c2; exact absurd c2 c
    obtain ⟨hr,hdu,hd1,_⟩:=loss_ok hlo
    have e1:lostT u d b2=Rt.powT u d b2:=by unfold lostT; rw [if_neg (by simpa using hlo)]
    rw [e1] at hp hq1 c2
    unfold Rt.powT Rt.mx at hp hq1 c2
    rw [if_pos hr] at hp hq1 c2
    by_cases k1:b2 < 0∨4096 < b2
    ·rw [if_pos k1] at c2; simp at c2
    ·rw [if_neg k1] at hp hq1 c2
     by_cases k2:1073741824 < u ^ b2.toNat∨1073741824 < d ^ b2.toNat
     ·rw [if_pos k2] at c2; simp at c2
     ·rw [if_neg k2] at hp hq1 c2
      simp only at hp hq1
      have hNb:((b2.toNat:Nat):Int)=b2:=by omega
      have hrr:Rt.rightB p q1=true:=by
       rw [← hp,← hq1]
       obtain ⟨x,rfl⟩:=Int.eq_ofNat_of_zero_le (show 0≤u by omega)
       obtain ⟨y,rfl⟩:=Int.eq_ofNat_of_zero_le (show 0≤d by omega)
       have hg:=(Rt.right_nat x y).1 hr
       rw [← Int.natCast_pow,← Int.natCast_pow] at *
       exact (Rt.right_nat _ _).2 ⟨by omega,Nat.pow_pos hg.2.1,by omega,Nat.Coprime.pow _ _ hg.2.2.2⟩
      refine ⟨ms,b2.toNat,?_,hp.symm,hq1.symm,hrr,hdu,hd1,⟨_,hb⟩,hn _ ?_,fun v hv=>hn _ ?_⟩
      ·rw [hms]
       simp only
       rw [if_neg (by simp),e1]
       unfold Rt.powT Rt.mx
       rw [if_pos hr,if_neg k1,if_neg k2]
       simp only
       rw [if_neg (by simp),hp,hq1]
      ·rw [Int.natCast_mul,hNb]; exact hvl
      ·rw [Int.natCast_mul,hNb]; exact hvc v hv
   ·rw [if_pos (by simpa using c2)] at hA
    simp only [Prod.mk.injEq] at hA
    exact absurd hA.2.2.2 c2
  ·rw [if_pos (by simpa using c1)] at hA
   simp only [Prod.mk.injEq] at hA
   exact absurd hA.2.2.2 c1
end Go.Proofs.YtlndlpjadajelaaGreat

import Derived.Test.YtlndlpjadajelaaGreatQq42
import Derived.Test.YtlndlpjadajelaaGreatQq32
import Derived.Test.YtlndlpjadajelaaGreatQq18
import Derived.Deep.DeepCutAuto
import Derived.Deep.AppendLies
namespace Go.Proofs.YtlndlpjadajelaaGreat.K.P
open Go.RowKit Go.Proofs.YtlndlpjadajelaaGreat.K.Ds
set_option maxHeartbeats 8000000 in
set_option maxRecDepth 100000 in
theorem pays_any (B C:Nat) (l:List Col) (cs pv:Value) (ra:Option Addr) (rn rc:Nat) (t:Tu) (lp lq:Int) (paid:List En) (w:World) (hB:B≤w.heap.size) (hC:C≤w.heap.size) (hp:Cols w B cs l) (hq:Qm w B t.q t.v0 t.v1 t.v2 t.v3 t.v4 t.v5) (hn:Nxs w B t.nv t.ns) (hE:Ents w C pv paid) (hpl:paid.length < 4096)
  (hpb:∀ x∈paid,-9223372036854775808≤x.2.2.1∧x.2.2.1≤9223372036854775807) (nm0:ByteArray) (sz0:Int) (hl0:l[0]? = some (nm0,sz0)) (z er:Int) (hz:prtV (prt l t.q nm0)=(z,er)) (e:En) (he:(if er=0 then (3,pN,z,lp,lq) else (2,pN,0,lp,lq))=e) (r:Int) (hr:doT (bookT [] paid).2 (nrm e)=r) :
  Calls Tryz.prog 45 #[.agg #[cs,.slice ra rn rc],tuv t,rv lp lq,pv] w fun x w'=>∃ v,x=.returned (.tuple #[v,.bool (decide (r=0))])∧Ents w' w'.heap.size v (paid ++ [e])∧Below w.heap.size w w':=by
 obtain ⟨v0,v1,v2,v3,v4,v5,q,u,d,lo,hi,nv,ns⟩:=t
 simp only at hq hn hz
 have hzb:=prt_bd hz
 have HE:Hid (Ents w C pv paid):=hE
 have HNM:Hid (∀ x∈paid,x.2.1.size≤9223372036854775807):=hE.nm
 have HPB:Hid (∀ x∈paid,-9223372036854775808≤x.2.2.1∧x.2.2.1≤9223372036854775807):=hpb
 have HR:Hid (doT (bookT [] paid).2 (nrm e)=r):=hr
 have h0:0 < l.length:=(List.getElem?_eq_some_iff.1 hl0).1
 obtain ⟨ca,cc,rfl,_⟩:=hp.slice
 obtain ⟨kk,kc,kl,kh,ka,kn,kd,kb,km,kp,rfl,rfl,rfl,rfl,rfl,rfl⟩:=hq.shape
 obtain ⟨na,nc,rfl,_⟩:=hn.slice
 obtain ⟨pa,pc,rfl,_⟩:=hE.slice
 obtain ⟨W,hW⟩:∃ W,(((w.alloc (.cells #[.slice ca l.length cc,.slice ra rn rc] 27)).alloc (.cells #[.int .i64 kk,.string kc,.int .i64 kl,.int .i64 kh,.slice ka kn kd,.slice kb km kp,.int .i64 u,.int .i64 d,.int .i64 lo,.int .i64 hi,.slice na ns.length nc] 96)).alloc (.cells #[.int .i64 lp,.int .i64 lq] 23)).alloc (.cells #[.int .i64 2,.string pN,.int .i64 0,.int .i64 lp,.int .i64 lq] 87)=W:=⟨_,rfl⟩
 have hbW:Below w.heap.size w W:=hW▸bal (bal (bal (ba _ _) _) _) _
 have T0:Cl W w.heap.size 0 (.slice ca l.length cc):=hW▸(((Cl.new _ 27 _ _ rfl rfl).at (ba _ _)).at (ba _ _)).at (ba _ _)
 have A0:Cl W (w.heap.size + 1) 0 (.int .i64 kk):=hW▸((Cl.new _ 96 _ _ (by simp) rfl).at (ba _ _)).at (ba _ _)
 have A1:Cl W (w.heap.size + 1) 1 (.string kc):=hW▸((Cl.new _ 96 _ _ (by simp) rfl).at (ba _ _)).at (ba _ _)
 have A2:Cl W (w.heap.size + 1) 2 (.int .i64 kl):=hW▸((Cl.new _ 96 _ _ (by simp) rfl).at (ba _ _)).at (ba _ _)
 have A3:Cl W (w.heap.size + 1) 3 (.int .i64 kh):=hW▸((Cl.new _ 96 _ _ (by simp) rfl).at (ba _ _)).at (ba _ _)
 have A4:Cl W (w.heap.size + 1) 4 (.slice ka kn kd):=hW▸((Cl.new _ 96 _ _ (by simp) rfl).at (ba _ _)).at (ba _ _)
 have A5:Cl W (w.heap.size + 1) 5 (.slice kb km kp):=hW▸((Cl.new _ 96 _ _ (by simp) rfl).at (ba _ _)).at (ba _ _)
 have HV:Hid (FivB W (w.heap.size + 1 + 1 + 1) (.int .i64 2) (.string pN) (.int .i64 0) (.int .i64 lp) (.int .i64 lq)):=hW▸FivB.new _ _ _ _ _ _ 87 _ (by simp)
 obtain ⟨b,o,nm,sz,rfl,hb,hgt,c1,_,_⟩:=hp.get hB hbW h0
 obtain ⟨rfl,rfl⟩:nm=nm0∧sz=sz0:=by rw [hl0] at hgt; simpa [eq_comm] using hgt
 have c1':W.cell? ⟨b,o,none⟩=some (.string nm):=by simpa using c1
 have hbd:Below w.heap.size w W.drew:=hbW.drew
 have k2:=part_any l q nm W.drew B _ _ _ _ _ _ _ z er (Nat.le_trans hB hbd.size) (hp.at hB hbd) (hq.at hB hbd) hz
 have m0:=T0.c
 have n0:=A0.c
 have n1:=A1.c
 have n2:=A2.c
 have n3:=A3.c
 have n4:=A4.c
 have n5:=A5.c
 have lN:w.heap.size < W.heap.size:=T0.lt
 have lM:w.heap.size + 1 < W.heap.size:=A0.lt
 have lb:b < W.heap.size:=Nat.lt_of_lt_of_le hb (Nat.le_trans hB hbW.size)
 have hlI:(0:Int) < (l.length:Int):=by omega
 clear hp hq hn hE hpb hr hz hgt c1 T0 A0 A1 A2 A3 A4 A5 hl0
 go_enter Tryz.func45,Tryz.ntmps45
 go_wp2
 clear hW
 go_region_held3 (fun w'=>w'.cell? ⟨w.heap.size,0,none⟩=some (.slice (some ⟨b,o,none⟩) l.length cc)∧w'.cell? ⟨w.heap.size + 1,0,none⟩=some (.int .i64 kk)∧w'.cell? ⟨w.heap.size + 1,1,none⟩=some (.string kc)∧w'.cell? ⟨w.heap.size + 1,2,none⟩=some (.int .i64 kl)∧w'.cell? ⟨w.heap.size + 1,3,none⟩=some (.int .i64 kh)∧w'.cell? ⟨w.heap.size + 1,4,none⟩=some (.slice ka kn kd)∧w'.cell? ⟨w.heap.size + 1,5,none⟩=some (.slice kb km kp)∧w'.cell? ⟨b,o,none⟩=some (.string nm)) (first | assumption | (simp [go_sem, *]; done)) ((go_at_call 97; refine k2.mono ?_; rintro x3 w3 hA; obtain ⟨rfl,hb3⟩:=hA; have z0:=(hb3.cell (p:=⟨w.heap.size,0,none⟩) lN).trans m0; have z1:=(hb3.cell (p:=⟨w.heap.size + 1,0,none⟩) lM).trans n0; have z2:=(hb3.cell (p:=⟨w.heap.size + 1,1,none⟩) lM).trans n1; have z3:=(hb3.cell (p:=⟨w.heap.size + 1,2,none⟩) lM).trans n2; have z4:=(hb3.cell (p:=⟨w.heap.size + 1,3,none⟩) lM).trans n3; have z5:=(hb3.cell (p:=⟨w.heap.size + 1,4,none⟩) lM).trans n4; have z6:=(hb3.cell (p:=⟨w.heap.size + 1,5,none⟩) lM).trans n5; have z7:=(hb3.cell (p:=⟨b,o,none⟩) lb).trans c1'))
 have B0:Below w.heap.size w w3:=bt hbd hb3
 have HV3:Hid (FivB w3 (w.heap.size + 1 + 1 + 1) (.int .i64 2) (.string pN) (.int .i64 0) (.int .i64 lp) (.int .i64 lq)):=(HV.out.below (Below.refl _ _).drew).below hb3
 clear k2 m0 n0 n1 n2 n3 n4 n5 lN lM lb hb3 z0 z1 z2 z3 z4 z5 z6 z7
 by_cases c:er=0
 ·subst c
  rw [if_pos rfl] at he
  subst he
  have B3:Below w.heap.size w ((w3.setCell ⟨w.heap.size + 1 + 1 + 1,0,none⟩ (.int .i64 3)).setCell ⟨w.heap.size + 1 + 1 + 1,2,none⟩ (.int .i64 z)):=bs (bs B0 (by show w.heap.size≤w.heap.size + 1 + 1 + 1; omega) _) (by show w.heap.size≤w.heap.size + 1 + 1 + 1; omega) _
  have HV4:Hid (FivB ((w3.setCell ⟨w.heap.size + 1 + 1 + 1,0,none⟩ (.int .i64 3)).setCell ⟨w.heap.size + 1 + 1 + 1,2,none⟩ (.int .i64 z)) (w.heap.size + 1 + 1 + 1) (.int .i64 3) (.string pN) (.int .i64 z) (.int .i64 lp) (.int .i64 lq)):=HV3.out.two _ _
  have q0:=HV3.out.c0
  have q2:=HV3.out.c2
  have g0:=HV3.out.f0
  have g2:=HV3.out.f2
  go_wp2
  refine region5 (fun _ _ d _ _ h=>by cases d <;> exact h) _ _ _ _ _ _ _ _ _ _ _ _ _ _ _ _ _ _ _ _ _ _ _ _ _ _ _ _ _ _ _ _ _ _ _ _ _ _ _ _ _ _ _ _ _ _ _ _ _ _ _ _ _ _ _ _ _ _ ((w3.setCell ⟨w.heap.size + 1 + 1 + 1,0,none⟩ (.int .i64 3)).setCell ⟨w.heap.size + 1 + 1 + 1,2,none⟩ (.int .i64 z)) C (w.heap.size + 1 + 1 + 1) pc pa paid 3 pN z lp lq hpl (Nat.le_trans hC B3.size) (HE.out.at hC B3) HV4.out ?_
  intro u35 u36 u37 u38 u39 u40 pa' pc' Wf hrow hg
  have hWf:Below w.heap.size w Wf:=B3.grown hg B3.size (by simp)
  obtain ⟨hE2,kb⟩:=pays_end ((w3.setCell ⟨w.heap.size + 1 + 1 + 1,0,none⟩ (.int .i64 3)).setCell ⟨w.heap.size + 1 + 1 + 1,2,none⟩ (.int .i64 z)) paid (3,pN,z,lp,lq) hpl HPB.out ⟨by simp only; omega,by simp only; omega⟩ HNM.out (show pN.size≤9223372036854775807 by decide) Wf _ hrow
  have HE2:Hid (Ents Wf Wf.heap.size (.slice pa' (paid.length + 1) pc') (paid ++ [(3,pN,z,lp,lq)])):=hE2
  clear hrow hg hE2
  go_wp2_with fail
  refine kb.mono ?_
  rintro x w5 ⟨er',en,nv,sv,bv,rfl,hb5,r0,r1,r2,r3,r4⟩
  simp only [List.length_append,List.length_cons,List.length_nil,Nat.zero_add] at r0
  obtain ⟨a0,c0,rfl⟩:=row_slice r0
  obtain ⟨a1,c1,rfl⟩:=row_slice r1
  obtain ⟨a2,c2,rfl⟩:=row_slice r2
  obtain ⟨a3,c3,rfl⟩:=row_slice r3
  obtain ⟨a4,c4,rfl⟩:=row_slice r4
  obtain ⟨g,rfl,_,hgl,hc⟩:=row_cell r0 (j:=paid.length) (u:=.int .i64 r) (by unfold encI; rw [List.getElem?_map,last_err,HR.out]; rfl)
  have hc2:∀ o,(w5.alloc o).cell? ⟨g,paid.length,none⟩=some (.int .i64 r):=fun o=>((ba w5 o).cell (p:=⟨g,paid.length,none⟩) hgl).trans hc
  have G5:=bt hWf hb5
  have HF:Hid (∀ o,Ents (w5.alloc o) (w5.alloc o).heap.size (.slice pa' (paid.length + 1) pc') (paid ++ [(3,pN,z,lp,lq)])):=fun o=>((HE2.out.at (Nat.le_refl _) hb5).at hb5.size (ba _ o)).mono (Nat.le_trans hb5.size (ba w5 o).size)
  have hl1:((paid.length + 1:Nat):Int) - 1=(paid.length:Int):=by omega
  clear kb HE2 r0 r1 r2 r3 r4 hc hb5 hWf HV HE HNM HPB
  by_cases hr0:r=0
  ·subst hr0
   go_wp2
   go_quiet (fail)
   go_wp2
   go_ret2
   exact ⟨_,by first | rfl | simp,(HF.out _).at (Nat.le_refl _) (below_drewN (Below.refl _ _) _),below_drewN (bal G5 _) _⟩
  ·have hr1:(r == 0)=false:=by simpa using hr0
   have hr2:decide (r=0)=false:=by simpa using hr0
   go_wp2
   go_quiet (fail)
   go_wp2
   go_ret2
   exact ⟨_,by first | rfl | simp [hr2],(HF.out _).at (Nat.le_refl _) (below_drewN (Below.refl _ _) _),below_drewN (bal G5 _) _⟩
 ·have h5:(er == 0)=false:=by simpa using c
  rw [if_neg c] at he
  subst he
  go_wp2
  refine region5 (fun _ _ d _ _ h=>by cases d <;> exact h) _ _ _ _ _ _ _ _ _ _ _ _ _ _ _ _ _ _ _ _ _ _ _ _ _ _ _ _ _ _ _ _ _ _ _ _ _ _ _ _ _ _ _ _ _ _ _ _ _ _ _ _ _ _ _ _ _ _ w3 C (w.heap.size + 1 + 1 + 1) pc pa paid 2 pN 0 lp lq hpl (Nat.le_trans hC B0.size) (HE.out.at hC B0) HV3.out ?_
  intro u35 u36 u37 u38 u39 u40 pa' pc' Wf hrow hg
  have hWf:Below w.heap.size w Wf:=B0.grown hg B0.size (by simp)
  obtain ⟨hE2,kb⟩:=pays_end w3 paid (2,pN,0,lp,lq) hpl HPB.out ⟨by simp only; omega,by simp only; omega⟩ HNM.out (show pN.size≤9223372036854775807 by decide) Wf _ hrow
  have HE2:Hid (Ents Wf Wf.heap.size (.slice pa' (paid.length + 1) pc') (paid ++ [(2,pN,0,lp,lq)])):=hE2
  clear hrow hg hE2
  go_wp2_with fail
  refine kb.mono ?_
  rintro x w5 ⟨er',en,nv,sv,bv,rfl,hb5,r0,r1,r2,r3,r4⟩
  simp only [List.length_append,List.length_cons,List.length_nil,Nat.zero_add] at r0
  obtain ⟨a0,c0,rfl⟩:=row_slice r0
  obtain ⟨a1,c1,rfl⟩:=row_slice r1
  obtain ⟨a2,c2,rfl⟩:=row_slice r2
  obtain ⟨a3,c3,rfl⟩:=row_slice r3
  obtain ⟨a4,c4,rfl⟩:=row_slice r4
  obtain ⟨g,rfl,_,hgl,hc⟩:=row_cell r0 (j:=paid.length) (u:=.int .i64 r) (by unfold encI; rw [List.getElem?_map,last_err,HR.out]; rfl)
  have hc2:∀ o,(w5.alloc o).cell? ⟨g,paid.length,none⟩=some (.int .i64 r):=fun o=>((ba w5 o).cell (p:=⟨g,paid.length,none⟩) hgl).trans hc
  have G5:=bt hWf hb5
  have HF:Hid (∀ o,Ents (w5.alloc o) (w5.alloc o).heap.size (.slice pa' (paid.length + 1) pc') (paid ++ [(2,pN,0,lp,lq)])):=fun o=>((HE2.out.at (Nat.le_refl _) hb5).at hb5.size (ba _ o)).mono (Nat.le_trans hb5.size (ba w5 o).size)
  have hl1:((paid.length + 1:Nat):Int) - 1=(paid.length:Int):=by omega
  clear kb HE2 r0 r1 r2 r3 r4 hc hb5 hWf HV HE HNM HPB
  by_cases hr0:r=0
  ·subst hr0
   go_wp2
   go_quiet (fail)
   go_wp2
   go_ret2
   exact ⟨_,by first | rfl | simp,(HF.out _).at (Nat.le_refl _) (below_drewN (Below.refl _ _) _),below_drewN (bal G5 _) _⟩
  ·have hr1:(r == 0)=false:=by simpa using hr0
   have hr2:decide (r=0)=false:=by simpa using hr0
   go_wp2
   go_quiet (fail)
   go_wp2
   go_ret2
   exact ⟨_,by first | rfl | simp [hr2],(HF.out _).at (Nat.le_refl _) (below_drewN (Below.refl _ _) _),below_drewN (bal G5 _) _⟩
end Go.Proofs.YtlndlpjadajelaaGreat.K.P
namespace Go.Proofs.YtlndlpjadajelaaGreat
open Go.RowKit Go.Proofs.YtlndlpjadajelaaGreat.Ds
def pld (pl:List K.Tu):List Tn:=pl.map fun t=>⟨t.q,t.u,t.d,t.lo,t.hi,K.nd t.ns⟩
theorem pld_get (pl:List K.Tu) (i:Nat):(pld pl)[i]? = pl[i]?.map fun t=>⟨t.q,t.u,t.d,t.lo,t.hi,K.nd t.ns⟩:=by simp [pld]
def TalkP (w:World) (res:Option (List Pt)) (e:Ending) (w':World):Prop :=
 ∃ a n c us b,e=.returned (.tuple #[.slice a n c,.bool b])∧Below w.heap.size w w'∧((res=none∧b=false)∨(res=some (rd us)∧b=true∧Parts w' w'.heap.size (.slice a n c) us))
theorem TalkP.none {w w':World} (h:Below w.heap.size w w'):TalkP w .none (.returned (.tuple #[.slice .none 0 0,.bool false])) w':=⟨_,_,_,[],_,rfl,h,.inl ⟨rfl,rfl⟩⟩
theorem TalkP.stop {w w':World} {g:Nat} (h:Below w.heap.size w w') (hp:Parts w' w'.heap.size (.slice (some ⟨g,0,Option.none⟩) 1 1) [(.slice Option.none 0 0,[],1)]):TalkP w (some stpT) (.returned (.tuple #[.slice (some ⟨g,0,Option.none⟩) 1 1,.bool true])) w' :=
 ⟨_,_,_,[(.slice Option.none 0 0,[],1)],_,rfl,h,.inr ⟨rfl,rfl,hp⟩⟩
set_option maxHeartbeats 8000000 in
set_option maxRecDepth 100000 in
theorem talk_zero (a:Int) (la:Option Addr) (ln lc:Nat) (ra:Option Addr) (rn rc:Nat) (pa:Option Addr) (pn pc:Nat) (ea:Option Addr) (en ec:Nat) (w:World) :
  Calls Tryz.prog 18 #[.agg #[.slice la ln lc,.slice ra rn rc],.slice pa pn pc,.int .i64 a,.slice ea en ec,.int .i64 0] w (TalkP w (some stpT)):=by
 have hS:Parts ((w.alloc (.cells #[.slice la ln lc,.slice ra rn rc] 27)).alloc (.cells #[.slice none 0 0,.int .i64 1] 82)) (w.heap.size + 1 + 1) (.slice (some ⟨w.heap.size + 1,0,none⟩) 1 1) [(.slice none 0 0,[],1)]:=by
  have h:=parts_one (w.alloc (.cells #[.slice la ln lc,.slice ra rn rc] 27)) 0 0 (.slice none 0 0) [] 1 (Nat.zero_le _) (ints_nil _ _ _)
  have hz:(w.alloc (.cells #[.slice la ln lc,.slice ra rn rc] 27)).heap.size=w.heap.size + 1:=by simp
  rw [hz] at h
  exact h
 have HS:Hid (Parts ((w.alloc (.cells #[.slice la ln lc,.slice ra rn rc] 27)).alloc (.cells #[.slice none 0 0,.int .i64 1] 82)) (w.heap.size + 1 + 1) (.slice (some ⟨w.heap.size + 1,0,none⟩) 1 1) [(.slice none 0 0,[],1)]):=hS
 have hbW:Below w.heap.size w ((w.alloc (.cells #[.slice la ln lc,.slice ra rn rc] 27)).alloc (.cells #[.slice none 0 0,.int .i64 1] 82)):=bal (ba _ _) _
 clear hS
 by_cases h1:a < 0
 ·go_enter Tryz.func18,Tryz.ntmps18
  go_wp2
  exact bodyPost_ret (v:=.tuple #[.slice (some ⟨w.heap.size + 1,0,none⟩) 1 1,.bool true]) (by simp [results,Tryz.results18,go_sem]) rfl (TalkP.stop hbW (by simpa using HS.out))
 ·by_cases h2:(pn:Int)≤a
  ·have h3:a ≥ (pn:Int):=h2
   go_enter Tryz.func18,Tryz.ntmps18
   go_wp2
   exact bodyPost_ret (v:=.tuple #[.slice (some ⟨w.heap.size + 1,0,none⟩) 1 1,.bool true]) (by simp [results,Tryz.results18,go_sem]) rfl (TalkP.stop hbW (by simpa using HS.out))
  ·have h3:¬ a ≥ (pn:Int):=h2
   go_enter Tryz.func18,Tryz.ntmps18
   go_wp2
   exact bodyPost_ret (v:=.tuple #[.slice (some ⟨w.heap.size + 1,0,none⟩) 1 1,.bool true]) (by simp [results,Tryz.results18,go_sem]) rfl (TalkP.stop hbW (by simpa using HS.out))
end Go.Proofs.YtlndlpjadajelaaGreat
namespace Go.Proofs.YtlndlpjadajelaaGreat
open Go.RowKit Go.Shelf Go.Proofs.YtlndlpjadajelaaGreat.Ds
set_option maxRecDepth 100000 in
set_option maxHeartbeats 8000000 in
theorem region23 {Q:Exit→Act→World→Prop} (hQp:∀ c a d v w,Q (.panic c) (Act.put a d v) w→Q (.panic c) a w) (t0 t1 t2 t3 t6 t7 t8 t9 t10 t11 t12 t14 t15 t16 t17 t18 t19 t20 t21 t22 t24 t25 t26 t27 t28 t29 t30 t31 t32 t33 t34 t35 t36 t37 t38 t39 t40 t41 t42 t43 t44 t45 t46 t47 t48 t49 t50 t51 t52 t53 t54 t55 t56 t57 t58 t59 t60 t61 t62 t63 t64 t65 t66 t67 t68 t69 t70 t71 t72 t73 t74 t75 t76 t77 t78 t79 t80 t81 t82 t83 t84 t85 t86 t87 t88 t89 t90 t91 t92 t93 t94 t95 t96 t97 t98 t99 t100 t101 t102 t103 t104 t105 t106 t107 t108 t109 t110 t111 t112 t113 t114 t115 t116 t117 t118 t119 t120 t121 t122 t123 t124 t125 t126 t127 t128 t129 t130 t131 t132 t133 t134 t135 t136 t137 t138 t139 t140:Value) (A:World) (tb qb xb:Nat) (x0 x1 q0 q1 q2 q3 q4 q5 q6 q7 q8 q9 q10 s:Value) (kp k nx:Int) (hk:kp - 1=k) (hkb:0≤k∧k≤8192) (res:Option (List Pt))
  (hC:∀ W,Below A.heap.size A W→W.cell? ⟨tb,0,none⟩=some x0∧W.cell? ⟨tb,1,none⟩=some x1∧W.cell? ⟨qb,0,none⟩=some q0∧W.cell? ⟨qb,1,none⟩=some q1∧W.cell? ⟨qb,2,none⟩=some q2∧W.cell? ⟨qb,3,none⟩=some q3∧W.cell? ⟨qb,4,none⟩=some q4∧W.cell? ⟨qb,5,none⟩=some q5∧W.cell? ⟨qb,6,none⟩=some q6∧W.cell? ⟨qb,7,none⟩=some q7∧W.cell? ⟨qb,8,none⟩=some q8∧W.cell? ⟨qb,9,none⟩=some q9∧W.cell? ⟨qb,10,none⟩=some q10∧W.cell? ⟨xb,0,none⟩=some s)
  (hN:∀ W,Below A.heap.size A W→Calls Tryz.prog 47 #[.agg #[q0,q1,q2,q3,q4,q5,q6,q7,q8,q9,q10],s] W fun e W'=>e=.returned (.int .i64 nx)∧Below W.heap.size W W')
  (hT:∀ W,Below A.heap.size A W→Calls Tryz.prog 18 #[.agg #[x0,x1],t1,.int .i64 nx,t3,.int .i64 k] W (TalkP W res))
  (hEnd:∀ (u98 u99 u100 u101 u102 u103 u104 u105 u106 u107 u108 u109 u110:Value) (sa:Option Addr) (sn sc:Nat) (us:List Tr) (sb:Bool) (Wf:World),Below A.heap.size A Wf→((res=none∧sb=false)∨(res=some (rd us)∧sb=true∧Parts Wf Wf.heap.size (.slice sa sn sc) us))→Q .normal { tmps:=#[t0,t1,t2,t3,.int .i64 kp,.pointer (some ⟨tb,0,none⟩),t6,t7,t8,t9,t10,t11,t12,.pointer (some ⟨qb,0,none⟩),t14,t15,t16,t17,t18,t19,t20,t21,t22,.pointer (some ⟨xb,0,none⟩),.slice sa sn sc,.bool sb,t26,t27,t28,t29,t30,t31,t32,t33,t34,t35,t36,t37,t38,t39,t40,t41,t42,t43,t44,t45,t46,t47,t48,t49,t50,t51,t52,t53,t54,t55,t56,t57,t58,t59,t60,t61,t62,t63,t64,t65,t66,t67,t68,t69,t70,t71,t72,t73,t74,t75,t76,t77,t78,t79,t80,t81,t82,t83,t84,t85,t86,t87,t88,t89,t90,t91,t92,t93,t94,t95,t96,t97,u98,u99,u100,u101,u102,u103,u104,u105,u106,u107,u108,u109,u110,t111,t112,t113,t114,t115,t116,t117,t118,t119,t120,t121,t122,t123,t124,t125,t126,t127,t128,t129,t130,t131,t132,t133,t134,t135,t136,t137,t138,t139,t140],defers:=[] } Wf) :
  (Code.region 23 #[⟨some 99, .load 27 (.tmp 5), 27, "top.go:84", #[], none⟩, ⟨some 100, .move (.tmp 1), 48, "top.go:84", #[], none⟩, ⟨some 101, .load 96 (.tmp 13), 96, "top.go:84", #[], none⟩, ⟨some 102, .fieldAddr 82 (.tmp 23) 0, 0, "top.go:84", #[], none⟩, ⟨some 103, .load 65 (.tmp 102), 65, "top.go:84", #[⟨3, .data⟩], none⟩, ⟨some 104, .call { callee := .value (.func 47), args := #[.tmp 101, .tmp 103], argTypes := #[96, 65] }, 3, "top.go:84", #[⟨2, .data⟩, ⟨4, .data⟩], none⟩, ⟨some 105, .move (.tmp 3), 49, "top.go:84", #[], none⟩, ⟨some 106, .move (.tmp 4), 3, "top.go:84", #[], none⟩, ⟨some 107, .binOp BinOp.sub 3 (.tmp 106) (.const (Value.int IntKind.i64 1)) 3, 3, "top.go:84", #[⟨7, .data⟩], none⟩, ⟨some 108, .call { callee := .value (.func 18), args := #[.tmp 99, .tmp 100, .tmp 104, .tmp 105, .tmp 107], argTypes := #[27, 48, 3, 49, 3] }, 52, "top.go:84", #[⟨0, .data⟩, ⟨1, .data⟩, ⟨5, .data⟩, ⟨6, .data⟩, ⟨8, .data⟩, ⟨5, .chain⟩], none⟩, ⟨some 98, .move (.tmp 108), 52, "top.go:84", #[⟨9, .data⟩], none⟩, ⟨some 109, .extract (.tmp 98) 0, 44, "top.go:84", #[⟨10, .data⟩], none⟩, ⟨some 110, .extract (.tmp 98) 1, 4, "top.go:84", #[⟨10, .data⟩, { on := 13, ground := Ground.gcOnly Departure.lateStores }], none⟩, ⟨some 24, .assign (.tmp 109), 44, "top.go:84", #[⟨11, .data⟩, ⟨9, .chain⟩, ⟨0, .phase⟩, ⟨1, .phase⟩, ⟨2, .phase⟩, ⟨3, .phase⟩, ⟨4, .phase⟩, ⟨5, .phase⟩, ⟨6, .phase⟩, ⟨7, .phase⟩, ⟨8, .phase⟩, ⟨9, .phase⟩, ⟨10, .phase⟩, ⟨11, .phase⟩, { on := 12, ground := Ground.textOnly Departure.lateStores }], none⟩, ⟨some 25, .assign (.tmp 110), 4, "top.go:84", #[⟨12, .data⟩, ⟨13, .chain⟩, ⟨0, .phase⟩, ⟨1, .phase⟩, ⟨2, .phase⟩, ⟨3, .phase⟩, ⟨4, .phase⟩, ⟨5, .phase⟩, ⟨6, .phase⟩, ⟨7, .phase⟩, ⟨8, .phase⟩, ⟨9, .phase⟩, ⟨10, .phase⟩, ⟨11, .phase⟩, ⟨12, .phase⟩, ⟨13, .phase⟩], none⟩] true).wp Tryz.prog Q { tmps := #[t0, t1, t2, t3, .int .i64 kp, .pointer (some ⟨tb, 0, none⟩), t6, t7, t8, t9, t10, t11, t12, .pointer (some ⟨qb, 0, none⟩), t14, t15, t16, t17, t18, t19, t20, t21, t22, .pointer (some ⟨xb, 0, none⟩), t24, t25, t26, t27, t28, t29, t30, t31, t32, t33, t34, t35, t36, t37, t38, t39, t40, t41, t42, t43, t44, t45, t46, t47, t48, t49, t50, t51, t52, t53, t54, t55, t56, t57, t58, t59, t60, t61, t62, t63, t64, t65, t66, t67, t68, t69, t70, t71, t72, t73, t74, t75, t76, t77, t78, t79, t80, t81, t82, t83, t84, t85, t86, t87, t88, t89, t90, t91, t92, t93, t94, t95, t96, t97, t98, t99, t100, t101, t102, t103, t104, t105, t106, t107, t108, t109, t110, t111, t112, t113, t114, t115, t116, t117, t118, t119, t120, t121, t122, t123, t124, t125, t126, t127, t128, t129, t130, t131, t132, t133, t134, t135, t136, t137, t138, t139, t140], defers := [] } A := by
 have HEND:Hid _:=hEnd
 have HC:Hid _:=hC
 have HN:Hid _:=hN
 have HT:Hid _:=hT
 have hwk:IntKind.i64.wrap k=k:=by rw [IntKind.wrap_i64]; omega
 have G0:Hid (Below A.heap.size A A.drew):=(Below.refl _ _).drew
 clear hEnd hC hN hT
 refine wp_region_any (by kernel_rfl) ?_
 change wpAny _ _ _ _ _ _ _ (World.drew _)
 obtain ⟨V0,hV0⟩:∃ V0,A.drew=V0:=⟨_,rfl⟩
 rw [hV0] at G0 ⊢
 clear hV0
 refine K.P.wpAny_of_J (S:=fun W=>Below A.heap.size A W) (J:=fun _=>true) _ _ _ _ ?_
 refine K.P.wpAnyJ_take (i := 0) (oi := ⟨some 99, .load 27 (.tmp 5), 27, "top.go:84", #[], none⟩) (v := .agg #[x0, x1]) rfl rfl (K.P.waits_of (by kernel_rfl)) (by kernel_rfl) (by kernel_rfl) (by kernel_rfl) (fun _ _ _ h => hQp _ _ _ _ _ h) (Or.inl ⟨by rfl, fun W hS => ?_⟩) G0.out ?_
 ·obtain ⟨z0,z1,z2,z3,z4,z5,z6,z7,z8,z9,z10,z11,z12,z13⟩:=HC.out W hS; go_simp
 simp only [Act.put,List.setIfInBounds_toArray,List.set_cons_zero,List.set_cons_succ]
 refine K.P.wpAnyJ_take (i := 1) (oi := ⟨some 100, .move (.tmp 1), 48, "top.go:84", #[], none⟩) (v := t1) rfl rfl (K.P.waits_of (by kernel_rfl)) (by kernel_rfl) (by kernel_rfl) (by kernel_rfl) (fun _ _ _ h => hQp _ _ _ _ _ h) (Or.inl ⟨by rfl, fun W hS => ?_⟩) G0.out ?_
 ·go_simp
 simp only [Act.put,List.setIfInBounds_toArray,List.set_cons_zero,List.set_cons_succ]
 refine K.P.wpAnyJ_take (i := 2) (oi := ⟨some 101, .load 96 (.tmp 13), 96, "top.go:84", #[], none⟩) (v := .agg #[q0, q1, q2, q3, q4, q5, q6, q7, q8, q9, q10]) rfl rfl (K.P.waits_of (by kernel_rfl)) (by kernel_rfl) (by kernel_rfl) (by kernel_rfl) (fun _ _ _ h => hQp _ _ _ _ _ h) (Or.inl ⟨by rfl, fun W hS => ?_⟩) G0.out ?_
 ·obtain ⟨z0,z1,z2,z3,z4,z5,z6,z7,z8,z9,z10,z11,z12,z13⟩:=HC.out W hS; go_simp
 simp only [Act.put,List.setIfInBounds_toArray,List.set_cons_zero,List.set_cons_succ]
 refine K.P.wpAnyJ_take (i := 3) (oi := ⟨some 102, .fieldAddr 82 (.tmp 23) 0, 0, "top.go:84", #[], none⟩) (v := .pointer (some ⟨xb, 0, none⟩)) rfl rfl (K.P.waits_of (by kernel_rfl)) (by kernel_rfl) (by kernel_rfl) (by kernel_rfl) (fun _ _ _ h => hQp _ _ _ _ _ h) (Or.inl ⟨by rfl, fun W hS => ?_⟩) G0.out ?_
 ·go_simp
 simp only [Act.put,List.setIfInBounds_toArray,List.set_cons_zero,List.set_cons_succ]
 refine K.P.wpAnyJ_take (i := 4) (oi := ⟨some 103, .load 65 (.tmp 102), 65, "top.go:84", #[⟨3, .data⟩], none⟩) (v := s) rfl rfl (K.P.waits_of (by kernel_rfl)) (by kernel_rfl) (by kernel_rfl) (by kernel_rfl) (fun _ _ _ h => hQp _ _ _ _ _ h) (Or.inl ⟨by rfl, fun W hS => ?_⟩) G0.out ?_
 ·obtain ⟨z0,z1,z2,z3,z4,z5,z6,z7,z8,z9,z10,z11,z12,z13⟩:=HC.out W hS; go_simp
 simp only [Act.put,List.setIfInBounds_toArray,List.set_cons_zero,List.set_cons_succ]
 refine K.P.wpAnyJ_take (i := 6) (oi := ⟨some 105, .move (.tmp 3), 49, "top.go:84", #[], none⟩) (v := t3) rfl rfl (K.P.waits_of (by kernel_rfl)) (by kernel_rfl) (by kernel_rfl) (by kernel_rfl) (fun _ _ _ h => hQp _ _ _ _ _ h) (Or.inl ⟨by rfl, fun W hS => ?_⟩) G0.out ?_
 ·go_simp
 simp only [Act.put,List.setIfInBounds_toArray,List.set_cons_zero,List.set_cons_succ]
 refine K.P.wpAnyJ_take (i := 7) (oi := ⟨some 106, .move (.tmp 4), 3, "top.go:84", #[], none⟩) (v := .int .i64 kp) rfl rfl (K.P.waits_of (by kernel_rfl)) (by kernel_rfl) (by kernel_rfl) (by kernel_rfl) (fun _ _ _ h => hQp _ _ _ _ _ h) (Or.inl ⟨by rfl, fun W hS => ?_⟩) G0.out ?_
 ·go_simp
 simp only [Act.put,List.setIfInBounds_toArray,List.set_cons_zero,List.set_cons_succ]
 refine K.P.wpAnyJ_take (i := 8) (oi := ⟨some 107, .binOp BinOp.sub 3 (.tmp 106) (.const (Value.int IntKind.i64 1)) 3, 3, "top.go:84", #[⟨7, .data⟩], none⟩) (v := .int .i64 k) rfl rfl (K.P.waits_of (by kernel_rfl)) (by kernel_rfl) (by kernel_rfl) (by kernel_rfl) (fun _ _ _ h => hQp _ _ _ _ _ h) (Or.inl ⟨by rfl, fun W hS => ?_⟩) G0.out ?_
 ·go_simp
 simp only [Act.put,List.setIfInBounds_toArray,List.set_cons_zero,List.set_cons_succ]
 refine K.P.wpAnyJ_ready (rs:=[5]) (by kernel_rfl) (by simp) ?_
 refine K.P.AllJ.cons (o := ⟨some 104, .call { callee := .value (.func 47), args := #[.tmp 101, .tmp 103], argTypes := #[96, 65] }, 3, "top.go:84", #[⟨2, .data⟩, ⟨4, .data⟩], none⟩) rfl (fun K hK => ?_) ?_
 ·
  have kk:=HN.out V0 G0.out
  go_simp
  go_at_call 47
  refine kk.mono ?_
  rintro e1 W1 ⟨rfl,hb1⟩
  have G1:Hid (Below A.heap.size A W1):=G0.out.trans (hb1.mono G0.out.size)
  clear kk
  refine hK.out _ _ (fun _=>G1.out) ?_
  clear hK K
  try simp only [Act.put,List.setIfInBounds_toArray,List.set_cons_zero,List.set_cons_succ]
  clear hb1
  refine K.P.wpAnyJ_ready (rs:=[9]) (by kernel_rfl) (by simp) ?_
  refine K.P.AllJ.cons (o := ⟨some 108, .call { callee := .value (.func 18), args := #[.tmp 99, .tmp 100, .tmp 104, .tmp 105, .tmp 107], argTypes := #[27, 48, 3, 49, 3] }, 52, "top.go:84", #[⟨0, .data⟩, ⟨1, .data⟩, ⟨5, .data⟩, ⟨6, .data⟩, ⟨8, .data⟩, ⟨5, .chain⟩], none⟩) rfl (fun K hK => ?_) ?_
  ·
   have kk:=HT.out W1 G1.out
   go_simp
   go_at_call 18
   refine kk.mono ?_
   rintro e2 W2 ⟨sa,sn,sc,us,sb,rfl,hb2,hres⟩
   have G2:Hid (Below A.heap.size A W2):=G1.out.trans (hb2.mono G1.out.size)
   have HRS:Hid ((res=none∧sb=false)∨(res=some (rd us)∧sb=true∧Parts W2 W2.heap.size (.slice sa sn sc) us)):=hres
   clear kk hres
   refine hK.out _ _ (fun _=>G2.out) ?_
   clear hK K
   try simp only [Act.put,List.setIfInBounds_toArray,List.set_cons_zero,List.set_cons_succ]
   clear hb2
   refine K.P.wpAnyJ_take (i := 10) (oi := ⟨some 98, .move (.tmp 108), 52, "top.go:84", #[⟨9, .data⟩], none⟩) (v := .tuple #[.slice sa sn sc, .bool sb]) rfl rfl (K.P.waits_of (by kernel_rfl)) (by kernel_rfl) (by kernel_rfl) (by kernel_rfl) (fun _ _ _ h => hQp _ _ _ _ _ h) (Or.inl ⟨by rfl, fun W hS => ?_⟩) G2.out ?_
   ·go_simp
   simp only [Act.put,List.setIfInBounds_toArray,List.set_cons_zero,List.set_cons_succ]
   refine K.P.wpAnyJ_take (i := 11) (oi := ⟨some 109, .extract (.tmp 98) 0, 44, "top.go:84", #[⟨10, .data⟩], none⟩) (v := .slice sa sn sc) rfl rfl (K.P.waits_of (by kernel_rfl)) (by kernel_rfl) (by kernel_rfl) (by kernel_rfl) (fun _ _ _ h => hQp _ _ _ _ _ h) (Or.inl ⟨by rfl, fun W hS => ?_⟩) G2.out ?_
   ·go_simp
   simp only [Act.put,List.setIfInBounds_toArray,List.set_cons_zero,List.set_cons_succ]
   refine K.P.wpAnyJ_take (i := 12) (oi := ⟨some 110, .extract (.tmp 98) 1, 4, "top.go:84", #[⟨10, .data⟩, { on := 13, ground := Ground.gcOnly Departure.lateStores }], none⟩) (v := .bool sb) rfl rfl (K.P.waits_of (by kernel_rfl)) (by kernel_rfl) (by kernel_rfl) (by kernel_rfl) (fun _ _ _ h => hQp _ _ _ _ _ h) (Or.inl ⟨by rfl, fun W hS => ?_⟩) G2.out ?_
   ·go_simp
   simp only [Act.put,List.setIfInBounds_toArray,List.set_cons_zero,List.set_cons_succ]
   refine K.P.wpAnyJ_take (i := 13) (oi := ⟨some 24, .assign (.tmp 109), 44, "top.go:84", #[⟨11, .data⟩, ⟨9, .chain⟩, ⟨0, .phase⟩, ⟨1, .phase⟩, ⟨2, .phase⟩, ⟨3, .phase⟩, ⟨4, .phase⟩, ⟨5, .phase⟩, ⟨6, .phase⟩, ⟨7, .phase⟩, ⟨8, .phase⟩, ⟨9, .phase⟩, ⟨10, .phase⟩, ⟨11, .phase⟩, { on := 12, ground := Ground.textOnly Departure.lateStores }], none⟩) (v := .slice sa sn sc) rfl rfl (K.P.waits_of (by kernel_rfl)) (by kernel_rfl) (by kernel_rfl) (by kernel_rfl) (fun _ _ _ h => hQp _ _ _ _ _ h) (Or.inl ⟨by rfl, fun W hS => ?_⟩) G2.out ?_
   ·go_simp
   simp only [Act.put,List.setIfInBounds_toArray,List.set_cons_zero,List.set_cons_succ]
   refine K.P.wpAnyJ_take (i := 14) (oi := ⟨some 25, .assign (.tmp 110), 4, "top.go:84", #[⟨12, .data⟩, ⟨13, .chain⟩, ⟨0, .phase⟩, ⟨1, .phase⟩, ⟨2, .phase⟩, ⟨3, .phase⟩, ⟨4, .phase⟩, ⟨5, .phase⟩, ⟨6, .phase⟩, ⟨7, .phase⟩, ⟨8, .phase⟩, ⟨9, .phase⟩, ⟨10, .phase⟩, ⟨11, .phase⟩, ⟨12, .phase⟩, ⟨13, .phase⟩], none⟩) (v := .bool sb) rfl rfl (K.P.waits_of (by kernel_rfl)) (by kernel_rfl) (by kernel_rfl) (by kernel_rfl) (fun _ _ _ h => hQp _ _ _ _ _ h) (Or.inl ⟨by rfl, fun W hS => ?_⟩) G2.out ?_
   ·go_simp
   simp only [Act.put,List.setIfInBounds_toArray,List.set_cons_zero,List.set_cons_succ]
   refine K.P.wpAnyJ_done (by kernel_rfl) ?_ _
   exact HEND.out _ _ _ _ _ _ _ _ _ _ _ _ _ _ _ _ _ _ _ G2.out HRS.out
  exact K.P.AllJ.nil
 exact K.P.AllJ.nil
end Go.Proofs.YtlndlpjadajelaaGreat
namespace Go.Proofs.YtlndlpjadajelaaGreat
open Go.RowKit Go.Proofs.YtlndlpjadajelaaGreat.Ds
theorem flatF_len (fs:List Fl):(flatF fs).length=fs.length * 2:=by
 induction fs with
 | nil=>rfl
 | cons t ts ih=>simp [flatF] at *; omega
theorem flatF_get (fs:List Fl) (i:Nat):(flatF fs)[i * 2]? = fs[i]?.map (·.1.1)∧(flatF fs)[i * 2 + 1]? = fs[i]?.map (·.2.1):=by
 induction fs generalizing i with
 | nil=>simp [flatF]
 | cons t ts ih =>
  cases i with
  | zero=>simp [flatF]
  | succ i =>
   have h:=ih i
   have e:flatF (t :: ts)=t.1.1 :: t.2.1 :: flatF ts:=rfl
   rw [e,show (i + 1) * 2=i * 2 + 1 + 1 by omega,show i * 2 + 1 + 1 + 1=(i * 2 + 1) + 1 + 1 by omega]
   simpa using h
theorem Fwr.fws {w:World} {lo:Nat} {v:Value} {fs:List Fl} (h:Fwr w lo v fs) (hl:fs.length≤1073741824):Fws w w.heap.size v fs:=by
 have hi:∀ t∈fs,Ints w w.heap.size w.heap.size t.1.1 t.1.2∧Parts w w.heap.size t.2.1 t.2.2:=fun t ht=>let ⟨m,h1,h2,_⟩:=h.2 t ht; ⟨h1.mono (Nat.le_refl _) (.inr (Nat.le_refl _)),h2.parts⟩
 obtain ⟨hlen,⟨hv,h0⟩ | ⟨g,cap,cur,hv,hb,hcur,hc,_,hsz,hx⟩⟩:=h.1
 ·obtain rfl:fs=[]:=List.length_eq_zero_iff.1 h0
  exact ⟨none,0,hv,Nat.le_refl _,hl,hi,fun h=>absurd rfl h⟩
 ·have hget:∀ j u,(flatF fs)[j]? = some u→w.cell? ⟨g,0 + j,none⟩=some u:=by
   intro j u hj
   have hj2:j < fs.length * 2:=by rw [← flatF_len]; exact (List.getElem?_eq_some_iff.1 hj).1
   have:cur[j]? = some u:=by
    rw [← hx,List.getElem?_take_of_lt hj2] at hj
    simpa using hj
   simp [World.cell?,hcur,this]
  refine ⟨_,cap,hv,hc,hl,hi,fun _=>⟨g,0,rfl,(Array.getElem?_eq_some_iff.1 hcur).1,fun i t ht=>?_⟩⟩
  have hg:=flatF_get fs i
  exact ⟨hget _ _ (by rw [hg.1,ht]; rfl),by rw [Nat.add_assoc]; exact hget _ _ (by rw [hg.2,ht]; rfl)⟩
theorem two_slices (W:World) (s t:Value) (n:Nat) (hn:W.heap.size=n):∀ j u,[s,t][j]? = some u→(W.alloc (.cells #[s,t] 102)).cell? ((⟨n,0,none⟩:Addr).add j)=some u:=by
 subst hn
 intro j u hj
 match j,hj with
 | 0,hj=>simp at hj; subst hj; simp [go_sem,Addr.add]
 | 1,hj=>simp at hj; subst hj; simp [go_sem,Addr.add]
theorem info78:(Tryz.prog.info? 102).map (fun i=>(i.zero,i.size,i.bytes))=some (some (.agg #[.slice none 0 0,.slice none 0 0]),2,48):=by kernel_rfl
def FolS (g:List Int→Option (List Pt)) (D:List Pt) (j:Nat) (fs:List Fl):Prop:=fs.length=j∧folT g D=(folT g (D.drop j)).map (fd fs ++ ·)
theorem fol_cons {g:List Int→Option (List Pt)} {D:List Pt} {j:Nat} {p:Pt} (h:D[j]? = some p):folT g (D.drop j)=match g p.1 with
  | none=>none
  | some y=>if (bothT [(p.1,1)] y).2=0 then (match folT g (D.drop (j + 1)) with
   | none=>none
   | some fs=>some ((p.1,(bothT [(p.1,1)] y).1) :: fs)) else none:=by
 rw [List.drop_eq_getElem_cons (List.getElem?_eq_some_iff.1 h).1,(List.getElem?_eq_some_iff.1 h).2]
 rfl
theorem FolS.none {g:List Int→Option (List Pt)} {D:List Pt} {j:Nat} {p:Pt} {fs:List Fl} (h:FolS g D j fs) (hp:D[j]? = some p) (hg:g p.1=Option.none):folT g D=Option.none:=by
 rw [h.2,fol_cons hp,hg]; rfl
theorem FolS.bad {g:List Int→Option (List Pt)} {D:List Pt} {j:Nat} {p:Pt} {fs:List Fl} {y:List Pt} (h:FolS g D j fs) (hp:D[j]? = some p) (hg:g p.1=some y) (hb:(bothT [(p.1,1)] y).2≠0):folT g D=Option.none:=by
 rw [h.2,fol_cons hp,hg]
 simp only [if_neg hb]; rfl
theorem FolS.step {g:List Int→Option (List Pt)} {D:List Pt} {j:Nat} {p:Pt} {fs:List Fl} {y z:List Pt} {f:Fl} (h:FolS g D j fs) (hp:D[j]? = some p) (hg:g p.1=some y) (hb:bothT [(p.1,1)] y=(z,0)) (h1:f.1.2=p.1) (h2:rd f.2.2=z):FolS g D (j + 1) (fs ++ [f]):=by
 refine ⟨by simp [h.1],?_⟩
 rw [h.2,fol_cons hp,hg]
 simp only [hb,if_true]
 cases folT g (D.drop (j + 1)) with
 | none=>rfl
 | some gs=>simp [fd,h1,h2]
theorem FolS.all {g:List Int→Option (List Pt)} {D:List Pt} {j:Nat} {fs:List Fl} (h:FolS g D j fs) (hj:D.length≤j):folT g D=some (fd fs):=by
 rw [h.2,List.drop_eq_nil_of_le hj]
 simp [folT]
end Go.Proofs.YtlndlpjadajelaaGreat

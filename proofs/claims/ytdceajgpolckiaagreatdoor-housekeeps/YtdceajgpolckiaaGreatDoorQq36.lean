import Derived.Test.YtdceajgpolckiaaGreatDoorQq35
import Derived.Test.YtdceajgpolckiaaGreatDoorQq26
import Derived.Test.YtdceajgpolckiaaGreatDoorQq25
open Go.Proofs.Tryz
set_option linter.unusedSimpArgs false
set_option maxHeartbeats 16000000
set_option maxRecDepth 100000
namespace Go.Proofs.YtdceajgpolckiaaGreatDoor
namespace K.P
open Go.RowKit K.Ds
theorem drJ {l:List jQ}{q:Qu}{s:ByteArray}{z er:Int}(h:cA (prt l q s)=(z,er)):0<=z/\z<=4096:=by
 have key:∀ x:Except Int Int,cA x=(z,er)->(∀ v,x=.ok v->0<=v/\v<=4096)->0<=z/\z<=4096:=by
  intro x hx hv;cases x with
  | error e=>simp only[cA,cQ] at hx;omega
  | ok v=>simp only[cA,cQ] at hx;have:=hv v rfl;omega
 refine key _ h fun v hv=>?_;unfold prt at hv;split at hv
 ·cases hv
 ·rename_i b hb
  split at hv
  ·cases hv
  ·rename_i i hi
   split at hv
   ·cases hv
   ·rename_i v' hv'
    split at hv
    ·rename_i hc
     cases hv;have hsz:=(iK (avX hb).1).2.2.1;have hlt:=mI hi
     have:qU l i<=4096:=by
      unfold qU;rw[dZ hlt];exact(hsz _ (List.getElem_mem hlt)).2
     omega
    ·cases hv
theorem iM {w:World}{B B':Nat}(hB:B<=B')(q:Qu):∀ {v0 v1 v2 v3 v4 v5:Value},Qm w B q v0 v1 v2 v3 v4 v5->Qm w B' q v0 v1 v2 v3 v4 v5:=by
 induction q with
 | none=>intro v0 v1 v2 v3 v4 v5 h;exact h
 | node k c lo hi wh n x y ihx ihy =>
  rintro v0 v1 v2 v3 v4 v5 ⟨h0,h1,h2,h3,hc,hw,a,cap,h5,hn,hm,hk⟩;refine⟨h0,h1,h2,h3,hc,hw.mono hB,a,cap,h5,hn,hm,fun g1 g2=>?_⟩;obtain⟨b,o,ha,hb,⟨u0,u1,u2,u3,u4,u5,hx,hq⟩,h2⟩:=hk g1 g2;refine⟨b,o,ha,by omega,⟨u0,u1,u2,u3,u4,u5,hx,ihx hq⟩,fun g=>?_⟩;obtain⟨u0,u1,u2,u3,u4,u5,hx,hq⟩:=h2 g;exact⟨u0,u1,u2,u3,u4,u5,hx,ihy hq⟩
theorem awQ {w:World}{h B:Nat}{cv rv:Value}{l:List jQ}{ts:List (List Int)}(ht:pG w h B cv rv l ts)(hB:B<=w.heap.size):∃ rs,rr rs=ts/\eQ w w.heap.size cv l/\iQ w w.heap.size rv rs:=by
 obtain⟨rs,h1,h2⟩:=ht;obtain⟨h3,h4⟩:=h2 w ⟨hB,fun _ _ _=>rfl⟩;exact⟨rs,h1,h3.mono hB,h4.mono hB⟩
abbrev dA (pn:ByteArray) (v0 v1 v2 v3 v4 v5:Value) (u d lo hi:Int) (bv:Value):Value:=.agg #[.string pn,v0,v1,v2,v3,v4,v5,.int .i64 u,.int .i64 d,.int .i64 lo,.int .i64 hi,bv]
def zZ (pn:ByteArray) (z er lu ld:Int):En:=if er=0 then (3,pn,z,lu,ld) else (2,pn,0,lu,ld)
theorem dsQ (M:Nat->Prop)(bh bd B:Nat)(l:List jQ)(ts:List (List Int))(done:List En)(pn:ByteArray)(v0 v1 v2 v3 v4 v5 bv:Value)(q:Qu)(u d lo hi lu ld:Int)(w:World)(hh:kX w M bh bd l ts done)(hB:B<=w.heap.size)(hq:Qm w B q v0 v1 v2 v3 v4 v5)(hbv:∃ a n c,bv=.slice a n c)(nm0:ByteArray)(sz0:Int)(hl0:l[0]? = some (nm0,sz0))(z er:Int)(hz:cA (prt l q nm0)=(z,er)) :
  Calls prog 50 #[.pointer (some ⟨bh,0,none⟩),dA pn v0 v1 v2 v3 v4 v5 u d lo hi bv,.agg #[.int .i64 lu,.int .i64 ld]] w fun e w'=>e=.returned (ev (zZ pn z er lu ld))/\Below w.heap.size w w':=by
 obtain⟨cv,rv,bk,bm,n,v,D,h,BB,N,k⟩:=hh;obtain⟨ba0,bn0,bc0,rfl⟩:=hbv;obtain⟨kk,kc,kl,kh,ka,kn,kd,kb,km,kp,rfl,rfl,rfl,rfl,rfl,rfl⟩:=hq.shape;obtain⟨W,hW⟩:∃ W,(((w.alloc (.cells #[.string pn,.int .i64 kk,.string kc,.int .i64 kl,.int .i64 kh,.slice ka kn kd,.slice kb km kp,.int .i64 u,.int .i64 d,.int .i64 lo,.int .i64 hi,.slice ba0 bn0 bc0] 39)).alloc (.cells #[.int .i64 lu,.int .i64 ld] 32)).alloc (.cells #[.int .i64 0,.string ⟨#[]⟩,.int .i64 0,.int .i64 0,.int .i64 0] 53)).alloc (.cells #[.int .i64 2,.string pn,.int .i64 0,.int .i64 lu,.int .i64 ld] 53)=W:=⟨_,rfl⟩;have hbW:Below w.heap.size w W:=hW▸bal (bal (bal (ba _ _) _) _) _;have A1:Cl W w.heap.size 1 (.int .i64 kk):=hW▸(((Cl.new _ 39 1 _ rfl rfl).at (ba _ _)).at (ba _ _)).at (ba _ _);have A2:Cl W w.heap.size 2 (.string kc):=hW▸(((Cl.new _ 39 2 _ rfl rfl).at (ba _ _)).at (ba _ _)).at (ba _ _);have A3:Cl W w.heap.size 3 (.int .i64 kl):=hW▸(((Cl.new _ 39 3 _ rfl rfl).at (ba _ _)).at (ba _ _)).at (ba _ _);have A4:Cl W w.heap.size 4 (.int .i64 kh):=hW▸(((Cl.new _ 39 4 _ rfl rfl).at (ba _ _)).at (ba _ _)).at (ba _ _);have A5:Cl W w.heap.size 5 (.slice ka kn kd):=hW▸(((Cl.new _ 39 5 _ rfl rfl).at (ba _ _)).at (ba _ _)).at (ba _ _);have A6:Cl W w.heap.size 6 (.slice kb km kp):=hW▸(((Cl.new _ 39 6 _ rfl rfl).at (ba _ _)).at (ba _ _)).at (ba _ _);have HZ:Hid (FivB W (w.heap.size+1+1) (.int .i64 0) (.string ⟨#[]⟩) (.int .i64 0) (.int .i64 0) (.int .i64 0)):=hW▸(FivB.new _ _ _ _ _ _ 53 _ (by simp)).below (ba _ _);have HV:Hid (FivB W (w.heap.size+1+1+1) (.int .i64 2) (.string pn) (.int .i64 0) (.int .i64 lu) (.int .i64 ld)):=hW▸FivB.new _ _ _ _ _ _ 53 _ (by simp);have hC:HouC W bh bd cv rv bk done.length false:=k.hc.at hbW;have hT:pG W.drew h BB cv rv l ts:=(k.tb.kp (K:=fun _=>False) (oQ hbW) k.hB.2 (fun _ _ _ h=>h)).kp (K:=fun _=>False) (oQ (aQ _ _).drew) (uQ k.hB.2 hbW.size) (fun _ _ _ h=>h);obtain⟨rs,hrs,hp,_⟩:=awQ hT (uQ k.hB.2 hbW.size);have h0:0<l.length:=(lQ.1 hl0).1;obtain⟨ca,cc,rfl,_⟩:=hp.slice;obtain⟨b,o,nm,sz,rfl,hb,hgt,c1,_,_⟩:=hp.get (vQ _) (aQ _ _) h0;obtain⟨rfl,rfl⟩:nm=nm0/\sz=sz0:=by rw[hl0] at hgt;simpa [eq_comm] using hgt
 have c1':W.cell? ⟨b,o,none⟩=some (.string nm):=by simpa using c1
 have hq2:Qm W.drew W.heap.size q (.int .i64 kk) (.string kc) (.int .i64 kl) (.int .i64 kh) (.slice ka kn kd) (.slice kb km kp):=iM (uQ hB hbW.size) q (hq.at hB hbW.drew);have k2:=avJ l q nm W.drew W.heap.size _ _ _ _ _ _ _ z er (vQ _) hp hq2 hz;have m0:=hC.c0.c;have n1:=A1.c;have n2:=A2.c;have n3:=A3.c;have n4:=A4.c;have n5:=A5.c;have n6:=A6.c;have lN:w.heap.size<W.heap.size:=A1.lt;have lb:b<W.heap.size:=hb;have hlI:(0:Int)<(l.length:Int):=by omega
 have HBW:Hid (Below w.heap.size w W):=hbW;clear hp hq hq2 hz hgt c1 A1 A2 A3 A4 A5 A6 hC hT k hl0 hrs hbW;go_enter func50,ntmps50;go_wp2;clear hW
 go_region_held3 (fun w'=>w'.cell? ⟨w.heap.size,1,none⟩=some (.int .i64 kk)/\w'.cell? ⟨w.heap.size,2,none⟩=some (.string kc)/\w'.cell? ⟨w.heap.size,3,none⟩=some (.int .i64 kl)/\w'.cell? ⟨w.heap.size,4,none⟩=some (.int .i64 kh)/\w'.cell? ⟨w.heap.size,5,none⟩=some (.slice ka kn kd)/\w'.cell? ⟨w.heap.size,6,none⟩=some (.slice kb km kp)/\w'.cell? ⟨b,o,none⟩=some (.string nm)) (first|assumption|(simp[go_sem, *];done)) ((go_at_call 29;refine k2.mono ?_;rintro x3 w3 hA;obtain⟨rfl,hb3⟩:=hA;have z1:=(hb3.cell (p:=⟨w.heap.size,1,none⟩) lN).trans n1;have z2:=(hb3.cell (p:=⟨w.heap.size,2,none⟩) lN).trans n2;have z3:=(hb3.cell (p:=⟨w.heap.size,3,none⟩) lN).trans n3;have z4:=(hb3.cell (p:=⟨w.heap.size,4,none⟩) lN).trans n4;have z5:=(hb3.cell (p:=⟨w.heap.size,5,none⟩) lN).trans n5;have z6:=(hb3.cell (p:=⟨w.heap.size,6,none⟩) lN).trans n6;have z7:=(hb3.cell (p:=⟨b,o,none⟩) lb).trans c1'))
 have B0:Below w.heap.size w w3:=bt HBW.out.drew hb3;have HV3:Hid (FivB w3 (w.heap.size+1+1+1) (.int .i64 2) (.string pn) (.int .i64 0) (.int .i64 lu) (.int .i64 ld)):=(HV.out.below (aQ _ _).drew).below hb3;have HZ3:Hid (FivB w3 (w.heap.size+1+1) (.int .i64 0) (.string ⟨#[]⟩) (.int .i64 0) (.int .i64 0) (.int .i64 0)):=(HZ.out.below (aQ _ _).drew).below hb3;have HB0:Hid (Below w.heap.size w w3):=B0;clear k2 n1 n2 n3 n4 n5 n6 lN lb hb3 z1 z2 z3 z4 z5 z6 z7 m0 B0;by_cases c:er=0
 ·subst c
  obtain⟨X,hX⟩:∃ X,(w3.setCell ⟨w.heap.size+1+1+1,0,none⟩ (.int .i64 3)).setCell ⟨w.heap.size+1+1+1,2,none⟩ (.int .i64 z)=X:=⟨_,rfl⟩;have BX:Below w.heap.size w X:=hX▸bs (bs HB0.out (by simp;omega) _) (by simp;omega) _
  have HVX:FivB X (w.heap.size+1+1+1) (.int .i64 3) (.string pn) (.int .i64 z) (.int .i64 lu) (.int .i64 ld):=by
   rw[<-hX];obtain⟨q0,q1,q2,q3,q4,f0,f1,f2,f3,f4,hl⟩:=HV3.out;constructor <;> simp[nM,oM,jY,q0,q1,q2,q3,q4,f0,f1,f2,f3,f4,hl,go_sem]
  have HZX:FivB X (w.heap.size+1+1) (.int .i64 0) (.string ⟨#[]⟩) (.int .i64 0) (.int .i64 0) (.int .i64 0):=hX▸HZ3.out.gb (sQ (sQ (dX _ (some (w.heap.size+1+1+1))) _ _) _ _) (by simp);have HF:=wK HZX (.int .i64 3) (.string pn) (.int .i64 z) (.int .i64 lu) (.int .i64 ld);have HFF:Hid (FivB _ (w.heap.size+1+1) (.int .i64 3) (.string pn) (.int .i64 z) (.int .i64 lu) (.int .i64 ld)):=HF;obtain⟨q0,_,q2,_,_,g0,_,g2,_,_,_⟩:=HV3.out;obtain⟨r0,r1,r2,r3,r4,_,_,_,_,_,_⟩:=HVX;obtain⟨s0,s1,s2,s3,s4,f0,f1,f2,f3,f4,_⟩:=HZX;have HBX:Hid (Below w.heap.size w X):=BX;clear HF BX;go_wp2;obtain⟨t0,t1,t2,t3,t4,_,_,_,_,_,_⟩:=HFF.out;refine yQ (v:=.agg #[.int .i64 3,.string pn,.int .i64 z,.int .i64 lu,.int .i64 ld]) ?_ rfl ⟨rfl,?_⟩
  ·simp[results,results50,go_sem,t0,t1,t2,t3,t4]
  ·exact bs (bs (bs (bs (bs HBX.out (by simp;omega) _) (by simp;omega) _) (by simp;omega) _) (by simp;omega) _) (by simp;omega) _
 ·have c1:(er == 0)=false:=by simpa using c
  have HF:=wK HZ3.out (.int .i64 2) (.string pn) (.int .i64 0) (.int .i64 lu) (.int .i64 ld);have HFF:Hid (FivB _ (w.heap.size+1+1) (.int .i64 2) (.string pn) (.int .i64 0) (.int .i64 lu) (.int .i64 ld)):=HF;obtain⟨r0,r1,r2,r3,r4,_,_,_,_,_,_⟩:=HV3.out;obtain⟨s0,s1,s2,s3,s4,f0,f1,f2,f3,f4,_⟩:=HZ3.out;have hpr:zZ pn z er lu ld=(2,pn,0,lu,ld):=by unfold zZ;rw[qQ c]
  have HPR:Hid (zZ pn z er lu ld=(2,pn,0,lu,ld)):=hpr;clear HF hpr;go_wp2;obtain⟨t0,t1,t2,t3,t4,_,_,_,_,_,_⟩:=HFF.out;refine yQ (v:=.agg #[.int .i64 2,.string pn,.int .i64 0,.int .i64 lu,.int .i64 ld]) ?_ rfl ⟨?_,?_⟩
  ·simp[results,results50,go_sem,t0,t1,t2,t3,t4]
  ·rw[HPR.out]
  ·exact bs (bs (bs (bs (bs HB0.out (by simp;omega) _) (by simp;omega) _) (by simp;omega) _) (by simp;omega) _) (by simp;omega) _
end K.P
section
open Go.RowKit Ds
open K (Cl)
open K.P (HSt Keeps oQ eX rJ kX DskM xG xZ dQ Ev Sn dA zZ TwoB)
def Bx (w:World) (b:Nat) (cs:List Value):Prop:=∀ k v,cs[k]? = some v->Cl w b k v
theorem Bx.at {w w':World}{b:Nat}{cs:List Value}(h:Bx w b cs)(hb:Below w.heap.size w w'):Bx w' b cs:=fun k v hk=>(h k v hk).at hb
theorem Bx.kp {w w':World}{b:Nat}{cs:List Value}{N:Nat->Prop}(h:Bx w b cs)(hk:Keeps w w' N)(hn:¬ N b):Bx w' b cs:=fun k v hv=>K.P.kY (h k v hv) hk hn
theorem Bx.new (w:World)(cs:List Value)(t:TypeId){N:Nat}(hN:N=w.heap.size):Bx (w.alloc (.cells cs.toArray t)) N cs:=fun k v hk=>Cl.new _ t k v hN (by simpa using hk)
theorem Bx.set {w:World}{b i:Nat}{cs:List Value}(h:Bx w b cs)(hi:i<cs.length)(u:Value):Bx (w.setCell ⟨b,i,none⟩ u) b (cs.set i u):=fun k v hk=>by
 by_cases c:i=k
 ·subst c
  rw[lA hi] at hk;cases hk;obtain⟨z,hz⟩:∃ z,cs[i]? = some z:=⟨_,dZ hi⟩;exact(h i z hz).set _
 ·rw[yG c] at hk
  exact(h k v hk).oth (.inr c) _
theorem Bx.oth {w:World}{b b' k:Nat}{cs:List Value}(h:Bx w b cs)(hne:b'≠b)(u:Value):Bx (w.setCell ⟨b',k,none⟩ u) b cs:=fun j v hj=>(h j v hj).oth (.inl hne) _
theorem dtQ {u d lo hi:Int}{l:List K.Ds.jQ}{rs:List (List Int)}{q:K.Ds.Qu}{ls:List (List Pt)}{p q':Int}(h:fU u d lo hi l rs q=(ls,p,q',0)){w:World}{B:Nat}{v0 v1 v2 v3 v4 v5:Value}(hq:K.Qm w B q v0 v1 v2 v3 v4 v5):1<=ls.length/\K.Ds.fZ l rs=0:=by
 obtain⟨_,h1,h2,_⟩:=adJ h;have hqn:q≠.none:=by rintro rfl;exact hq.elim
 unfold K.iV at h1 h2;by_cases c:K.Ds.fZ l rs=0
 ·rw[xQ c] at h1 h2
  cases hb:K.Ds.bnd l 1 q with
  | error e =>
   rw[hb] at h1;exact absurd h1 (K.dsJ q 1 e hb)
  | ok b =>
   rw[hb] at h2;obtain⟨hco,hrl,_⟩:=K.Ds.gN c;have hs:=(K.Ds.iK hco).2.2.1;have h3:=K.dsX hs q 1 b _ _ _ _ _ _ hq hb;have h4:=(K.fP hs hrl q 1 b hb hqn).1;have h5:ls.length=(K.ans l rs q).length:=h2;exact⟨by omega,c⟩
 ·rw[qQ c] at h1
  exact absurd h1 c
open K (Cl)
open K.P (HSt Keeps oQ eX rJ kX DskM xG xZ dQ Ev Sn dA zZ TwoB)
abbrev fD:Value:=.agg #[.slice none 0 0,.int .i64 0,.int .i64 0,.int .i64 0]
def rI (M:Nat->Prop) (bh bd bw:Nat) (a:Option Addr) (c:Nat) (l:List K.Ds.jQ) (ts:List (List Int)) (s':HSt) (er:Int) (tl:Option (List Int × Nat)) (lu ld:Int) (w:World) (e:Ending) (w':World):Prop :=
 Keeps w w' (fun k=>M k\/k=bd\/k=bw)/\DskM w' bd bw a c s'.disk s'.left/\∃ M':Nat->Prop,(∀ k,M' k->M k\/w.heap.size<=k/\k<w'.heap.size) /\
  (s'.brk=false->kX w' M' bh bd l ts s'.done)/\(s'.brk=true->Cl w' bh 5 (.bool true)) /\
  ((er≠0/\e=.returned (.tuple #[fD,.int .i64 er])) \/
   (er=0/\∃ vs us g,tl=some (vs,us)/\vs≠[]/\vs.length<=4096/\us<=65536/\e=.returned (.tuple #[.agg #[.slice (some ⟨g,0,none⟩) (vs:List Int).length vs.length,.int .i64 (us:Int),.int .i64 lu,.int .i64 ld],.int .i64 0])/\w.heap.size<=g/\¬ M' g/\K.RowI w' g vs))
theorem dtX (bh:Nat)(pn:ByteArray)(v0 v1 v2 v3 v4 v5 bv:Value)(u d lo hi:Int)(w:World)(h:Cl w bh 5 (.bool true))(hs:∃ k c kl kh wa wn wc a n cap,v0=.int .i64 k/\v1=.string c/\v2=.int .i64 kl/\v3=.int .i64 kh/\v4=.slice wa wn wc/\v5=.slice a n cap)(hbv:∃ a n c,bv=.slice a n c) :
  Calls prog 27 #[.pointer (some ⟨bh,0,none⟩),dA pn v0 v1 v2 v3 v4 v5 u d lo hi bv] w fun e w'=>e=.returned (.tuple #[fD,.int .i64 9])/\Below w.heap.size w w':=by
 obtain⟨k,c,kl,kh,wa,wn,wc,a,n,cap,rfl,rfl,rfl,rfl,rfl,rfl⟩:=hs;obtain⟨ba0,bn0,bc0,rfl⟩:=hbv;obtain⟨W,hW⟩:∃ W,(w.alloc (.cells #[.string pn,.int .i64 k,.string c,.int .i64 kl,.int .i64 kh,.slice wa wn wc,.slice a n cap,.int .i64 u,.int .i64 d,.int .i64 lo,.int .i64 hi,.slice ba0 bn0 bc0] 39)).alloc (.cells #[.slice none 0 0,.int .i64 0,.int .i64 0,.int .i64 0] 49)=W:=⟨_,rfl⟩;have hbW:Below w.heap.size w W:=hW▸bal (ba _ _) _;have m5:=(h.at hbW).c;have hR:Bx W (w.heap.size+1) [.slice none 0 0,.int .i64 0,.int .i64 0,.int .i64 0]:=hW▸Bx.new _ [.slice none 0 0,.int .i64 0,.int .i64 0,.int .i64 0] 49 (by simp);have r0:=(hR 0 _ rfl).c;have r1:=(hR 1 _ rfl).c;have r2:=(hR 2 _ rfl).c;have r3:=(hR 3 _ rfl).c;have f0:=(hR 0 _ rfl).f;have f1:=(hR 1 _ rfl).f;have f2:=(hR 2 _ rfl).f;have f3:=(hR 3 _ rfl).f;have hF:=(((hR.set (i:=0) (by decide) (.slice none 0 0)).set (i:=1) (by decide) (.int .i64 0)).set (i:=2) (by decide) (.int .i64 0)).set (i:=3) (by decide) (.int .i64 0);have x0:=(hF 0 _ rfl).c;have x1:=(hF 1 _ rfl).c;have x2:=(hF 2 _ rfl).c;have x3:=(hF 3 _ rfl).c;clear hR hF;go_enter func27,ntmps27;go_wp2;refine yQ (v:=.tuple #[fD,.int .i64 9]) ?_ rfl ⟨rfl,?_⟩
 ·simp[results,results27,go_sem,x0,x1,x2,x3]
 ·exact bs (bs (bs (bs hbW (by simp) _) (by simp) _) (by simp) _) (by simp) _
open K (Cl)
open K.P (HSt Keeps oQ eX rJ kX HouK DskM xG xZ dQ Ev Sn dA zZ TwoB)
def gD (e1:Int) (bits:List Int):Int:=if e1≠0 then e1 else nA bits 0
theorem dtZ {W w3:World}(hb:Below (W.alloc (.cells #[.int .i64 0,.int .i64 0] 32)).drew.heap.size (W.alloc (.cells #[.int .i64 0,.int .i64 0] 32)).drew w3):TwoB w3 W.heap.size (.int .i64 0) (.int .i64 0) :=
 ((TwoB.new W _ _ 32 _ rfl).below (aQ _ _).drew).below hb
structure AkC (w:World) (E bh:Nat) (pn:ByteArray) (v0 v1 v2 v3 v4 v5 bv:Value) (u d lo hi:Int) (cv rv:Value):Prop where
 b:Bx w E [.string pn,v0,v1,v2,v3,v4,v5,.int .i64 u,.int .i64 d,.int .i64 lo,.int .i64 hi,bv]
 c0:Cl w bh 0 cv
 c1:Cl w bh 1 rv
theorem AkC.at {w w':World}{E bh:Nat}{pn:ByteArray}{v0 v1 v2 v3 v4 v5 bv:Value}{u d lo hi:Int}{cv rv:Value}(h:AkC w E bh pn v0 v1 v2 v3 v4 v5 bv u d lo hi cv rv)(hb:Below w.heap.size w w'):AkC w' E bh pn v0 v1 v2 v3 v4 v5 bv u d lo hi cv rv:=⟨h.b.at hb,h.c0.at hb,h.c1.at hb⟩
theorem AkC.cells {w:World}{E bh:Nat}{pn:ByteArray}{v0 v1 v2 v3 v4 v5 bv:Value}{u d lo hi:Int}{cv rv:Value}(h:AkC w E bh pn v0 v1 v2 v3 v4 v5 bv u d lo hi cv rv):w.cell? ⟨E,1,none⟩=some v0/\w.cell? ⟨E,2,none⟩=some v1/\w.cell? ⟨E,3,none⟩=some v2/\w.cell? ⟨E,4,none⟩=some v3/\w.cell? ⟨E,5,none⟩=some v4/\w.cell? ⟨E,6,none⟩=some v5/\w.cell? ⟨E,7,none⟩=some (.int .i64 u)/\w.cell? ⟨E,8,none⟩=some (.int .i64 d)/\w.cell? ⟨E,9,none⟩=some (.int .i64 lo)/\w.cell? ⟨E,10,none⟩=some (.int .i64 hi)/\w.cell? ⟨bh,0,none⟩=some cv/\w.cell? ⟨bh,1,none⟩=some rv :=
 ⟨(h.b 1 _ rfl).c,(h.b 2 _ rfl).c,(h.b 3 _ rfl).c,(h.b 4 _ rfl).c,(h.b 5 _ rfl).c,(h.b 6 _ rfl).c,(h.b 7 _ rfl).c,(h.b 8 _ rfl).c,(h.b 9 _ rfl).c,(h.b 10 _ rfl).c,h.c0.c,h.c1.c⟩
theorem AkC.oth2 {w:World}{E bh g:Nat}{pn:ByteArray}{v0 v1 v2 v3 v4 v5 bv:Value}{u d lo hi:Int}{cv rv:Value}(h:AkC w E bh pn v0 v1 v2 v3 v4 v5 bv u d lo hi cv rv)(h1:g≠E)(h2:g≠bh)(x y:Value):AkC ((w.setCell ⟨g,0,none⟩ x).setCell ⟨g,1,none⟩ y) E bh pn v0 v1 v2 v3 v4 v5 bv u d lo hi cv rv :=
 ⟨(h.b.oth h1 _).oth h1 _,(h.c0.oth (.inl h2) _).oth (.inl h2) _,(h.c1.oth (.inl h2) _).oth (.inl h2) _⟩
theorem dtJ {w w':World}{h:Nat}{v:Value}{xs:List Int}{K:Nat->Prop}(hi:∀ m,m<h->zQ w w.heap.size m v xs)(h0:0<h)(hk:Keeps w w' K)(hK:∀ k,K k->k<h):zQ w' w'.heap.size w'.heap.size v xs:=by
 obtain⟨a,c,hv,hc,hl,hx⟩:=hi 0 h0;refine⟨a,c,hv,hc,hl,fun hne=>?_⟩;obtain⟨b,o,ha,hb,_,hcell⟩:=hx hne
 have hbh:¬ K b:=fun hkb=>by
  obtain⟨a',c',hv',_,_,hx'⟩:=hi b (hK b hkb);rw[hv] at hv';cases hv';obtain⟨b',o',ha',_,hbn,_⟩:=hx' hne;rw[ha] at ha';cases ha';exact hbn rfl
 have e:=hk.block b hb hbh;have hs:=hk.size;exact⟨b,o,ha,by omega,by omega,fun i x hix=>(mZ (w:=w) (a:=⟨b,o+i,none⟩) e).trans (hcell i x hix)⟩
theorem duQ {w w':World}{h:Nat}{v:Value}{ts:List Tr}{K:Nat->Prop}(hi:∀ m,m<h->oD w w.heap.size m v ts)(h0:0<h)(hk:Keeps w w' K)(hK:∀ k,K k->k<h):xX w' w'.heap.size v ts:=by
 obtain⟨a,c,hv,hc,hl,hI,hx⟩:=hi 0 h0;refine⟨a,c,hv,hc,hl,fun t ht=>dtJ (fun m hm=>?_) h0 hk hK,fun hne=>?_⟩
 ·obtain⟨_,_,_,_,_,hI',_⟩:=hi m hm
  exact hI' t ht
 obtain⟨b,o,ha,hb,_,hcell⟩:=hx hne
 have hbh:¬ K b:=fun hkb=>by
  obtain⟨a',c',hv',_,_,_,hx'⟩:=hi b (hK b hkb);rw[hv] at hv';cases hv';obtain⟨b',o',ha',_,hbn,_⟩:=hx' hne;rw[ha] at ha';cases ha';exact hbn rfl
 have e:=hk.block b hb hbh;have hs:=hk.size;refine⟨b,o,ha,by omega,fun i t hit=>?_⟩;obtain⟨k1,k2⟩:=hcell i t hit;exact⟨(mZ (w:=w) (a:=⟨b,_,none⟩) e).trans k1,(mZ (w:=w) (a:=⟨b,_,none⟩) e).trans k2⟩
theorem duX {w w':World}{h:Nat}{v:Value}{zs:List Dz}{K:Nat->Prop}(d:mJ w h v zs)(h0:0<h)(hk:Keeps w w' K)(hK:∀ k,K k->k<h):gK w' w'.heap.size v zs:=by
 obtain⟨a,c,hv,hc,hl,hi,hx⟩:=d;refine⟨a,c,hv,hc,hl,fun z hz=>duQ (hi z hz) h0 hk hK,fun hne=>?_⟩;obtain⟨b,o,ha,h1,h2,hcell⟩:=hx hne;have e:=hk.block b h2 (fun c=>by have:=hK b c;omega);have hs:=hk.size;exact⟨b,o,ha,by omega,fun i z hz=>(mZ (w:=w) (a:=⟨b,o+i,none⟩) e).trans (hcell i z hz)⟩
theorem duZ (pn:ByteArray)(z ez lu ld:Int):K.P.nrm (zZ pn z ez lu ld)=zZ pn z ez lu ld:=by
 unfold zZ;split <;> rfl
theorem duJ (pn:ByteArray)(z ez lu ld:Int):(zZ pn z ez lu ld).2.1=pn:=by
 unfold zZ;split <;> rfl
theorem dvQ {pn:ByteArray}{z ez lu ld:Int}(h:0<=z/\z<=4096):-9223372036854775808<=(zZ pn z ez lu ld).2.2.1/\(zZ pn z ez lu ld).2.2.1<=9223372036854775807:=by
 unfold zZ;split
 ·simp only;omega
 ·simp only;omega
theorem dvX {disk:List Int}{left:Int}{done:List K.P.En}{e:K.P.En}{s':HSt}(h:xZ ⟨disk,left,true,false,done⟩ e=(s',0)):s'.brk=false:=by
 unfold xZ at h;split at h
 ·simp at h
 ·split at h
  ·simp only[cQ] at h;rename_i c;exact absurd h.2 c
  ·split at h
   ·simp only[cQ] at h;rw[<-h.1]
   ·simp at h
theorem dvZ {l:List Pt}(h:bU l=(l,0))(bits:List Int):∃ l2,nL l bits 0=(l2,nA bits 0):=by
 unfold nL;rw[h];simp only[zD];unfold rF;by_cases c:nA bits 0=0
 ·rw[xQ c];exact⟨_,by rw[c]⟩
 ·rw[qQ c];exact⟨_,rfl⟩
theorem dvJ {bits:List Int}(h:nA bits 0=0):dY bits=false/\bits.length<=65536:=by
 unfold nA at h;split at h
 ·cases h
 ·split at h
  ·cases h
  ·rename_i h1 h2
   refine⟨?_,by omega⟩;cases hb:dY bits with
   | false=>rfl
   | true=>exact absurd (.inr (.inr hb)) h2

import Derived.Test.YtdceajgpolckiaaGreatDoorQr42
import Derived.Test.YtdceajgpolckiaaGreatDoorQr31
open Go.Proofs.Tryz
set_option linter.unusedSimpArgs false
set_option maxHeartbeats 16000000
set_option maxRecDepth 100000
namespace Go.Proofs.YtdceajgpolckiaaGreatDoor
variable {pn s:ByteArray} {d er p q' u z:Int} {W X w w' w3:World} {B B' E b bh g h i:Nat} {a0 a1 a2 a3 bv cv v v0 v1 v2 v3 v4 v5:Value} {rs ts:List (List Int)} {N:Nat->Prop} {bits disk xs:List Int}
namespace K.P
open Go.RowKit K.Ds
theorem ewZ {l:List yQ}{q:Qu}(h:xJ (prt l q s)=(z,er)):0<=z/\z<=4096:=by
 have key:∀ x:Except Int Int,xJ x=(z,er)->(∀ v,x=.ok v->0<=v/\v<=4096)->0<=z/\z<=4096:=by
  intro x hx hv;cases x with
  | error e=>simp only[xJ,fQ] at hx;omega
  | ok v=>simp only[xJ,fQ] at hx;have:=hv v rfl;omega
 refine key _ h fun v hv=>?_;unfold prt at hv;split at hv
 ·cases hv
 ·rename_i b hb
  split at hv
  ·cases hv
  ·rename_i i hi
   split at hv
   ·cases hv
   ·rename_i v' hv'
    split at hv
    ·rename_i hc
     cases hv;have hsz:=(oK (agZ hb).1).2.2.1;have hlt:=pK hi
     have:dU l i<=4096:=by
      unfold dU;rw[zJ hlt];exact(hsz _ (List.getElem_mem hlt)).2
     omega
    ·cases hv
theorem iC (hB:B<=B')(q:Qu):∀ {v0 v1 v2 v3 v4 v5:Value},Qm w B q v0 v1 v2 v3 v4 v5->Qm w B' q v0 v1 v2 v3 v4 v5:=by
 induction q with
 | none=>intro v0 v1 v2 v3 v4 v5 h;exact h
 | node k c lo hi wh n x y ihx ihy =>
  rintro v0 v1 v2 v3 v4 v5 ⟨h0,h1,h2,h3,hc,hw,a,cap,h5,hn,hm,hk⟩;refine⟨h0,h1,h2,h3,hc,hw.mono hB,a,cap,h5,hn,hm,fun g1 g2=>?_⟩;obtain⟨b,o,ha,hb,⟨u0,u1,u2,u3,u4,u5,hx,hq⟩,h2⟩:=hk g1 g2;refine⟨b,o,ha,by omega,⟨u0,u1,u2,u3,u4,u5,hx,ihx hq⟩,fun g=>?_⟩;obtain⟨u0,u1,u2,u3,u4,u5,hx,hq⟩:=h2 g;exact⟨u0,u1,u2,u3,u4,u5,hx,ihy hq⟩
theorem buJ {rv:Value}{l:List yQ}(ht:wD w h B cv rv l ts)(hB:B<=w.heap.size):∃ rs,rr rs=ts/\rQ w w.heap.size cv l/\tQ w w.heap.size rv rs:=by
 obtain⟨rs,h1,h2⟩:=ht;obtain⟨h3,h4⟩:=h2 w ⟨hB,fun _ _ _=>rfl⟩;exact⟨rs,h1,h3.mono hB,h4.mono hB⟩
abbrev uD (pn:ByteArray) (v0 v1 v2 v3 v4 v5:Value) (u d lo hi:Int) (bv:Value):Value:=.agg #[.string pn,v0,v1,v2,v3,v4,v5,.int .i64 u,.int .i64 d,.int .i64 lo,.int .i64 hi,bv]
def gV (pn:ByteArray) (z er lu ld:Int):En:=if er=0 then (3,pn,z,lu,ld) else (2,pn,0,lu,ld)
theorem ewJ (M:Nat->Prop)(bh bd B:Nat)(l:List yQ)(ts:List (List Int))(done:List En)(pn:ByteArray)(v0 v1 v2 v3 v4 v5 bv:Value)(q:Qu)(u d lo hi lu ld:Int)(w:World)(hh:dZ w M bh bd l ts done)(hB:B<=w.heap.size)(hq:Qm w B q v0 v1 v2 v3 v4 v5)(hbv:∃ a n c,bv=.slice a n c)(nm0:ByteArray)(sz0:Int)(hl0:l[0]? = some (nm0,sz0))(z er:Int)(hz:xJ (prt l q nm0)=(z,er)) :
  Calls prog 50 #[.pointer (some ⟨bh,0,none⟩),uD pn v0 v1 v2 v3 v4 v5 u d lo hi bv,.agg #[.int .i64 lu,.int .i64 ld]] w fun e w'=>e=.returned (ev (gV pn z er lu ld))/\Below w.heap.size w w':=by
 obtain⟨cv,rv,bk,bm,n,v,D,h,BB,N,k⟩:=hh;obtain⟨ba0,bn0,bc0,rfl⟩:=hbv;obtain⟨kk,kc,kl,kh,ka,kn,kd,kb,km,kp,rfl,rfl,rfl,rfl,rfl,rfl⟩:=hq.shape;obtain⟨W,hW⟩:∃ W,(((w.alloc (.cells #[.string pn,.int .i64 kk,.string kc,.int .i64 kl,.int .i64 kh,.slice ka kn kd,.slice kb km kp,.int .i64 u,.int .i64 d,.int .i64 lo,.int .i64 hi,.slice ba0 bn0 bc0] 39)).alloc (.cells #[.int .i64 lu,.int .i64 ld] 32)).alloc (.cells #[.int .i64 0,.string ⟨#[]⟩,.int .i64 0,.int .i64 0,.int .i64 0] 53)).alloc (.cells #[.int .i64 2,.string pn,.int .i64 0,.int .i64 lu,.int .i64 ld] 53)=W:=⟨_,rfl⟩;have hbW:Below w.heap.size w W:=hW▸bal (bal (bal (ba _ _) _) _) _;have A1:Cl W w.heap.size 1 (.int .i64 kk):=hW▸(((Cl.new _ 39 1 _ rfl rfl).at (ba _ _)).at (ba _ _)).at (ba _ _);have A2:Cl W w.heap.size 2 (.string kc):=hW▸(((Cl.new _ 39 2 _ rfl rfl).at (ba _ _)).at (ba _ _)).at (ba _ _);have A3:Cl W w.heap.size 3 (.int .i64 kl):=hW▸(((Cl.new _ 39 3 _ rfl rfl).at (ba _ _)).at (ba _ _)).at (ba _ _);have A4:Cl W w.heap.size 4 (.int .i64 kh):=hW▸(((Cl.new _ 39 4 _ rfl rfl).at (ba _ _)).at (ba _ _)).at (ba _ _);have A5:Cl W w.heap.size 5 (.slice ka kn kd):=hW▸(((Cl.new _ 39 5 _ rfl rfl).at (ba _ _)).at (ba _ _)).at (ba _ _);have A6:Cl W w.heap.size 6 (.slice kb km kp):=hW▸(((Cl.new _ 39 6 _ rfl rfl).at (ba _ _)).at (ba _ _)).at (ba _ _);have HZ:Hid (FivB W (w.heap.size+1+1) (.int .i64 0) (.string ⟨#[]⟩) (.int .i64 0) (.int .i64 0) (.int .i64 0)):=hW▸(FivB.new _ _ _ _ _ _ 53 _ (by simp)).below (ba _ _);have HV:Hid (FivB W (w.heap.size+1+1+1) (.int .i64 2) (.string pn) (.int .i64 0) (.int .i64 lu) (.int .i64 ld)):=hW▸FivB.new _ _ _ _ _ _ 53 _ (by simp);have hC:HouC W bh bd cv rv bk done.length false:=k.hc.at hbW;have hT:wD W.drew h BB cv rv l ts:=(k.tb.kp (K:=fun _=>False) (xX hbW) k.hB.2 (fun _ _ _ h=>h)).kp (K:=fun _=>False) (xX (aQ _ _).drew) (bQ k.hB.2 hbW.size) (fun _ _ _ h=>h);obtain⟨rs,hrs,hp,_⟩:=buJ hT (bQ k.hB.2 hbW.size);have h0:0<l.length:=(cQ.1 hl0).1;obtain⟨ca,cc,rfl,_⟩:=hp.slice;obtain⟨b,o,nm,sz,rfl,hb,hgt,c1,_,_⟩:=hp.get (vQ _) (aQ _ _) h0;obtain⟨rfl,rfl⟩:nm=nm0/\sz=sz0:=by rw[hl0] at hgt;simpa [eq_comm] using hgt
 have c1':W.cell? ⟨b,o,none⟩=some (.string nm):=by simpa using c1
 have hq2:Qm W.drew W.heap.size q (.int .i64 kk) (.string kc) (.int .i64 kl) (.int .i64 kh) (.slice ka kn kd) (.slice kb km kp):=iC (bQ hB hbW.size) q (hq.at hB hbW.drew);have k2:=buZ l q nm W.drew W.heap.size _ _ _ _ _ _ _ z er (vQ _) hp hq2 hz;have m0:=hC.c0.c;have n1:=A1.c;have n2:=A2.c;have n3:=A3.c;have n4:=A4.c;have n5:=A5.c;have n6:=A6.c;have lN:w.heap.size<W.heap.size:=A1.lt;have lb:b<W.heap.size:=hb;have hlI:(0:Int)<(l.length:Int):=by omega
 have HBW:=qQ hbW;clear hp hq hq2 hz hgt c1 A1 A2 A3 A4 A5 A6 hC hT k hl0 hrs hbW;go_enter func50,ntmps50;go_wp2;clear hW
 go_region_held3 (fun w'=>w'.cell? ⟨w.heap.size,1,none⟩=some (.int .i64 kk)/\w'.cell? ⟨w.heap.size,2,none⟩=some (.string kc)/\w'.cell? ⟨w.heap.size,3,none⟩=some (.int .i64 kl)/\w'.cell? ⟨w.heap.size,4,none⟩=some (.int .i64 kh)/\w'.cell? ⟨w.heap.size,5,none⟩=some (.slice ka kn kd)/\w'.cell? ⟨w.heap.size,6,none⟩=some (.slice kb km kp)/\w'.cell? ⟨b,o,none⟩=some (.string nm)) (first|assumption|(simp[go_sem, *];done)) ((go_at_call 29;refine k2.mono ?_;rintro x3 w3 hA;obtain⟨rfl,hb3⟩:=hA;have z1:=(hb3.cell (p:=⟨w.heap.size,1,none⟩) lN).trans n1;have z2:=(hb3.cell (p:=⟨w.heap.size,2,none⟩) lN).trans n2;have z3:=(hb3.cell (p:=⟨w.heap.size,3,none⟩) lN).trans n3;have z4:=(hb3.cell (p:=⟨w.heap.size,4,none⟩) lN).trans n4;have z5:=(hb3.cell (p:=⟨w.heap.size,5,none⟩) lN).trans n5;have z6:=(hb3.cell (p:=⟨w.heap.size,6,none⟩) lN).trans n6;have z7:=(hb3.cell (p:=⟨b,o,none⟩) lb).trans c1'))
 have B0:Below w.heap.size w w3:=bt HBW.out.drew hb3;have HV3:=qQ ((HV.out.below (aQ _ _).drew).below hb3);have HZ3:=qQ ((HZ.out.below (aQ _ _).drew).below hb3);have HB0:=qQ B0;clear k2 n1 n2 n3 n4 n5 n6 lN lb hb3 z1 z2 z3 z4 z5 z6 z7 m0 B0;by_cases c:er=0
 ·subst c
  obtain⟨X,hX⟩:∃ X,(w3.setCell ⟨w.heap.size+1+1+1,0,none⟩ (.int .i64 3)).setCell ⟨w.heap.size+1+1+1,2,none⟩ (.int .i64 z)=X:=⟨_,rfl⟩;have BX:Below w.heap.size w X:=hX▸bs (bs HB0.out (by simp;omega) _) (by simp;omega) _
  have HVX:FivB X (w.heap.size+1+1+1) (.int .i64 3) (.string pn) (.int .i64 z) (.int .i64 lu) (.int .i64 ld):=by
   rw[<-hX];obtain⟨q0,q1,q2,q3,q4,f0,f1,f2,f3,f4,hl⟩:=HV3.out;constructor <;> simp[tS,wS,tZ,q0,q1,q2,q3,q4,f0,f1,f2,f3,f4,hl,go_sem]
  have HZX:FivB X (w.heap.size+1+1) (.int .i64 0) (.string ⟨#[]⟩) (.int .i64 0) (.int .i64 0) (.int .i64 0):=hX▸HZ3.out.gb (nQ (nQ (jX _ (some (w.heap.size+1+1+1))) _ _) _ _) (by simp);have HF:=aS HZX (.int .i64 3) (.string pn) (.int .i64 z) (.int .i64 lu) (.int .i64 ld);have HFF:=qQ HF;obtain⟨q0,_,q2,_,_,g0,_,g2,_,_,_⟩:=HV3.out;obtain⟨r0,r1,r2,r3,r4,_,_,_,_,_,_⟩:=HVX;obtain⟨s0,s1,s2,s3,s4,f0,f1,f2,f3,f4,_⟩:=HZX;have HBX:=qQ BX;clear HF BX;go_wp2;obtain⟨t0,t1,t2,t3,t4,_,_,_,_,_,_⟩:=HFF.out;refine uQ (v:=.agg #[.int .i64 3,.string pn,.int .i64 z,.int .i64 lu,.int .i64 ld]) ?_ rfl ⟨rfl,?_⟩
  ·simp[results,results50,go_sem,t0,t1,t2,t3,t4]
  ·exact bs (bs (bs (bs (bs HBX.out (by simp;omega) _) (by simp;omega) _) (by simp;omega) _) (by simp;omega) _) (by simp;omega) _
 ·have c1:(er == 0)=false:=by simpa using c
  have HF:=aS HZ3.out (.int .i64 2) (.string pn) (.int .i64 0) (.int .i64 lu) (.int .i64 ld);have HFF:=qQ HF;obtain⟨r0,r1,r2,r3,r4,_,_,_,_,_,_⟩:=HV3.out;obtain⟨s0,s1,s2,s3,s4,f0,f1,f2,f3,f4,_⟩:=HZ3.out;have hpr:gV pn z er lu ld=(2,pn,0,lu,ld):=by unfold gV;rw[xQ c]
  have HPR:=qQ hpr;clear HF hpr;go_wp2;obtain⟨t0,t1,t2,t3,t4,_,_,_,_,_,_⟩:=HFF.out;refine uQ (v:=.agg #[.int .i64 2,.string pn,.int .i64 0,.int .i64 lu,.int .i64 ld]) ?_ rfl ⟨?_,?_⟩
  ·simp[results,results50,go_sem,t0,t1,t2,t3,t4]
  ·rw[HPR.out]
  ·exact bs (bs (bs (bs (bs HB0.out (by simp;omega) _) (by simp;omega) _) (by simp;omega) _) (by simp;omega) _) (by simp;omega) _
end K.P
section
open Go.RowKit Ds
open K (Cl)
open K.P (HSt Keeps xX vJ jU dZ DskM iG vZ pZ Ev Sn uD gV TwoB)
def Bx (w:World) (b:Nat) (cs:List Value):Prop:=∀ k v,cs[k]? = some v->Cl w b k v
theorem Bx.at {cs:List Value}(h:Bx w b cs)(hb:Below w.heap.size w w'):Bx w' b cs:=fun k v hk=>(h k v hk).at hb
theorem Bx.kp {cs:List Value}(h:Bx w b cs)(hk:Keeps w w' N)(hn:¬ N b):Bx w' b cs:=fun k v hv=>K.P.pU (h k v hv) hk hn
theorem Bx.new (w:World)(cs:List Value)(t:TypeId){N:Nat}(hN:N=w.heap.size):Bx (w.alloc (.cells cs.toArray t)) N cs:=fun k v hk=>Cl.new _ t k v hN (by simpa using hk)
theorem Bx.set {cs:List Value}(h:Bx w b cs)(hi:i<cs.length)(u:Value):Bx (w.setCell ⟨b,i,none⟩ u) b (cs.set i u):=fun k v hk=>by
 by_cases c:i=k
 ·subst c
  rw[sA hi] at hk;cases hk;obtain⟨z,hz⟩:∃ z,cs[i]? = some z:=⟨_,zJ hi⟩;exact(h i z hz).set _
 ·rw[oG c] at hk
  exact(h k v hk).oth (.inr c) _
theorem Bx.oth {b' k:Nat}{cs:List Value}(h:Bx w b cs)(hne:b'≠b)(u:Value):Bx (w.setCell ⟨b',k,none⟩ u) b cs:=fun j v hj=>(h j v hj).oth (.inl hne) _
theorem exJ {lo hi:Int}{l:List K.Ds.yQ}{q:K.Ds.Qu}{ls:List (List Pt)}(h:rY u d lo hi l rs q=(ls,p,q',0))(hq:K.Qm w B q v0 v1 v2 v3 v4 v5):1<=ls.length/\K.Ds.iJ l rs=0:=by
 obtain⟨_,h1,h2,_⟩:=aaQ h;have hqn:q≠.none:=by rintro rfl;exact hq.elim
 unfold K.pY at h1 h2;by_cases c:K.Ds.iJ l rs=0
 ·rw[zQ c] at h1 h2
  cases hb:K.Ds.bnd l 1 q with
  | error e =>
   rw[hb] at h1;exact absurd h1 (K.exZ q 1 e hb)
  | ok b =>
   rw[hb] at h2;obtain⟨hco,hrl,_⟩:=K.Ds.eO c;have hs:=(K.Ds.oK hco).2.2.1;have h3:=K.exQ hs q 1 b _ _ _ _ _ _ hq hb;have h4:=(K.fB hs hrl q 1 b hb hqn).1;have h5:ls.length=(K.ans l rs q).length:=h2;exact⟨by omega,c⟩
 ·rw[xQ c] at h1
  exact absurd h1 c
open K (Cl)
open K.P (HSt Keeps xX vJ jU dZ DskM iG vZ pZ Ev Sn uD gV TwoB)
abbrev wH:Value:=.agg #[.slice none 0 0,.int .i64 0,.int .i64 0,.int .i64 0]
def qM (M:Nat->Prop) (bh bd bw:Nat) (a:Option Addr) (c:Nat) (l:List K.Ds.yQ) (ts:List (List Int)) (s':HSt) (er:Int) (tl:Option (List Int × Nat)) (lu ld:Int) (w:World) (e:Ending) (w':World):Prop :=
 Keeps w w' (fun k=>M k\/k=bd\/k=bw)/\DskM w' bd bw a c s'.disk s'.left/\∃ M':Nat->Prop,(∀ k,M' k->M k\/w.heap.size<=k/\k<w'.heap.size) /\
  (s'.brk=false->dZ w' M' bh bd l ts s'.done)/\(s'.brk=true->Cl w' bh 5 (.bool true)) /\
  ((er≠0/\e=.returned (.tuple #[wH,.int .i64 er])) \/
   (er=0/\∃ vs us g,tl=some (vs,us)/\vs≠[]/\vs.length<=4096/\us<=65536/\e=.returned (.tuple #[.agg #[.slice (some ⟨g,0,none⟩) (vs:List Int).length vs.length,.int .i64 (us:Int),.int .i64 lu,.int .i64 ld],.int .i64 0])/\w.heap.size<=g/\¬ M' g/\K.RowI w' g vs))
open K (Cl)
open K.P (HSt Keeps xX vJ jU dZ HouK DskM iG vZ pZ Ev Sn uD gV TwoB)
def kG (e1:Int) (bits:List Int):Int:=if e1≠0 then e1 else bA bits 0
theorem eyQ (hb:Below (W.alloc (.cells #[.int .i64 0,.int .i64 0] 32)).drew.heap.size (W.alloc (.cells #[.int .i64 0,.int .i64 0] 32)).drew w3):TwoB w3 W.heap.size (.int .i64 0) (.int .i64 0) :=
 ((TwoB.new W _ _ 32 _ rfl).below (aQ _ _).drew).below hb
structure AkC (w:World) (E bh:Nat) (pn:ByteArray) (v0 v1 v2 v3 v4 v5 bv:Value) (u d lo hi:Int) (cv rv:Value):Prop where
 b:Bx w E [.string pn,v0,v1,v2,v3,v4,v5,.int .i64 u,.int .i64 d,.int .i64 lo,.int .i64 hi,bv]
 c0:Cl w bh 0 cv
 c1:Cl w bh 1 rv
theorem AkC.at {lo hi:Int}{rv:Value}(h:AkC w E bh pn v0 v1 v2 v3 v4 v5 bv u d lo hi cv rv)(hb:Below w.heap.size w w'):AkC w' E bh pn v0 v1 v2 v3 v4 v5 bv u d lo hi cv rv:=⟨h.b.at hb,h.c0.at hb,h.c1.at hb⟩
theorem AkC.cells {lo hi:Int}{rv:Value}(h:AkC w E bh pn v0 v1 v2 v3 v4 v5 bv u d lo hi cv rv):w.cell? ⟨E,1,none⟩=some v0/\w.cell? ⟨E,2,none⟩=some v1/\w.cell? ⟨E,3,none⟩=some v2/\w.cell? ⟨E,4,none⟩=some v3/\w.cell? ⟨E,5,none⟩=some v4/\w.cell? ⟨E,6,none⟩=some v5/\w.cell? ⟨E,7,none⟩=some (.int .i64 u)/\w.cell? ⟨E,8,none⟩=some (.int .i64 d)/\w.cell? ⟨E,9,none⟩=some (.int .i64 lo)/\w.cell? ⟨E,10,none⟩=some (.int .i64 hi)/\w.cell? ⟨bh,0,none⟩=some cv/\w.cell? ⟨bh,1,none⟩=some rv :=
 ⟨(h.b 1 _ rfl).c,(h.b 2 _ rfl).c,(h.b 3 _ rfl).c,(h.b 4 _ rfl).c,(h.b 5 _ rfl).c,(h.b 6 _ rfl).c,(h.b 7 _ rfl).c,(h.b 8 _ rfl).c,(h.b 9 _ rfl).c,(h.b 10 _ rfl).c,h.c0.c,h.c1.c⟩
theorem AkC.oth2 {lo hi:Int}{rv:Value}(h:AkC w E bh pn v0 v1 v2 v3 v4 v5 bv u d lo hi cv rv)(h1:g≠E)(h2:g≠bh)(x y:Value):AkC ((w.setCell ⟨g,0,none⟩ x).setCell ⟨g,1,none⟩ y) E bh pn v0 v1 v2 v3 v4 v5 bv u d lo hi cv rv :=
 ⟨(h.b.oth h1 _).oth h1 _,(h.c0.oth (.inl h2) _).oth (.inl h2) _,(h.c1.oth (.inl h2) _).oth (.inl h2) _⟩
theorem eyX {K:Nat->Prop}(hi:∀ m,m<h->jQ w w.heap.size m v xs)(h0:0<h)(hk:Keeps w w' K)(hK:∀ k,K k->k<h):jQ w' w'.heap.size w'.heap.size v xs:=by
 obtain⟨a,c,hv,hc,hl,hx⟩:=hi 0 h0;refine⟨a,c,hv,hc,hl,fun hne=>?_⟩;obtain⟨b,o,ha,hb,_,hcell⟩:=hx hne
 have hbh:¬ K b:=fun hkb=>by
  obtain⟨a',c',hv',_,_,hx'⟩:=hi b (hK b hkb);rw[hv] at hv';cases hv';obtain⟨b',o',ha',_,hbn,_⟩:=hx' hne;rw[ha] at ha';cases ha';exact hbn rfl
 have e:=hk.block b hb hbh;have hs:=hk.size;exact⟨b,o,ha,by omega,by omega,fun i x hix=>(rZ (w:=w) (a:=⟨b,o+i,none⟩) e).trans (hcell i x hix)⟩
theorem eyZ {ts:List Tr}{K:Nat->Prop}(hi:∀ m,m<h->kU w w.heap.size m v ts)(h0:0<h)(hk:Keeps w w' K)(hK:∀ k,K k->k<h):dQ w' w'.heap.size v ts:=by
 obtain⟨a,c,hv,hc,hl,hI,hx⟩:=hi 0 h0;refine⟨a,c,hv,hc,hl,fun t ht=>eyX (fun m hm=>?_) h0 hk hK,fun hne=>?_⟩
 ·obtain⟨_,_,_,_,_,hI',_⟩:=hi m hm
  exact hI' t ht
 obtain⟨b,o,ha,hb,_,hcell⟩:=hx hne
 have hbh:¬ K b:=fun hkb=>by
  obtain⟨a',c',hv',_,_,_,hx'⟩:=hi b (hK b hkb);rw[hv] at hv';cases hv';obtain⟨b',o',ha',_,hbn,_⟩:=hx' hne;rw[ha] at ha';cases ha';exact hbn rfl
 have e:=hk.block b hb hbh;have hs:=hk.size;refine⟨b,o,ha,by omega,fun i t hit=>?_⟩;obtain⟨k1,k2⟩:=hcell i t hit;exact⟨(rZ (w:=w) (a:=⟨b,_,none⟩) e).trans k1,(rZ (w:=w) (a:=⟨b,_,none⟩) e).trans k2⟩
theorem eyJ {zs:List Dz}{K:Nat->Prop}(d:zY w h v zs)(h0:0<h)(hk:Keeps w w' K)(hK:∀ k,K k->k<h):qD w' w'.heap.size v zs:=by
 obtain⟨a,c,hv,hc,hl,hi,hx⟩:=d;refine⟨a,c,hv,hc,hl,fun z hz=>eyZ (hi z hz) h0 hk hK,fun hne=>?_⟩;obtain⟨b,o,ha,h1,h2,hcell⟩:=hx hne;have e:=hk.block b h2 (fun c=>by have:=hK b c;omega);have hs:=hk.size;exact⟨b,o,ha,by omega,fun i z hz=>(rZ (w:=w) (a:=⟨b,o+i,none⟩) e).trans (hcell i z hz)⟩
theorem ezQ (pn:ByteArray)(z ez lu ld:Int):K.P.nrm (gV pn z ez lu ld)=gV pn z ez lu ld:=by
 unfold gV;split <;> rfl
theorem ezX (pn:ByteArray)(z ez lu ld:Int):(gV pn z ez lu ld).2.1=pn:=by
 unfold gV;split <;> rfl
theorem ezZ {ez lu ld:Int}(h:0<=z/\z<=4096):-9223372036854775808<=(gV pn z ez lu ld).2.2.1/\(gV pn z ez lu ld).2.2.1<=9223372036854775807:=by
 unfold gV;split
 ·simp only;omega
 ·simp only;omega
theorem ezJ {left:Int}{done:List K.P.En}{e:K.P.En}{s':HSt}(h:vZ ⟨disk,left,true,false,done⟩ e=(s',0)):s'.brk=false:=by
 unfold vZ at h;split at h
 ·simp at h
 ·split at h
  ·simp only[fQ] at h;rename_i c;exact absurd h.2 c
  ·split at h
   ·simp only[fQ] at h;rw[<-h.1]
   ·simp at h
theorem e0Q {l:List Pt}(h:pX l=(l,0))(bits:List Int):∃ l2,fR l bits 0=(l2,bA bits 0):=by
 unfold fR;rw[h];simp only[aU];unfold kK;by_cases c:bA bits 0=0
 ·rw[zQ c];exact⟨_,by rw[c]⟩
 ·rw[xQ c];exact⟨_,rfl⟩
theorem e0X (h:bA bits 0=0):tY bits=false/\bits.length<=65536:=by
 unfold bA at h;split at h
 ·cases h
 ·split at h
  ·cases h
  ·rename_i h1 h2
   refine⟨?_,by omega⟩;cases hb:tY bits with
   | false=>rfl
   | true=>exact absurd (.inr (.inr hb)) h2
open K (Cl)
open K.P (HSt Keeps xX vJ jU dZ HouK DskM iG vZ pZ Ev Sn uD gV TwoB)
theorem dS (hX:Bx X E [a0,a1,a2,a3])(u0 u1 u2 u3:Value):Bx ((((X.setCell ⟨E,0,none⟩ u0).setCell ⟨E,1,none⟩ u1).setCell ⟨E,2,none⟩ u2).setCell ⟨E,3,none⟩ u3) E [u0,u1,u2,u3]/\Keeps X ((((X.setCell ⟨E,0,none⟩ u0).setCell ⟨E,1,none⟩ u1).setCell ⟨E,2,none⟩ u2).setCell ⟨E,3,none⟩ u3) (fun k=>k=E):=by
 refine⟨(((hX.set (i:=0) (by simp) u0).set (i:=1) (by simp) u1).set (i:=2) (by simp) u2).set (i:=3) (by simp) u3,?_⟩;have k0:Keeps X (X.setCell ⟨E,0,none⟩ u0) (fun k=>k=E):=vJ (jU _ (fun k=>k=E)) (p:=⟨E,0,none⟩) (.inl rfl) _;have k1:=vJ k0 (p:=⟨E,1,none⟩) (.inl rfl) u1;have k2:=vJ k1 (p:=⟨E,2,none⟩) (.inl rfl) u2;exact vJ k2 (p:=⟨E,3,none⟩) (.inl rfl) u3
theorem wI (hX:Bx X E [a0,a1,a2,a3]):(X.cell? ⟨E,0,none⟩=some a0/\X.cell? ⟨E,1,none⟩=some a1/\X.cell? ⟨E,2,none⟩=some a2/\X.cell? ⟨E,3,none⟩=some a3)/\X.frozen? ⟨E,0,none⟩=false/\X.frozen? ⟨E,1,none⟩=false/\X.frozen? ⟨E,2,none⟩=false/\X.frozen? ⟨E,3,none⟩=false :=
 ⟨⟨(hX 0 _ rfl).c,(hX 1 _ rfl).c,(hX 2 _ rfl).c,(hX 3 _ rfl).c⟩,(hX 0 _ rfl).f,(hX 1 _ rfl).f,(hX 2 _ rfl).f,(hX 3 _ rfl).f⟩
theorem agJ (h:K.RowI w g xs)(hk:Keeps w w' N)(hn:¬ N g):K.RowI w' g xs :=
 have e:=hk.block g h.lt hn
 ⟨fun i x hi=>(rZ (w:=w) (a:=⟨g,i,none⟩) e).trans (h.cells i x hi),fun i hi=>(jV (w:=w) (a:=⟨g,i,none⟩) e).trans (h.thaw i hi),uX h.lt hk.size⟩
theorem e0Z (M:Nat->Prop)(bh bd bw B nb:Nat)(a:Option Addr)(c:Nat)(l:List K.Ds.yQ)(ts:List (List Int))(disk:List Int)(left:Int)(done:List K.P.En)(pn:ByteArray)(v0 v1 v2 v3 v4 v5:Value)(xa:Option Addr)(xc:Nat)(bits:List Int)(q:K.Ds.Qu)(u d lo hi:Int)(w:World)
  (hh:dZ w M bh bd l ts done) (hd:DskM w bd bw a c disk left) (hM:¬ M bd/\¬ M bw) (hMw:∀ k,M k->B<=k/\k<w.heap.size) (hbB:B<=bd/\B<=bw) (hbw:bw<w.heap.size) (hl:-9223372036854775808<=left/\left<=9223372036854775807) (hs:pn.size<=9223372036854775807) (hB:B<=w.heap.size) (hq:K.Qm w B q v0 v1 v2 v3 v4 v5) (hbi:mA w B nb (.slice xa bits.length xc) bits) (hnil:xa=none->xc=0) (hlo:vX lo) (hhi:vX hi)
  (nm0:ByteArray) (sz0:Int) (hl0:l[0]? = some (nm0,sz0)) (z ez:Int) (hz:K.xJ (K.prt l q nm0)=(z,ez)) (ls:List (List Pt)) (lu ld e1:Int) (hA:rY u d lo hi l ts q=(ls,lu,ld,e1)) (s':HSt) (er:Int) (t2:Option (List Int × Nat))
  (hst:pZ 0 ⟨disk,left,true,false,done⟩ (.ask (kG e1 bits) (gV pn z ez lu ld) (wJ ls bits 0 []))=(s',⟨er,t2,[]⟩)) :
  Calls prog 27 #[.pointer (some ⟨bh,0,none⟩),uD pn v0 v1 v2 v3 v4 v5 u d lo hi (.slice xa bits.length xc)] w (qM M bh bd bw a c l ts s' er (wJ ls bits 0 []) lu ld w):=by
 have HH:=qQ hh;have HD:=qQ hd;have HM:=qQ hM;have HMW:=qQ hMw;have HbB:=qQ hbB;have HLI:=qQ hl;have HQ:=qQ hq;have HBI:=qQ hbi;have HNL:=qQ hnil;have HL0:=qQ hl0;have HZ:=qQ hz;have HA:=qQ hA;have HST:=qQ hst;have hbd:bd<w.heap.size:=hd.c0.lt;obtain⟨cv,rv,bk,bm,n,v,D,h,BB,N,k⟩:=hh;obtain⟨kk,kc,kl,kh,ka,kn,kd,kb,km,kp,rfl,rfl,rfl,rfl,rfl,rfl⟩:=hq.shape;obtain⟨W,hW⟩:∃ W,(w.alloc (.cells #[.string pn,.int .i64 kk,.string kc,.int .i64 kl,.int .i64 kh,.slice ka kn kd,.slice kb km kp,.int .i64 u,.int .i64 d,.int .i64 lo,.int .i64 hi,.slice xa bits.length xc] 39)).alloc (.cells #[.slice none 0 0,.int .i64 0,.int .i64 0,.int .i64 0] 49)=W:=⟨_,rfl⟩;have hbW:Below w.heap.size w W:=hW▸bal (ba _ _) _;have hWs:w.heap.size+2<=W.heap.size:=by rw[<-hW];simp
 have hbh:bh<w.heap.size:=k.hc.c0.lt
 have hK:AkC W w.heap.size bh pn (.int .i64 kk) (.string kc) (.int .i64 kl) (.int .i64 kh) (.slice ka kn kd) (.slice kb km kp) (.slice xa bits.length xc) u d lo hi cv rv :=
  ⟨hW▸(Bx.new w [.string pn,.int .i64 kk,.string kc,.int .i64 kl,.int .i64 kh,.slice ka kn kd,.slice kb km kp,.int .i64 u,.int .i64 d,.int .i64 lo,.int .i64 hi,.slice xa bits.length xc] 39 rfl).at (ba _ _),k.hc.c0.at hbW,k.hc.c1.at hbW⟩
 have hRB:Bx W (w.heap.size+1) [.slice none 0 0,.int .i64 0,.int .i64 0,.int .i64 0]:=hW▸Bx.new _ [.slice none 0 0,.int .i64 0,.int .i64 0,.int .i64 0] 49 (by simp);have HRB:=qQ hRB;have m5:=(k.hc.c5.at hbW).c
 obtain⟨⟨cx,cy,rfl⟩,⟨rx,ry,rz,rfl⟩⟩:(∃ a c,cv=.slice a l.length c)/\(∃ a n c,rv=.slice a n c):=by
  obtain⟨rs',_,h⟩:=k.tb;obtain⟨⟨a,c,h1,_⟩,⟨a2,c2,h2,_⟩⟩:=h w ⟨k.hB.2,fun _ _ _=>rfl⟩;exact⟨⟨a,c,h1⟩,⟨a2,_,c2,h2⟩⟩
 have kA:∀ X,Below W.heap.size W X->AkC X w.heap.size bh pn (.int .i64 kk) (.string kc) (.int .i64 kl) (.int .i64 kh) (.slice ka kn kd) (.slice kb km kp) (.slice xa bits.length xc) u d lo hi (.slice cx l.length cy) (.slice rx ry rz)->Calls prog 19 #[.agg #[.int .i64 u,.int .i64 d],.int .i64 lo,.int .i64 hi,.agg #[.slice cx l.length cy,.slice rx ry rz],.agg #[.int .i64 kk,.string kc,.int .i64 kl,.int .i64 kh,.slice ka kn kd,.slice kb km kp]] X fun e w'=>∃ pa pc zs,e=.returned (.tuple #[.slice pa (zs:List Dz).length pc,.agg #[.int .i64 lu,.int .i64 ld],.int .i64 e1])/\(rds zs=ls/\zY w' X.heap.size (.slice pa zs.length pc) zs/\zs.length<=4096/\Below W.heap.size W w')/\Below X.heap.size X w'/\AkC w' w.heap.size bh pn (.int .i64 kk) (.string kc) (.int .i64 kl) (.int .i64 kh) (.slice ka kn kd) (.slice kb km kp) (.slice xa bits.length xc) u d lo hi (.slice cx l.length cy) (.slice rx ry rz):=fun X hX hC=>by
  have bX:Below w.heap.size w X:=bt hbW hX;obtain⟨rs,hrs,h1,h2⟩:=K.P.buJ (k.tb.kp (K:=fun _=>False) (xX bX) k.hB.2 (fun _ _ _ h=>h)) (bQ k.hB.2 bX.size);have h3:K.Qm X X.heap.size q (.int .i64 kk) (.string kc) (.int .i64 kl) (.int .i64 kh) (.slice ka kn kd) (.slice kb km kp):=K.P.iC (bQ hB bX.size) q (HQ.out.at hB bX);refine(a9Z X.heap.size u d lo hi _ _ _ _ _ _ _ _ l rs q X (vQ _) h1 h2 h3 hlo hhi ls lu ld e1 (by rw[hrs];exact HA.out)).mono ?_;rintro e w' ⟨v,zs,he,h4,h5,h6,h7⟩;obtain⟨pa,pc,rfl,_⟩:=id h5;exact⟨pa,pc,zs,he,⟨h4,h5,h6,bt hX h7⟩,h7,hC.at h7⟩
 have I1:Hid (AkC W.drew w.heap.size bh pn (.int .i64 kk) (.string kc) (.int .i64 kl) (.int .i64 kh) (.slice ka kn kd) (.slice kb km kp) (.slice xa bits.length xc) u d lo hi (.slice cx l.length cy) (.slice rx ry rz)):=hK.at (aQ _ _).drew;have I2:Hid (∀ o,AkC (W.alloc o).drew w.heap.size bh pn (.int .i64 kk) (.string kc) (.int .i64 kl) (.int .i64 kh) (.slice ka kn kd) (.slice kb km kp) (.slice xa bits.length xc) u d lo hi (.slice cx l.length cy) (.slice rx ry rz)):=fun o=>(hK.at (ba _ _)).at (aQ _ _).drew;have J1:Hid (Below W.heap.size W W.drew):=(aQ _ _).drew;have J2:Hid (∀ o,Below W.heap.size W (W.alloc o).drew):=fun o=>(ba _ _).drew;have HNE:Hid (W.heap.size≠w.heap.size/\W.heap.size≠bh):=⟨by omega,by omega⟩;have HNW:Hid (∀ X:World,Below W.heap.size W X->X.heap.size≠w.heap.size/\X.heap.size≠bh):=fun X hX=>by have:=hX.size;exact⟨by omega,by omega⟩
 have HBW:=qQ hbW;have HWS:=qQ hWs;obtain⟨e0,e1',e2,e3,e4,e5,e6,e7,e8,e9,e10,e11⟩:=hK.cells;have HKW:=qQ hK;clear hd hM hMw hl hq hbi hnil hl0 hz hA hst k hK hbW hWs hRB;go_enter func27,ntmps27;go_wp2;clear hW
 go_cut [6,7,8] (fun pv lv ev wx=>∃ pa pc zs g,pv=.slice pa (zs:List Dz).length pc/\lv=.pointer (some ⟨g,0,none⟩)/\ev=.int .i64 e1/\w.heap.size+2<=g/\Hid (rds zs=ls/\zY wx (w.heap.size+2) (.slice pa zs.length pc) zs/\zs.length<=4096)/\Hid (Below W.heap.size W wx)/\Hid (TwoB wx g (.int .i64 lu) (.int .i64 ld)))
 case first =>
  go_region_held3 (fun w'=>w'.cell? ⟨w.heap.size,1,none⟩=some (.int .i64 kk)/\w'.cell? ⟨w.heap.size,2,none⟩=some (.string kc)/\w'.cell? ⟨w.heap.size,3,none⟩=some (.int .i64 kl)/\w'.cell? ⟨w.heap.size,4,none⟩=some (.int .i64 kh)/\w'.cell? ⟨w.heap.size,5,none⟩=some (.slice ka kn kd)/\w'.cell? ⟨w.heap.size,6,none⟩=some (.slice kb km kp)/\w'.cell? ⟨w.heap.size,7,none⟩=some (.int .i64 u)/\w'.cell? ⟨w.heap.size,8,none⟩=some (.int .i64 d)/\w'.cell? ⟨w.heap.size,9,none⟩=some (.int .i64 lo)/\w'.cell? ⟨w.heap.size,10,none⟩=some (.int .i64 hi)/\w'.cell? ⟨bh,0,none⟩=some (.slice cx l.length cy)/\w'.cell? ⟨bh,1,none⟩=some (.slice rx ry rz))
   ((refine AkC.cells (pn:=pn) (bv:=.slice xa bits.length xc) ?_;first|with_reducible exact I1.out|with_reducible exact I2.out _|with_reducible exact hC3|with_reducible exact hC3.at (ba _ _)|with_reducible exact hC3.oth2 HNE.out.1 HNE.out.2 _ _|with_reducible exact(hC3.at (ba _ _)).oth2 hN3.1 hN3.2 _ _))
   (first
    | (go_at_call 19;refine(kA _ (J2.out _) ?_).mono ?_;(with_reducible exact I2.out _);rintro x3 w3 ⟨pa,pc,zs,rfl,hZ3,hb3,hC3⟩;have hT3:=eyQ hb3;obtain⟨s0,s1,s2,s3,s4,s5,s6,s7,s8,s9,s10,s11⟩:=hC3.cells;obtain⟨t0,t1,tf0,tf1,htl⟩:=id hT3;have hN3:=HNW.out _ hZ3.2.2.2)
    | (go_at_call 19;refine(kA _ J1.out ?_).mono ?_;(with_reducible exact I1.out);rintro x3 w3 ⟨pa,pc,zs,rfl,hZ3,hb3,hC3⟩;obtain⟨s0,s1,s2,s3,s4,s5,s6,s7,s8,s9,s10,s11⟩:=hC3.cells;have hN3:=HNW.out _ hZ3.2.2.2))
  ·have hs3:=hb3.size
   have z3:W.heap.size<=w3.heap.size:=hs3;have hws:=HWS.out;go_wp2;go_meet;refine⟨pa,pc,zs,w3.heap.size,rfl,rfl,rfl,by omega,⟨hZ3.1,(hZ3.2.1.mono hws).keep (ba _ _),hZ3.2.2.1⟩,bal hZ3.2.2.2 _,TwoB.new _ _ _ 32 _ rfl⟩
  ·have hs3:=hb3.size
   have z3:W.heap.size+1<=w3.heap.size:=by simpa using hs3
   have hws:=HWS.out;go_wp2;go_meet;refine⟨pa,pc,zs,W.heap.size,rfl,rfl,rfl,by omega,⟨hZ3.1,((hZ3.2.1.set (by simp)).set (by simp)).mono (by simp;omega),hZ3.2.2.1⟩,bs (bs hZ3.2.2.2 (vQ _) _) (vQ _) _,hT3.put _ _⟩
 case rest =>
  obtain⟨pa,pc,zs,g,rfl,rfl,rfl,hg,HZS,HBX,HLT⟩:=hcut;have hs1:=HBX.out.size;have hBwx:Below w.heap.size w wc:=bt HBW.out HBX.out;have HBC:=qQ hBwx;have hRBc:=HRB.out.at HBX.out;have HRBc:=qQ hRBc;clear kA I1 I2 J1 J2 HNE HNW e0 e1' e2 e3 e4 e5 e6 e7 e8 e9 e10 e11 m5 hBwx hRBc HRB
  have PRE:Hid (∀ p X,kG e1 bits=p->p≠0->Below w.heap.size w X->qM M bh bd bw a c l ts s' er (wJ ls bits 0 []) lu ld w (.returned (.tuple #[wH,.int .i64 p])) X):=fun p X hp hp0 hX=>by
   have h1:=HST.out;simp only[pZ] at h1;rw[xQ (by simp),xQ (by simp),zQ (by rw[hp];exact hp0),hp] at h1;simp only[fQ,Sn.mk.injEq] at h1;obtain⟨rfl,rfl,_⟩:=h1;exact⟨xX hX,HD.out.at hX,M,fun k hk=>.inl hk,fun _=>HH.out.kp (K:=fun _=>False) (xX hX) (fun _ _ h=>h),(fun h=>by cases h),.inl ⟨hp0,rfl⟩⟩
  by_cases h0:e1=0
  ·subst h0
   obtain⟨hone,_⟩:=exJ HA.out HQ.out;have htel:=(aaQ HA.out).1;have hzl:zs.length=ls.length:=by rw[<-HZS.out.1,sR]
   have hdss:=HZS.out.2.1.dss (by omega);obtain⟨b,o,na,nc,us0,rfl,hb,hgt,d1,hP⟩:=hdss.get (vQ _) (aQ _ _) (i:=0) (by omega);have hr0:(rds zs)[0]? = some (rd us0):=by rw[rds,uA,hgt];rfl
   have hown:=(htel (rd us0) (by rw[<-HZS.out.1];exact qX hr0)).1;obtain⟨l2,hr2⟩:=e0Q hown bits;obtain⟨e2,he2⟩:∃ e2,bA bits 0=e2:=⟨_,rfl⟩;rw[he2] at hr2;have hKc:=HKW.out.at HBX.out;have d11:=(hKc.b 11 _ rfl).c;have dlt:=(hKc.b 11 _ rfl).lt;have hbc:b<wc.heap.size:=hb;have bdr:Below w.heap.size w wc.drew:=HBC.out.drew;have kR:=cqZ wc.drew.heap.size B (.slice na us0.length nc) (.slice xa bits.length xc) us0 bits 0 wc.drew (vQ _) (hP.keep (aQ _ _).drew) ((HBI.out.at hB bdr).mono (bQ hB bdr.size) (.inr (vQ _))) (by omega) l2 e2 hr2;have HTEL:=qQ htel;have HKC:=qQ hKc;have HE2:=qQ he2;have HZL:Hid (zs.length=ls.length/\1<=ls.length):=⟨hzl,hone⟩;have d1':wc.cell? ⟨b,o,none⟩=some (.slice na us0.length nc):=by simpa using d1
   have z1:(0:Int)<(zs.length:Int):=by omega
   have z2:0<zs.length:=by omega
   clear hone htel hzl hdss hgt hr0 hown hr2 he2 hKc bdr hP d1 HKW;go_wp2_with fail
   go_region_held3 (fun w'=>w'.cell? ⟨b,o,none⟩=some (.slice na us0.length nc)/\w'.cell? ⟨w.heap.size,11,none⟩=some (.slice xa bits.length xc)) (first|assumption|(simp[go_sem, *];done))
    ((go_at_call 49;refine kR.mono ?_;rintro x w6 ⟨rv6,ds6,rfl,_,⟨ra6,rc6,hrv6,_⟩,hb6,_⟩;subst hrv6;have q1:=(hb6.cell (p:=⟨b,o,none⟩) hbc).trans d1';have q2:=(hb6.cell (p:=⟨w.heap.size,11,none⟩) dlt).trans d11))
   clear kR d1' d11 q1 q2;have B6:Below wc.heap.size wc w6:=bt (aQ _ _).drew hb6;have HB6:=qQ (bt HBC.out B6);have HR6:=qQ (HRBc.out.at B6);have HK6:=qQ (HKC.out.at B6);have HL6:=qQ (HLT.out.below B6);have HS6:=qQ (HZS.out.2.1.keep B6);have hw6:w.heap.size<=w6.heap.size:=HB6.out.size;clear B6 hb6 HRBc HKC HLT;by_cases h2:e2=0
   ·subst h2
    obtain⟨hbad,hlen⟩:=e0X HE2.out;have kP:=K.P.ewJ M bh bd w6.heap.size l ts done pn _ _ _ _ _ _ (.slice xa bits.length xc) q u d lo hi lu ld w6 (HH.out.kp (K:=fun _=>False) (xX HB6.out) (fun _ _ h=>h)) (vQ _) (K.P.iC (bQ hB hw6) q (HQ.out.at hB HB6.out)) ⟨_,_,_,rfl⟩ nm0 sz0 HL0.out z ez HZ.out;obtain⟨g0,g1,_,_,_⟩:=HL6.out;have c0:=(HK6.out.b 0 _ rfl).c;have c1:=(HK6.out.b 1 _ rfl).c;have c2:=(HK6.out.b 2 _ rfl).c;have c3:=(HK6.out.b 3 _ rfl).c;have c4:=(HK6.out.b 4 _ rfl).c;have c5:=(HK6.out.b 5 _ rfl).c;have c6:=(HK6.out.b 6 _ rfl).c;have c7:=(HK6.out.b 7 _ rfl).c;have c8:=(HK6.out.b 8 _ rfl).c;have c9:=(HK6.out.b 9 _ rfl).c;have c10:=(HK6.out.b 10 _ rfl).c;have c11:=(HK6.out.b 11 _ rfl).c;have HBD:Hid (tY bits=false/\bits.length<=65536):=⟨hbad,hlen⟩;clear hbad hlen;go_wp2_with fail;refine kP.mono ?_;rintro x w7 ⟨rfl,hb7⟩;have HB7:=qQ (bt HB6.out hb7);have hw7:w6.heap.size<=w7.heap.size:=hb7.size;obtain⟨e,hee⟩:∃ e,gV pn z ez lu ld=e:=⟨_,rfl⟩;obtain⟨s1,er1,hdo⟩:∃ s1 er1,vZ ⟨disk,left,true,false,done⟩ e=(s1,er1):=⟨_,_,rfl⟩;have kD:=K.P.bsZ M bh bd bw a c l ts disk left done e w7 (HH.out.kp (K:=fun _=>False) (xX HB7.out) (fun _ _ h=>h)) (HD.out.at HB7.out) HM.out (by omega) HLI.out (by rw[<-hee,ezX];exact hs) (by rw[<-hee];exact ezZ (K.P.ewZ HZ.out)) (by rw[<-hee];exact ezQ _ _ _ _ _) s1 er1 hdo;have hss0:=HST.out;simp only[pZ] at hss0;rw[xQ (by simp),xQ (by simp),xQ (by unfold kG;rw[xQ (by simp)];simpa using HE2.out),hee,hdo] at hss0;have HSS:Hid _:=hss0;clear hss0;have HDO:=qQ hdo;simp only[hee];have HK7:=qQ (HK6.out.at hb7);have HR7:=qQ (HR6.out.at hb7);have HL7:=qQ (HL6.out.below hb7);have HS7:=qQ (HS6.out.keep hb7);clear kP hb7 HK6 HR6 HL6 HS6 c0 c1 c2 c3 c4 c5 c6 c7 c8 c9 c10 c11 g0 g1 hdo;go_wp2_with fail;refine kD.mono ?_;rintro x w8 ⟨rfl,hK8,hD8,hH8,hX8⟩;have hw8:w7.heap.size<=w8.heap.size:=hK8.size
    have nE:∀ k,w.heap.size<=k->¬ (M k\/k=bd\/k=bw):=fun k hk=>by
     rintro(m|m|m)
     ·have:=(HMW.out k m).2;omega
     ·omega
     ·omega
    have HK8:Hid (Keeps w w8 (fun k=>M k\/k=bd\/k=bw)):=(xX HB7.out).trans hK8;have HKK:=qQ hK8;have HR8:=qQ (HR7.out.kp hK8 (nE _ (by omega)));have HBX8:=qQ (HK7.out.b.kp hK8 (nE _ (vQ _)));have HL8:=qQ (K.P.bsX HL7.out (hK8.block g HL7.out.lt (nE g (by omega))) hK8.size);have HD8:=qQ hD8;have HH8:=qQ hH8;have HX8:=qQ hX8;have HNE:=qQ nE
    have FIN:Hid (∀ X e' er',Keeps w8 X (fun k=>k=w.heap.size+1)->s' = s1->er=er'->((er'≠0/\e' = .returned (.tuple #[wH,.int .i64 er']))\/(er' = 0/\∃ vs us gg,wJ ls bits 0 []=some (vs,us)/\vs≠[]/\vs.length<=4096/\us<=65536/\e' = .returned (.tuple #[.agg #[.slice (some ⟨gg,0,none⟩) (vs:List Int).length vs.length,.int .i64 (us:Int),.int .i64 lu,.int .i64 ld],.int .i64 0])/\w8.heap.size<=gg/\K.RowI X gg vs))->qM M bh bd bw a c l ts s' er (wJ ls bits 0 []) lu ld w e' X):=fun X e' er' hX h1 h2 h3=>by
     subst h1 h2;have hwx:=hX.size
     have kw:Keeps w X (fun k=>M k\/k=bd\/k=bw):=by
      have k1:Keeps w X (fun k=>(M k\/k=bd\/k=bw)\/w.heap.size<=k):=(HK8.out.imp (fun k _ h=>.inl h)).trans (hX.imp (fun k _ h=>.inr (by omega)));exact k1.imp (fun k hk h=>h.elim id (fun c=>by omega))
     have hE1:∀ k,M k\/w7.heap.size<=k/\k<w8.heap.size->¬ k=w.heap.size+1:=fun k hk c=>by
      have h7:=(HR7.out 0 _ rfl).lt;rcases hk with m|m
      ·have:=(HMW.out k m).2;omega
      ·omega
     refine⟨kw,HD8.out.kp hX (by omega) (by omega),(fun k=>M k\/w7.heap.size<=k/\k<w8.heap.size),fun k hk=>hk.imp id (fun h=>⟨by omega,by omega⟩),fun hb=>(HH8.out hb).kp hX hE1,fun hb=>K.P.pU (HX8.out hb) hX (by omega),?_⟩;rcases h3 with h3|⟨h3,vs,us,gg,q1,q2,q3,q4,q5,q6,q7⟩
     ·exact .inl h3
     ·refine .inr ⟨h3,vs,us,gg,q1,q2,q3,q4,q5,by omega,fun hk=>?_,q7⟩
      rcases hk with m|m
      ·have:=(HMW.out gg m).2;omega
      ·omega
    clear kD hK8 hD8 hH8 hX8 nE HK7 HR7 HL7;by_cases h3:er1=0
    ·subst h3
     have HBR:=qQ (ezJ HDO.out)
     have hbel:Below B w w8:=⟨HK8.out.os,HK8.out.tape,HK8.out.output,HK8.out.size,fun k hk=>HK8.out.block k (by omega) (by
      have h9:=HbB.out;rintro(m|m|m)
      ·have:=(HMW.out k m).1;omega
      ·omega
      ·omega)⟩
     have hds:qD w8 w8.heap.size (.slice (some ⟨b,o,none⟩) zs.length pc) zs:=eyJ HS7.out (by omega) HKK.out (fun k hk=>by
      by_cases c:w.heap.size<=k
      ·exact absurd hk (HNE.out k c)
      ·omega)
     have kW:=drJ w8.heap.size nb (.slice (some ⟨b,o,none⟩) zs.length pc) (.slice xa bits.length xc) zs bits w8 (vQ _) hds HZS.out.2.2 (by rw[HZS.out.1];exact HTEL.out) (((HBI.out.keep hbel).mono (by omega) (.inl rfl)).2 HBD.out.2) (fun n c h=>by cases h;exact HNL.out rfl) HBD.out.1 HBD.out.2;rw[HZS.out.1] at kW;have c11:=(HBX8.out 11 _ rfl).c;clear hbel hds;go_wp2_with fail;refine kW.mono ?_;clear kW c11;rintro x w9 ⟨hb9,(⟨hn9,rfl⟩|⟨vs,us,hd9,hv9,hu9,rfl,hr9⟩)⟩
     ·have hR9:=HR8.out.at hb9
      obtain⟨⟨r0,r1,r2,r3⟩,f0,f1,f2,f3⟩:=wI hR9;have hZ:=dS hR9 (.slice none 0 0) (.int .i64 0) (.int .i64 0) (.int .i64 0);obtain⟨⟨x0,x1,x2,x3⟩,_⟩:=wI hZ.1;have hss:=HSS.out;rw[xQ (by simp),hn9] at hss;simp only[fQ,Sn.mk.injEq] at hss;have HEN:Hid (qM M bh bd bw a c l ts s' er (wJ ls bits 0 []) lu ld w (.returned (.tuple #[wH,.int .i64 6])) _):=FIN.out _ _ 6 ((xX hb9).trans hZ.2) hss.1.symm hss.2.1.symm (.inl ⟨by decide,rfl⟩);clear hZ hss hR9 hb9 hn9;go_wp2;refine uQ (v:=.tuple #[wH,.int .i64 6]) ?_ rfl HEN.out;simp[results,results27,go_sem,x0,x1,x2,x3]
     ·have hR9:=HR8.out.at hb9
      obtain⟨⟨r0,r1,r2,r3⟩,f0,f1,f2,f3⟩:=wI hR9;have hZ:=dS hR9 (.slice (some ⟨w8.heap.size,0,none⟩) vs.length vs.length) (.int .i64 (us:Int)) (.int .i64 lu) (.int .i64 ld);obtain⟨⟨x0,x1,x2,x3⟩,_⟩:=wI hZ.1;obtain⟨g0,g1,_,_,_⟩:=HL8.out.below hb9;have hss:=HSS.out;rw[xQ (by simp),hd9] at hss;simp only[fQ,Sn.mk.injEq] at hss;have h8:=(HR8.out 0 _ rfl).lt;have hzl:=HZL.out;have hz4:=HZS.out.2.2;have hrr:=agJ hr9 hZ.2 (by omega);have HEN:Hid (qM M bh bd bw a c l ts s' er (wJ ls bits 0 []) lu ld w (.returned (.tuple #[.agg #[.slice (some ⟨w8.heap.size,0,none⟩) vs.length vs.length,.int .i64 (us:Int),.int .i64 lu,.int .i64 ld],.int .i64 0])) _):=FIN.out _ _ 0 ((xX hb9).trans hZ.2) hss.1.symm hss.2.1.symm (.inr ⟨rfl,vs,us,w8.heap.size,hd9,(fun c=>by rw[c] at hv9;simp at hv9;omega),by omega,by have:=HBD.out.2;omega,rfl,vQ _,hrr⟩);clear hZ hss hR9 hb9 hd9 hr9 hrr hv9 hzl hz4;go_wp2;refine uQ (v:=.tuple #[.agg #[.slice (some ⟨w8.heap.size,0,none⟩) vs.length vs.length,.int .i64 (us:Int),.int .i64 lu,.int .i64 ld],.int .i64 0]) ?_ rfl HEN.out;simp[results,results27,go_sem,x0,x1,x2,x3]
    ·have h31:(er1 == 0)=false:=by simpa using h3
     have h32:(er1 != 0)=true:=by simpa using h3
     obtain⟨⟨r0,r1,r2,r3⟩,f0,f1,f2,f3⟩:=wI HR8.out;have hZ:=dS HR8.out (.slice none 0 0) (.int .i64 0) (.int .i64 0) (.int .i64 0);obtain⟨⟨x0,x1,x2,x3⟩,_⟩:=wI hZ.1;have hss:=HSS.out;rw[zQ h3] at hss;simp only[fQ,Sn.mk.injEq] at hss;have HEN:Hid (qM M bh bd bw a c l ts s' er (wJ ls bits 0 []) lu ld w (.returned (.tuple #[wH,.int .i64 er1])) _):=FIN.out _ _ er1 hZ.2 hss.1.symm hss.2.1.symm (.inl ⟨h3,rfl⟩);clear hZ hss;go_wp2;refine uQ (v:=.tuple #[wH,.int .i64 er1]) ?_ rfl HEN.out;simp[results,results27,go_sem,x0,x1,x2,x3]
   ·have h21:(e2 == 0)=false:=by simpa using h2
    have h22:(e2 != 0)=true:=by simpa using h2
    obtain⟨⟨r0,r1,r2,r3⟩,f0,f1,f2,f3⟩:=wI HR6.out;obtain⟨⟨x0,x1,x2,x3⟩,_⟩:=wI (dS HR6.out (.slice none 0 0) (.int .i64 0) (.int .i64 0) (.int .i64 0)).1;have HEN:Hid (∀ X,Below w.heap.size w X->qM M bh bd bw a c l ts s' er (wJ ls bits 0 []) lu ld w (.returned (.tuple #[wH,.int .i64 e2])) X):=fun X hX=>PRE.out e2 X (by unfold kG;rw[xQ (by simp)];exact HE2.out) h2 hX;go_wp2;refine uQ (v:=.tuple #[wH,.int .i64 e2]) ?_ rfl (HEN.out _ ?_)
    ·simp[results,results27,go_sem,x0,x1,x2,x3]
    ·exact bs (bs (bs (bs HB6.out (by simp) _) (by simp) _) (by simp) _) (by simp) _
  ·have h01:(e1 == 0)=false:=by simpa using h0
   have h02:(e1 != 0)=true:=by simpa using h0
   obtain⟨⟨r0,r1,r2,r3⟩,f0,f1,f2,f3⟩:=wI HRBc.out;obtain⟨⟨x0,x1,x2,x3⟩,_⟩:=wI (dS HRBc.out (.slice none 0 0) (.int .i64 0) (.int .i64 0) (.int .i64 0)).1;have HEN:Hid (∀ X,Below w.heap.size w X->qM M bh bd bw a c l ts s' er (wJ ls bits 0 []) lu ld w (.returned (.tuple #[wH,.int .i64 e1])) X):=fun X hX=>PRE.out e1 X (by unfold kG;rw[zQ h0]) h0 hX;go_wp2;refine uQ (v:=.tuple #[wH,.int .i64 e1]) ?_ rfl (HEN.out _ ?_)
   ·simp[results,results27,go_sem,x0,x1,x2,x3]
   ·exact bs (bs (bs (bs HBC.out (by simp) _) (by simp) _) (by simp) _) (by simp) _

import Derived.Test.YtpmioeamdhdokaaGreatQq42
import Derived.Test.YtpmioeamdhdokaaGreatQq30
import Derived.Test.YtpmioeamdhdokaaGreatQq31
open Go.Proofs.Tryz
set_option linter.unusedSimpArgs false
set_option maxHeartbeats 16000000
set_option maxRecDepth 100000
namespace Go.Proofs.YtpmioeamdhdokaaGreat
variable {pn s:ByteArray} {d er p q' u z:Int} {W w w' w3:World} {B B' E b bh h i:Nat} {bv cv v v0 v1 v2 v3 v4 v5:Value} {rs ts:List (List Int)} {N:Nat->Prop} {bits disk xs:List Int}
namespace K.P
open Go.RowKit K.Ds
theorem esZ {l:List yQ}{q:Qu}(h:yJ (prt l q s)=(z,er)):0<=z/\z<=4096:=by
 have key:∀ x:Except Int Int,yJ x=(z,er)->(∀ v,x=.ok v->0<=v/\v<=4096)->0<=z/\z<=4096:=by
  intro x hx hv;cases x with
  | error e=>simp only[yJ,dQ] at hx;omega
  | ok v=>simp only[yJ,dQ] at hx;have:=hv v rfl;omega
 refine key _ h fun v hv=>?_;unfold prt at hv;split at hv
 ·cases hv
 ·rename_i b hb
  split at hv
  ·cases hv
  ·rename_i i hi
   split at hv
   ·cases hv
   ·rename_i v' hv'
    split at hv
    ·rename_i hc
     cases hv;have hsz:=(gK (agQ hb).1).2.2.1;have hlt:=iK hi
     have:hU l i<=4096:=by
      unfold hU;rw[iJ hlt];exact(hsz _ (List.getElem_mem hlt)).2
     omega
    ·cases hv
theorem dC (hB:B<=B')(q:Qu):∀ {v0 v1 v2 v3 v4 v5:Value},Qm w B q v0 v1 v2 v3 v4 v5->Qm w B' q v0 v1 v2 v3 v4 v5:=by
 induction q with
 | none=>intro v0 v1 v2 v3 v4 v5 h;exact h
 | node k c lo hi wh n x y ihx ihy =>
  rintro v0 v1 v2 v3 v4 v5 ⟨h0,h1,h2,h3,hc,hw,a,cap,h5,hn,hm,hk⟩;refine⟨h0,h1,h2,h3,hc,hw.mono hB,a,cap,h5,hn,hm,fun g1 g2=>?_⟩;obtain⟨b,o,ha,hb,⟨u0,u1,u2,u3,u4,u5,hx,hq⟩,h2⟩:=hk g1 g2;refine⟨b,o,ha,by omega,⟨u0,u1,u2,u3,u4,u5,hx,ihx hq⟩,fun g=>?_⟩;obtain⟨u0,u1,u2,u3,u4,u5,hx,hq⟩:=h2 g;exact⟨u0,u1,u2,u3,u4,u5,hx,ihy hq⟩
theorem bsJ {rv:Value}{l:List yQ}(ht:pD w h B cv rv l ts)(hB:B<=w.heap.size):∃ rs,rr rs=ts/\tQ w w.heap.size cv l/\zX w w.heap.size rv rs:=by
 obtain⟨rs,h1,h2⟩:=ht;obtain⟨h3,h4⟩:=h2 w ⟨hB,fun _ _ _=>rfl⟩;exact⟨rs,h1,h3.mono hB,h4.mono hB⟩
abbrev wG (pn:ByteArray) (v0 v1 v2 v3 v4 v5:Value) (u d lo hi:Int) (bv:Value):Value:=.agg #[.string pn,v0,v1,v2,v3,v4,v5,.int .i64 u,.int .i64 d,.int .i64 lo,.int .i64 hi,bv]
def cV (pn:ByteArray) (z er lu ld:Int):En:=if er=0 then (3,pn,z,lu,ld) else (2,pn,0,lu,ld)
theorem esJ (M:Nat->Prop)(bh bd B:Nat)(l:List yQ)(ts:List (List Int))(done:List En)(pn:ByteArray)(v0 v1 v2 v3 v4 v5 bv:Value)(q:Qu)(u d lo hi lu ld:Int)(w:World)(hh:fZ w M bh bd l ts done)(hB:B<=w.heap.size)(hq:Qm w B q v0 v1 v2 v3 v4 v5)(hbv:∃ a n c,bv=.slice a n c)(nm0:ByteArray)(sz0:Int)(hl0:l[0]? = some (nm0,sz0))(z er:Int)(hz:yJ (prt l q nm0)=(z,er)) :
  Calls prog 56 #[.pointer (some ⟨bh,0,none⟩),wG pn v0 v1 v2 v3 v4 v5 u d lo hi bv,.agg #[.int .i64 lu,.int .i64 ld]] w fun e w'=>e=.returned (ev (cV pn z er lu ld))/\Below w.heap.size w w':=by
 obtain⟨cv,rv,bk,bm,n,v,D,h,BB,N,k⟩:=hh;obtain⟨ba0,bn0,bc0,rfl⟩:=hbv;obtain⟨kk,kc,kl,kh,ka,kn,kd,kb,km,kp,rfl,rfl,rfl,rfl,rfl,rfl⟩:=hq.shape;obtain⟨W,hW⟩:∃ W,(((w.alloc (.cells #[.string pn,.int .i64 kk,.string kc,.int .i64 kl,.int .i64 kh,.slice ka kn kd,.slice kb km kp,.int .i64 u,.int .i64 d,.int .i64 lo,.int .i64 hi,.slice ba0 bn0 bc0] 54)).alloc (.cells #[.int .i64 lu,.int .i64 ld] 37)).alloc (.cells #[.int .i64 0,.string ⟨#[]⟩,.int .i64 0,.int .i64 0,.int .i64 0] 59)).alloc (.cells #[.int .i64 2,.string pn,.int .i64 0,.int .i64 lu,.int .i64 ld] 59)=W:=⟨_,rfl⟩;have hbW:Below w.heap.size w W:=hW▸bal (bal (bal (ba _ _) _) _) _;have A1:Cl W w.heap.size 1 (.int .i64 kk):=hW▸(((Cl.new _ 54 1 _ rfl rfl).at (ba _ _)).at (ba _ _)).at (ba _ _);have A2:Cl W w.heap.size 2 (.string kc):=hW▸(((Cl.new _ 54 2 _ rfl rfl).at (ba _ _)).at (ba _ _)).at (ba _ _);have A3:Cl W w.heap.size 3 (.int .i64 kl):=hW▸(((Cl.new _ 54 3 _ rfl rfl).at (ba _ _)).at (ba _ _)).at (ba _ _);have A4:Cl W w.heap.size 4 (.int .i64 kh):=hW▸(((Cl.new _ 54 4 _ rfl rfl).at (ba _ _)).at (ba _ _)).at (ba _ _);have A5:Cl W w.heap.size 5 (.slice ka kn kd):=hW▸(((Cl.new _ 54 5 _ rfl rfl).at (ba _ _)).at (ba _ _)).at (ba _ _);have A6:Cl W w.heap.size 6 (.slice kb km kp):=hW▸(((Cl.new _ 54 6 _ rfl rfl).at (ba _ _)).at (ba _ _)).at (ba _ _);have HZ:Hid (FivB W (w.heap.size+1+1) (.int .i64 0) (.string ⟨#[]⟩) (.int .i64 0) (.int .i64 0) (.int .i64 0)):=hW▸(FivB.new _ _ _ _ _ _ 59 _ (by simp)).below (ba _ _);have HV:Hid (FivB W (w.heap.size+1+1+1) (.int .i64 2) (.string pn) (.int .i64 0) (.int .i64 lu) (.int .i64 ld)):=hW▸FivB.new _ _ _ _ _ _ 59 _ (by simp);have hC:HouC W bh bd cv rv bk done.length false:=k.hc.at hbW;have hT:pD W.drew h BB cv rv l ts:=(k.tb.kp (K:=fun _=>False) (qX hbW) k.hB.2 (fun _ _ _ h=>h)).kp (K:=fun _=>False) (qX (aQ _ _).drew) (bQ k.hB.2 hbW.size) (fun _ _ _ h=>h);obtain⟨rs,hrs,hp,_⟩:=bsJ hT (bQ k.hB.2 hbW.size);have h0:0<l.length:=(cQ.1 hl0).1;obtain⟨ca,cc,rfl,_⟩:=hp.slice;obtain⟨b,o,nm,sz,rfl,hb,hgt,c1,_,_⟩:=hp.get (vQ _) (aQ _ _) h0;obtain⟨rfl,rfl⟩:nm=nm0/\sz=sz0:=by rw[hl0] at hgt;simpa [eq_comm] using hgt
 have c1':W.cell? ⟨b,o,none⟩=some (.string nm):=by simpa using c1
 have hq2:Qm W.drew W.heap.size q (.int .i64 kk) (.string kc) (.int .i64 kl) (.int .i64 kh) (.slice ka kn kd) (.slice kb km kp):=dC (bQ hB hbW.size) q (hq.at hB hbW.drew);have k2:=bsZ l q nm W.drew W.heap.size _ _ _ _ _ _ _ z er (vQ _) hp hq2 hz;have m0:=hC.c0.c;have n1:=A1.c;have n2:=A2.c;have n3:=A3.c;have n4:=A4.c;have n5:=A5.c;have n6:=A6.c;have lN:w.heap.size<W.heap.size:=A1.lt;have lb:b<W.heap.size:=hb;have hlI:(0:Int)<(l.length:Int):=by omega
 have HBW:=qQ hbW;clear hp hq hq2 hz hgt c1 A1 A2 A3 A4 A5 A6 hC hT k hl0 hrs hbW;go_enter func56,ntmps56;go_wp2;clear hW
 go_region_held3 (fun w'=>w'.cell? ⟨w.heap.size,1,none⟩=some (.int .i64 kk)/\w'.cell? ⟨w.heap.size,2,none⟩=some (.string kc)/\w'.cell? ⟨w.heap.size,3,none⟩=some (.int .i64 kl)/\w'.cell? ⟨w.heap.size,4,none⟩=some (.int .i64 kh)/\w'.cell? ⟨w.heap.size,5,none⟩=some (.slice ka kn kd)/\w'.cell? ⟨w.heap.size,6,none⟩=some (.slice kb km kp)/\w'.cell? ⟨b,o,none⟩=some (.string nm)) (first|assumption|(simp[go_sem, *];done)) ((go_at_call 36;refine k2.mono ?_;rintro x3 w3 hA;obtain⟨rfl,hb3⟩:=hA;have z1:=(hb3.cell (p:=⟨w.heap.size,1,none⟩) lN).trans n1;have z2:=(hb3.cell (p:=⟨w.heap.size,2,none⟩) lN).trans n2;have z3:=(hb3.cell (p:=⟨w.heap.size,3,none⟩) lN).trans n3;have z4:=(hb3.cell (p:=⟨w.heap.size,4,none⟩) lN).trans n4;have z5:=(hb3.cell (p:=⟨w.heap.size,5,none⟩) lN).trans n5;have z6:=(hb3.cell (p:=⟨w.heap.size,6,none⟩) lN).trans n6;have z7:=(hb3.cell (p:=⟨b,o,none⟩) lb).trans c1'))
 have B0:Below w.heap.size w w3:=bt HBW.out.drew hb3;have HV3:=qQ ((HV.out.below (aQ _ _).drew).below hb3);have HZ3:=qQ ((HZ.out.below (aQ _ _).drew).below hb3);have HB0:=qQ B0;clear k2 n1 n2 n3 n4 n5 n6 lN lb hb3 z1 z2 z3 z4 z5 z6 z7 m0 B0;by_cases c:er=0
 ·subst c
  obtain⟨X,hX⟩:∃ X,(w3.setCell ⟨w.heap.size+1+1+1,0,none⟩ (.int .i64 3)).setCell ⟨w.heap.size+1+1+1,2,none⟩ (.int .i64 z)=X:=⟨_,rfl⟩;have BX:Below w.heap.size w X:=hX▸bs (bs HB0.out (by simp;omega) _) (by simp;omega) _
  have HVX:FivB X (w.heap.size+1+1+1) (.int .i64 3) (.string pn) (.int .i64 z) (.int .i64 lu) (.int .i64 ld):=by
   rw[<-hX];obtain⟨q0,q1,q2,q3,q4,f0,f1,f2,f3,f4,hl⟩:=HV3.out;constructor <;> simp[mS,nS,wZ,q0,q1,q2,q3,q4,f0,f1,f2,f3,f4,hl,go_sem]
  have HZX:FivB X (w.heap.size+1+1) (.int .i64 0) (.string ⟨#[]⟩) (.int .i64 0) (.int .i64 0) (.int .i64 0):=hX▸HZ3.out.gb (nQ (nQ (vX _ (some (w.heap.size+1+1+1))) _ _) _ _) (by simp);have HF:=xS HZX (.int .i64 3) (.string pn) (.int .i64 z) (.int .i64 lu) (.int .i64 ld);have HFF:=qQ HF;obtain⟨q0,_,q2,_,_,g0,_,g2,_,_,_⟩:=HV3.out;obtain⟨r0,r1,r2,r3,r4,_,_,_,_,_,_⟩:=HVX;obtain⟨s0,s1,s2,s3,s4,f0,f1,f2,f3,f4,_⟩:=HZX;have HBX:=qQ BX;clear HF BX;go_wp2;obtain⟨t0,t1,t2,t3,t4,_,_,_,_,_,_⟩:=HFF.out;refine uQ (v:=.agg #[.int .i64 3,.string pn,.int .i64 z,.int .i64 lu,.int .i64 ld]) ?_ rfl ⟨rfl,?_⟩
  ·simp[results,results56,go_sem,t0,t1,t2,t3,t4]
  ·exact bs (bs (bs (bs (bs HBX.out (by simp;omega) _) (by simp;omega) _) (by simp;omega) _) (by simp;omega) _) (by simp;omega) _
 ·have c1:(er == 0)=false:=by simpa using c
  have HF:=xS HZ3.out (.int .i64 2) (.string pn) (.int .i64 0) (.int .i64 lu) (.int .i64 ld);have HFF:=qQ HF;obtain⟨r0,r1,r2,r3,r4,_,_,_,_,_,_⟩:=HV3.out;obtain⟨s0,s1,s2,s3,s4,f0,f1,f2,f3,f4,_⟩:=HZ3.out;have hpr:cV pn z er lu ld=(2,pn,0,lu,ld):=by unfold cV;rw[xQ c]
  have HPR:=qQ hpr;clear HF hpr;go_wp2;obtain⟨t0,t1,t2,t3,t4,_,_,_,_,_,_⟩:=HFF.out;refine uQ (v:=.agg #[.int .i64 2,.string pn,.int .i64 0,.int .i64 lu,.int .i64 ld]) ?_ rfl ⟨?_,?_⟩
  ·simp[results,results56,go_sem,t0,t1,t2,t3,t4]
  ·rw[HPR.out]
  ·exact bs (bs (bs (bs (bs HB0.out (by simp;omega) _) (by simp;omega) _) (by simp;omega) _) (by simp;omega) _) (by simp;omega) _
end K.P
section
open Go.RowKit Ds
open K (Cl)
open K.P (HSt Keeps qX xJ zU fZ DskM cG vZ pZ Ev Sn wG cV TwoB)
def Bx (w:World) (b:Nat) (cs:List Value):Prop:=∀ k v,cs[k]? = some v->Cl w b k v
theorem Bx.at {cs:List Value}(h:Bx w b cs)(hb:Below w.heap.size w w'):Bx w' b cs:=fun k v hk=>(h k v hk).at hb
theorem Bx.kp {cs:List Value}(h:Bx w b cs)(hk:Keeps w w' N)(hn:¬ N b):Bx w' b cs:=fun k v hv=>K.P.aA (h k v hv) hk hn
theorem Bx.new (w:World)(cs:List Value)(t:TypeId){N:Nat}(hN:N=w.heap.size):Bx (w.alloc (.cells cs.toArray t)) N cs:=fun k v hk=>Cl.new _ t k v hN (by simpa using hk)
theorem Bx.set {cs:List Value}(h:Bx w b cs)(hi:i<cs.length)(u:Value):Bx (w.setCell ⟨b,i,none⟩ u) b (cs.set i u):=fun k v hk=>by
 by_cases c:i=k
 ·subst c
  rw[fG hi] at hk;cases hk;obtain⟨z,hz⟩:∃ z,cs[i]? = some z:=⟨_,iJ hi⟩;exact(h i z hz).set _
 ·rw[xF c] at hk
  exact(h k v hk).oth (.inr c) _
theorem Bx.oth {b' k:Nat}{cs:List Value}(h:Bx w b cs)(hne:b'≠b)(u:Value):Bx (w.setCell ⟨b',k,none⟩ u) b cs:=fun j v hj=>(h j v hj).oth (.inl hne) _
theorem etJ {lo hi:Int}{l:List K.Ds.yQ}{q:K.Ds.Qu}{ls:List (List Pt)}(h:rY u d lo hi l rs q=(ls,p,q',0))(hq:K.Qm w B q v0 v1 v2 v3 v4 v5):1<=ls.length/\K.Ds.kJ l rs=0:=by
 obtain⟨_,h1,h2,_⟩:=n9 h;have hqn:q≠.none:=by rintro rfl;exact hq.elim
 unfold K.pY at h1 h2;by_cases c:K.Ds.kJ l rs=0
 ·rw[zQ c] at h1 h2
  cases hb:K.Ds.bnd l 1 q with
  | error e =>
   rw[hb] at h1;exact absurd h1 (K.etZ q 1 e hb)
  | ok b =>
   rw[hb] at h2;obtain⟨hco,hrl,_⟩:=K.Ds.uO c;have hs:=(K.Ds.gK hco).2.2.1;have h3:=K.etQ hs q 1 b _ _ _ _ _ _ hq hb;have h4:=(K.aB hs hrl q 1 b hb hqn).1;have h5:ls.length=(K.ans l rs q).length:=h2;exact⟨by omega,c⟩
 ·rw[xQ c] at h1
  exact absurd h1 c
open K (Cl)
open K.P (HSt Keeps qX xJ zU fZ DskM cG vZ pZ Ev Sn wG cV TwoB)
abbrev tH:Value:=.agg #[.slice none 0 0,.int .i64 0,.int .i64 0,.int .i64 0]
def nL (M:Nat->Prop) (bh bd bw:Nat) (a:Option Addr) (c:Nat) (l:List K.Ds.yQ) (ts:List (List Int)) (s':HSt) (er:Int) (tl:Option (List Int × Nat)) (lu ld:Int) (w:World) (e:Ending) (w':World):Prop :=
 Keeps w w' (fun k=>M k\/k=bd\/k=bw)/\DskM w' bd bw a c s'.disk s'.left/\∃ M':Nat->Prop,(∀ k,M' k->M k\/w.heap.size<=k/\k<w'.heap.size) /\
  (s'.brk=false->fZ w' M' bh bd l ts s'.done)/\(s'.brk=true->Cl w' bh 5 (.bool true)) /\
  ((er≠0/\e=.returned (.tuple #[tH,.int .i64 er])) \/
   (er=0/\∃ vs us g,tl=some (vs,us)/\vs≠[]/\vs.length<=4096/\us<=65536/\e=.returned (.tuple #[.agg #[.slice (some ⟨g,0,none⟩) (vs:List Int).length vs.length,.int .i64 (us:Int),.int .i64 lu,.int .i64 ld],.int .i64 0])/\w.heap.size<=g/\¬ M' g/\K.RowI w' g vs))
open K (Cl)
open K.P (HSt Keeps qX xJ zU fZ HouK DskM cG vZ pZ Ev Sn wG cV TwoB)
def dG (e1:Int) (bits:List Int):Int:=if e1≠0 then e1 else xA bits 0
theorem euQ (hb:Below (W.alloc (.cells #[.int .i64 0,.int .i64 0] 37)).drew.heap.size (W.alloc (.cells #[.int .i64 0,.int .i64 0] 37)).drew w3):TwoB w3 W.heap.size (.int .i64 0) (.int .i64 0) :=
 ((TwoB.new W _ _ 37 _ rfl).below (aQ _ _).drew).below hb
structure AkC (w:World) (E bh:Nat) (pn:ByteArray) (v0 v1 v2 v3 v4 v5 bv:Value) (u d lo hi:Int) (cv rv:Value):Prop where
 b:Bx w E [.string pn,v0,v1,v2,v3,v4,v5,.int .i64 u,.int .i64 d,.int .i64 lo,.int .i64 hi,bv]
 c0:Cl w bh 0 cv
 c1:Cl w bh 1 rv
theorem AkC.at {lo hi:Int}{rv:Value}(h:AkC w E bh pn v0 v1 v2 v3 v4 v5 bv u d lo hi cv rv)(hb:Below w.heap.size w w'):AkC w' E bh pn v0 v1 v2 v3 v4 v5 bv u d lo hi cv rv:=⟨h.b.at hb,h.c0.at hb,h.c1.at hb⟩
theorem AkC.cells {lo hi:Int}{rv:Value}(h:AkC w E bh pn v0 v1 v2 v3 v4 v5 bv u d lo hi cv rv):w.cell? ⟨E,1,none⟩=some v0/\w.cell? ⟨E,2,none⟩=some v1/\w.cell? ⟨E,3,none⟩=some v2/\w.cell? ⟨E,4,none⟩=some v3/\w.cell? ⟨E,5,none⟩=some v4/\w.cell? ⟨E,6,none⟩=some v5/\w.cell? ⟨E,7,none⟩=some (.int .i64 u)/\w.cell? ⟨E,8,none⟩=some (.int .i64 d)/\w.cell? ⟨E,9,none⟩=some (.int .i64 lo)/\w.cell? ⟨E,10,none⟩=some (.int .i64 hi)/\w.cell? ⟨bh,0,none⟩=some cv/\w.cell? ⟨bh,1,none⟩=some rv :=
 ⟨(h.b 1 _ rfl).c,(h.b 2 _ rfl).c,(h.b 3 _ rfl).c,(h.b 4 _ rfl).c,(h.b 5 _ rfl).c,(h.b 6 _ rfl).c,(h.b 7 _ rfl).c,(h.b 8 _ rfl).c,(h.b 9 _ rfl).c,(h.b 10 _ rfl).c,h.c0.c,h.c1.c⟩
theorem AkC.oth2 {g:Nat}{lo hi:Int}{rv:Value}(h:AkC w E bh pn v0 v1 v2 v3 v4 v5 bv u d lo hi cv rv)(h1:g≠E)(h2:g≠bh)(x y:Value):AkC ((w.setCell ⟨g,0,none⟩ x).setCell ⟨g,1,none⟩ y) E bh pn v0 v1 v2 v3 v4 v5 bv u d lo hi cv rv :=
 ⟨(h.b.oth h1 _).oth h1 _,(h.c0.oth (.inl h2) _).oth (.inl h2) _,(h.c1.oth (.inl h2) _).oth (.inl h2) _⟩
theorem euX {K:Nat->Prop}(hi:∀ m,m<h->jQ w w.heap.size m v xs)(h0:0<h)(hk:Keeps w w' K)(hK:∀ k,K k->k<h):jQ w' w'.heap.size w'.heap.size v xs:=by
 obtain⟨a,c,hv,hc,hl,hx⟩:=hi 0 h0;refine⟨a,c,hv,hc,hl,fun hne=>?_⟩;obtain⟨b,o,ha,hb,_,hcell⟩:=hx hne
 have hbh:¬ K b:=fun hkb=>by
  obtain⟨a',c',hv',_,_,hx'⟩:=hi b (hK b hkb);rw[hv] at hv';cases hv';obtain⟨b',o',ha',_,hbn,_⟩:=hx' hne;rw[ha] at ha';cases ha';exact hbn rfl
 have e:=hk.block b hb hbh;have hs:=hk.size;exact⟨b,o,ha,by omega,by omega,fun i x hix=>(oZ (w:=w) (a:=⟨b,o+i,none⟩) e).trans (hcell i x hix)⟩
theorem euZ {ts:List Tr}{K:Nat->Prop}(hi:∀ m,m<h->eU w w.heap.size m v ts)(h0:0<h)(hk:Keeps w w' K)(hK:∀ k,K k->k<h):fQ w' w'.heap.size v ts:=by
 obtain⟨a,c,hv,hc,hl,hI,hx⟩:=hi 0 h0;refine⟨a,c,hv,hc,hl,fun t ht=>euX (fun m hm=>?_) h0 hk hK,fun hne=>?_⟩
 ·obtain⟨_,_,_,_,_,hI',_⟩:=hi m hm
  exact hI' t ht
 obtain⟨b,o,ha,hb,_,hcell⟩:=hx hne
 have hbh:¬ K b:=fun hkb=>by
  obtain⟨a',c',hv',_,_,_,hx'⟩:=hi b (hK b hkb);rw[hv] at hv';cases hv';obtain⟨b',o',ha',_,hbn,_⟩:=hx' hne;rw[ha] at ha';cases ha';exact hbn rfl
 have e:=hk.block b hb hbh;have hs:=hk.size;refine⟨b,o,ha,by omega,fun i t hit=>?_⟩;obtain⟨k1,k2⟩:=hcell i t hit;exact⟨(oZ (w:=w) (a:=⟨b,_,none⟩) e).trans k1,(oZ (w:=w) (a:=⟨b,_,none⟩) e).trans k2⟩
theorem euJ {zs:List Dz}{K:Nat->Prop}(d:cY w h v zs)(h0:0<h)(hk:Keeps w w' K)(hK:∀ k,K k->k<h):eD w' w'.heap.size v zs:=by
 obtain⟨a,c,hv,hc,hl,hi,hx⟩:=d;refine⟨a,c,hv,hc,hl,fun z hz=>euZ (hi z hz) h0 hk hK,fun hne=>?_⟩;obtain⟨b,o,ha,h1,h2,hcell⟩:=hx hne;have e:=hk.block b h2 (fun c=>by have:=hK b c;omega);have hs:=hk.size;exact⟨b,o,ha,by omega,fun i z hz=>(oZ (w:=w) (a:=⟨b,o+i,none⟩) e).trans (hcell i z hz)⟩
theorem evQ (pn:ByteArray)(z ez lu ld:Int):K.P.nrm (cV pn z ez lu ld)=cV pn z ez lu ld:=by
 unfold cV;split <;> rfl
theorem evX (pn:ByteArray)(z ez lu ld:Int):(cV pn z ez lu ld).2.1=pn:=by
 unfold cV;split <;> rfl
theorem evZ {ez lu ld:Int}(h:0<=z/\z<=4096):-9223372036854775808<=(cV pn z ez lu ld).2.2.1/\(cV pn z ez lu ld).2.2.1<=9223372036854775807:=by
 unfold cV;split
 ·simp only;omega
 ·simp only;omega
theorem evJ {left:Int}{done:List K.P.En}{e:K.P.En}{s':HSt}(h:vZ ⟨disk,left,true,false,done⟩ e=(s',0)):s'.brk=false:=by
 unfold vZ at h;split at h
 ·simp at h
 ·split at h
  ·simp only[dQ] at h;rename_i c;exact absurd h.2 c
  ·split at h
   ·simp only[dQ] at h;rw[<-h.1]
   ·simp at h
theorem ewQ {l:List Pt}(h:pX l=(l,0))(bits:List Int):∃ l2,yR l bits 0=(l2,xA bits 0):=by
 unfold yR;rw[h];simp only[uU];unfold cI;by_cases c:xA bits 0=0
 ·rw[zQ c];exact⟨_,by rw[c]⟩
 ·rw[xQ c];exact⟨_,rfl⟩
theorem ewX (h:xA bits 0=0):aY bits=false/\bits.length<=65536:=by
 unfold xA at h;split at h
 ·cases h
 ·split at h
  ·cases h
  ·rename_i h1 h2
   refine⟨?_,by omega⟩;cases hb:aY bits with
   | false=>rfl
   | true=>exact absurd (.inr (.inr hb)) h2
end
end Go.Proofs.YtpmioeamdhdokaaGreat

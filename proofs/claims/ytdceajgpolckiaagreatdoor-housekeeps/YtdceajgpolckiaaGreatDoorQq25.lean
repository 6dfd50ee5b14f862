import Derived.Test.YtdceajgpolckiaaGreatDoorQq24
import Derived.Deep.SlicePairs
import Derived.Deep.Slices
import Derived.ProofKit
import Derived.OpenShut
import Derived.Lib.SmallJoins
import Derived.Carry
open Go.Proofs.Tryz
set_option linter.unusedSimpArgs false
set_option maxHeartbeats 16000000
set_option maxRecDepth 100000
namespace Go.Proofs.YtdceajgpolckiaaGreatDoor
namespace K
open Go.RowKit K.Ds
theorem dsX {l:List jQ}(hs:pA l){w:World}{B:Nat}(q:Qu):∀ (lv:Nat) (b:rX) (v0 v1 v2 v3 v4 v5:Value),Qm w B q v0 v1 v2 v3 v4 v5->bnd l lv q=.ok b->1<=b.1:=by
 induction q with
 | none=>intro lv b v0 v1 v2 v3 v4 v5 h;exact h.elim
 | node k c lo hi wh n x y ihx ihy =>
  rintro lv b _ _ _ _ v4 _ ⟨rfl,rfl,rfl,rfl,hc,hw,a,cap,rfl,hn,hm,hk⟩ hb;obtain⟨hkn,⟨x1,x2,x3⟩,⟨y1,y2,y3⟩,hbx,hby,hrec,hlim⟩:=tT hb;have gx:1<=n->bnd l (lv+1) x=.ok (x1,x2,x3):=fun h=>by rwa [nJ,xQ h] at hbx
  have hkc:¬ cX k<0:=by omega
  have fx:1<=n->n<=2->1<=x1:=fun h1 h2=>by
   obtain⟨b',o,_,_,⟨u0,u1,u2,u3,u4,u5,_,hqx⟩,_⟩:=hk h1 h2;exact ihx _ _ _ _ _ _ _ _ hqx (gx h1)
  rcases dP hkc with rfl|rfl|rfl|rfl|rfl|rfl|rfl|rfl|rfl|rfl
  ·simp[rec] at hrec
   obtain⟨_,rfl⟩:=rH hrec;exact zI _
  ·simp[rec] at hrec
   split at hrec
   ·split at hrec
    ·obtain⟨_,rfl⟩:=rH hrec;exact zI _
    ·cases hrec
   ·cases hrec
  ·simp[rec] at hrec
   split at hrec
   ·rename_i i hf
    obtain⟨_,rfl⟩:=rH hrec;exact(aP hs hf).1
   ·cases hrec
  ·have:=fx (by simp[cX] at hkn;omega) (by simp[cX] at hkn;omega)
   simp[rec] at hrec;split at hrec
   ·cases hrec;exact this
   ·cases hrec
  ·have:=fx (by simp[cX] at hkn;omega) (by simp[cX] at hkn;omega)
   simp[rec] at hrec;split at hrec
   ·cases hrec;exact this
   ·cases hrec
  ·have:=fx (by simp[cX] at hkn;omega) (by simp[cX] at hkn;omega)
   simp[rec] at hrec;split at hrec
   ·cases hrec;exact this
   ·cases hrec
  ·have h1:=fx (by simp[cX] at hkn;omega) (by simp[cX] at hkn;omega)
   have h2:0<=y1:=by
    have:bnd l (lv+1) y=.ok (y1,y2,y3):=by rwa [nJ,xQ (by simp[cX] at hkn;omega)] at hby
    exact(sL hs y _ _ this).1
   simp[rec] at hrec;subst hrec
   show 1<=x1+y1
   omega
  ·simp[rec] at hrec
   subst hrec;exact zI _
  ·simp[rec] at hrec
   split at hrec
   ·cases hrec;exact zI _
   ·cases hrec
  ·have:=fx (by simp[cX] at hkn;omega) (by simp[cX] at hkn;omega)
   simp[rec] at hrec;split at hrec
   ·cases hrec;exact this
   ·cases hrec
theorem dsZ {l:List jQ}{k:Int}{c:ByteArray}{lo hi:Int}{wh:List oX}{x y:rX}{e:Int}(h:rec l k c lo hi wh x y=.error e):e≠0:=by
 unfold rec vU at h
 repeat' split at h
 all_goals first
  | cases h;done
  | (simp only[Except.error.injEq] at h;omega)
theorem dsJ {l:List jQ}(q:Qu):∀ (lv:Nat) (e:Int),bnd l lv q=.error e->e≠0:=by
 induction q with
 | none=>intro lv e h;simp only[bnd] at h;cases h
 | node k c lo hi wh n x y ihx ihy =>
  intro lv e h;simp only[bnd] at h;split at h
  ·cases h;decide
  ·split at h
   ·cases h;decide
   ·split at h
    ·split at h
     ·rename_i er hbx
      cases h;unfold nJ at hbx;split at hbx
      ·exact ihx _ _ hbx
      ·cases hbx
     ·rename_i bx hbx
      split at h
      ·rename_i er hby
       cases h;unfold nJ at hby;split at hby
       ·exact ihy _ _ hby
       ·cases hby
      ·rename_i b' hby
       split at h
       ·rename_i er hr
        cases h;exact dsZ hr
       ·unfold lim at h
        split at h
        ·cases h
        ·cases h;decide
    ·cases h;decide
end K
namespace K
open Go.ChangeShapes Go.WideShapes Go.ChangeAt Go.RowKit K.Ds Go.Deep
theorem mM {w:World}{a:Addr}{v:Value}(h:w.cell? a=some v):a.block<w.heap.size:=by
 unfold World.cell? at h;split at h
 ·rename_i hb;exact(jU.1 hb).1
 ·cases h
theorem gF:prog.cellsOf 3=1:=by kernel_rfl
theorem vO:prog.cellsOf 9=1:=by kernel_rfl
theorem ebX:prog.cellsOf 37=1:=by kernel_rfl
theorem ebZ:prog.cellsOf 82=2:=by kernel_rfl
theorem ebJ:prog.cellsOf 25=2:=by kernel_rfl
theorem qF:maxLen=9223372036854775807:=by decide
theorem a2J {H:Type}{enc:TypeId × Value->H}{W:World}{n:Nat}{V:Value}{D:DataW H}{P:List MemPlace}(h:DataW.trod enc prog W 0 (fun _=>true) true n 37 [V]=some (D,P)) :
  ∃ xs,zQ W W.heap.size W.heap.size V xs:=by
 rcases open_ints underlying37 underlying3 gF h with⟨hcs,_⟩|⟨a,len,cap,zs,hcs,_,hl,hmx,hz,hx,hcell,hwz⟩
 ·simp at hcs
  subst hcs;exact⟨[],none,0,rfl,vQ _,by simp,fun h=>absurd rfl h⟩
 ·simp at hcs
  subst hcs;simp only[zD] at hz;have hlen:(zs.take len).length=len:=by simp;omega
  rw[qF] at hmx;refine⟨zs.take len,some a,cap,by rw[hlen],by omega,by omega,fun hne=>?_⟩
  have hpos:0<len:=by
   rcases cO len with h0|h0
   ·subst h0;simp at hne
   ·exact h0
  obtain⟨b,o,spot⟩:=a;have h0:=hcell 0 (by omega);have hs:spot=none:=by simpa [Addr.add] using dO h0
  subst hs;have hlt:b<W.heap.size:=mM (a:=(⟨b,o,none⟩:Addr).add 0) h0;refine⟨b,o,rfl,hlt,by omega,fun i x hi=>?_⟩;have hi2:i<len:=by rw[<-hlen];exact(lQ.1 hi).1
  have h1:=hcell i (by omega);rw[iA] at h1;rw[h1];rw[jI hi2] at hi;simp[List.getD,hi]
theorem ecQ {H:Type}{enc:TypeId × Value->H}{W:World}{n:Nat}{V:Value}{D:DataW H}{P:List MemPlace}(h:DataW.trod enc prog W 0 (fun _=>true) true n 23 [V]=some (D,P)) :
  ∃ ts:List Rw,iQ W W.heap.size V ts:=by
 rcases open_slice1 underlying23 ebX h with⟨hcs,_⟩|⟨a,len,cap,m,n',V0,D0,P0,hcs,_,hl,hmx,hm,hx,hall⟩
 ·simp at hcs
  subst hcs;exact⟨[],b9X _ _⟩
 ·simp at hcs
  subst hcs;simp only[zD] at hm;subst hm;rw[qF] at hmx;have each:∀ i,i<len->∃ q:List Int,zQ W W.heap.size W.heap.size (V0 i) q:=fun i hi=>a2J (hall i (by omega)).2;obtain⟨q,hq⟩:=choose_lt each
  have hget:∀ i t,((List.range len).map fun i=>((V0 i,q i):Rw))[i]? = some t->i<len/\t=(V0 i,q i):=by
   intro i t hi;have hlt:=(lQ.1 hi).1;simp at hlt;simp[hlt] at hi;exact⟨hlt,hi.symm⟩
  refine⟨(List.range len).map fun i=>(V0 i,q i),some a,m,by simp,by simp;omega,by simp;omega,fun t ht=>?_,fun hne=>?_⟩
  ·obtain⟨i,hi,rfl⟩:=tZ.1 ht
   exact hq i (jK.1 hi)
  ·have hpos:0<len:=by
    rcases cO len with h0|h0
    ·subst h0;simp at hne
    ·exact h0
   obtain⟨b,o,spot⟩:=a;have h0:=(hall 0 (by omega)).1;have hs:spot=none:=by simpa [Addr.add] using dO h0
   subst hs;have hlt:b<W.heap.size:=mM (a:=(⟨b,o,none⟩:Addr).add 0) h0;refine⟨b,o,rfl,hlt,fun i t hi=>?_⟩;obtain⟨hi2,rfl⟩:=hget i t hi;obtain⟨h1,_⟩:=hall i (by omega);rw[iA] at h1;exact h1
theorem ecX:∃ f0 f1:Field,prog.underlying 82=some (.struct #[f0,f1])/\f0.offset=0/\f1.offset=1/\f0.type=9/\f1.type=3:=by
 refine⟨_,_,underlying82,?_,?_,?_,?_⟩ <;> rfl
theorem ecZ {H:Type}{enc:TypeId × Value->H}{W:World}{n:Nat}{V:Value}{D:DataW H}{P:List MemPlace}(h:DataW.trod enc prog W 0 (fun _=>true) true n 22 [V]=some (D,P)) :
  ∃ l:List jQ,eQ W W.heap.size V l:=by
 obtain⟨f0,f1,hu,o0,o1,t0,t1⟩:=ecX;rcases open_slice_pairs underlying22 hu ebZ o0 o1 (by rw[t0];exact vO) (by rw[t1];exact gF) h with⟨hcs,_⟩|⟨a,len,cap,m,n',V0,V1,D0,D1,P0,P1,hcs,_,hl,hmx,hm,hx,hall⟩
 ·simp at hcs
  subst hcs;exact⟨[],cgJ _ _⟩
 ·simp at hcs
  subst hcs;simp only[zD] at hm;subst hm;rw[qF] at hmx
  have each:∀ i,i<len->∃ q:jQ,(V0 i=.string q.1/\V1 i=.int .i64 q.2)/\q.1.size<=9223372036854775807:=by
   intro i hi;obtain⟨_,_,h3,h4⟩:=hall i (by omega);rw[t0] at h3;rw[t1] at h4;obtain⟨s,e0,_,hw⟩:=DataW.trod_string underlying9 h3;obtain⟨k,e1,_,_⟩:=xF underlying3 h4;simp at e0 e1;exact⟨(s,k),⟨e0,e1⟩,by rw[<-qF];exact hw⟩
  obtain⟨q,hq⟩:=choose_lt each
  have hget:∀ i t,((List.range len).map fun i=>q i)[i]? = some t->i<len/\t=q i:=by
   intro i t hi;have hlt:=(lQ.1 hi).1;simp at hlt;simp[hlt] at hi;exact⟨hlt,hi.symm⟩
  refine⟨(List.range len).map fun i=>q i,some a,m,by simp,by simp;omega,by simp;omega,fun t ht=>?_,fun hne=>?_⟩
  ·obtain⟨i,hi,rfl⟩:=tZ.1 ht
   exact(hq i (jK.1 hi)).2
  ·have hpos:0<len:=by
    rcases cO len with h0|h0
    ·subst h0;simp at hne
    ·exact h0
   obtain⟨b,o,spot⟩:=a;have h0:=(hall 0 (by omega)).1;have hs:spot=none:=by simpa [Addr.add] using dO h0
   subst hs;have hlt:b<W.heap.size:=mM (a:=(⟨b,o,none⟩:Addr).add (0*2)) h0;refine⟨b,o,rfl,hlt,fun i t hi=>?_⟩;obtain⟨hi2,rfl⟩:=hget i t hi;obtain⟨h1,h2,_⟩:=hall i (by omega);rw[iA] at h1 h2;exact⟨by rw[h1,(hq i hi2).1.1],by rw[aG,h2,(hq i hi2).1.2]⟩
section
theorem ecJ {H:Type}{enc:TypeId × Value->H}{P:Program}{w:World}{base:Nat}{spare:Nat->Bool}{held:Bool}{e:TypeId}{f0 f1 f2:Field}{n:Nat}{cs:List Value}{x:DataW H × List MemPlace}(he:P.underlying e=some (.struct #[f0,f1,f2]))(o0:f0.offset=0)(c0:P.cellsOf f0.type=1)(o1:f1.offset=1)(c1:P.cellsOf f1.type=1)(o2:f2.offset=2)(c2:P.cellsOf f2.type=1)
  (hlen:cs.length=3) (h:DataW.trod enc P w base spare held n e cs=some x):∃ v0 v1 v2 y0 y1 y2 k,cs=[v0,v1,v2]/\n=k+1/\DataW.trod enc P w base spare held k f0.type [v0]=some y0/\DataW.trod enc P w base spare held k f1.type [v1]=some y1/\DataW.trod enc P w base spare held k f2.type [v2]=some y2:=by
 obtain⟨xs,k,hk,hxy,_,hxl,hf⟩:=DataW.trod_struct he h
 match xs,hxl,cs,hlen with
 | [y0,y1,y2],_,[v0,v1,v2],_ =>
  have g0:=hf 0 f0 rfl;have g1:=hf 1 f1 rfl;have g2:=hf 2 f2 rfl;simp[o0,o1,o2,c0,c1,c2] at g0 g1 g2;exact⟨v0,v1,v2,y0,y1,y2,k,rfl,hk,g0,g1,g2⟩
theorem edQ {H:Type}{enc:TypeId × Value->H}{P:Program}{w:World}{base:Nat}{spare:Nat->Bool}{held:Bool}{e:TypeId}{f0 f1 f2 f3 f4 f5:Field}{n:Nat}{cs:List Value}{x:DataW H × List MemPlace}(he:P.underlying e=some (.struct #[f0,f1,f2,f3,f4,f5]))(o0:f0.offset=0)(c0:P.cellsOf f0.type=1)(o1:f1.offset=1)(c1:P.cellsOf f1.type=1)(o2:f2.offset=2)(c2:P.cellsOf f2.type=1)(o3:f3.offset=3)(c3:P.cellsOf f3.type=1)(o4:f4.offset=4)(c4:P.cellsOf f4.type=1)(o5:f5.offset=5)(c5:P.cellsOf f5.type=1)
  (hlen:cs.length=6) (h:DataW.trod enc P w base spare held n e cs=some x):∃ v0 v1 v2 v3 v4 v5 y0 y1 y2 y3 y4 y5 k,cs=[v0,v1,v2,v3,v4,v5]/\n=k+1/\DataW.trod enc P w base spare held k f0.type [v0]=some y0/\DataW.trod enc P w base spare held k f1.type [v1]=some y1/\DataW.trod enc P w base spare held k f2.type [v2]=some y2/\DataW.trod enc P w base spare held k f3.type [v3]=some y3/\DataW.trod enc P w base spare held k f4.type [v4]=some y4/\DataW.trod enc P w base spare held k f5.type [v5]=some y5:=by
 obtain⟨xs,k,hk,hxy,_,hxl,hf⟩:=DataW.trod_struct he h
 match xs,hxl,cs,hlen with
 | [y0,y1,y2,y3,y4,y5],_,[v0,v1,v2,v3,v4,v5],_ =>
  have g0:=hf 0 f0 rfl;have g1:=hf 1 f1 rfl;have g2:=hf 2 f2 rfl;have g3:=hf 3 f3 rfl;have g4:=hf 4 f4 rfl;have g5:=hf 5 f5 rfl;simp[o0,o1,o2,o3,o4,o5,c0,c1,c2,c3,c4,c5] at g0 g1 g2 g3 g4 g5;exact⟨v0,v1,v2,v3,v4,v5,y0,y1,y2,y3,y4,y5,k,rfl,hk,g0,g1,g2,g3,g4,g5⟩
end
theorem edX:prog.cellsOf 257=3:=by kernel_rfl
theorem edZ:prog.cellsOf 36=6:=by kernel_rfl
theorem edJ:prog.cellsOf 33=1:=by kernel_rfl
theorem eeQ:prog.cellsOf 34=1:=by kernel_rfl
theorem eeX:∃ f0 f1 f2:Field,prog.underlying 257=some (.struct #[f0,f1,f2])/\f0.offset=0/\f1.offset=1/\f2.offset=2/\f0.type=9/\f1.type=3/\f2.type=3:=by
 refine⟨_,_,_,underlying257,?_,?_,?_,?_,?_,?_⟩ <;> rfl
theorem eeZ:∃ f0 f1 f2 f3 f4 f5:Field,prog.underlying 36=some (.struct #[f0,f1,f2,f3,f4,f5])/\(f0.offset=0/\f1.offset=1/\f2.offset=2/\f3.offset=3/\f4.offset=4/\f5.offset=5)/\f0.type=3/\f1.type=9/\f2.type=3/\f3.type=3/\f4.type=33/\f5.type=34:=by
 refine⟨_,_,_,_,_,_,underlying36,⟨?_,?_,?_,?_,?_,?_⟩,?_,?_,?_,?_,?_,?_⟩ <;> rfl
theorem eeJ {H:Type}{enc:TypeId × Value->H}{W:World}{n:Nat}{V:Value}{D:DataW H}{P:List MemPlace}(h:DataW.trod enc prog W 0 (fun _=>true) true n 33 [V]=some (D,P)) :
  ∃ l:List oX,qZ W W.heap.size V l:=by
 obtain⟨f0,f1,f2,hu,o0,o1,o2,t0,t1,t2⟩:=eeX;rcases open_slice underlying33 h with⟨hcs,_⟩|⟨a,len,cap,m,n',D0,P0,hcs,_,hl,hmx,hm,hx,hall⟩
 ·simp at hcs
  subst hcs;exact⟨[],none,0,rfl,vQ _,by simp,by simp,fun h=>absurd rfl h⟩
 ·simp at hcs
  subst hcs;simp only[zD] at hm;subst hm;rw[qF] at hmx
  have each:∀ i,i<len->∃ q:oX,q.1.size<=9223372036854775807/\W.cell? (a.add (i*3))=some (.string q.1)/\W.cell? (a.add (i*3+1))=some (.int .i64 q.2.1)/\W.cell? (a.add (i*3+2))=some (.int .i64 q.2.2):=by
   intro i hi;obtain⟨cs',h1,h2⟩:=hall i (by omega);rw[edX] at h1;obtain⟨_,hlen,hcell⟩:=World.cells?_some h1;obtain⟨v0,v1,v2,y0,y1,y2,k,rfl,_,g0,g1,g2⟩:=ecJ hu o0 (by rw[t0];exact vO) o1 (by rw[t1];exact gF) o2 (by rw[t2];exact gF) hlen h2;rw[t0] at g0;rw[t1] at g1;rw[t2] at g2;have e0:=hcell 0 (by omega);have e1:=hcell 1 (by omega);have e2:=hcell 2 (by omega);rw[add_add] at e0 e1 e2;obtain⟨s,d0,_,hw⟩:=DataW.trod_string underlying9 g0;obtain⟨k1,d1,_,_⟩:=xF underlying3 g1;obtain⟨k2,d2,_,_⟩:=xF underlying3 g2;simp at d0 d1 d2;subst d0 d1 d2;exact⟨(s,k1,k2),by rw[<-qF];exact hw,by simpa using e0,by simpa using e1,by simpa using e2⟩
  obtain⟨q,hq⟩:=choose_lt each
  have hget:∀ i t,((List.range len).map fun i=>q i)[i]? = some t->i<len/\t=q i:=by
   intro i t hi;have hlt:=(lQ.1 hi).1;simp at hlt;simp[hlt] at hi;exact⟨hlt,hi.symm⟩
  refine⟨(List.range len).map fun i=>q i,some a,m,by simp,by simp;omega,by simp;omega,fun t ht=>?_,fun hne=>?_⟩
  ·obtain⟨i,hi,rfl⟩:=tZ.1 ht
   exact(hq i (jK.1 hi)).1
  ·have hpos:0<len:=by
    rcases cO len with h0|h0
    ·subst h0;simp at hne
    ·exact h0
   obtain⟨b,o,spot⟩:=a;have h0:=(hq 0 (by omega)).2.1;have hs:spot=none:=by simpa [Addr.add] using dO h0
   subst hs;have hlt:b<W.heap.size:=mM (a:=(⟨b,o,none⟩:Addr).add (0*3)) h0;refine⟨b,o,rfl,hlt,fun i t hi=>?_⟩;obtain⟨hi2,rfl⟩:=hget i t hi;obtain⟨_,h1,h2,h3⟩:=hq i hi2;rw[iA] at h1 h2 h3;exact⟨h1,by rw[aG];exact h2,by rw[aG];exact h3⟩
theorem efQ {H:Type}{enc:TypeId × Value->H}{W:World}:∀ (n:Nat) (cs:List Value) (x:DataW H × List MemPlace),cs.length=6->DataW.trod enc prog W 0 (fun _=>true) true n 36 cs=some x ->
  ∃ q v0 v1 v2 v3 v4 v5,cs=[v0,v1,v2,v3,v4,v5]/\Qm W W.heap.size q v0 v1 v2 v3 v4 v5:=by
 intro n
 induction n using Nat.strongRecOn with
 | ind n ih =>
  intro cs x hlen h;obtain⟨f0,f1,f2,f3,f4,f5,hu,⟨o0,o1,o2,o3,o4,o5⟩,t0,t1,t2,t3,t4,t5⟩:=eeZ;obtain⟨v0,v1,v2,v3,v4,v5,y0,y1,y2,y3,y4,y5,k,rfl,hk,g0,g1,g2,g3,g4,g5⟩:=edQ hu o0 (by rw[t0];exact gF) o1 (by rw[t1];exact vO) o2 (by rw[t2];exact gF) o3 (by rw[t3];exact gF) o4 (by rw[t4];exact edJ) o5 (by rw[t5];exact eeQ) hlen h;rw[t0] at g0;rw[t1] at g1;rw[t2] at g2;rw[t3] at g3;rw[t4] at g4;rw[t5] at g5;obtain⟨k0,d0,_,_⟩:=xF underlying3 g0;obtain⟨s1,d1,_,hw1⟩:=DataW.trod_string underlying9 g1;obtain⟨k2,d2,_,_⟩:=xF underlying3 g2;obtain⟨k3,d3,_,_⟩:=xF underlying3 g3;simp at d0 d1 d2 d3;obtain⟨wh,hwh⟩:=eeJ (D:=y4.1) (P:=y4.2) g4;rcases DataW.trod_slice underlying34 g5 with⟨hcs,_⟩|⟨a,len,cap,elems,rest,m,hm,hcs,_,_,hl,hmx,hel,hall,_⟩
  ·simp at hcs
   exact⟨.node k0 s1 k2 k3 wh 0 .none .none,v0,v1,v2,v3,v4,v5,rfl,d0,d1,d2,d3,by rw[<-qF];exact hw1,hwh,none,0,hcs,vQ _,by decide,fun h=>absurd h (by decide)⟩
  ·simp at hcs
   rw[qF] at hmx
   have each:∀ i,i<len->∃ q u0 u1 u2 u3 u4 u5,(∀ j u,[u0,u1,u2,u3,u4,u5][j]? = some u->W.cell? (a.add (i*6+j))=some u)/\Qm W W.heap.size q u0 u1 u2 u3 u4 u5:=by
    intro i hi;have h1:=hall i hi;rw[edZ,dZ (by omega)] at h1;obtain⟨cs',h2,h3⟩:=Option.bind_eq_some_iff.1 h1;obtain⟨_,hl6,hcell⟩:=World.cells?_some h2;obtain⟨q,u0,u1,u2,u3,u4,u5,rfl,hqm⟩:=ih m (by omega) cs' _ hl6 h3;refine⟨q,u0,u1,u2,u3,u4,u5,fun j u hj=>?_,hqm⟩;have hj6:j<6:=by have:=(lQ.1 hj).1;simpa using this
    have:=hcell j hj6;rw[add_add,hj] at this;exact this
   rcases cO len with h0|h0
   ·subst h0
    exact⟨.node k0 s1 k2 k3 wh 0 .none .none,v0,v1,v2,v3,v4,v5,rfl,d0,d1,d2,d3,by rw[<-qF];exact hw1,hwh,some a,cap,hcs,by omega,by decide,fun h=>absurd h (by decide)⟩
   ·obtain⟨qx,u0,u1,u2,u3,u4,u5,hc,hqx⟩:=each 0 h0
    obtain⟨b,o,spot⟩:=a;have e0:=hc 0 u0 rfl;have hs:spot=none:=by simpa [Addr.add] using dO e0
    subst hs;have hlt:b<W.heap.size:=mM (a:=(⟨b,o,none⟩:Addr).add (0*6+0)) e0
    have at6:∀ (i:Nat) (u0 u1 u2 u3 u4 u5:Value),(∀ j u,[u0,u1,u2,u3,u4,u5][j]? = some u->W.cell? ((⟨b,o,none⟩:Addr).add (i*6+j))=some u)->xY W b (o+i*6) u0 u1 u2 u3 u4 u5:=by
     intro i u0 u1 u2 u3 u4 u5 hc;have w0:=hc 0 u0 rfl;have w1:=hc 1 u1 rfl;have w2:=hc 2 u2 rfl;have w3:=hc 3 u3 rfl;have w4:=hc 4 u4 rfl;have w5:=hc 5 u5 rfl;rw[iA] at w0 w1 w2 w3 w4 w5;exact⟨by simpa using w0,by rw[aG];exact w1,by rw[aG];exact w2,by rw[aG];exact w3,by rw[aG];exact w4,by rw[aG];exact w5⟩
    have a0:=at6 0 _ _ _ _ _ _ hc;simp only[Nat.zero_mul,xN] at a0;by_cases h1:len=1
    ·subst h1
     exact⟨.node k0 s1 k2 k3 wh 1 qx .none,v0,v1,v2,v3,v4,v5,rfl,d0,d1,d2,d3,by rw[<-qF];exact hw1,hwh,some ⟨b,o,none⟩,cap,hcs,hl,by decide,fun _ _=>⟨b,o,rfl,hlt,⟨u0,u1,u2,u3,u4,u5,a0,hqx⟩,fun h=>absurd h (by decide)⟩⟩
    ·obtain⟨qy,z0,z1,z2,z3,z4,z5,hcy,hqy⟩:=each 1 (by omega)
     have a1:=at6 1 _ _ _ _ _ _ hcy;exact⟨.node k0 s1 k2 k3 wh len qx qy,v0,v1,v2,v3,v4,v5,rfl,d0,d1,d2,d3,by rw[<-qF];exact hw1,hwh,some ⟨b,o,none⟩,cap,hcs,hl,by omega,fun _ _=>⟨b,o,rfl,hlt,⟨u0,u1,u2,u3,u4,u5,a0,hqx⟩,fun _=>⟨z0,z1,z2,z3,z4,z5,a1,hqy⟩⟩⟩

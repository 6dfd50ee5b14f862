import Derived.Test.YtdceajgpolckiaaGreatDoorQr30
import Derived.Test.YtdceajgpolckiaaGreatDoorQr46
import Derived.ChangeSame
open Go.Proofs.Tryz
set_option linter.unusedSimpArgs false
set_option maxHeartbeats 16000000
set_option maxRecDepth 100000
namespace Go.Proofs.YtdceajgpolckiaaGreatDoor
variable {P:Program} {W w:World} {base n:Nat} {spare:Nat->Bool} {held:Bool} {e:TypeId} {V:Value}
namespace K
open Go.ChangeShapes Go.WideShapes Go.ChangeAt Go.RowKit K.Ds Go.Deep
theorem f0J:prog.cellsOf 113=2:=by kernel_rfl
theorem f1Q:prog.cellsOf 64=1:=by kernel_rfl
theorem f1X:prog.cellsOf 32=2:=by kernel_rfl
theorem f1Z:prog.cellsOf 66=11:=by kernel_rfl
theorem f1J:∃ f0 f1:Field,prog.underlying 113=some (.struct #[f0,f1])/\f0.offset=0/\f1.offset=1/\f0.type=37/\f1.type=3:=by
 refine⟨_,_,underlying113,?_,?_,?_,?_⟩ <;> rfl
theorem f2Q:∃ f0 f1:Field,prog.underlying 32=some (.struct #[f0,f1])/\f0.offset=0/\f1.offset=1/\f0.type=3/\f1.type=3:=by
 refine⟨_,_,underlying32,?_,?_,?_,?_⟩ <;> rfl
theorem f2X:∃ f0 f1 f2 f3 f4:Field,prog.underlying 66=some (.struct #[f0,f1,f2,f3,f4])/\(f0.offset=0/\f1.offset=6/\f2.offset=8/\f3.offset=9/\f4.offset=10)/\f0.type=36/\f1.type=32/\f2.type=3/\f3.type=3/\f4.type=64:=by
 refine⟨_,_,_,_,_,underlying66,⟨?_,?_,?_,?_,?_⟩,?_,?_,?_,?_,?_⟩ <;> rfl
theorem b8Z {H:Type}{enc:TypeId × Value->H}{f0 f1:Field}{cs:List Value}{x:DataW H × List MemPlace}(he:P.underlying e=some (.struct #[f0,f1]))(o0:f0.offset=0)(c0:P.cellsOf f0.type=1)(o1:f1.offset=1)(c1:P.cellsOf f1.type=1)
  (hlen:cs.length=2) (h:DataW.trod enc P w base spare held n e cs=some x):∃ v0 v1 y0 y1 k,cs=[v0,v1]/\n=k+1/\DataW.trod enc P w base spare held k f0.type [v0]=some y0/\DataW.trod enc P w base spare held k f1.type [v1]=some y1:=by
 obtain⟨xs,k,hk,hxy,_,hxl,hf⟩:=DataW.trod_struct he h
 match xs,hxl,cs,hlen with
 | [y0,y1],_,[v0,v1],_ =>
  have g0:=hf 0 f0 rfl;have g1:=hf 1 f1 rfl;simp[o0,o1,c0,c1] at g0 g1;exact⟨v0,v1,y0,y1,k,rfl,hk,g0,g1⟩
theorem f2Z {H:Type}{enc:TypeId × Value->H}{D:DataW H}{P:List MemPlace}(h:DataW.trod enc prog W 0 (fun _=>true) true n 64 [V]=some (D,P)) :
  ∃ l:List Nx,xA W W.heap.size V l:=by
 obtain⟨f0,f1,hu,o0,o1,t0,t1⟩:=f1J;rcases open_slice underlying64 h with⟨hcs,_⟩|⟨a,len,cap,m,n',D0,P0,hcs,_,hl,hmx,hm,hx,hall⟩
 ·simp at hcs
  subst hcs;exact⟨[],none,0,rfl,vQ _,by simp,by simp,fun h=>absurd rfl h⟩
 ·simp at hcs
  subst hcs;simp only[aU] at hm;subst hm;rw[eD] at hmx
  have each:∀ i,i<len->∃ q:Nx,jQ W W.heap.size W.heap.size q.1 q.2.1/\W.cell? (a.add (i*2))=some q.1/\W.cell? (a.add (i*2+1))=some (.int .i64 q.2.2):=by
   intro i hi;obtain⟨cs',h1,h2⟩:=hall i (by omega);rw[f0J] at h1;obtain⟨_,hlen,hcell⟩:=World.cells?_some h1;obtain⟨v0,v1,y0,y1,k,rfl,_,g0,g1⟩:=b8Z hu o0 (by rw[t0];exact amX) o1 (by rw[t1];exact jH) hlen h2;rw[t0] at g0;rw[t1] at g1;have e0:=hcell 0 (by omega);have e1:=hcell 1 (by omega);rw[add_add] at e0 e1;obtain⟨xs,hxs⟩:=amZ (D:=y0.1) (P:=y0.2) g0;obtain⟨k1,d1,_,_⟩:=vH underlying3 g1;simp at d1;subst d1;exact⟨(v0,xs,k1),hxs,by simpa using e0,by simpa using e1⟩
  obtain⟨q,hq⟩:=choose_lt each
  have hget:∀ i t,((List.range len).map fun i=>q i)[i]? = some t->i<len/\t=q i:=by
   intro i t hi;have hlt:=(cQ.1 hi).1;simp at hlt;simp[hlt] at hi;exact⟨hlt,hi.symm⟩
  refine⟨(List.range len).map fun i=>q i,some a,m,by simp,by simp;omega,by simp;omega,fun t ht=>?_,fun hne=>?_⟩
  ·obtain⟨i,hi,rfl⟩:=tX.1 ht
   exact(hq i (uH.1 hi)).1
  ·have hpos:0<len:=by
    rcases aM len with h0|h0
    ·subst h0;simp at hne
    ·exact h0
   obtain⟨b,o,spot⟩:=a;have h0:=(hq 0 (by omega)).2.1;have hs:spot=none:=by simpa [Addr.add] using rN h0
   subst hs;have hlt:b<W.heap.size:=zM (a:=(⟨b,o,none⟩:Addr).add (0*2)) h0;refine⟨b,o,rfl,hlt,fun i t hi=>?_⟩;obtain⟨hi2,rfl⟩:=hget i t hi;obtain⟨_,h1,h2⟩:=hq i hi2;rw[iU] at h1 h2;exact⟨h1,by rw[vV];exact h2⟩
theorem f2J {H:Type}{enc:TypeId × Value->H}(n:Nat)(cs:List Value)(x:DataW H × List MemPlace)(hlen:cs.length=11)(h:DataW.trod enc prog W 0 (fun _=>true) true n 66 cs=some x) :
  ∃ t:Tu,cs=[t.v0,t.v1,t.v2,t.v3,t.v4,t.v5,.int .i64 t.u,.int .i64 t.d,.int .i64 t.lo,.int .i64 t.hi,t.nv]/\Qm W W.heap.size t.q t.v0 t.v1 t.v2 t.v3 t.v4 t.v5/\xA W W.heap.size t.nv t.ns/\vX t.lo/\vX t.hi:=by
 obtain⟨f0,f1,f2,f3,f4,hu,⟨o0,o1,o2,o3,o4⟩,t0,t1,t2,t3,t4⟩:=f2X;obtain⟨g0',g1',hgu,p0,p1,s0,s1⟩:=f2Q;obtain⟨xs,k,hk,hxy,_,hxl,hf⟩:=DataW.trod_struct hu h
 match xs,hxl,cs,hlen with
 | [y0,y1,y2,y3,y4],_,[v0,v1,v2,v3,v4,v5,v6,v7,v8,v9,v10],_ =>
  have g0:=hf 0 f0 rfl;have g1:=hf 1 f1 rfl;have g2:=hf 2 f2 rfl;have g3:=hf 3 f3 rfl;have g4:=hf 4 f4 rfl;rw[t0] at g0;rw[t1] at g1;rw[t2] at g2;rw[t3] at g3;rw[t4] at g4;simp[o0,o1,o2,o3,o4,b8X,f1X,jH,f1Q] at g0 g1 g2 g3 g4;obtain⟨q,w0,w1,w2,w3,w4,w5,he,hq⟩:=f0Z k _ _ rfl g0;simp only[List.cons.injEq,zO] at he;obtain⟨rfl,rfl,rfl,rfl,rfl,rfl⟩:=he;obtain⟨z0,z1,r0,r1,k2,he,_,q0,q1⟩:=b8Z hgu p0 (by rw[s0];exact jH) p1 (by rw[s1];exact jH) rfl g1;simp only[List.cons.injEq,zO] at he;obtain⟨rfl,rfl⟩:=he;rw[s0] at q0;rw[s1] at q1;obtain⟨u,d6,_,_⟩:=vH underlying3 q0;obtain⟨d,d7,_,_⟩:=vH underlying3 q1;obtain⟨lo,d8,_,b8⟩:=vH underlying3 g2;obtain⟨hi,d9,_,b9⟩:=vH underlying3 g3;simp at d6 d7 d8 d9;subst d6 d7 d8 d9;obtain⟨ns,hns⟩:=f2Z (D:=y4.1) (P:=y4.2) g4;exact⟨⟨v0,v1,v2,v3,v4,v5,q,u,d,lo,hi,v10,ns⟩,rfl,hq,hns,bounds_i64 b8,bounds_i64 b9⟩
theorem f3Q {H:Type}{enc:TypeId × Value->H}{D:DataW H}{P:List MemPlace}(h:DataW.trod enc prog W 0 (fun _=>true) true n 57 [V]=some (D,P)) :
  ∃ l:List Tu,mG W W.heap.size V l/\∀ t∈l,vX t.lo/\vX t.hi:=by
 rcases open_slice underlying57 h with⟨hcs,_⟩|⟨a,len,cap,m,n',D0,P0,hcs,_,hl,hmx,hm,hx,hall⟩
 ·simp at hcs
  subst hcs;exact⟨[],⟨none,0,rfl,vQ _,by simp,by simp,fun h=>absurd rfl h⟩,by simp⟩
 ·simp at hcs
  subst hcs;simp only[aU] at hm;subst hm;rw[eD] at hmx
  have each:∀ i,i<len->∃ t:Tu,(∀ j u,[t.v0,t.v1,t.v2,t.v3,t.v4,t.v5,.int .i64 t.u,.int .i64 t.d,.int .i64 t.lo,.int .i64 t.hi,t.nv][j]? = some u->W.cell? (a.add (i*11+j))=some u)/\Qm W W.heap.size t.q t.v0 t.v1 t.v2 t.v3 t.v4 t.v5/\xA W W.heap.size t.nv t.ns/\vX t.lo/\vX t.hi:=by
   intro i hi;obtain⟨cs',h1,h2⟩:=hall i (by omega);rw[f1Z] at h1;obtain⟨_,hlen,hcell⟩:=World.cells?_some h1;obtain⟨t,rfl,ht⟩:=f2J _ cs' _ hlen h2;refine⟨t,fun j u hj=>?_,ht⟩;have hj6:j<11:=by have:=(cQ.1 hj).1;simpa using this
   have:=hcell j hj6;rw[add_add,hj] at this;exact this
  haveI:Inhabited Tu:=⟨⟨.bool false,.bool false,.bool false,.bool false,.bool false,.bool false,.none,0,0,0,0,.bool false,[]⟩⟩;obtain⟨q,hq⟩:=choose_lt each
  have hget:∀ i t,((List.range len).map fun i=>q i)[i]? = some t->i<len/\t=q i:=by
   intro i t hi;have hlt:=(cQ.1 hi).1;simp at hlt;simp[hlt] at hi;exact⟨hlt,hi.symm⟩
  refine⟨(List.range len).map fun i=>q i,⟨some a,m,by simp,by simp;omega,by simp;omega,fun t ht=>?_,fun hne=>?_⟩,fun t ht=>?_⟩
  ·obtain⟨i,hi,rfl⟩:=tX.1 ht
   exact⟨(hq i (uH.1 hi)).2.1,(hq i (uH.1 hi)).2.2.1⟩
  ·have hpos:0<len:=by
    rcases aM len with h0|h0
    ·subst h0;simp at hne
    ·exact h0
   obtain⟨b,o,spot⟩:=a;have h0:=(hq 0 (by omega)).1 0 _ rfl;have hs:spot=none:=by simpa [Addr.add] using rN h0
   subst hs;have hlt:b<W.heap.size:=zM (a:=(⟨b,o,none⟩:Addr).add (0*11+0)) h0;refine⟨b,o,rfl,hlt,fun i t hi=>?_⟩;obtain⟨hi2,rfl⟩:=hget i t hi;have hc:=(hq i hi2).1;have w0:=hc 0 _ rfl;have w1:=hc 1 _ rfl;have w2:=hc 2 _ rfl;have w3:=hc 3 _ rfl;have w4:=hc 4 _ rfl;have w5:=hc 5 _ rfl;have w6:=hc 6 _ rfl;have w7:=hc 7 _ rfl;have w8:=hc 8 _ rfl;have w9:=hc 9 _ rfl;have w10:=hc 10 _ rfl;rw[iU] at w0 w1 w2 w3 w4 w5 w6 w7 w8 w9 w10;exact⟨⟨by simpa using w0,by rw[vV];exact w1,by rw[vV];exact w2,by rw[vV];exact w3,by rw[vV];exact w4,by rw[vV];exact w5⟩,by rw[vV];exact w6,by rw[vV];exact w7,by rw[vV];exact w8,by rw[vV];exact w9,by rw[vV];exact w10⟩
  ·obtain⟨i,hi,rfl⟩:=tX.1 ht
   exact⟨(hq i (uH.1 hi)).2.2.2.1,(hq i (uH.1 hi)).2.2.2.2⟩

import Derived.Test.YtcaplmodgbpchaaGreatDoorQq24
open Go.Proofs.Tryz
open Go.Value(int)
open Go.IntKind(i64)
set_option linter.unusedSimpArgs false
set_option maxHeartbeats 16000000
set_option maxRecDepth 100000
namespace Go.Proofs.YtcaplmodgbpchaaGreatDoor
variable {P:Program} {W w:World} {base n:Nat} {spare:Nat->Bool} {e:TypeId} {V:Value}
namespace K
open Go.ChangeShapes Go.WideShapes Go.ChangeAt Go.RowKit K.Ds Go.Deep
section
theorem fjQ {H:Type}{enc:TypeId × Value->H}{held:Bool}{f0 f1 f2:Field}{cs:List Value}{x:DataW H × List MemPlace}(m:P.underlying e=some (.struct #[f0,f1,f2]))(v:f0.offset=0)(c0:P.cellsOf f0.type=1)(y:f1.offset=1)(c1:P.cellsOf f1.type=1)(z:f2.offset=2)(c2:P.cellsOf f2.type=1)
  (a:cs.length=3) (h:DataW.trod enc P w base spare held n e cs=some x):∃ v0 v1 v2 y0 y1 y2 k,cs=[v0,v1,v2]/\n=k+1/\DataW.trod enc P w base spare held k f0.type [v0]=some y0/\DataW.trod enc P w base spare held k f1.type [v1]=some y1/\DataW.trod enc P w base spare held k f2.type [v2]=some y2:=by
 obtain⟨A,k,o,p,_,i,g⟩:=DataW.trod_struct m h
 match A,i,cs,a with
 | [y0,y1,y2],_,[v0,v1,v2],_ =>
  have j:=g 0 f0 rfl;have l:=g 1 f1 rfl;have g2:=g 2 f2 rfl;simp[v,y,z,c0,c1,c2] at j l g2;exact⟨v0,v1,v2,y0,y1,y2,k,rfl,o,j,l,g2⟩
theorem fjX {H:Type}{enc:TypeId × Value->H}{held:Bool}{f0 f1 f2 f3 f4 f5:Field}{cs:List Value}{x:DataW H × List MemPlace}(v:P.underlying e=some (.struct #[f0,f1,f2,f3,f4,f5]))(A:f0.offset=0)(c0:P.cellsOf f0.type=1)(B:f1.offset=1)(c1:P.cellsOf f1.type=1)(C:f2.offset=2)(c2:P.cellsOf f2.type=1)(D:f3.offset=3)(c3:P.cellsOf f3.type=1)(E:f4.offset=4)(c4:P.cellsOf f4.type=1)(F:f5.offset=5)(c5:P.cellsOf f5.type=1)
  (g:cs.length=6) (h:DataW.trod enc P w base spare held n e cs=some x):∃ v0 v1 v2 v3 v4 v5 y0 y1 y2 y3 y4 y5 k,cs=[v0,v1,v2,v3,v4,v5]/\n=k+1/\DataW.trod enc P w base spare held k f0.type [v0]=some y0/\DataW.trod enc P w base spare held k f1.type [v1]=some y1/\DataW.trod enc P w base spare held k f2.type [v2]=some y2/\DataW.trod enc P w base spare held k f3.type [v3]=some y3/\DataW.trod enc P w base spare held k f4.type [v4]=some y4/\DataW.trod enc P w base spare held k f5.type [v5]=some y5:=by
 obtain⟨G,k,y,z,_,i,a⟩:=DataW.trod_struct v h
 match G,i,cs,g with
 | [y0,y1,y2,y3,y4,y5],_,[v0,v1,v2,v3,v4,v5],_ =>
  have j:=a 0 f0 rfl;have l:=a 1 f1 rfl;have g2:=a 2 f2 rfl;have m:=a 3 f3 rfl;have o:=a 4 f4 rfl;have p:=a 5 f5 rfl;simp[A,B,C,D,E,F,c0,c1,c2,c3,c4,c5] at j l g2 m o p;exact⟨v0,v1,v2,v3,v4,v5,y0,y1,y2,y3,y4,y5,k,rfl,y,j,l,g2,m,o,p⟩
end
theorem fjZ:prog.cellsOf 241=3:=by kernel_rfl
theorem fjJ:prog.cellsOf 53=6:=by kernel_rfl
theorem fkQ:prog.cellsOf 50=1:=by kernel_rfl
theorem fkX:prog.cellsOf 51=1:=by kernel_rfl
theorem fkZ:∃ f0 f1 f2:Field,prog.underlying 241=some (.struct #[f0,f1,f2])/\f0.offset=0/\f1.offset=1/\f2.offset=2/\f0.type=9/\f1.type=3/\f2.type=3:=by
 refine⟨_,_,_,underlying241,?_,?_,?_,?_,?_,?_⟩ <;> rfl
theorem fkJ:∃ f0 f1 f2 f3 f4 f5:Field,prog.underlying 53=some (.struct #[f0,f1,f2,f3,f4,f5])/\(f0.offset=0/\f1.offset=1/\f2.offset=2/\f3.offset=3/\f4.offset=4/\f5.offset=5)/\f0.type=3/\f1.type=9/\f2.type=3/\f3.type=3/\f4.type=50/\f5.type=51:=by
 refine⟨_,_,_,_,_,_,underlying53,⟨?_,?_,?_,?_,?_,?_⟩,?_,?_,?_,?_,?_,?_⟩ <;> rfl
theorem flQ {H:Type}{enc:TypeId × Value->H}{D:DataW H}{P:List MemPlace}(h:DataW.trod enc prog W 0 (fun _=>true) true n 50 [V]=some (D,P)) :
  ∃ l:List cX,qZ W W.heap.size V l:=by
 obtain⟨f0,f1,f2,T,Z,o1,o2,t0,t1,t2⟩:=fkZ;rcases open_slice underlying50 h with⟨j,_⟩|⟨a,len,cap,m,n',D0,P0,j,_,hl,I,O,hx,A⟩
 ·simp at j
  subst j;exact⟨[],none,0,rfl,vQ _,by simp,by simp,fun h=>absurd rfl h⟩
 ·simp at j
  subst j;simp only[uA] at O;subst O;rw[rD] at I
  have y:∀ i,i<len->∃ q:cX,q.1.size<=9223372036854775807/\W.cell? (a.add (i*3))=some (.string q.1)/\W.cell? (a.add (i*3+1))=some (int i64 q.2.1)/\W.cell? (a.add (i*3+2))=some (int i64 q.2.2):=by
   intro i hi;obtain⟨R,z,F⟩:=A i (by omega);rw[fjZ] at z;obtain⟨_,C,g⟩:=World.cells?_some z;obtain⟨v0,v1,v2,y0,y1,y2,k,rfl,_,L,M,g2⟩:=fjQ T Z (by rw[t0];exact nR) o1 (by rw[t1];exact lH) o2 (by rw[t2];exact lH) C F;rw[t0] at L;rw[t1] at M;rw[t2] at g2;have e0:=g 0 (by omega);have e1:=g 1 (by omega);have e2:=g 2 (by omega);rw[add_add] at e0 e1 e2;obtain⟨s,d0,_,U⟩:=DataW.trod_string underlying9 L;obtain⟨X,d1,_,_⟩:=rF underlying3 M;obtain⟨Y,d2,_,_⟩:=rF underlying3 g2;simp at d0 d1 d2;subst d0 d1 d2;exact⟨(s,X,Y),by rw[<-rD];exact U,by simpa using e0,by simpa using e1,by simpa using e2⟩
  obtain⟨q,J⟩:=choose_lt y
  have B:∀ i t,((List.range len).map fun i=>q i)[i]? = some t->i<len/\t=q i:=by
   intro i t hi;have p:=(fQ.1 hi).1;simp at p;simp[p] at hi;exact⟨p,hi.symm⟩
  refine⟨(List.range len).map fun i=>q i,some a,m,by simp,by simp;omega,by simp;omega,fun t ht=>?_,fun hne=>?_⟩
  ·obtain⟨i,hi,rfl⟩:=iJ.1 ht
   exact(J i (lK.1 hi)).1
  ·have Q:0<len:=by
    rcases mO len with v|v
    ·subst v;simp at hne
    ·exact v
   obtain⟨b,o,E⟩:=a;have v:=(J 0 (by omega)).2.1;have S:E=none:=by simpa [Addr.add] using nO v
   subst S;have p:b<W.heap.size:=rM (a:=(⟨b,o,none⟩:Addr).add (0*3)) v;refine⟨b,o,rfl,p,fun i t hi=>?_⟩;obtain⟨G,rfl⟩:=B i t hi;obtain⟨_,z,F,N⟩:=J i G;rw[bJ] at z F N;exact⟨z,by rw[cU];exact F,by rw[cU];exact N⟩
theorem flX {H:Type}{enc:TypeId × Value->H}:∀ (n:Nat) (cs:List Value) (x:DataW H × List MemPlace),cs.length=6->DataW.trod enc prog W 0 (fun _=>true) true n 53 cs=some x ->
  ∃ q v0 v1 v2 v3 z A,cs=[v0,v1,v2,v3,z,A]/\Qm W W.heap.size q v0 v1 v2 v3 z A:=by
 intro n
 induction n using Nat.strongRecOn with
 | ind n ih =>
  intro cs x F h;obtain⟨f0,f1,f2,f3,f4,f5,hu,⟨o0,o1,o2,o3,o4,o5⟩,t0,t1,t2,t3,t4,t5⟩:=fkJ;obtain⟨v0,v1,v2,v3,z,A,y0,y1,y2,y3,y4,y5,k,rfl,hk,g0,g1,g2,g3,g4,g5⟩:=fjX hu o0 (by rw[t0];exact lH) o1 (by rw[t1];exact nR) o2 (by rw[t2];exact lH) o3 (by rw[t3];exact lH) o4 (by rw[t4];exact fkQ) o5 (by rw[t5];exact fkX) F h;rw[t0] at g0;rw[t1] at g1;rw[t2] at g2;rw[t3] at g3;rw[t4] at g4;rw[t5] at g5;obtain⟨M,d0,_,_⟩:=rF underlying3 g0;obtain⟨s1,d1,_,l⟩:=DataW.trod_string underlying9 g1;obtain⟨N,d2,_,_⟩:=rF underlying3 g2;obtain⟨O,C,_,_⟩:=rF underlying3 g3;simp at d0 d1 d2 C;obtain⟨Q,p⟩:=flQ (D:=y4.1) (P:=y4.2) g4;rcases DataW.trod_slice underlying51 g5 with⟨g,_⟩|⟨a,len,cap,elems,rest,m,hm,g,_,_,hl,X,ao,E,_⟩
  ·simp at g
   exact⟨.node M s1 N O Q 0 .none .none,v0,v1,v2,v3,z,A,rfl,d0,d1,d2,C,by rw[<-rD];exact l,p,none,0,g,vQ _,by decide,fun h=>absurd h (by decide)⟩
  ·simp at g
   rw[rD] at X
   have v:∀ i,i<len->∃ q u0 u1 u2 u3 u4 u5,(∀ j u,[u0,u1,u2,u3,u4,u5][j]? = some u->W.cell? (a.add (i*6+j))=some u)/\Qm W W.heap.size q u0 u1 u2 u3 u4 u5:=by
    intro i hi;have L:=E i hi;rw[fjJ,nZ (by omega)] at L;obtain⟨R,h2,h3⟩:=Option.bind_eq_some_iff.1 L;obtain⟨_,V,y⟩:=World.cells?_some h2;obtain⟨q,u0,u1,u2,u3,u4,u5,rfl,Y⟩:=ih m (by omega) R _ V h3;refine⟨q,u0,u1,u2,u3,u4,u5,fun j u hj=>?_,Y⟩;have U:j<6:=by have:=(fQ.1 hj).1;simpa using this
    have:=y j U;rw[add_add,hj] at this;exact this
   rcases mO len with S|S
   ·subst S
    exact⟨.node M s1 N O Q 0 .none .none,v0,v1,v2,v3,z,A,rfl,d0,d1,d2,C,by rw[<-rD];exact l,p,some a,cap,g,by omega,by decide,fun h=>absurd h (by decide)⟩
   ·obtain⟨qx,u0,u1,u2,u3,u4,u5,hc,I⟩:=v 0 S
    obtain⟨b,o,J⟩:=a;have e0:=hc 0 u0 rfl;have hs:J=none:=by simpa [Addr.add] using nO e0
    subst hs;have G:b<W.heap.size:=rM (a:=(⟨b,o,none⟩:Addr).add (0*6+0)) e0
    have B:∀ (i:Nat) (u0 u1 u2 u3 u4 u5:Value),(∀ j u,[u0,u1,u2,u3,u4,u5][j]? = some u->W.cell? ((⟨b,o,none⟩:Addr).add (i*6+j))=some u)->rJ W b (o+i*6) u0 u1 u2 u3 u4 u5:=by
     intro i u0 u1 u2 u3 u4 u5 hc;have w0:=hc 0 u0 rfl;have w1:=hc 1 u1 rfl;have w2:=hc 2 u2 rfl;have w3:=hc 3 u3 rfl;have w4:=hc 4 u4 rfl;have w5:=hc 5 u5 rfl;rw[bJ] at w0 w1 w2 w3 w4 w5;exact⟨by simpa using w0,by rw[cU];exact w1,by rw[cU];exact w2,by rw[cU];exact w3,by rw[cU];exact w4,by rw[cU];exact w5⟩
    have a0:=B 0 _ _ _ _ _ _ hc;simp only[zS,fI] at a0;by_cases L:len=1
    ·subst L
     exact⟨.node M s1 N O Q 1 qx .none,v0,v1,v2,v3,z,A,rfl,d0,d1,d2,C,by rw[<-rD];exact l,p,some ⟨b,o,none⟩,cap,g,hl,by decide,fun _ _=>⟨b,o,rfl,G,⟨u0,u1,u2,u3,u4,u5,a0,I⟩,fun h=>absurd h (by decide)⟩⟩
    ·obtain⟨qy,z0,z1,z2,z3,z4,z5,T,Z⟩:=v 1 (by omega)
     have a1:=B 1 _ _ _ _ _ _ T;exact⟨.node M s1 N O Q len qx qy,v0,v1,v2,v3,z,A,rfl,d0,d1,d2,C,by rw[<-rD];exact l,p,some ⟨b,o,none⟩,cap,g,hl,by omega,fun _ _=>⟨b,o,rfl,G,⟨u0,u1,u2,u3,u4,u5,a0,I⟩,fun _=>⟨z0,z1,z2,z3,z4,z5,a1,Z⟩⟩⟩

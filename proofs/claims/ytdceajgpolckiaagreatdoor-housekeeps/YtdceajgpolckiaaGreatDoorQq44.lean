import Derived.Test.YtdceajgpolckiaaGreatDoorQq42
import Derived.ChangeSame
open Go.Proofs.Tryz
set_option linter.unusedSimpArgs false
set_option maxHeartbeats 16000000
set_option maxRecDepth 100000
namespace Go.Proofs.YtdceajgpolckiaaGreatDoor
namespace K
open Go.ChangeShapes Go.WideShapes Go.ChangeAt Go.RowKit K.Ds Go.Deep
theorem efX {H:Type}(d:DataW H):1<=Rows.uptoBulk d:=by
 cases d with
 | lit l=>cases l <;> simp[Rows.uptoBulk]
 | nil=>simp[Rows.uptoBulk]
 | ptr d=>simp[Rows.uptoBulk]
 | slice e s=>simp[Rows.uptoBulk]
 | agg p=>simp[Rows.uptoBulk]
 | iface t d=>simp[Rows.uptoBulk]
 | map e=>simp[Rows.uptoBulk]
 | held h=>simp[Rows.uptoBulk]
theorem a3Q {H:Type}{d:DataW H}{l:List (DataW H)}(h:d∈l):Rows.uptoBulk d<=Rows.uptoBulkAll l:=by
 induction l with
 | nil=>cases h
 | cons x r ih =>
  simp only[Rows.uptoBulkAll];rcases yX.1 h with rfl|h
  ·omega
  ·have:=ih h;omega
theorem efZ {H:Type}(l:List (DataW H)):l.length<=Rows.uptoBulkAll l:=by
 induction l with
 | nil=>simp
 | cons x r ih=>have:=efX x;simp only[Rows.uptoBulkAll,iF];omega
theorem efJ {H:Type}{d:DataW H}{e s:List (DataW H)}(h:d∈e):Rows.uptoBulk d<=Rows.uptoBulk (.slice e s):=by
 have:=a3Q h;simp only[Rows.uptoBulk];omega
theorem a3X {H:Type}(e s:List (DataW H)):e.length<=Rows.uptoBulk (.slice e s):=by
 have:=efZ e;simp only[Rows.uptoBulk];omega
theorem a3Z {H:Type}{d:DataW H}{l:List (DataW H)}(h:d∈l):Rows.uptoBulk d<=Rows.uptoBulk (.agg l):=by
 have:=a3Q h;simp only[Rows.uptoBulk];omega
theorem a3J:prog.cellsOf 32=2:=by kernel_rfl
theorem egQ:prog.cellsOf 39=12:=by kernel_rfl
theorem egX:prog.cellsOf 41=18:=by kernel_rfl
theorem egZ:prog.cellsOf 37=1:=by kernel_rfl
theorem egJ:prog.cellsOf 2=1:=by kernel_rfl
theorem ehQ:prog.cellsOf 36=6:=by kernel_rfl
theorem ehX:∃ f0 f1:Field,prog.underlying 32=some (.struct #[f0,f1])/\f0.offset=0/\f1.offset=1/\f0.type=3/\f1.type=3:=by
 refine⟨_,_,underlying32,?_,?_,?_,?_⟩ <;> rfl
theorem ehZ:∃ f0 f1 f2 f3 f4 f5:Field,prog.underlying 39=some (.struct #[f0,f1,f2,f3,f4,f5])/\(f0.offset=0/\f1.offset=1/\f2.offset=7/\f3.offset=9/\f4.offset=10/\f5.offset=11)/\f0.type=9/\f1.type=36/\f2.type=32/\f3.type=3/\f4.type=3/\f5.type=37:=by
 refine⟨_,_,_,_,_,_,underlying39,⟨?_,?_,?_,?_,?_,?_⟩,?_,?_,?_,?_,?_,?_⟩ <;> rfl
theorem ehJ:∃ f0 f1 f2 f3 f4 f5:Field,prog.underlying 41=some (.struct #[f0,f1,f2,f3,f4,f5])/\(f0.offset=0/\f1.offset=1/\f2.offset=2/\f3.offset=3/\f4.offset=5/\f5.offset=17)/\f0.type=3/\f1.type=3/\f2.type=9/\f3.type=32/\f4.type=39/\f5.type=2:=by
 refine⟨_,_,_,_,_,_,underlying41,⟨?_,?_,?_,?_,?_,?_⟩,?_,?_,?_,?_,?_,?_⟩ <;> rfl
theorem a4Q {H:Type}{enc:TypeId × Value->H}{W:World}{n:Nat}{v0 v1:Value}{x:DataW H × List MemPlace}(h:DataW.trod enc prog W 0 (fun _=>true) true n 32 [v0,v1]=some x):∃ u d,v0=.int .i64 u/\v1=.int .i64 d:=by
 obtain⟨f0,f1,hu,o0,o1,t0,t1⟩:=ehX;obtain⟨y0,y1,k,_,_,g0,g1⟩:=trod_struct2 hu h;rw[t0] at g0;rw[t1] at g1;simp[o0,o1,gF] at g0 g1;obtain⟨u,d6,_,_⟩:=xF underlying3 g0;obtain⟨d,d7,_,_⟩:=xF underlying3 g1;simp at d6 d7;exact⟨u,d,d6,d7⟩
theorem eiQ {H:Type}{enc:TypeId × Value->H}{W:World}(n:Nat)(cs:List Value)(x:DataW H × List MemPlace)(hlen:cs.length=18)(h:DataW.trod enc prog W 0 (fun _=>true) true n 41 cs=some x)(hb:Rows.uptoBulk x.1<=1048576) :
  ∃ s:Stv,cs=s.cs/\mY W W.heap.size s:=by
 obtain⟨f0,f1,f2,f3,f4,f5,hu,⟨o0,o1,o2,o3,o4,o5⟩,t0,t1,t2,t3,t4,t5⟩:=ehJ;obtain⟨e0,e1,e2,e3,e4,e5,hv,⟨p0,p1,p2,p3,p4,p5⟩,s0,s1,s2,s3,s4,s5⟩:=ehZ;obtain⟨xs,k,hk,hxy,_,hxl,hf⟩:=DataW.trod_struct hu h
 match xs,hxl,cs,hlen with
 | [y0,y1,y2,y3,y4,y5],_,[v0,v1,v2,v3,v4,v5,v6,v7,v8,v9,v10,v11,v12,v13,v14,v15,v16,v17],_ =>
  have g0:=hf 0 f0 rfl;have g1:=hf 1 f1 rfl;have g2:=hf 2 f2 rfl;have g3:=hf 3 f3 rfl;have g4:=hf 4 f4 rfl;have g5:=hf 5 f5 rfl;rw[t0] at g0;rw[t1] at g1;rw[t2] at g2;rw[t3] at g3;rw[t4] at g4;rw[t5] at g5;simp[o0,o1,o2,o3,o4,o5,gF,vO,a3J,egQ,egJ] at g0 g1 g2 g3 g4 g5
  have hb4:Rows.uptoBulk y4.1<=1048576:=by
   refine uQ ?_ hb;rw[hxy];exact a3Z (by simp)
  obtain⟨zs,k2,hk2,hzy,_,hzl,hz⟩:=DataW.trod_struct hv g4
  match zs,hzl with
  | [z0,z1,z2,z3,z4,z5],_ =>
   have q0:=hz 0 e0 rfl;have q1:=hz 1 e1 rfl;have q2:=hz 2 e2 rfl;have q3:=hz 3 e3 rfl;have q4:=hz 4 e4 rfl;have q5:=hz 5 e5 rfl;rw[s0] at q0;rw[s1] at q1;rw[s2] at q2;rw[s3] at q3;rw[s4] at q4;rw[s5] at q5;simp[p0,p1,p2,p3,p4,p5,gF,vO,a3J,ehQ,egZ] at q0 q1 q2 q3 q4 q5
   have hb5:Rows.uptoBulk z5.1<=1048576:=by
    refine uQ ?_ hb4;rw[hzy];exact a3Z (by simp)
   obtain⟨act,d0,_,_⟩:=xF underlying3 g0;obtain⟨nn,d1,_,b1⟩:=xF underlying3 g1;obtain⟨nm,d2,_,b2⟩:=DataW.trod_string underlying9 g2;obtain⟨bu,bd,rfl,rfl⟩:=a4Q g3;obtain⟨word,d5,_,b5⟩:=xF underlying2 g5;obtain⟨pn,c0,_,w0⟩:=DataW.trod_string underlying9 q0;obtain⟨q,w0',w1,w2,w3,w4,w5,he,hq⟩:=efQ k2 _ _ rfl q1;obtain⟨u,d,rfl,rfl⟩:=a4Q q2;obtain⟨lo,c3,_,r3⟩:=xF underlying3 q3;obtain⟨hi,c4,_,r4⟩:=xF underlying3 q4;simp at d0 d1 d2 d5 c0 c3 c4;subst d0 d1 d2 d5 c0 c3 c4;simp only[List.cons.injEq,and_true] at he;obtain⟨rfl,rfl,rfl,rfl,rfl,rfl⟩:=he;obtain⟨kk,kc,kl,kh,ka,kn,kd,kb,km,kp,rfl,rfl,rfl,rfl,rfl,rfl⟩:=hq.shape;obtain⟨bits,hbits⟩:=a2J (D:=z5.1) (P:=z5.2) q5
   have hsh:v16=.slice none 0 0\/(∃ a n c,v16=.slice (some a) n c/\n<=1048576):=by
    rcases open_ints underlying37 underlying3 gF q5 with⟨hcs,_⟩|⟨a,len,cap,zs,hcs,_,hl,hmx,hz,hx,hcell,hwz⟩
    ·simp at hcs
     exact .inl hcs
    ·simp at hcs
     refine .inr ⟨a,len,cap,hcs,?_⟩;have h9:=a3X (H:=H) (lits .i64 (zs.take len)) (lits .i64 (zs.drop len));rw[hx] at hb5
     have h8:(lits (H:=H) .i64 (zs.take len)).length=len:=by
      simp only[zD] at hz;simp[lits];omega
     rw[h8] at h9;exact uQ h9 hb5
   obtain⟨xa,xc,rfl,hxc,_,_⟩:=id hbits
   have hbl:bits.length<=1048576/\(xa=none->xc=0):=by
    rcases hsh with h|⟨a,n,c,h,hn⟩
    ·simp only[xV] at h
     exact⟨by omega,fun _=>h.2.2⟩
    ·simp only[xV] at h
     exact⟨by omega,fun e=>by rw[e] at h;cases h.1⟩
   rw[qF] at b2 w0;have hI:=adQ hbits (by have:=hbl.1;omega);exact⟨⟨⟨act,nn,nm,bu,bd,pn,q,u,d,lo,hi,bits,word⟩,kk,kc,kl,kh,ka,kn,kd,kb,km,kp,xa,xc⟩,rfl,_,hq,qY.of hI,hbl.2,bounds_i64 r3,bounds_i64 r4,bounds_i64 b1,bounds_i64 b5,b2,w0⟩
theorem eiX {H:Type}{enc:TypeId × Value->H}{W:World}{n:Nat}{V:Value}{D:DataW H}{P:List MemPlace}(h:DataW.trod enc prog W 0 (fun _=>true) true n 26 [V]=some (D,P))(hb:Rows.uptoBulk D<=1048576) :
  ∃ ss:List Stv,rG W W.heap.size V ss/\ss.length<=1048576:=by
 rcases open_slice underlying26 h with⟨hcs,_⟩|⟨a,len,cap,m,n',D0,P0,hcs,_,hl,hmx,hm,hx,hall⟩
 ·simp at hcs
  subst hcs;exact⟨[],⟨none,0,rfl,vQ _,by simp,fun h=>absurd rfl h⟩,by simp⟩
 ·simp at hcs
  subst hcs;simp only[zD] at hm;subst hm;simp only[cQ] at hx
  have hbl:len<=1048576:=by
   have:=a3X ((List.range len).map D0) ((List.range (m - len)).map fun j=>D0 (len+j));rw[<-hx.1] at this;simp only[nY,List.length_range] at this;omega
  have each:∀ i,i<len->∃ s:Stv,(∀ j u,s.cs[j]? = some u->W.cell? (a.add (i*18+j))=some u)/\mY W W.heap.size s:=by
   intro i hi;obtain⟨cs',h1,h2⟩:=hall i (by omega);rw[egX] at h1;obtain⟨_,hlen,hcell⟩:=World.cells?_some h1
   have hbi:Rows.uptoBulk (D0 i)<=1048576:=by
    refine uQ ?_ hb;rw[hx.1];exact efJ (tZ.2 ⟨i,jK.2 hi,rfl⟩)
   obtain⟨t,rfl,ht⟩:=eiQ _ cs' _ hlen h2 hbi;refine⟨t,fun j u hj=>?_,ht⟩;have hj6:j<18:=by have:=(lQ.1 hj).1;rwa [Stv.len] at this
   have:=hcell j hj6;rw[add_add,hj] at this;exact this
  haveI:Inhabited Stv:=⟨uU⟩;obtain⟨q,hq⟩:=choose_lt each
  have hget:∀ (i:Nat) t,((List.range len).map fun i=>q i)[i]? = some t->i<len/\t=q i:=by
   intro i t hi;have hlt:=(lQ.1 hi).1;simp at hlt;simp[hlt] at hi;exact⟨hlt,hi.symm⟩
  refine⟨(List.range len).map fun i=>q i,⟨some a,m,by simp,by simp;omega,fun t ht=>?_,fun hne=>?_⟩,by simp;omega⟩
  ·obtain⟨i,hi,rfl⟩:=tZ.1 ht
   exact(hq i (jK.1 hi)).2
  ·have hpos:0<len:=by
    rcases cO len with h0|h0
    ·subst h0;simp at hne
    ·exact h0
   obtain⟨b,o,spot⟩:=a;have h0:=(hq 0 (by omega)).1 0 _ rfl;have hs:spot=none:=by simpa [Addr.add] using dO h0
   subst hs;have hlt:b<W.heap.size:=mM (a:=(⟨b,o,none⟩:Addr).add (0*18+0)) h0;refine⟨b,o,rfl,hlt,fun i t hi j u hj=>?_⟩;obtain⟨hi2,rfl⟩:=hget i t hi;have hc:=(hq i hi2).1 j u hj;rw[iA] at hc;rw[aG];exact hc

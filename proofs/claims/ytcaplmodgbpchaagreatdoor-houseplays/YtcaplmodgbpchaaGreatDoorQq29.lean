import Derived.Test.YtcaplmodgbpchaaGreatDoorQq28
import Derived.Laws.Shifts
import Derived.Deep.RegionLaw
import Derived.Laws.CopyOwn
import Derived.Deep.OwnRows
import Derived.RangeFuncNested
import Derived.RangeFuncBound
import Derived.RangeFuncCalls
import Derived.RangeFuncLeaves
import Derived.Shelf.Abstract
import Derived.Shelf.RegionOpen
import Derived.OwnWalkIn
import Derived.TacticsInMore
import Derived.LoopNIn
import Derived.LoopIn
import Derived.OrdersHeld
import Derived.OrdersIn
open Go.Proofs.Tryz
open Go.Value(int)
open Go.IntKind(i64)
set_option linter.unusedSimpArgs false
set_option maxHeartbeats 16000000
set_option maxRecDepth 100000
namespace Go.Proofs.YtcaplmodgbpchaaGreatDoor
variable {W W' w w':World} {R b base bp cap g i j k m n np sz z:Nat} {l:List Int} {N:Nat->Prop} {v y:Value} {x:ByteArray} {a:Int} {r:Option Nat} {xs:List Value} {t:TypeId} {s:List Nat} {o:Obj}
namespace K.P
open Go.RowKit K.Ds
theorem a2Z (i k:Nat)(hi:i<32)(a:k=8*(7 - i % 8))(w:World):Calls prog 137 #[int i64 i] w fun e w'=>e=.returned (int i64 (k:Int))/\w' = w:=by
 have e:8*(7 - (i:Int) % 8)=(k:Int):=by omega
 clear a;have H:=qQ e;clear e;go_enter func137,ntmps137;go_wp2;go_ret;exact⟨congrArg (fun z=>Ending.returned (Value.int .i64 z)) H.out,rfl⟩
def oX (w:World) (b:Nat) (l:List Int):Prop:=l.length=9/\∀ k x,l[k]? = some x->Cl w b k (int i64 x)
theorem oX.at (h:oX w b l)(a:xQ w w'):oX w' b l:=⟨h.1,fun k x hx=>(h.2 k x hx).at a⟩
theorem oX.set (h:oX w b l)(hi:i<9)(x:Int):oX (w.setCell ⟨b,i,none⟩ (int i64 x)) b (l.set i x):=by
 refine⟨by rw[mK];exact h.1,fun k y hy=>?_⟩;by_cases c:i=k
 ·subst c
  rw[wD (by rw[h.1];exact hi)] at hy;cases hy;obtain⟨z,a⟩:∃ z,l[i]? = some z:=⟨_,nZ (by rw[h.1];exact hi)⟩;exact(h.2 i z a).set _
 ·rw[sF c] at hy
  exact(h.2 k y hy).oth (.inr c) _
theorem oX.oth {b':Nat}(h:oX w b l)(a:b'≠b)(u:Value):oX (w.setCell ⟨b',k,none⟩ u) b l:=⟨h.1,fun j x hx=>(h.2 j x hx).oth (.inl a) _⟩
theorem oX.nine {x0 x1 x2 x3 x4 x5 x6 x7 x8:Int}(h:oX w b [x0,x1,x2,x3,x4,x5,x6,x7,x8]):Cl w b 0 (int i64 x0)/\Cl w b 1 (int i64 x1)/\Cl w b 2 (int i64 x2)/\Cl w b 3 (int i64 x3)/\Cl w b 4 (int i64 x4)/\Cl w b 5 (int i64 x5)/\Cl w b 6 (int i64 x6)/\Cl w b 7 (int i64 x7)/\Cl w b 8 (int i64 x8) :=
 ⟨h.2 0 _ rfl,h.2 1 _ rfl,h.2 2 _ rfl,h.2 3 _ rfl,h.2 4 _ rfl,h.2 5 _ rfl,h.2 6 _ rfl,h.2 7 _ rfl,h.2 8 _ rfl⟩
theorem oX.new {N:Nat}(x0 x1 x2 x3 x4 x5 x6 x7 x8:Int)(t:TypeId)(a:N=w.heap.size):oX (w.alloc (.cells #[int i64 x0,int i64 x1,int i64 x2,int i64 x3,int i64 x4,int i64 x5,int i64 x6,int i64 x7,int i64 x8] t)) N [x0,x1,x2,x3,x4,x5,x6,x7,x8]:=by
 refine⟨rfl,fun k x hx=>?_⟩
 match k,hx with
 | 0,hx | 1,hx | 2,hx | 3,hx | 4,hx | 5,hx | 6,hx | 7,hx | 8,hx=>cases hx;exact Cl.new _ t _ _ a rfl
theorem Cl.drew' (h:Cl w b k v):Cl w.drew b k v:=⟨h.c,h.f,h.lt⟩
theorem oX.drew (h:oX w b l):oX w.drew b l:=⟨h.1,fun k x hx=>Cl.drew' (h.2 k x hx)⟩
theorem dM (h:l.length=9):∃ x0 x1 x2 x3 x4 x5 x6 x7 x8,l=[x0,x1,x2,x3,x4,x5,x6,x7,x8]:=by
 match l,h with
 | [x0,x1,x2,x3,x4,x5,x6,x7,x8],_=>exact⟨_,_,_,_,_,_,_,_,_,rfl⟩
def rvl (l:List Int):Value:=.agg (l.map (Value.int .i64)).toArray
abbrev zr:Value:=int i64 0
def NB (w:World) (b:Nat) (l:List Int):Prop:=∀ k x,l[k]? = some x->Cl w b k (int i64 x)
theorem NB.set (h:NB w b l)(hi:i<l.length)(x:Int):NB (w.setCell ⟨b,i,none⟩ (int i64 x)) b (l.set i x):=by
 intro k y a;by_cases c:i=k
 ·subst c
  rw[wD hi] at a;cases a;obtain⟨z,g⟩:∃ z,l[i]? = some z:=⟨_,nZ hi⟩;exact(h i z g).set _
 ·rw[sF c] at a
  exact(h k y a).oth (.inr c) _
theorem NB.drew (h:NB w b l):NB w.drew b l:=fun k x hx=>Cl.drew' (h k x hx)
theorem uL:(prog.info? 2).map (fun i=>(i.zero,i.size,i.bytes))=some (some (int i64 0),1,8):=by kernel_rfl
theorem c2Q (n:Nat):madeCells #[int i64 0] n=((List.replicate n (0:Int)).map (Value.int .i64)).toArray:=by
 apply Array.ext';rw[toList_madeCells_one];simp
theorem c2X (nm:ByteArray)(hs:nm.size<=32)(n:Nat)(M:n=(nm.size+7) / 8)(w:World) :
  Calls prog 86 #[.string nm] w fun e w'=>e=.returned (.slice (some ⟨w.heap.size,0,none⟩) n n)/\xQ w w'/\NB w' w.heap.size ((zJ (nU nm)).take n):=by
 obtain⟨s,g⟩:∃ s,nU nm=s:=⟨_,rfl⟩;have Y:s.length=nm.size:=by rw[<-g];simp[nU]
 have R:Hid (∀ b∈s,b<256):=by rw[<-g];exact bT nm
 have S:Hid (∀ i (h:i<nm.size),(nm.get i h).toNat=s.getD i 0):=by
  intro i h;have T:i<nm.data.toList.length:=by simpa using h
  rw[<-g,List.getD,nU,mV,nZ T];rfl
 rw[g];clear g;have E:∀ u:World,(Instr.makeSlice 26 (int i64 (n:Int)) (int i64 (n:Int))).run prog u=.ok (.slice (some ⟨u.heap.size,0,none⟩) n n) (u.alloc (.cells (madeCells #[int i64 0] n) 2)):=run_make_row' (P:=prog) 26 2 (int i64 0) 8 underlying26 uL rfl .i64 .i64 n (by omega) (by omega);have C:((nm.size:Int)+8 - 1) / 8=(n:Int):=by omega
 have D:((nm.size:Int)+7) / 8=(n:Int):=by omega
 have V:n<=4:=by omega
 have A:=qQ M;clear M;go_enter func86,ntmps86;go_wp2;clear C D E
 go_loopw [13] (fun t wr=>∃ (i:Nat),t=int i64 (i:Int)/\i<=nm.size/\Hid (NB wr w.heap.size ((zJ (s.take i)).take n))/\Hid (xQ w wr)) (fun t _=>nm.size - (intOf t).toNat)
 case atStart =>
  refine⟨0,rfl,dQ _,?_,ba _ _⟩;intro k x a;rw[List.take_zero,c1Z] at a;have j:k<n:=by have:=(fQ.1 a).1;rw[lU] at this;omega
  obtain rfl:x=0:=by
   rw[oG j] at a
   match k,a with
   | 0,a | 1,a | 2,a | 3,a=>cases a;rfl
  refine Cl.new _ 2 k _ rfl ?_;rw[c2Q];simp[j]
 case round =>
  obtain⟨i,rfl,hi,v,H⟩:=hrel;by_cases B:i<nm.size
  ·obtain⟨q,N⟩:∃ q,i / 8=q:=⟨_,rfl⟩
   obtain⟨k,j⟩:∃ k,k=8*(7 - i % 8):=⟨_,rfl⟩;have kf:=fun W=>a2Z i k (by omega) j W;have F:q<4:=by omega
   have G:q<n:=by have:=A.out;omega
   have X:(i:Int) / 8=(q:Int):=by omega
   have Z:IntKind.i64.wrap (q:Int)=(q:Int):=by rw[lJ];omega
   obtain⟨x,a⟩:∃ x,(zJ (s.take i))[q]? = some x:=⟨_,qO _ _ F⟩;obtain⟨b,J⟩:∃ b,(nm[i]'B).toNat=b:=⟨_,rfl⟩;have p:=qQ ((S.out i B).symm.trans J);have U:b<256:=by rw[<-J];exact UInt8.toNat_lt _
   have a6:IntKind.i64.wrap (b:Int)=(b:Int):=by rw[lJ];omega
   have L:k<=56:=by omega
   have hc:Cl wr w.heap.size q (int i64 x):=v.out q x (by rw[oG G];exact a);have m1:=hc.c;have m2:=hc.f;obtain⟨y,hy⟩:∃ y,bits .or .i64 x (IntKind.i64.wrap ((b:Int)*2 ^ k))=y:=⟨_,rfl⟩
   have o:(zJ (s.take (i+1))).take n=((zJ (s.take i)).take n).set q y:=by
    have I:=c1X s R.out i (by omega);rw[p.out,N,<-j,show(zJ (s.take i)).getD q 0=x by rw[List.getD,a];rfl] at I;rw[I,hy,List.take_set]
   have m:q<((zJ (s.take i)).take n).length:=by rw[lU,uF];omega
   have O:Hid (NB (wr.setCell ⟨w.heap.size,q,none⟩ (int i64 y)).drew w.heap.size ((zJ (s.take (i+1))).take n)):=by
    rw[o];exact(v.out.set m _).drew
   have Q:Hid (xQ w (wr.setCell ⟨w.heap.size,q,none⟩ (int i64 y)).drew):=(bs H.out (by simp) _).drew;clear a N j o hc m;go_wp2_with fail
   go_region_law (go_simp;go_at_call 137;refine(kf _).mono ?_;rintro e w' ⟨rfl,rfl⟩;go_wp2_with fail)
   all_goals
    go_wp2
    go_roundw
    ·exact⟨i+1,by go_num,B,O,Q⟩
    ·simp[intOf];omega
  ·obtain rfl:i=nm.size:=by omega
   have z:Hid (NB wr w.heap.size ((zJ s).take n)):=by
    have h:=v.out;rwa [gJ (l:=s) (by omega)] at h
   go_wp2;go_ret;exact⟨rfl,H.out,z.out⟩
theorem c2Z (s:List Nat)(q:Nat)(a:q<4)(h:s.length<=8*q):(zJ s)[q]? = some 0:=by
 rw[qO _ _ a]
 have e:octs s q=List.replicate 8 0:=by
  apply lO;intro i;unfold octs;rw[mV];by_cases c:i<8
  ·rw[List.getElem?_range c,anQ,jQ c]
   simp[List.getD,pL (show s.length<=8*q+i by omega)]
  ·rw[pL (by simp;omega),pL (by simp;omega)]
   rfl
 rw[e];decide
theorem c2J (nm:ByteArray)(n:Nat)(g:n=(nm.size+7) / 8)(a:n<=4):zJ (nU nm)=(zJ (nU nm)).take n++List.replicate (4 - n) 0:=by
 apply lO;intro q;by_cases c:q<n
 ·rw[gO (by rw[lU,uF];omega),oG c]
 ·rw[mH (by rw[lU,uF];omega),lU,uF,anQ]
  by_cases d:q<4
  ·rw[jQ (by omega)]
   exact c2Z _ _ d (by simp[nU];omega)
  ·rw[zQ (by omega)]
   exact pL (by rw[uF];omega)
theorem a2J (e:En)(hs:e.2.1.size<=32)(w:World) :
  Calls prog 49 #[ev e] w fun x w'=>x=.returned (rvl (oJ e))/\xQ w w':=by
 obtain⟨d,nm,p,u,v⟩:=e;simp only at hs;obtain⟨n,Y⟩:∃ n,n=(nm.size+7) / 8:=⟨_,rfl⟩;have B:n<=4:=by omega
 have Z:=fun W=>c2X nm hs n Y W;obtain⟨cs,m⟩:∃ cs,(zJ (nU nm)).take n=cs:=⟨_,rfl⟩;have L:cs.length=n:=by rw[<-m,lU,uF];omega
 have g:=qQ L
 have F:Hid (oJ (d,nm,p,u,v)=[1,d,p,u,v]++(cs++List.replicate (4 - n) 0)):=by
  rw[<-m,<-c2J nm n Y B];rfl
 have S:Hid (splice [int i64 1,int i64 d,int i64 p,int i64 u,int i64 v,zr,zr,zr,zr] 5 (cs.map (Value.int .i64))=(oJ (d,nm,p,u,v)).map (Value.int .i64)):=by
  rw[Hid,F.out,splice,pA,g.out]
  match n,B with
  | 0,_ | 1,_ | 2,_ | 3,_ | 4,_=>simp[List.replicate]
 simp only[m] at Z;clear Y m L;go_enter func49,ntmps49;go_wp2_with fail;obtain⟨X,y⟩:∃ X,((w.alloc (.cells #[int i64 d,.string nm,int i64 p,int i64 u,int i64 v] 72)).alloc (.cells #[zr,zr,zr,zr,zr,zr,zr,zr,zr] 121)).alloc (.cells #[int i64 1,int i64 d,int i64 p,int i64 u,int i64 v,zr,zr,zr,zr] 121)=X:=⟨_,rfl⟩;have T:Hid (xQ w X):=y▸bal (bal (ba _ _) _) _;have U:Hid (Cl X w.heap.size 1 (.string nm)):=y▸((Cl.new _ 72 1 _ rfl rfl).at (ba _ _)).at (ba _ _);have o:Hid (oX X (w.heap.size+1) [0,0,0,0,0,0,0,0,0]):=y▸(oX.new _ _ _ _ _ _ _ _ _ 121 (by simp)).at (ba _ _)
 have V:Hid (X.heap[w.heap.size+1+1]? = some (.cells ([int i64 1,int i64 d,int i64 p,int i64 u,int i64 v,zr,zr,zr,zr]:List Value).toArray 121 (0,0))):=by
  have h:=lL ((w.alloc (.cells #[int i64 d,.string nm,int i64 p,int i64 u,int i64 v] 72)).alloc (.cells #[zr,zr,zr,zr,zr,zr,zr,zr,zr] 121)) (.cells #[int i64 1,int i64 d,int i64 p,int i64 u,int i64 v,zr,zr,zr,zr] 121);rw[y] at h;rw[Hid];simpa using h
 have H:Hid (X.heap.size=w.heap.size+1+1+1):=by rw[Hid,<-y];simp
 have m1:=U.out.c;rw[y];clear y;have P:(prog.info? 2).map (·.size)=some 1:=by kernel_rfl
 go_region_law (first
  | (refine step_copy_splice rfl (.tmp 15) (.tmp 18) 26 26 rfl 2 underlying26 P (some ⟨w.heap.size+1+1,5,none⟩) (some ⟨X.heap.size,0,none⟩) 4 4 n n rfl rfl (w.heap.size+1+1) 5 _ 121 D.out (cs.map (Value.int .i64)) (by rw[pA,g.out];exact(Nat.min_eq_left B).symm) (fun _=>⟨rfl,_,rfl,G.out⟩) (by rw[pA,g.out];simp;omega) (by intro z hz;obtain⟨_,_,rfl⟩:=iJ.1 hz;rfl) (w.heap.size+1+1) X C.out (vQ _) ?_;intro R M l;go_wp2_with fail)
  | (go_simp;go_at_call 86;refine(Z _).mono ?_;rintro e w5 ⟨rfl,A,J⟩;have C:Hid (Below (w.heap.size+1+1) X w5):=((uQ _ X).drew.trans (A.mono (by have:=H.out;simp;omega)));have D:Hid (w5.heap[w.heap.size+1+1]? = some (.cells ([int i64 1,int i64 d,int i64 p,int i64 u,int i64 v,zr,zr,zr,zr]:List Value).toArray 121 (0,0))):=(A.block _ (by have:=H.out;simp;omega)).trans V.out;have G:Hid (∀ j v,(cs.map (Value.int .i64))[j]? = some v->w5.cell? ((⟨X.heap.size,0,none⟩:Addr).add j)=some v):=(fun j v hj=>by
    rw[mV,wR] at hj;obtain⟨x,Q,rfl⟩:=hj;rw[bJ,vX];exact(J j x Q).c);go_wp2_with fail))
 have O:(oJ (d,nm,p,u,v)).length=9:=by rw[F.out];simp[g.out];omega
 obtain⟨x0,x1,x2,x3,x4,x5,x6,x7,x8,Q⟩:=dM O;have HR:=qQ Q
 have E:Hid (R.heap[w.heap.size+1+1]? = some (.cells ([int i64 x0,int i64 x1,int i64 x2,int i64 x3,int i64 x4,int i64 x5,int i64 x6,int i64 x7,int i64 x8]:List Value).toArray 121 (0,0))):=by
  have h:=M.out;rw[S.out,Q] at h;exact h
 have a:∀ (k:Nat) (x:Value),([int i64 x0,int i64 x1,int i64 x2,int i64 x3,int i64 x4,int i64 x5,int i64 x6,int i64 x7,int i64 x8]:List Value)[k]? = some x->R.cell? ⟨w.heap.size+1+1,k,none⟩=some x:=by
  intro k x N;rw[cell_of_row R _ k _ 121 (0,0) E.out];simpa using N
 have a0:=a 0 _ rfl;have a1:=a 1 _ rfl;have a2:=a 2 _ rfl;have a3:=a 3 _ rfl;have a4:=a 4 _ rfl;have a5:=a 5 _ rfl;have a6:=a 6 _ rfl;have a7:=a 7 _ rfl;have a8:=a 8 _ rfl;have HZ:Hid (oX R (w.heap.size+1) [0,0,0,0,0,0,0,0,0]):=⟨rfl,fun k x N=>⟨(l.cell (p:=⟨w.heap.size+1,k,none⟩) (Nat.lt_succ_self _)).trans (o.out.2 k x N).c,(l.frozen (p:=⟨w.heap.size+1,k,none⟩) (Nat.lt_succ_self _)).trans (o.out.2 k x N).f,lQ (o.out.2 k x N).lt l.size⟩⟩;have HW:=qQ (T.out.trans (l.mono (by omega)));obtain⟨z0,z1,z2,z3,z4,z5,z6,z7,z8⟩:=oX.nine HZ.out;obtain⟨c0,f0,l0⟩:=z0;obtain⟨c1,f1,_⟩:=z1;obtain⟨c2,f2,_⟩:=z2;obtain⟨c3,f3,_⟩:=z3;obtain⟨c4,f4,_⟩:=z4;obtain⟨c5,f5,_⟩:=z5;obtain⟨c6,f6,_⟩:=z6;obtain⟨c7,f7,_⟩:=z7;obtain⟨c8,f8,_⟩:=z8;have I:=(((((((((HZ.out.set (i:=0) (by decide) x0).set (i:=1) (by decide) x1).set (i:=2) (by decide) x2).set (i:=3) (by decide) x3).set (i:=4) (by decide) x4).set (i:=5) (by decide) x5).set (i:=6) (by decide) x6).set (i:=7) (by decide) x7).set (i:=8) (by decide) x8);have FZ:=qQ I;clear I M E a Q O A J C D G m1 Z;go_wp2;obtain⟨r0,r1,r2,r3,r4,r5,r6,r7,r8⟩:=FZ.out.nine;replace r0:=r0.c;replace r1:=r1.c;replace r2:=r2.c;replace r3:=r3.c;replace r4:=r4.c;replace r5:=r5.c;replace r6:=r6.c;replace r7:=r7.c;replace r8:=r8.c;refine eQ (v:=rvl (oJ (d,nm,p,u,v))) ?_ rfl ⟨rfl,?_⟩
 ·rw[HR.out]
  simp[results,results49,go_sem,r0,r1,r2,r3,r4,r5,r6,r7,r8,rvl]
 ·exact bs (bs (bs (bs (bs (bs (bs (bs (bs HW.out (by simp) _) (by simp) _) (by simp) _) (by simp) _) (by simp) _) (by simp) _) (by simp) _) (by simp) _) (by simp) _
theorem c3Q {x y:List Int}{b:Int}(g:x[i]? = some a)(j:y[i]? = some b)(h:x.take i=y.take i):x.take (i+1)=y.take (i+1)↔a=b:=by
 rw[rX,rX,g,j,h];simp
theorem c3X (B:Nat)(v1 v2:Value)(x y:List Int)(w:World)(hB:B<=w.heap.size)(v:yQ w B B v1 x)(z:yQ w B B v2 y)(m:x.length=y.length)(r:Bool)(H:decide (x=y)=r) :
  Calls prog 31 #[v1,v2] w (iQ w (.bool r)):=by
 have J:=qQ v;have L:=qQ z;have D:=qQ H;obtain⟨a,c,rfl,hc,R⟩:=v.slice;obtain⟨a2,c2,rfl,P,S⟩:=z.slice;have C:=qQ m;have X:((x.length:Int) == (y.length:Int))=true:=by simp[m]
 clear H m v z;go_enter func31,ntmps31;go_wp2
 go_loopw [8] (fun s wr=>∃ (i:Nat),s=int i64 (i:Int)/\i<=x.length/\Hid (x.take i=y.take i)/\xQ w wr) (fun s _=>x.length - (intOf s).toNat)
 case atStart=>exact⟨0,rfl,dQ _,by simp[Hid],uQ _ _⟩
 case round =>
  obtain⟨i,rfl,hi,A,g⟩:=hrel;by_cases M:i<x.length
  ·have N:i<y.length:=by have:=C.out;omega
   obtain⟨b,o,d,rfl,V,_,G,e0⟩:=J.out.get hB g M;obtain⟨b',Y,l,rfl,O,_,j,U⟩:=L.out.get hB g N;have E:=qQ (c3Q G j A.out);clear G j;by_cases h:d=l
   ·have p:(d != l)=false:=by simpa using h
    have I:=qQ h;clear h;go_wp2;go_quiet (fail);go_wp2
    go_roundw
    case rel=>exact⟨i+1,by go_num,by omega,E.out.2 I.out,below_drewN g _⟩
    case measure=>simp[intOf];omega
   ·have p:(d != l)=true:=by simpa using h
    have Q:false=r:=by
     rw[<-D.out];refine(lZ fun e=>h (E.out.1 (by rw[e]))).symm
    subst Q;clear h;go_wp2;go_quiet (fail);go_wp2;go_ret;exact⟨rfl,below_drewN g _⟩
  ·have k:i=x.length:=by omega
   have T:true=r:=by
    rw[<-D.out];have F:=A.out;rw[k,bU,C.out,bU] at F;exact(sJ F).symm
   subst T;subst k;go_wp2;go_ret;exact⟨rfl,g⟩
theorem a3Q (B:Nat)(v1 v2:Value)(x:List Int)(w:World)(hB:B<=w.heap.size)(k:yQ w B B v1 x)(l:yQ w B B v2 x) :
  Calls prog 6 #[v1,v2] w (iQ w (.bool true)):=by
 have v:=qQ k;have y:=qQ l;obtain⟨a,c,rfl,hc,D⟩:=k.slice;obtain⟨a2,c2,rfl,C,E⟩:=l.slice;clear k l;go_enter func6,ntmps6;go_wp2
 go_loopw [13] (fun s wr=>∃ (i:Nat),s=int i64 (i:Int)/\i<=x.length/\xQ w wr) (fun s _=>x.length - (intOf s).toNat)
 case atStart=>exact⟨0,rfl,dQ _,uQ _ _⟩
 case round =>
  obtain⟨i,rfl,hi,g⟩:=hrel;by_cases m:i<x.length
  ·obtain⟨b,o,d,rfl,G,_,p,e0⟩:=v.out.get hB g m
   obtain⟨b',H,z,rfl,A,_,h,F⟩:=y.out.get hB g m;obtain rfl:d=z:=Option.some.inj (p.symm.trans h);clear p h;go_wp2;go_quiet (fail);go_wp2
   go_roundw
   case rel=>exact⟨i+1,by go_num,by omega,below_drewN g _⟩
   case measure=>simp[intOf];omega
  ·have j:i=x.length:=by omega
   subst j;go_wp2;go_ret;exact⟨rfl,g⟩
theorem c3Z (w:World)(a b c d e:Value)(t:TypeId)(N:Nat)(g:N=w.heap.size):∀ j u,[a,b,c,d,e][j]? = some u->(w.alloc (.cells #[a,b,c,d,e] t)).cell? ((⟨N,0,none⟩:Addr).add j)=some u:=by
 subst g;exact fun j u hu=>World.news_of_block (w:=w.alloc (.cells #[a,b,c,d,e] t)) (B:=w.heap.size) (cs:=#[a,b,c,d,e]) (t:=t) (fr:=(0,0)) (lL w _) j u (by simpa using hu)
theorem a3X {y:ByteArray}(h:x≠y):kN x≠kN y:=by
 intro e;simp only[Lit.string.injEq] at e;apply h;apply ByteArray.ext;exact Array.toList_inj.1 e
theorem TwoB.gb {x:Value}(h:TwoB w R x y)(j:w.grownBy w' r)(i:some R≠r):TwoB w' R x y:=by
 have g:w'.heap[R]? = w.heap[R]?:=j.block R h.lt i;exact⟨(vJ (w:=w) (a:=⟨R,0,none⟩) g).trans h.c0,(vJ (w:=w) (a:=⟨R,1,none⟩) g).trans h.c1,(nV (w:=w) (a:=⟨R,0,none⟩) g).trans h.f0,(nV (w:=w) (a:=⟨R,1,none⟩) g).trans h.f1,lQ h.lt j.size⟩
theorem TwoB.set1 {x:Value}(h:TwoB w R x y)(u:Value):TwoB (w.setCell ⟨R,1,none⟩ u) R x u :=
 ⟨(jX (by simp)).trans h.c0,uU h.c1,eJ.trans h.f0,eJ.trans h.f1,by simpa using h.lt⟩
theorem a3Z {done:List En}{e:En}(h:x≠e.2.1):iX (done++[e]) x=iX done x:=by
 rw[vM,zQ (fun c=>h c.2.symm)];cases iX done x <;> rfl
theorem c3J {X w5 w6:World}{bk bm:Nat}{D:DataW Value}{done:List En}{e:En}{b:Rq}{Dp:DataW Value}
  (i:BookM X N bk bm n v D done) (hN:∀ k,w5.heap.size<=k->N k) (hd:zZ done e=0) (hn:nrm e=e)
  (l:iX (done++[e]) e.2.1=some b) (hP:Pts X bp np Dp (fun p=>p∈prs (done++[e]) e.2.1) (fun p=>(mQ (done++[e]) e.2.1 p).1)) (U:np<=done.length+1) (G:Maps.size Dp=(bZ (done++[e]) e.2.1).length) (Q:N bp) (E:bp≠bk) (F:bp≠bm)
  (m:w5.ownsMap prog 9 hR bm (n+1) (D.put (kN e.2.1) (.held (pv b (kX (done++[e]) e.2.1).1 bp)))) (L:X.grownBy w5 (some bm))
  (H:w6.ownsRow 0 72 5 (.slice (some ⟨g,0,none⟩) (done.length+1) cap) (done.length+1) (enc done++yG e)) (M:w5.grownBy w6 v.ownBlock) (R:v.ownBlock=some g\/w5.heap.size<=g) :
  BookM (w6.setCell ⟨bk,1,none⟩ (.slice (some ⟨g,0,none⟩) (done.length+1) cap)) N bk bm (n+1) (.slice (some ⟨g,0,none⟩) (done.length+1) cap) (D.put (kN e.2.1) (.held (pv b (kX (done++[e]) e.2.1).1 bp))) (done++[e]):=by
 obtain⟨S,T,z,C⟩:=i.lob;have Y:bk<w5.heap.size:=lQ i.two.lt L.size;have Z:bm<w5.heap.size:=m.lt
 have B:N g/\g≠bk/\g≠bm:=by
  rcases R with h|h
  ·exact C g h
  ·exact⟨hN g h,by omega,by omega⟩
 have O:w6.grownBy (w6.setCell ⟨bk,1,none⟩ (.slice (some ⟨g,0,none⟩) (done.length+1) cap)) (some bk):=aX (wX _ _) _ _;have ob:∀ k,v.ownBlock=some k->k≠bk/\k≠bm:=fun k hk=>(C k hk).2
 have j:∀ {o nq:Nat} {I:DataW Value} {P:Int->Prop} {f:Int->Rq},Pts X o nq I P f->o≠bk->o≠bm->Pts (w6.setCell ⟨bk,1,none⟩ (.slice (some ⟨g,0,none⟩) (done.length+1) cap)) o nq I P f:=fun {o} {_} {_} {_} {_} h h1 h2=>by
  refine((h.gb L (by simpa using h2)).gb M (fun e'=>?_)).gb O (by simpa using h1);rcases i.row.2 with⟨rfl,_⟩|⟨g',c',cur,rfl,_,hc,_⟩
  ·cases e'
  ·simp only[Value.ownBlock,aZ] at e'
   subst e';obtain⟨es,J,V,_⟩:=h.own;rw[hc] at V;cases V
 obtain⟨k1,k2,k3⟩:=auJ hd;refine⟨tS i.inv hd hn,?_,?_,?_,?_,fun x=>?_,fun x b' hx=>?_,?_,S,T,z,fun g' hg'=>?_⟩
 ·exact((i.two.gb L (by simpa using z)).gb M (fun e'=>(ob bk e'.symm).1 rfl)).set1 _
 ·exact(m.kept M (fun e'=>(ob bm e'.symm).2 rfl)).kept O (by simpa using fun h=>z h.symm)
 ·have:=H.kept O (.inr (by simpa [Value.ownBlock] using B.2.1))
  rw[wN];simpa using this
 ·simp;have:=i.cnt;omega
 ·by_cases a:x=e.2.1
  ·subst a
   rw[Maps.has_put_same i.own.isMap (k:=kN e.2.1) True.intro];simp[l]
  ·rw[Maps.has_put_other (a3X a),i.is x,a3Z a]
 ·by_cases a:x=e.2.1
  ·subst a
   rw[l] at hx;simp only[aZ] at hx;subst hx;exact⟨bp,np,Dp,Maps.atKey_put_same (k:=kN e.2.1) i.own.isMap True.intro _ _,j hP E F,by simpa using U,G,Q,E,F⟩
  ·rw[a3Z a] at hx
   obtain⟨o,nq,I,j1,j2,j3,j4,j5,j6,j7⟩:=(i.el x b' hx).ex;have A:∀ q,¬ (e.2.1=x/\q):=fun q c=>a c.1.symm;have e1:kX (done++[e]) x=kX done x:=gN (A _);have e2:prs (done++[e]) x=prs done x:=uP (A _);have e3:mQ (done++[e]) x=mQ done x:=funext fun y=>yM (A _);exact⟨o,nq,I,by rw[Maps.atKey_put_other (a3X a),e1];exact j1,by simp only[e2,e3];exact j j2 j6 j7,by simp;omega,by unfold bZ;rw[e2];exact j4,j5,j6,j7⟩
 ·rw[Maps.size_put (i.own.tidy qW),i.sz,yP]
  rcases k3 with⟨c1,c2,_⟩|⟨c1,b0,c2,_⟩
  ·rw[jQ c1,(i.has_no c2).1];simp
  ·rw[zQ c1,(i.is e.2.1).2 ⟨b0,c2⟩];simp
 ·simp only[Value.ownBlock,aZ] at hg'
  subst hg';exact B
theorem c4Q (N:Nat->Prop)(o V n:Nat)(v:Value)(D:DataW Value)(done:List En)(e:En)(w:World)(hB:BookM w N o V n v D done)(hs:e.2.1.size<=4294967296)(hN:∀ k,w.heap.size<=k->N k)(H:mZ e=0)(hl:done.length<4096)(bx:-9223372036854775808<=e.2.2.1/\e.2.2.1<=9223372036854775807)(Z:zZ done (nrm e)=0) :
  Calls prog 47 #[.pointer (some ⟨o,0,none⟩),ev e] w (DoP w N o V done e):=by
 have kw:=fun W=>rK e (by omega) W 0 H;have ka:=fun W (hW:BookM W N o V n v D done) (hNW:∀ k,W.heap.size<=k->N k)=>azZ N o V n v D done e W hW hs hNW H hl bx 0 Z;have kr:=fun W=>vL e (by omega) W;have HB:=qQ hB;obtain⟨va,vc,rfl⟩:=hB.slice;have hq:decide ((4096:Int)<=(done.length:Int))=false:=lZ (by omega);obtain⟨l,I⟩:∃ l,nrm e=l:=⟨_,rfl⟩;have HE:=qQ I;have HD:Hid (zZ done l = 0):=by rw[<-I];exact Z
 simp only[I] at ka kr;have an:l.2.1=e.2.1:=by rw[<-I];exact vE e
 obtain⟨d,nm,p,u,v'⟩:=e;obtain⟨A,a,B,C,j⟩:=l;simp only at an hs;subst an;obtain⟨i0,bn,c7,c8,c9⟩:=pZ eT;have V0:Hid (FivB (w.alloc (.cells #[int i64 d,.string a,int i64 p,int i64 u,int i64 v'] 72)) w.heap.size (int i64 d) (.string a) (int i64 p) (int i64 u) (int i64 v')):=FivB.new _ _ _ _ _ _ 72 _ rfl;clear H Z hB I;go_enter func47,ntmps47;go_wp2_with fail;refine(kw _).mono ?_;rintro e1 w1 ⟨rfl,G⟩;have B1:=bt (ba _ _) G;have ae:=HB.out.keep B1;obtain⟨t0,t1,cc,cd,c6⟩:=ae.two;obtain⟨c0,c1,c2,c3,c4,f0,f1,f2,f3,f4,a6⟩:=V0.out.below G;go_wp2_with fail;refine(ka _ ae (fun k hk=>hN k (bQ B1.size hk))).mono ?_;rintro e2 w2 ⟨M,⟨hz,_⟩|⟨_,b,L,np,Dp,rfl,Q,ai,ao,R,ah,au,aw⟩⟩
 ·exact absurd rfl hz
 obtain⟨P,Y⟩:∃ P,(kX (done++[(A,a,B,C,j)]) a).1=P:=⟨_,rfl⟩;have b6:=qQ Y;simp only[Y];have m:Hid (Pts w2 L np Dp (fun p=>p∈prs (done++[(A,a,B,C,j)]) a) (fun y=>(mQ (done++[(A,a,B,C,j)]) a y).1)/\np<=done.length+1/\Maps.size Dp=(bZ (done++[(A,a,B,C,j)]) a).length/\N L/\L≠o/\L≠V/\iX (done++[(A,a,B,C,j)]) a = some b):=⟨ai,ao,R,ah,au,aw,Q⟩;clear ai ao R ah au aw Q Y;obtain⟨c0,c1,c2,c3,c4,f0,f1,f2,f3,f4,a6⟩:=(V0.out.below G).below M;go_wp2_with fail;refine(kr _).mono ?_;rintro e3 w3 ⟨rfl,O⟩;obtain⟨c0,c1,c2,c3,c4,f0,f1,f2,f3,f4,a6⟩:=(((V0.out.below G).below M).below (ba _ (.cells #[int i64 b.1,int i64 b.2,int i64 P.1,int i64 P.2,.map (some L)] 166))).below O;obtain⟨X,hX⟩:∃ X,((((w3.setCell ⟨w.heap.size,0,none⟩ (int i64 A)).setCell ⟨w.heap.size,1,none⟩ (.string a)).setCell ⟨w.heap.size,2,none⟩ (int i64 B)).setCell ⟨w.heap.size,3,none⟩ (int i64 C)).setCell ⟨w.heap.size,4,none⟩ (int i64 j)=X:=⟨_,rfl⟩;have gX:w3.grownBy X (some w.heap.size):=by rw[<-hX];exact aX (aX (aX (aX (aX (wX _ _) _ _) _ _) _ _) _ _) _ _
 have B3:xQ w X:=by
  rw[<-hX];exact eY (bt (bal (bt B1 M) _) O) (vQ _) _ _ _ _ _
 have ag:Hid (FivB X w.heap.size (int i64 A) (.string a) (int i64 B) (int i64 C) (int i64 j)):=by
  rw[<-hX];constructor <;> simp[oR,pR,uU,c0,c1,c2,c3,c4,f0,f1,f2,f3,f4,a6,go_sem]
 have bf:Hid (FivB X w2.heap.size (int i64 b.1) (int i64 b.2) (int i64 P.1) (int i64 P.2) (.map (some L))):=((FivB.new w2 _ _ _ _ _ 166 _ rfl).below O).gb gX (by simp;omega);have F:=qQ (HB.out.keep B3)
 have PX:Hid (Pts X L np Dp (fun p=>p∈prs (done++[(A,a,B,C,j)]) a) (fun y=>(mQ (done++[(A,a,B,C,j)]) a y).1)):=(m.out.1.keep (bt (ba _ _) O)).gb gX (fun l=>by
  simp only[aZ] at l;obtain⟨es,bg,hb,_⟩:=m.out.1.own;have h1:=f0;have h2:=((V0.out.below G).below M).c0;rw[<-l] at h2;simp[World.cell?,hb] at h2)
 have cw:=HB.out.cnt;obtain⟨E,d3,S,gU⟩:=(F.out.own.drew).update qW underlying115 (by unfold maxLen;omega) (val:=pv b P L) (d:=.held (pv b P L)) (ps:=[]) (Go.WideMaps.keyOf_string_mk underlying9 (s:=a) (by unfold maxLen;omega)) rfl;have g5:X.grownBy E (some V):=sU (kV (wX X (some V))) gU;obtain⟨x0,x1,x2,x3,x4,y0,y1,y2,y3,y4,cz⟩:=ag.out;obtain⟨q0,q1,q2,q3,q4,r0,r1,r2,r3,r4,cx⟩:=bf.out;obtain⟨t0,t1,cc,cd,c6⟩:=F.out.two;go_wp2_with fail
 go_region
 obtain⟨bq,br,bv,a7⟩:=F.out.lob;have T5:=qQ (F.out.two.gb g5 (by simpa using bv));have V5:=qQ (ag.out.gb g5 (by have:=HB.out.own.lt;simp;omega))
 have bc:Hid (E.ownsRow 0 72 5 (.slice va done.length vc) done.length (enc done)):=F.out.row.kept g5 (by
  cases hv:(Value.slice va done.length vc).ownBlock with
  | none=>exact .inl rfl
  | some g=>right;intro l;exact(a7 g hv).2.2 (by simpa using l))
 have U:Hid (∀ g,(Value.slice va done.length vc).ownBlock=some g->g≠o/\g≠w.heap.size):=fun g hg=>⟨(a7 g hg).2.1,fun c=>by
  have h1:=HB.out.row;rcases h1.2 with⟨h2,_⟩|⟨g',c',cur,h2,_,hc,_⟩
  ·rw[h2] at hg;cases hg
  ·rw[h2] at hg
   simp only[Value.ownBlock,aZ] at hg;have:=(mY.1 hc).1;omega⟩
 obtain⟨k0,k1,d6,ca,am⟩:=T5.out;obtain⟨m0,m1,m2,m3,m4,df,dg,dh,di,dj,J⟩:=V5.out;go_wp2_with fail
 go_region_law (refine cN _ rfl _ _ 40 rfl 0 72 i0 (.agg #[int i64 0,.string ⟨#[]⟩,int i64 0,int i64 0,int i64 0]) 5 48 underlying40 bn c7 c8 c9 rfl (by decide) (.slice va done.length vc) done.length (enc done) rfl ?_ ⟨E.heap.size,0,none⟩ 1 1 [int i64 A,.string a,int i64 B,int i64 C,int i64 j] rfl rfl ?_ ?_ (by decide) ?_ ?_ ?_ (E.heap.size+1) ?_ ?_;(exact bc.out.kept (fG (kV (wX E none)) _) (by simp[Classical.em]));(exact c3Z E.drew _ _ _ _ _ 72 _ rfl);(intro z hz;simp at hz;rcases hz with rfl|rfl|rfl|rfl|rfl <;> rfl);(unfold maxLen;omega);(omega);(simp);(simp);intro g cap T aq i bj cy;have z0:T.cell? ⟨o,1,none⟩=some (.slice va done.length vc):=(i.cell_far ⟨o,1,none⟩ (by simp;omega) (fun l=>(U.out o l.symm).1 rfl)).trans (((ba E.drew _).cell (p:=⟨o,1,none⟩) am).trans k1);have z1:T.frozen? ⟨o,1,none⟩=false:=(i.frozen_far ⟨o,1,none⟩ (by simp;omega) (fun l=>(U.out o l.symm).1 rfl)).trans (((ba E.drew _).frozen (p:=⟨o,1,none⟩) am).trans ca);have z2:T.cell? ⟨w.heap.size,0,none⟩=some (int i64 A):=(i.cell_far ⟨w.heap.size,0,none⟩ (by simp;omega) (fun l=>(U.out w.heap.size l.symm).2 rfl)).trans (((ba E.drew _).cell (p:=⟨w.heap.size,0,none⟩) J).trans m0);have z3:T.cell? ⟨w.heap.size,1,none⟩=some (.string a):=(i.cell_far ⟨w.heap.size,1,none⟩ (by simp;omega) (fun l=>(U.out w.heap.size l.symm).2 rfl)).trans (((ba E.drew _).cell (p:=⟨w.heap.size,1,none⟩) J).trans m1);have z4:T.cell? ⟨w.heap.size,2,none⟩=some (int i64 B):=(i.cell_far ⟨w.heap.size,2,none⟩ (by simp;omega) (fun l=>(U.out w.heap.size l.symm).2 rfl)).trans (((ba E.drew _).cell (p:=⟨w.heap.size,2,none⟩) J).trans m2);have z5:T.cell? ⟨w.heap.size,3,none⟩=some (int i64 C):=(i.cell_far ⟨w.heap.size,3,none⟩ (by simp;omega) (fun l=>(U.out w.heap.size l.symm).2 rfl)).trans (((ba E.drew _).cell (p:=⟨w.heap.size,3,none⟩) J).trans m3);have z6:T.cell? ⟨w.heap.size,4,none⟩=some (int i64 j):=(i.cell_far ⟨w.heap.size,4,none⟩ (by simp;omega) (fun l=>(U.out w.heap.size l.symm).2 rfl)).trans (((ba E.drew _).cell (p:=⟨w.heap.size,4,none⟩) J).trans m4))
 all_goals go_wp2_with fail
 all_goals
  go_ret;have ak:E.grownBy T (Value.slice va done.length vc).ownBlock:=sU (kV (fG (wX _ _) _)) i;have bh:∀ k,E.heap.size<=k->N k:=fun k hk=>hN k (by have:=B3.size;have:=g5.size;omega);have aj:=b6.out;have bz:xG done (d,a,p,u,v')=done++[(A,a,B,C,j)]:=by unfold xG;rw[HE.out,jQ HD.out]
  have bw:nrm (A,a,B,C,j)=(A,a,B,C,j):=by rw[<-HE.out,oS]
  refine⟨by rw[HE.out,HD.out];rfl,?_,n+1,.slice (some ⟨g,0,none⟩) (done.length+1) cap,D.put (kN a) (.held (pv b (kX (done++[(A,a,B,C,j)]) a).1 L)),?_⟩
  ·exact yW (yW (yW (xX B3) g5 (fun k hk=>by simp only[aZ] at hk;exact .inl (hk▸br))) ak (fun k hk=>.inl (a7 k hk).1)) (aX (wX _ (some o)) _ _) (fun k hk=>by simp only[aZ] at hk;exact .inl (hk▸bq))
  ·rw[bz]
   rw[<-aj] at S;have:=c3J (e:=(A,a,B,C,j)) F.out bh HD.out bw m.out.2.2.2.2.2.2 PX.out m.out.2.1 m.out.2.2.1 m.out.2.2.2.1 m.out.2.2.2.2.1 m.out.2.2.2.2.2.1 S g5 aq ak (bj.imp id (fun h=>by omega));exact this
theorem a3J (N:Nat->Prop)(i j n:Nat)(v:Value)(D:DataW Value)(done:List En)(e:En)(w:World)(hB:BookM w N i j n v D done)(o:e.2.1.size<=9223372036854775807)(y:∀ k,w.heap.size<=k->N k)(m:-9223372036854775808<=e.2.2.1/\e.2.2.1<=9223372036854775807) :
  Calls prog 47 #[.pointer (some ⟨i,0,none⟩),ev e] w (DoP w N i j done e):=by
 by_cases B:mZ e≠0\/4096<=done.length
 ·refine(cwX N i j n v D done e w hB o B).mono ?_
  rintro x w' ⟨g,h⟩
  have p:xG done e=done:=by
   unfold xG;rw[zQ];intro l;obtain⟨A,C⟩:=sS l;rw[vW] at A;omega
  exact⟨g,xX h,n,v,D,by rw[p];exact hB.keep h⟩
 ·have a:mZ e=0:=by omega
  have o:e.2.1.size<=4294967296:=by
   have g:=(fD a).2.2.1;unfold mJ at g;simp only[eI,dJ] at g;have h:=g.1.2;rw[rL] at h
   show e.2.1.data.size<=_
   omega
  have z:done.length<4096:=by omega
  by_cases l:zZ done (nrm e)=0
  ·exact c4Q N i j n v D done e w hB o y a z m l
  ·refine(cwZ N i j n v D done e w hB o y a z m _ rfl l).mono ?_
   rintro x w' ⟨g,h⟩;exact⟨g,xX h,n,v,D,by unfold xG;rw[zQ l];exact hB.keep h⟩
theorem fT (N:Nat->Prop)(w:World)(a:∀ k,w.heap.size<=k->N k):Calls prog 20 #[] w fun x w'=>x=.returned (.pointer (some ⟨w.heap.size+1,0,none⟩))/\xQ w w'/\w'.heap.size=w.heap.size+1+1/\BookM w' N (w.heap.size+1) w.heap.size 0 (.slice none 0 0) (.map []) []:=by
 have h:=@run_makeMap prog;go_enter func20,ntmps20;go_wp2;go_ret;refine⟨rfl,bal (ba _ _) _,by simp,⟨uE,?_,?_,?_,vQ _,fun x=>?_,fun x b hx=>?_,?_,a _ (by omega),a _ (by omega),by omega,fun g hg=>by cases hg⟩⟩
 ·exact TwoB.new _ _ _ _ _ (by simp)
 ·exact(World.ownsMap_made w prog 9 hR).alloc _
 ·exact⟨rfl,.inl ⟨rfl,rfl⟩⟩
 ·simp[Maps.has,iX]
 ·simp[iX] at hx
 ·simp[Maps.size,bY]
theorem c4X (w:World)(A:TypeId)(g n:Nat)(a:Addr)(l:Nat)(cur:Array Value)(cs:List Value)(p:w.heap[g]? = some (.cells cur 72 (0,0)))(z:cs.length=n*5)
  (i:∀ j v,cs[j]? = some v->w.cell? (a.add j)=some v) (h:cs.length<=cur.size) (o:∀ v∈cs,v.oneCell' = true) :
  (Builtin.copy_ #[40,40] A #[.slice (some ⟨g,0,none⟩) n n,.slice (some a) n l]).run prog w=.ok (goInt n) (w.setRow g (cs++cur.toList.drop cs.length).toArray):=by
 have y:=run_loadCells_list (P:=prog) w a cs i;have k:=run_storeCells_at prog g 0 72 cs 0 cur w p (by simpa using h) o;obtain⟨B,hi,_,m,_⟩:=pZ eT;simp only[vX,fI,List.take_zero,List.nil_append] at k;simp[Builtin.copy_,run_underlying underlying40,Builtin.lenOf,Builtin.firstCells,sizeOf,typeInfo,hi,m,<-z,y,k]
theorem c4Z (w:World)(o:TypeId)(g n:Nat)(ad:Option Addr)(i:Nat)(cur:Array Value)(p:w.heap[g]? = some (.cells cur 72 (0,0)))(cs:List Value)(z:cs.length=n*5)(h:(ad=none/\n=0/\i=0)\/∃ b,ad=some b/\∀ j v,cs[j]? = some v->w.cell? (b.add j)=some v)(l:cs.length=cur.size)(y:∀ v∈cs,v.oneCell' = true) :
  (Builtin.copy_ #[40,40] o #[.slice (some ⟨g,0,none⟩) n n,.slice ad n i]).run prog w=.ok (goInt n) (w.setRow g cs.toArray):=by
 rcases h with⟨rfl,rfl,rfl⟩|⟨b,rfl,h⟩
 ·have a:=run_copy_nil (P:=prog) w 40 40 o 72 ⟨g,0,none⟩ 0 0 underlying40 (by obtain⟨A,hi,_⟩:=pZ eT;rw[hi];rfl)
  have m:cs=[]:=anZ (by omega);subst m;have k:cur = #[]:=Array.eq_empty_of_size_eq_zero (by simpa using l.symm);subst k;rw[show([]:List Value).toArray = #[] from rfl,setRow_self w g #[] 72 (0,0) p];exact a
 ·have a:=c4X w o g n b i cur cs p z h (by omega) y
  rw[nG (by rw[rL];omega),bG] at a;exact a
theorem cW (l:List En):∀ v∈enc l,v.oneCell' = true:=by
 intro v g;simp only[enc,gC] at g;obtain⟨e,_,a⟩:=g;simp[yG] at a;rcases a with rfl|rfl|rfl|rfl|rfl <;> rfl
theorem c4J (h:w.ownsRow base 72 5 v n xs):∃ ad c,v=.slice ad n c/\((ad=none/\n=0/\c=0)\/∃ b,ad=some b/\∀ j u,xs[j]? = some u->w.cell? (b.add j)=some u):=by
 rcases h.2 with⟨rfl,rfl⟩|⟨g,cap,cur,rfl,_,hc,_,_,_,a⟩
 ·exact⟨none,0,rfl,.inl ⟨rfl,rfl,rfl⟩⟩
 ·refine⟨_,_,rfl,.inr ⟨_,rfl,fun j u hj=>?_⟩⟩
  refine World.news_of_block hc j u ?_;rw[<-a] at hj;rw[vN] at hj;split at hj
  ·exact hj
  ·cases hj
theorem c5Q (N:Nat->Prop)(z C n:Nat)(v:Value)(D:DataW Value)(done:List En)(w:World)(hB:BookM w N z C n v D done) :
  Calls prog 27 #[.pointer (some ⟨z,0,none⟩)] w fun x w'=>∃ r,x=.returned r/\w'.ownsRow w.heap.size 72 5 r done.length (enc done)/\xQ w w':=by
 obtain⟨t0,t1,J,L,H⟩:=hB.two;have a:=hB.row;have A:=hB.inv.len;clear hB;obtain⟨ad,c,rfl,g⟩:=c4J a;obtain⟨I,hi,o,p,y⟩:=pZ eT
 have G:∀ u:World,(Instr.makeSlice 40 (int i64 (done.length:Int)) (int i64 (done.length:Int))).run prog u =
   .ok (.slice (some ⟨u.heap.size,0,none⟩) done.length done.length) (u.alloc (.cells (madeCells #[int i64 0,.string ⟨#[]⟩,int i64 0,int i64 0,int i64 0] (done.length*5)) 72)):=fun u=>by
  have h:=run_make (P:=prog) u 40 72 I (.agg #[int i64 0,.string ⟨#[]⟩,int i64 0,int i64 0,int i64 0]) underlying40 hi o .i64 .i64 (done.length:Int) (done.length:Int) (by omega) (iK _) (by rw[y];omega) (by omega);rw[tF] at h;simpa [p,Value.cells] using h
 have B:Hid ((ad=none/\done.length=0/\c=0)\/∃ b,ad=some b/\∀ j u,(enc done)[j]? = some u->(w.alloc (.cells (madeCells #[int i64 0,.string ⟨#[]⟩,int i64 0,int i64 0,int i64 0] (done.length*5)) 72)).cell? (b.add j)=some u):=by
  rcases g with h|⟨b,E,F⟩
  ·exact .inl h
  ·exact .inr ⟨b,E,fun j u hj=>(World.grownBy_alloc w _ none).cell (F j u hj) (by simp)⟩
 have m:=c4Z (w.alloc (.cells (madeCells #[int i64 0,.string ⟨#[]⟩,int i64 0,int i64 0,int i64 0] (done.length*5)) 72)) 3 w.heap.size done.length ad c _ (lL w _) (enc done) (bM done) B.out (by simp[bM,size_madeCells]) (cW done);obtain⟨W,i⟩:∃ W,(w.alloc (.cells (madeCells #[int i64 0,.string ⟨#[]⟩,int i64 0,int i64 0,int i64 0] (done.length*5)) 72)).setRow w.heap.size (enc done).toArray=W:=⟨_,rfl⟩;have k:Hid (xQ w W):=by rw[<-i];exact below_setRow (ba _ _) (vQ _) _
 have l:Hid (W.heap[w.heap.size]? = some (.cells (enc done).toArray 72 (0,0))):=by
  show _=_
  rw[<-i];exact setRow_heap _ _ _ _ 72 (0,0) (lL w _)
 rw[i] at m;clear g a i;go_enter func27,ntmps27;go_wp2;go_ret;refine⟨_,rfl,⟨by rw[bM],.inr ⟨w.heap.size,done.length,_,rfl,vQ _,l.out,vQ _,by unfold maxLen;omega,by simp[bM],?_⟩⟩,k.out⟩;rw[List.toList_toArray,gJ (by rw[bM];exact vQ _)]
open Go.Maps Go.Sort
end K.P
namespace K.P
open Go.RowKit Go.Shelf K.Ds
attribute [local go_sem] Oper.semAt_some
end K.P
namespace K.P
open Go.RowKit
section
variable {P:Program} {ops:Array Oper} {Q:Exit->Act->World->Prop} {md:Region.Mode} {S:World->Prop} {J:Nat->Bool}
end
theorem zA:type_of% @List.setIfInBounds_toArray:=@List.setIfInBounds_toArray
theorem zB:type_of% @List.set_cons_zero:=@List.set_cons_zero
theorem zC:type_of% @List.set_cons_succ:=@List.set_cons_succ
end K.P
namespace K.P
open Go.RowKit Go.Shelf K.Ds
theorem xO (h:w.ownsRow base t sz v n xs)(p:∀ g,v.ownBlock=some g->w'.heap[g]? = w.heap[g]?):w'.ownsRow base t sz v n xs:=by
 refine⟨h.1,?_⟩;rcases h.2 with i|⟨g,cap,cur,a,o,hc,j,k,l,m⟩
 ·exact .inl i
 ·exact .inr ⟨g,cap,cur,a,o,(p g (by rw[a];rfl)).trans hc,j,k,l,m⟩
theorem tX (h:w.ownsRow base t sz v n xs)(a:v.ownBlock=some g):base<=g/\g<w.heap.size:=by
 rcases h.2 with⟨rfl,_⟩|⟨j,cap,cur,rfl,i,hc,_⟩
 ·cases a
 ·simp only[Value.ownBlock,aZ] at a
  subst a;exact⟨i,(mY.1 hc).1⟩
theorem iY (h:w.ownsRow base t sz v n xs):∃ a c,v=.slice a n c:=by
 rcases h.2 with⟨rfl,rfl⟩|⟨g,cap,cur,rfl,_⟩
 ·exact⟨_,_,rfl⟩
 ·exact⟨_,_,rfl⟩
theorem sZ (h:W.ownsRow m t z v n xs)(a:W.grownBy W' r)(i:∀ g,v.ownBlock=some g->r≠some g):W'.ownsRow m t z v n xs :=
 xO h fun g hg2=>a.block g (tX h hg2).2 (fun e=>i g hg2 e.symm)
end K.P
namespace K.P
open Go.RowKit K.Ds
def wl (l:List Int):List Value:=l.map (Value.int .i64)
theorem c5X (s:List Nat)(w:Nat):(octs s w).length=8:=by simp[octs]
theorem c5Z (s:List Nat)(w j:Nat)(h:j<8):(octs s w)[j]? = some (s.getD (8*w+j) 0):=by simp[octs,h]
theorem c5J {w:Nat}(h:j<8):zY ((octs s w).take (j+1))=zY ((octs s w).take j)*256+s.getD (8*w+j) 0:=by
 rw[rX,c5Z s w j h,Option.toList_some,ayX]
theorem a4Q (a:∀ b∈s,b<256)(w j:Nat):zY ((octs s w).take j)<256 ^ j:=by
 have h:=uT (l:=(octs s w).take j) fun b hb'=>aT a w b (pG hb');exact lQ h (Nat.pow_le_pow_right (by decide) (by rw[lU];exact Nat.min_le_left _ _))
theorem gT {wr:World}(h:Below base w wr)(i:base<=w.heap.size)(g:wr.ownsRow base t sz v n xs)(a:(wr.alloc o).grownBy w' v.ownBlock):Below base w w' :=
 ⟨a.os.trans h.os,a.tape.trans h.tape,a.output.trans h.output,bQ h.size (bQ (by simp) a.size),fun b hb'=>by
  have j:=h.size;rw[a.block b (by simp;omega) (fun e=>by have:=(tX g e.symm).1;omega),tM _ _ _ (by omega)];exact h.block b hb'⟩
theorem c6Q (nm:ByteArray)(w:World) :
  Calls prog 59 #[.string nm] w fun e w'=>∃ v,e=.returned v/\w'.ownsRow w.heap.size 2 1 v 4 (wl (zJ (nU nm)))/\xQ w w':=by
 obtain⟨i2,L,M,N,O⟩:=pZ uL;obtain⟨s,l⟩:∃ s,nU nm=s:=⟨_,rfl⟩;have aa:s.length=nm.size:=by rw[<-l];simp[nU]
 have P:Hid (∀ b∈s,b<256):=by rw[<-l];exact bT nm
 have Y:Hid (∀ i (h:i<nm.size),(nm.get i h).toNat=s.getD i 0):=by
  intro i h;have C:i<nm.data.toList.length:=by simpa using h
  rw[<-l,List.getD,nU,mV,nZ C];rfl
 rw[l];clear l;go_enter func59,ntmps59;go_wp2
 go_loopw [4,3] (fun t v wr=>∃ (k:Nat),t=int i64 (k:Int)/\k<=4/\Hid (wr.ownsRow w.heap.size 2 1 v k (wl ((zJ s).take k)))/\Hid (xQ w wr)) (fun t _ _=>4 - (intOf t).toNat)
 case atStart=>exact⟨0,rfl,by omega,⟨rfl,.inl ⟨rfl,rfl⟩⟩,uQ _ _⟩
 case round =>
  obtain⟨k,rfl,hk,A,G⟩:=hrel;by_cases R:k<4
  ·go_wp2
   go_loopw [6,5] (fun t v wq=>∃ (j n:Nat),t=int i64 ((8*k+j:Nat):Int)/\v=.int .u64 (n:Int)/\j<=8/\Hid (zY ((octs s k).take j)=n)/\wq=wr) (fun t _ _=>40 - (intOf t).toNat)
   case atStart=>exact⟨0,0,by simp,rfl,by omega,rfl,rfl⟩
   case round =>
    obtain⟨j,n,rfl,rfl,H,y,rfl⟩:=hrel;by_cases C:j<8
    ·have D:n<256 ^ j:=y.out▸a4Q P.out k j
     have T:n*256<18446744073709551616:=by
      have J:256 ^ j<=256 ^ 7:=Nat.pow_le_pow_right (by decide) (by omega);omega
     have a:=c5J (s:=s) (w:=k) C;rw[y.out] at a;obtain⟨i,hi⟩:∃ i,8*k+j=i:=⟨_,rfl⟩;rw[hi] at a ⊢;have ac:IntKind.u64.wrap ((n:Int)*256)=((n*256:Nat):Int):=by rw[IntKind.wrap_u64];omega
     have a9:(i:Int)<8*(k:Int)+8:=by omega
     have a8:i<=40:=by omega
     by_cases J:i<nm.size
     ·obtain⟨b,S⟩:∃ b,(nm[i]'J).toNat=b:=⟨_,rfl⟩
      have I:Hid (s.getD i 0=b):=(Y.out i J).symm.trans S;have a6:b<256:=by rw[<-S];exact UInt8.toNat_lt _
      have ae:IntKind.u64.wrap (b:Int)=(b:Int):=by rw[IntKind.wrap_u64];omega
      have af:IntKind.u64.wrap (((n*256:Nat):Int)+(b:Int))=((n*256+b:Nat):Int):=by rw[IntKind.wrap_u64];omega
      have p:Hid (8*k+j=i):=hi;have o:Hid (zY ((octs s k).take (j+1))=n*256+b):=by rw[Hid,a,I.out]
      clear a hi;go_wp2
      go_roundw
      case rel=>exact⟨j+1,n*256+b,by have:=p.out;go_num,rfl,C,o,trivial⟩
      case measure=>have:=p.out;simp[intOf];omega
     ·have p:Hid (8*k+j=i):=hi
      have o:Hid (zY ((octs s k).take (j+1))=n*256):=by rw[Hid,a,List.getD,pL (by omega)];rfl
      clear a hi;go_wp2
      go_roundw
      case rel=>exact⟨j+1,n*256,by have:=p.out;go_num,rfl,C,o,trivial⟩
      case measure=>have:=p.out;simp[intOf];omega
    ·obtain rfl:j=8:=by omega
     have D:n<256 ^ 8:=y.out▸a4Q P.out k 8
     have a7:IntKind.i64.wrap (n:Int)=tU n:=by
      rw[lJ];unfold tU;split <;> omega
     have E:wl ((zJ s).take (k+1))=wl ((zJ s).take k)++[int i64 (tU n)]:=by
      rw[rX]
      have:(zJ s)[k]? = some (tU n):=by
       have Z:zY (octs s k)=n:=by have:=y.out;rwa [gJ (by rw[c5X];omega)] at this
       simp[zJ,R,Z]
      rw[this];simp[wl]
     have z:Hid (wl ((zJ s).take (k+1))=wl ((zJ s).take k)++[int i64 (tU n)]):=E;have B:Hid ((wr.alloc (.cells #[int i64 (tU n)] 2)).ownsRow w.heap.size 2 1 u3 k (wl ((zJ s).take k))):=A.out.alloc _;clear E D;go_wp2_with (at_builtin;refine qF _ rfl _ _ 26 rfl w.heap.size 2 i2 (int i64 0) 1 8 underlying26 L M N O rfl (by decide) _ _ _ rfl B.out ⟨wr.heap.size,0,none⟩ 1 1 [int i64 (tU n)] rfl rfl ?q1 ?q2 ?q3 ?q4 ?q5 ?_)
     case q1=>intro j u H;match j,H with|0,H=>cases H;rw[bJ];exact(Cl.new _ 2 0 _ rfl rfl).c
     case q2=>intro u U;simp at U;subst U;rfl
     case q3=>simp[maxLen];omega
     case q4=>omega
     case q5=>have:=G.out.size;simp;omega
     intro v' w' m g _;have V:Hid (w'.ownsRow w.heap.size 2 1 v' (k+1) (wl ((zJ s).take (k+1)))):=by rw[Hid,z.out];exact m
     have X:Hid (xQ w w'):=gT G.out (vQ _) A.out g;clear m g A G B z y;go_wp2
     go_roundw
     case rel=>exact⟨k+1,by go_num,R,V,X⟩
     case measure=>simp[intOf];omega
  ·obtain rfl:k=4:=by omega
   have Q:(zJ s).take 4=zJ s:=gJ (by rw[uF];omega);have F:Hid (wr.ownsRow w.heap.size 2 1 u3 4 (wl (zJ s))):=by have:=A.out;rwa [Q] at this
   clear A Q;go_wp2;go_ret;exact⟨_,rfl,F.out,G.out⟩

import Derived.Test.YtcaplmodgbpchaaGreatDoorQq20
import Derived.RegionDies
import Derived.Laws.StructEq
open Go.Proofs.Tryz
open Go.Value(int)
open Go.IntKind(i64)
set_option linter.unusedSimpArgs false
set_option maxHeartbeats 16000000
set_option maxRecDepth 100000
namespace Go.Proofs.YtcaplmodgbpchaaGreatDoor
variable {W W' w w':World} {M N k x:Int} {A b c g i lv n:Nat} {kv sv wv:Value} {out r xs ys:List Int} {ps:List (Nat × Int × Int)} {f:List Int->Nat × Int} {rs:List (List Int)} {a:Option Addr} {e:Value × Nat × Int × Int} {cur:Array Value} {es:List (Value × Nat × Int × Int)}
namespace K
open Go.RowKit K.Ds
def zR:Except Int dX->Ending
 | .error e=>.panicked (chn e)
 | .ok b=>.returned (.agg #[int i64 b.1,int i64 b.2.1,int i64 b.2.2])
structure Rk (W:World) (N:Nat) (k:Int) (c:ByteArray) (lo hi:Int) (wv kv:Value) (x1 x2 x3 y1 y2 y3:Int):Prop where
 a0:Cl W N 0 (int i64 k)
 a1:Cl W N 1 (.string c)
 a2:Cl W N 2 (int i64 lo)
 a3:Cl W N 3 (int i64 hi)
 a4:Cl W N 4 wv
 a5:Cl W N 5 kv
 b0:Cl W (N+1) 0 (int i64 x1)
 b1:Cl W (N+1) 1 (int i64 x2)
 b2:Cl W (N+1) 2 (int i64 x3)
 d0:Cl W (N+1+1) 0 (int i64 y1)
 d1:Cl W (N+1+1) 1 (int i64 y2)
 d2:Cl W (N+1+1) 2 (int i64 y3)
 e0:Cl W (N+1+1+1) 0 (int i64 0)
 e1:Cl W (N+1+1+1) 1 (int i64 0)
 e2:Cl W (N+1+1+1) 2 (int i64 0)
theorem Rk.at {N:Nat}{c:ByteArray}{lo hi:Int}{x1 x2 x3 y1 y2 y3:Int}(h:Rk W N k c lo hi wv kv x1 x2 x3 y1 y2 y3)(a:xQ W W'):Rk W' N k c lo hi wv kv x1 x2 x3 y1 y2 y3 :=
 ⟨h.a0.at a,h.a1.at a,h.a2.at a,h.a3.at a,h.a4.at a,h.a5.at a,h.b0.at a,h.b1.at a,h.b2.at a,h.d0.at a,h.d1.at a,h.d2.at a,h.e0.at a,h.e1.at a,h.e2.at a⟩
theorem Rk.new (w:World)(k:Int)(c:ByteArray)(lo hi:Int)(wv kv:Value)(x1 x2 x3 y1 y2 y3:Int) :
  Rk ((((w.alloc (.cells #[int i64 k,.string c,int i64 lo,int i64 hi,wv,kv] 53)).alloc (.cells #[int i64 x1,int i64 x2,int i64 x3] 131)).alloc (.cells #[int i64 y1,int i64 y2,int i64 y3] 131)).alloc (.cells #[int i64 0,int i64 0,int i64 0] 131)) w.heap.size k c lo hi wv kv x1 x2 x3 y1 y2 y3:=by
 constructor
 all_goals first
  | exact(((Cl.new _ 53 _ _ rfl rfl).at (ba _ _)).at (ba _ _)).at (ba _ _)
  | exact((Cl.new _ 131 _ _ (by simp) rfl).at (ba _ _)).at (ba _ _)
  | exact(Cl.new _ 131 _ _ (by simp) rfl).at (ba _ _)
  | exact Cl.new _ 131 _ _ (by simp) rfl
abbrev dH (w:World) (lv:Value) (k:Int) (c:ByteArray) (lo hi:Int) (wv kv:Value) (x1 x2 x3 y1 y2 y3:Int) (r:Except Int dX):Prop :=
 Calls prog 140 #[lv,.agg #[int i64 k,.string c,int i64 lo,int i64 hi,wv,kv],.agg #[int i64 x1,int i64 x2,int i64 x3],.agg #[int i64 y1,int i64 y2,int i64 y3]] w fun e w'=>e=zR r/\xQ w w'
theorem b4 (w:World)(a g h i:Obj):xQ w ((((w.alloc a).alloc g).alloc h).alloc i):=bal (bal (bal (ba _ _) _) _) _
theorem jK (h:xQ w W)(u0 u1 u2:Value):xQ w (((W.setCell ⟨w.heap.size+1+1+1,0,none⟩ u0).setCell ⟨w.heap.size+1+1+1,1,none⟩ u1).setCell ⟨w.heap.size+1+1+1,2,none⟩ u2) :=
 bs (bs (bs h (by dsimp only;omega) _) (by dsimp only;omega) _) (by dsimp only;omega) _
theorem dzJ (lv:Value)(c:ByteArray)(lo hi:Int)(wv kv:Value)(x1 x2 x3 y1 y2 y3:Int)(a:mX (x1,x2,x3))(g:mX (y1,y2,y3))(w:World):dH w lv 7 c lo hi wv kv x1 x2 x3 y1 y2 y3 (.ok (x1+y1,x2+y2,mx x3 y3)):=by
 obtain⟨h,i,j,k,l,m⟩:=a;obtain⟨o,p,y,z,A,B⟩:=g;simp only at h i j k l m o p y z A B;go_enter func140,ntmps140;go_wp2
 ·exact eQ (v:=.agg #[int i64 (x1+y1),int i64 (x2+y2),int i64 (y3)]) (by simp[results,results140,go_sem]) rfl ⟨by rw[show mx x3 y3=y3 by unfold mx;split <;> omega];rfl,b4 _ _ _ _ _⟩
 ·exact eQ (v:=.agg #[int i64 (x1+y1),int i64 (x2+y2),int i64 (x3)]) (by simp[results,results140,go_sem]) rfl ⟨by rw[show mx x3 y3=x3 by unfold mx;split <;> omega];rfl,b4 _ _ _ _ _⟩
theorem d0Q (lv:Value)(c:ByteArray)(lo hi:Int)(wv kv:Value)(x1 x2 x3 y1 y2 y3:Int)(j:mX (x1,x2,x3))(k:mX (y1,y2,y3))(w:World):dH w lv 8 c lo hi wv kv x1 x2 x3 y1 y2 y3 (.ok (1,x2,x1*x3)):=by
 obtain⟨a,g,l,m,h,i⟩:=j;obtain⟨o,p,y,z,A,B⟩:=k;simp only at a g l m h i o p y z A B;have C:=nJ a g h i;have D:wrap64 (x1*x3)=x1*x3:=lA (by omega);go_enter func140,ntmps140;go_wp2;exact eQ (v:=.agg #[int i64 (1),int i64 (x2),int i64 (x1*x3)]) (by simp[results,results140,go_sem]) rfl ⟨rfl,b4 _ _ _ _ _⟩
theorem d0X (lv:Value)(c:ByteArray)(lo hi:Int)(wv kv:Value)(x1 x2 x3 y1 y2 y3:Int)(a:mX (x1,x2,x3))(g:mX (y1,y2,y3))(w:World):dH w lv 4 c lo hi wv kv x1 x2 x3 y1 y2 y3 (if x1=y1 then .ok (x1,x2+y2,x3+y3) else .error 8):=by
 obtain⟨i,j,k,l,m,o⟩:=a;obtain⟨p,y,z,A,B,C⟩:=g;simp only at i j k l m o p y z A B C;go_enter func140,ntmps140;by_cases h:x1=y1
 ·rw[jQ h]
  subst h;go_wp2_with fail;refine(bF 8 _).mono ?_;rintro e D ⟨rfl,rfl⟩;go_wp2;exact eQ (v:=.agg #[int i64 (x1),int i64 (x2+y2),int i64 (x3+y3)]) (by simp[results,results140,go_sem]) rfl ⟨rfl,b4 _ _ _ _ _⟩
 ·rw[zQ h]
  have E:(x1 == y1)=false:=by simpa using h
  go_wp2_with fail;refine(qU 8 _).mono ?_;rintro e D ⟨rfl,rfl⟩;go_wp2;exact⟨rfl,rfl,b4 _ _ _ _ _⟩
theorem d0Z (lv:Value)(c:ByteArray)(lo hi:Int)(wv kv:Value)(x1 x2 x3 y1 y2 y3:Int)(a:mX (x1,x2,x3))(g:mX (y1,y2,y3))(w:World):dH w lv 5 c lo hi wv kv x1 x2 x3 y1 y2 y3 (if x1=y1 then .ok (x1,x2+y2,x3+y3) else .error 8):=by
 obtain⟨i,j,k,l,m,o⟩:=a;obtain⟨p,y,z,A,B,C⟩:=g;simp only at i j k l m o p y z A B C;go_enter func140,ntmps140;by_cases h:x1=y1
 ·rw[jQ h]
  subst h;go_wp2_with fail;refine(bF 8 _).mono ?_;rintro e D ⟨rfl,rfl⟩;go_wp2;exact eQ (v:=.agg #[int i64 (x1),int i64 (x2+y2),int i64 (x3+y3)]) (by simp[results,results140,go_sem]) rfl ⟨rfl,b4 _ _ _ _ _⟩
 ·rw[zQ h]
  have E:(x1 == y1)=false:=by simpa using h
  go_wp2_with fail;refine(qU 8 _).mono ?_;rintro e D ⟨rfl,rfl⟩;go_wp2;exact⟨rfl,rfl,b4 _ _ _ _ _⟩
theorem d0J (lv:Value)(c:ByteArray)(lo hi:Int)(wv kv:Value)(x1 x2 x3 y1 y2 y3:Int)(j:mX (x1,x2,x3))(k:mX (y1,y2,y3))(w:World):dH w lv 9 c lo hi wv kv x1 x2 x3 y1 y2 y3 (if 0<=lo/\lo<x1 then .ok (1,x2,x3) else .error 3):=by
 obtain⟨l,m,o,p,y,z⟩:=j;obtain⟨A,B,C,D,E,F⟩:=k;simp only at l m o p y z A B C D E F;go_enter func140,ntmps140;by_cases h:0<=lo/\lo<x1
 ·rw[jQ h]
  obtain⟨g,a⟩:=h;go_wp2_with fail;refine(bF 3 _).mono ?_;rintro e i ⟨rfl,rfl⟩;go_wp2;exact eQ (v:=.agg #[int i64 (1),int i64 (x2),int i64 (x3)]) (by simp[results,results140,go_sem]) rfl ⟨rfl,b4 _ _ _ _ _⟩
 ·rw[zQ h]
  by_cases g:0<=lo
  ·have a:¬ lo<x1:=fun a=>h ⟨g,a⟩
   go_wp2_with fail;refine(qU 3 _).mono ?_;rintro e i ⟨rfl,rfl⟩;go_wp2;exact⟨rfl,rfl,b4 _ _ _ _ _⟩
  ·go_wp2_with fail
   refine(qU 3 _).mono ?_;rintro e i ⟨rfl,rfl⟩;go_wp2;exact⟨rfl,rfl,b4 _ _ _ _ _⟩
theorem d1Q (lv:Value)(c:ByteArray)(lo hi:Int)(wv kv:Value)(x1 x2 x3 y1 y2 y3:Int)(y:mX (x1,x2,x3))(z:mX (y1,y2,y3))(w:World):dH w lv 6 c lo hi wv kv x1 x2 x3 y1 y2 y3 (if wZ lo lo then .ok (x1,spn lo lo*x2,spn lo lo*x3) else .error 3):=by
 obtain⟨C,D,j,k,l,m⟩:=y;obtain⟨E,F,G,H,I,J⟩:=z;simp only at C D j k l m E F G H I J;go_enter func140,ntmps140;cases h:wZ lo lo with
 | true =>
  have a:=aF h;have A:=nJ a.1 a.2 j k;have B:=nJ a.1 a.2 l m;have i:=fun W=>aaX lo lo W h;obtain⟨s,g⟩:∃ s,spn lo lo=s:=⟨_,rfl⟩;rw[g] at a A B i;rw[jQ rfl,g];have o:wrap64 (s*x2)=s*x2:=lA (by omega);have p:wrap64 (s*x3)=s*x3:=lA (by omega);clear g h;go_wp2_with fail;refine(i _).mono ?_;rintro e L ⟨rfl,rfl⟩;clear i;go_wp2;exact eQ (v:=.agg #[int i64 (x1),int i64 (s*x2),int i64 (s*x3)]) (by simp[results,results140,go_sem]) rfl ⟨rfl,b4 _ _ _ _ _⟩
 | false =>
  rw[zQ (by simp)];go_wp2_with fail;refine(aaZ lo lo _ h).mono ?_;rintro e L ⟨rfl,rfl⟩;go_wp2;exact⟨rfl,rfl,b4 _ _ _ _ _⟩
theorem d1X (lv:Value)(c:ByteArray)(lo hi:Int)(wv kv:Value)(x1 x2 x3 y1 y2 y3:Int)(F:mX (x1,x2,x3))(G:mX (y1,y2,y3))(w:World)(B:Nat)(l:List aQ)(wh:List cX)(hB:B<=w.heap.size)(k:kQ w B lv l)(m:qZ w B wv wh)(r:Except Int dX)(o:eU (pJ l wh) (1,1,4096)=r):dH w lv 1 c lo hi wv kv x1 x2 x3 y1 y2 y3 (r):=by
 obtain⟨H,I,J,L,M,N⟩:=F;obtain⟨O,P,Q,R,S,T⟩:=G;simp only at H I J L M N O P Q R S T;obtain⟨er,i⟩:∃ er,pJ l wh=er:=⟨_,rfl⟩;rw[i] at o;have p:=qQ o;have z:=Rk.new w 1 c lo hi wv kv x1 x2 x3 y1 y2 y3;have y:=bO B lv wv l wh ((((w.alloc (.cells #[int i64 1,.string c,int i64 lo,int i64 hi,wv,kv] 53)).alloc (.cells #[int i64 x1,int i64 x2,int i64 x3] 131)).alloc (.cells #[int i64 y1,int i64 y2,int i64 y3] 131)).alloc (.cells #[int i64 0,int i64 0,int i64 0] 131)) (by simp;omega) (k.at hB (b4 _ _ _ _ _)) (m.at hB (b4 _ _ _ _ _)) er i;obtain⟨wa,wc,rfl,_⟩:=m.slice;obtain⟨X,Y,rfl,D,E⟩:=k.slice;clear i k m o;go_enter func140,ntmps140;go_wp2_with fail;refine y.mono ?_;rintro e U ⟨g,h⟩;clear y;have j:xQ w U:=bt (b4 _ _ _ _ _) g;have a:=z.at g;clear g z;rcases h with⟨rfl,A,sv,V,_,rfl,_⟩|⟨C,rfl⟩
 ·obtain rfl:Except.ok (1,1,4096)=r:=by rw[<-p.out,eU,jQ rfl]
  have t0:=a.e0.c;have t1:=a.e1.c;have t2:=a.e2.c;have Z:=a.e0.f;have s1:=a.e1.f;have s2:=a.e2.f;go_wp2;exact eQ (v:=.agg #[int i64 (1),int i64 (1),int i64 (4096)]) (by simp[results,results140,go_sem,t0,t1,t2]) rfl ⟨rfl,jK j _ _ _⟩
 ·obtain rfl:Except.error er=r:=by rw[<-p.out,eU,zQ C]
  go_wp2;exact⟨rfl,rfl,j⟩
theorem d1Z (lv:Value)(c:ByteArray)(lo hi:Int)(wv kv:Value)(x1 x2 x3 y1 y2 y3:Int)(hx:mX (x1,x2,x3))(hy:mX (y1,y2,y3))(w:World)(B:Nat)(l:List aQ)(wh:List cX)(hB:B<=w.heap.size)(L:kQ w B lv l)(M:qZ w B wv wh)(r:Except Int dX)(Q:rec l 2 c lo hi wh (x1,x2,x3) (y1,y2,y3)=r):dH w lv 2 c lo hi wv kv x1 x2 x3 y1 y2 y3 (r):=by
 obtain⟨p1,p2,p3,p4,p5,p6⟩:=hx;obtain⟨q1,q2,q3,q4,q5,q6⟩:=hy;simp only at p1 p2 p3 p4 p5 p6 q1 q2 q3 q4 q5 q6;have T:=Rk.new w 2 c lo hi wv kv x1 x2 x3 y1 y2 y3;have J:=qQ L;have V:=qQ M;have p:=qQ Q;obtain⟨U,wc,rfl,_⟩:=M.slice;obtain⟨la,lc,rfl,Z,a6⟩:=L.slice;clear L M Q;go_enter func140,ntmps140;cases hf:fnd l c with
 | none =>
  obtain rfl:Except.error 7=r:=by rw[<-p.out];simp[rec,hf]
  have H:=yB B _ l c ((((w.alloc (.cells #[int i64 2,.string c,int i64 lo,int i64 hi,.slice U wh.length wc,kv] 53)).alloc (.cells #[int i64 x1,int i64 x2,int i64 x3] 131)).alloc (.cells #[int i64 y1,int i64 y2,int i64 y3] 131)).alloc (.cells #[int i64 0,int i64 0,int i64 0] 131)) (by simp;omega) (J.out.at hB (b4 _ _ _ _ _)) hf;clear hf;go_wp2_with fail;refine H.mono ?_;rintro e I ⟨rfl,k⟩;have a:xQ w I:=bt (b4 _ _ _ _ _) k;go_wp2;exact⟨rfl,rfl,a⟩
 | some i =>
  have P:=qQ hf;have H:=uO B _ l c ((((w.alloc (.cells #[int i64 2,.string c,int i64 lo,int i64 hi,.slice U wh.length wc,kv] 53)).alloc (.cells #[int i64 x1,int i64 x2,int i64 x3] 131)).alloc (.cells #[int i64 y1,int i64 y2,int i64 y3] 131)).alloc (.cells #[int i64 0,int i64 0,int i64 0] 131)) (by simp;omega) (J.out.at hB (b4 _ _ _ _ _)) i hf;clear hf;go_wp2_with fail;refine H.mono ?_;rintro e I ⟨rfl,k⟩;have a:xQ w I:=bt (b4 _ _ _ _ _) k;have g:=T.at k;clear k T H;have N:=a.size;have C:=g.a0.c;have D:=g.a1.c;have E:=g.a2.c;have F:=g.a3.c;have G:=g.a4.c;cases hw:wZ lo hi with
  | false =>
   obtain rfl:Except.error 3=r:=by rw[<-p.out];simp[rec,P.out,hw]
   go_wp2_with fail;refine(aaZ lo hi _ hw).mono ?_;rintro e w2 ⟨rfl,rfl⟩;go_wp2;exact⟨rfl,rfl,a⟩
  | true =>
   have X:=aF hw;have O:=fun W=>aaX lo hi W hw;have m:Hid (eU (pJ l wh) (1,spn lo hi,4096*spn lo hi)=r):=by show _=_;have:=p.out;simpa [rec,P.out,hw] using this
   obtain⟨s,R⟩:∃ s,spn lo hi=s:=⟨_,rfl⟩;obtain⟨er,z⟩:∃ er,pJ l wh=er:=⟨_,rfl⟩;rw[R] at X O m;rw[z] at m;have S:=bO B _ _ l wh I (by omega) (J.out.at hB a) (V.out.at hB a) er z;clear R hw z p;have p:=qQ m;clear m;go_wp2_with fail;refine(O _).mono ?_;rintro e w2 ⟨rfl,rfl⟩;clear O;go_wp2_with fail;refine S.mono ?_;rintro e w3 ⟨y,h⟩;clear S;have o:xQ w w3:=bt a y;have j:=g.at y;clear C D E F G;clear y g a N;rcases h with⟨rfl,A,sv,es,_,rfl,_⟩|⟨Y,rfl⟩
   ·obtain rfl:Except.ok (1,s,4096*s)=r:=by rw[<-p.out,eU,jQ rfl]
    have t0:=j.e0.c;have t1:=j.e1.c;have t2:=j.e2.c;have s0:=j.e0.f;have s1:=j.e1.f;have s2:=j.e2.f;go_wp2;exact eQ (v:=.agg #[int i64 (1),int i64 (s),int i64 (4096*s)]) (by simp[results,results140,go_sem,t0,t1,t2]) rfl ⟨rfl,jK o _ _ _⟩
   ·obtain rfl:Except.error er=r:=by rw[<-p.out,eU,zQ Y]
    go_wp2;exact⟨rfl,rfl,o⟩
theorem d1J (lv:Value)(c:ByteArray)(lo hi:Int)(wv kv:Value)(x1 x2 x3 y1 y2 y3:Int)(Y:mX (x1,x2,x3))(Z:mX (y1,y2,y3))(w:World)(B:Nat)(l:List aQ)(wh:List cX)(hB:B<=w.heap.size)(L:kQ w B lv l)(M:qZ w B wv wh)(r:Except Int dX)(P:rec l 3 c lo hi wh (x1,x2,x3) (y1,y2,y3)=r):dH w lv 3 c lo hi wv kv x1 x2 x3 y1 y2 y3 (r):=by
 obtain⟨p1,p2,p3,p4,p5,p6⟩:=Y;obtain⟨q1,q2,q3,q4,q5,q6⟩:=Z;simp only at p1 p2 p3 p4 p5 p6 q1 q2 q3 q4 q5 q6;have R:=Rk.new w 3 c lo hi wv kv x1 x2 x3 y1 y2 y3;have G:=qQ L;have T:=qQ M;have m:=qQ P;obtain⟨S,wc,rfl,_⟩:=M.slice;obtain⟨la,lc,rfl,V,X⟩:=L.slice;clear L M P;go_enter func140,ntmps140;cases hf:fnd l c with
 | none =>
  obtain rfl:Except.error 7=r:=by rw[<-m.out];simp[rec,hf]
  have H:=yB B _ l c ((((w.alloc (.cells #[int i64 3,.string c,int i64 lo,int i64 hi,.slice S wh.length wc,kv] 53)).alloc (.cells #[int i64 x1,int i64 x2,int i64 x3] 131)).alloc (.cells #[int i64 y1,int i64 y2,int i64 y3] 131)).alloc (.cells #[int i64 0,int i64 0,int i64 0] 131)) (by simp;omega) (G.out.at hB (b4 _ _ _ _ _)) hf;clear hf;go_wp2_with fail;refine H.mono ?_;rintro e I ⟨rfl,j⟩;have a:xQ w I:=bt (b4 _ _ _ _ _) j;go_wp2;exact⟨rfl,rfl,a⟩
 | some i =>
  have O:=qQ hf;have H:=uO B _ l c ((((w.alloc (.cells #[int i64 3,.string c,int i64 lo,int i64 hi,.slice S wh.length wc,kv] 53)).alloc (.cells #[int i64 x1,int i64 x2,int i64 x3] 131)).alloc (.cells #[int i64 y1,int i64 y2,int i64 y3] 131)).alloc (.cells #[int i64 0,int i64 0,int i64 0] 131)) (by simp;omega) (G.out.at hB (b4 _ _ _ _ _)) i hf;clear hf;go_wp2_with fail;refine H.mono ?_;rintro e I ⟨rfl,j⟩;have a:xQ w I:=bt (b4 _ _ _ _ _) j;have C:=R.at j;clear j R H;have N:=a.size;have D:=C.a4.c;have p:Hid (eU (pJ l wh) (pV l i,1,4096)=r):=by show _=_;have:=m.out;simpa [rec,O.out] using this
  obtain⟨er,z⟩:∃ er,pJ l wh=er:=⟨_,rfl⟩;rw[z] at p;have Q:=bO B _ _ l wh I (by omega) (G.out.at hB a) (T.out.at hB a) er z;clear z m;have m:=qQ p;clear p;go_wp2_with fail;refine Q.mono ?_;rintro e w3 ⟨y,h⟩;clear Q;have k:xQ w w3:=bt a y;have g:=C.at y;clear D;clear y C a N;have J:=iD O.out;obtain⟨b,o,nm,sz,rfl,hb,E,c1,c2,hn⟩:=G.out.get hB k J;have F:pV l i=sz:=by simp[pV,E]
  rw[F] at m;clear E F;rcases h with⟨rfl,A,sv,es,_,rfl,_⟩|⟨U,rfl⟩
  ·obtain rfl:Except.ok (sz,1,4096)=r:=by rw[<-m.out,eU,jQ rfl]
   have t0:=g.e0.c;have t1:=g.e1.c;have t2:=g.e2.c;have s0:=g.e0.f;have s1:=g.e1.f;have s2:=g.e2.f;go_wp2;exact eQ (v:=.agg #[int i64 (sz),int i64 (1),int i64 (4096)]) (by simp[results,results140,go_sem,t0,t1,t2]) rfl ⟨rfl,jK k _ _ _⟩
  ·obtain rfl:Except.error er=r:=by rw[<-m.out,eU,zQ U]
   go_wp2;exact⟨rfl,rfl,k⟩
theorem d2Q (lv:Value)(c:ByteArray)(lo hi:Int)(wv kv:Value)(x1 x2 x3 y1 y2 y3:Int)(i:mX (x1,x2,x3))(j:mX (y1,y2,y3))(w:World):dH w lv 10 c lo hi wv kv x1 x2 x3 y1 y2 y3 (if wZ lo hi then .ok (x1,x2,spn lo hi) else .error 3):=by
 obtain⟨k,l,m,o,p,y⟩:=i;obtain⟨z,A,B,C,D,E⟩:=j;simp only at k l m o p y z A B C D E;go_enter func140,ntmps140;cases h:wZ lo hi with
 | true =>
  have g:=fun W=>aaX lo hi W h;rw[jQ rfl];clear h;go_wp2
  go_region_held3 (fun w'=>w'.cell? ⟨w.heap.size,2,none⟩=some (int i64 lo)/\w'.cell? ⟨w.heap.size,3,none⟩=some (int i64 hi)/\w'.cell? ⟨w.heap.size+1,0,none⟩=some (int i64 x1)/\w'.cell? ⟨w.heap.size+1,1,none⟩=some (int i64 x2)) (first|assumption|(simp[go_sem, *];done)) ((go_at_call 180;refine(g _).mono ?_;rintro x3 F ⟨rfl,a⟩;subst a))
  go_wp2;exact eQ (v:=.agg #[int i64 x1,int i64 x2,int i64 (spn lo hi)]) (by simp[results,results140,go_sem]) rfl ⟨rfl,(b4 _ _ _ _ _).drew⟩
 | false =>
  have g:=fun W=>aaZ lo hi W h;rw[zQ (by simp)];clear h;go_wp2
  go_region_dies
  all_goals (go_at_call 180;refine(g _).mono ?_;rintro x3 F ⟨rfl,a⟩;subst a;exact⟨rfl,rfl,(b4 _ _ _ _ _).drew⟩)
theorem cO (h:¬ tQ k<0):k=1\/k=2\/k=3\/k=4\/k=5\/k=6\/k=7\/k=8\/k=9\/k=10:=by
 unfold tQ at h;split at h
 ·omega
 ·split at h
  ·omega
  ·split at h
   ·omega
   ·omega
theorem d2X (k:Int)(m:¬ tQ k<0)(lv:Value)(c:ByteArray)(lo hi:Int)(wv kv:Value)(x y:dX)(g:mX x)(h:mX y)(w:World)(B:Nat)(l:List aQ)(wh:List cX)(hB:B<=w.heap.size)(i:kQ w B lv l)(j:qZ w B wv wh)
  (r:Except Int dX) (a:rec l k c lo hi wh x y=r):dH w lv k c lo hi wv kv x.1 x.2.1 x.2.2 y.1 y.2.1 y.2.2 r:=by
 obtain⟨x1,x2,x3⟩:=x;obtain⟨y1,y2,y3⟩:=y;rcases cO m with rfl|rfl|rfl|rfl|rfl|rfl|rfl|rfl|rfl|rfl
 ·exact d1X lv c lo hi wv kv x1 x2 x3 y1 y2 y3 g h w B l wh hB i j r (by rw[<-a];simp[rec])
 ·exact d1Z lv c lo hi wv kv x1 x2 x3 y1 y2 y3 g h w B l wh hB i j r a
 ·exact d1J lv c lo hi wv kv x1 x2 x3 y1 y2 y3 g h w B l wh hB i j r a
 ·subst a;have:=d0X lv c lo hi wv kv x1 x2 x3 y1 y2 y3 g h w;simpa [rec] using this
 ·subst a;have:=d0Z lv c lo hi wv kv x1 x2 x3 y1 y2 y3 g h w;simpa [rec] using this
 ·subst a;have:=d1Q lv c lo hi wv kv x1 x2 x3 y1 y2 y3 g h w;simpa [rec] using this
 ·subst a;have:=dzJ lv c lo hi wv kv x1 x2 x3 y1 y2 y3 g h w;simpa [rec] using this
 ·subst a;have:=d0Q lv c lo hi wv kv x1 x2 x3 y1 y2 y3 g h w;simpa [rec] using this
 ·subst a;have:=d0J lv c lo hi wv kv x1 x2 x3 y1 y2 y3 g h w;simpa [rec] using this
 ·subst a;have:=d2Q lv c lo hi wv kv x1 x2 x3 y1 y2 y3 g h w;simpa [rec] using this
def lY (ps:List (Nat × Int × Int)) (r:List Int):Bool:=ps.all fun e=>dV e.2.1 e.2.2 (r.getD e.1 0)
def aJ (lo hi v:Int):Int:=if v<lo then lo else if hi<v then hi else v
def mG (out:List Int) (p:Nat × Int):List Int:=out.set p.1 (out.getD p.1 0+p.2)
def gst (ps:List (Nat × Int × Int)) (f:List Int->Nat × Int) (out r:List Int):List Int:=if lY ps r then mG out (f r) else out
def gat (n:Nat) (ps:List (Nat × Int × Int)) (f:List Int->Nat × Int) (rs:List (List Int)):List Int:=rs.foldl (gst ps f) (List.replicate n 0)
def stp (k:Int) (at':Nat) (lo hi:Int) (r:List Int):Nat × Int:=if k=1 then (0,1) else if k=2 then (0,aJ lo hi (r.getD at' 0)) else ((r.getD at' 0).toNat,1)
def xA:List Int->Int
 | []=>0
 | a::l=>a+xA l
def jR (l:List aQ) (k:Int) (at':Nat):Nat:=if k=3 then (pV l at').toNat else 1
def ans (l:List aQ) (rs:List (List Int)):Qu->List Int
 | .none=>[]
 | .node k c lo hi wh _ x y =>
  if k=1\/k=2\/k=3 then gat (jR l k ((fnd l c).getD 0)) (wh.map (trp l)) (stp k ((fnd l c).getD 0) lo hi) rs
  else if k=4 then List.zipWith (· + ·) (ans l rs x) (ans l rs y)
  else if k=5 then List.zipWith (· - ·) (ans l rs x) (ans l rs y)
  else if k=6 then (ans l rs x).map (lo * ·)
  else if k=7 then ans l rs x++ans l rs y
  else if k=8 then [xA (ans l rs x)]
  else if k=9 then [(ans l rs x).getD lo.toNat 0]
  else (ans l rs x).map (aJ lo hi)
section
variable (l:List aQ) (rs:List (List Int)) (c:ByteArray) (lo hi:Int) (wh:List cX) (n:Nat) (x y:Qu)
theorem vK (h:k=1\/k=2\/k=3):ans l rs (.node k c lo hi wh n x y)=gat (jR l k ((fnd l c).getD 0)) (wh.map (trp l)) (stp k ((fnd l c).getD 0) lo hi) rs:=by
 simp only[ans];rw[jQ h]
theorem aaJ:ans l rs (.node 4 c lo hi wh n x y)=List.zipWith (· + ·) (ans l rs x) (ans l rs y):=by simp[ans]
theorem abQ:ans l rs (.node 5 c lo hi wh n x y)=List.zipWith (· - ·) (ans l rs x) (ans l rs y):=by simp[ans]
theorem abX:ans l rs (.node 6 c lo hi wh n x y)=(ans l rs x).map (lo * ·):=by simp[ans]
theorem abZ:ans l rs (.node 7 c lo hi wh n x y)=ans l rs x++ans l rs y:=by simp[ans]
theorem abJ:ans l rs (.node 8 c lo hi wh n x y)=[xA (ans l rs x)]:=by simp[ans]
theorem acQ:ans l rs (.node 9 c lo hi wh n x y)=[(ans l rs x).getD lo.toNat 0]:=by simp[ans]
theorem acX:ans l rs (.node 10 c lo hi wh n x y)=(ans l rs x).map (aJ lo hi):=by simp[ans]
end
theorem d2Z (ps:List (Nat × Int × Int))(f:List Int->Nat × Int)(out r:List Int):(gst ps f out r).length=out.length:=by
 unfold gst mG;split <;> simp
theorem d2J (ps:List (Nat × Int × Int))(f:List Int->Nat × Int)(rs:List (List Int))(out:List Int):(rs.foldl (gst ps f) out).length=out.length:=by
 induction rs generalizing out with
 | nil=>rfl
 | cons r rs ih=>rw[List.foldl_cons,ih,d2Z]
theorem dA (n:Nat)(ps:List (Nat × Int × Int))(f:List Int->Nat × Int)(rs:List (List Int)):(gat n ps f rs).length=n:=by
 rw[gat,d2J];simp
def xZ (M:Int) (xs:List Int):Prop:=∀ z∈xs,-M<=z/\z<=M
theorem xZ.mono (h:xZ M xs)(a:M<=N):xZ N xs:=fun z hz=>by have:=h z hz;omega
theorem xZ.getD (h:xZ M xs)(a:0<=M)(i:Nat):-M<=xs.getD i 0/\xs.getD i 0<=M:=by
 rw[List.getD];cases hi:xs[i]? with
 | none=>simp;omega
 | some x=>exact h x (qX hi)
theorem d3Q (h:xZ N out)(g:0<=N)(i:0<=M)(j:-M<=(f r).2/\(f r).2<=M):xZ (N+M) (gst ps f out r):=by
 unfold gst;split
 ·intro z a
  unfold mG at a;rcases mI a with a|rfl
  ·have:=h z a;omega
  ·have:=h.getD g (f r).1;omega
 ·exact h.mono (by omega)
theorem d3X (g:0<=M)(rs:List (List Int))(a:∀ r∈rs,-M<=(f r).2/\(f r).2<=M):∀ (N:Int) (out:List Int),0<=N->xZ N out->xZ (N+rs.length*M) (rs.foldl (gst ps f) out):=by
 induction rs with
 | nil=>intro N out _ h;simpa using h
 | cons r rs ih =>
  intro N out i h;rw[List.foldl_cons];have:=ih (fun r' h'=>a r' (qM _ h')) (N+M) (gst ps f out r) (by omega) (d3Q h i g (a r (bN ..)));refine this.mono ?_;rw[cD,lC,Int.add_mul];omega
theorem yK (a:0<=M)(h:∀ r∈rs,-M<=(f r).2/\(f r).2<=M)(i:rs.length<=4096):xZ (4096*M) (gat n ps f rs):=by
 have g:xZ 0 (List.replicate n (0:Int)):=fun z hz=>by have:=(List.mem_replicate.1 hz).2;omega
 refine(d3X a rs h 0 _ (iK _) g).mono ?_;have:=rR (show((rs.length:Int))<=4096 by omega) a;omega
theorem dO {lo hi v:Int}(h:wZ lo hi=true):-spn lo hi<=aJ lo hi v/\aJ lo hi v<=spn lo hi:=by
 simp only[wZ,dJ] at h;unfold aJ spn
 repeat' split
 all_goals omega
theorem d3Z (h:xZ M xs):-(xs.length*M)<=xA xs/\xA xs<=xs.length*M:=by
 induction xs with
 | nil=>simp[xA]
 | cons a xs ih =>
  have g:=ih fun z hz=>h z (qM _ hz);have i:=h a (bN ..);simp only[xA,cD];rw[lC,Int.add_mul];omega
theorem acZ {a b:Int}(i:-M<=a/\a<=M)(j:-N<=b/\b<=N):-(M*N)<=a*b/\a*b<=M*N:=by
 have g:0<=M:=by omega
 have ha:(a.natAbs:Int)<=M:=by omega
 have h:(b.natAbs:Int)<=N:=by omega
 have k:((a*b).natAbs:Int)<=M*N:=by
  rw[Int.natAbs_mul,gI];exact nH ha h (by omega) g
 omega
theorem bqZ (f:Int->Int->Int)(j:∀ a b,-M<=a/\a<=M->-N<=b/\b<=N->-(M+N)<=f a b/\f a b<=M+N)(h:xZ M xs)(i:xZ N ys):xZ (M+N) (List.zipWith f xs ys):=by
 induction xs generalizing ys with
 | nil=>intro z g;simp at g
 | cons a xs ih =>
  cases ys with
  | nil=>intro z g;simp at g
  | cons b ys =>
   intro z g;rw[List.zipWith_cons_cons] at g;rcases kJ.1 g with rfl|g
   ·exact j a b (h a (bN ..)) (i b (bN ..))
   ·exact ih (fun z g=>h z (qM _ g)) (fun z g=>i z (qM _ g)) z g
theorem uB {l:List aQ}{c:ByteArray}{lo hi:Int}{wh:List cX}{x y:Qu}{b:dX}(h:bnd l lv (.node k c lo hi wh n x y)=.ok b) :
  (n:Int)=tQ k/\∃ bx b',wJ (1<=n) (bnd l (lv+1) x)=.ok bx/\wJ (2<=n) (bnd l (lv+1) y)=.ok b'/\rec l k c lo hi wh bx b' = .ok b/\sH b=true:=by
 simp only[bnd] at h;split at h
 ·cases h
 ·split at h
  ·cases h
  ·split at h
   ·rename_i hk
    split at h
    ·cases h
    ·rename_i bx hbx
     split at h
     ·cases h
     ·rename_i b' hby
      split at h
      ·cases h
      ·rename_i b0 hr
       obtain⟨rfl,a⟩:=a1Q h;exact⟨hk,bx,b',hbx,hby,hr,a⟩
   ·cases h
theorem iF {e:Int}{b b':dX}(h:eU e b=.ok b'):e=0/\b=b':=by
 unfold eU at h;split at h
 ·cases h;exact⟨by assumption,rfl⟩
 ·cases h
theorem eO {l:List aQ}(P:cG l)(H:rs.length<=4096)(q:Qu):∀ (lv:Nat) (b:dX),bnd l lv q=.ok b->q≠.none->((ans l rs q).length:Int)=b.1/\xZ b.2.2 (ans l rs q):=by
 induction q with
 | none=>intro lv b _ h;exact absurd rfl h
 | node k c lo hi wh n x y ihx ihy =>
  intro lv b h _;obtain⟨B,⟨x1,x2,x3⟩,⟨y1,y2,y3⟩,o,p,g,J⟩:=uB h
  have kx:1<=n->x≠.none->((ans l rs x).length:Int)=x1/\xZ x3 (ans l rs x):=fun j C=>by
   rw[wJ,jQ j] at o;exact ihx _ _ o C
  have L:2<=n->y≠.none->((ans l rs y).length:Int)=y1/\xZ y3 (ans l rs y):=fun j D=>by
   rw[wJ,jQ j] at p;exact ihy _ _ p D
  have N:1<=n->x=.none->(x1,x2,x3)=((0,0,0):dX):=fun j C=>by
   rw[wJ,jQ j,C] at o;simp only[bnd] at o;cases o;rfl
  have O:2<=n->y=.none->(y1,y2,y3)=((0,0,0):dX):=fun j D=>by
   rw[wJ,jQ j,D] at p;simp only[bnd] at p;cases p;rfl
  have A:1<=n->((ans l rs x).length:Int)=x1/\xZ x3 (ans l rs x):=fun j=>by
   by_cases C:x=.none
   ·have:=N j C;simp only[cQ] at this;obtain⟨rfl,rfl,rfl⟩:=this;rw[C];exact⟨by simp[ans],fun z m=>by simp[ans] at m⟩
   ·exact kx j C
  have v:2<=n->((ans l rs y).length:Int)=y1/\xZ y3 (ans l rs y):=fun j=>by
   by_cases D:y=.none
   ·have:=O j D;simp only[cQ] at this;obtain⟨rfl,rfl,rfl⟩:=this;rw[D];exact⟨by simp[ans],fun z m=>by simp[ans] at m⟩
   ·exact L j D
  clear kx L N O o p ihx ihy;have G:¬ tQ k<0:=by omega
  rcases cO G with rfl|rfl|rfl|rfl|rfl|rfl|rfl|rfl|rfl|rfl
  ·simp[rec] at g
   obtain⟨_,rfl⟩:=iF g;rw[vK _ _ _ _ _ _ _ _ _ (by simp)];exact⟨by rw[dA];simp[jR],yK (M:=1) (by decide) (fun r _=>by simp[stp]) H⟩
  ·simp[rec] at g
   split at g
   ·split at g
    ·rename_i hw
     obtain⟨_,rfl⟩:=iF g;rw[vK _ _ _ _ _ _ _ _ _ (by simp)];exact⟨by rw[dA];simp[jR],yK (aF hw).1 (fun r _=>by simpa [stp] using dO hw) H⟩
    ·cases g
   ·cases g
  ·simp[rec] at g
   split at g
   ·rename_i i hf
    obtain⟨_,rfl⟩:=iF g;rw[vK _ _ _ _ _ _ _ _ _ (by simp)];have:=eP P hf;exact⟨by rw[dA,hf];simp[jR];omega,yK (M:=1) (by decide) (fun r _=>by simp[stp]) H⟩
   ·cases g
  ·simp[rec] at g
   have j:n=2:=by simp[tQ] at B;omega
   obtain⟨e1,e2⟩:=A (by omega);obtain⟨I,E⟩:=v (by omega);split at g
   ·cases g
    rw[aaJ];exact⟨by simp;omega,bqZ _ (fun a b h1 h2=>by omega) e2 E⟩
   ·cases g
  ·simp[rec] at g
   have j:n=2:=by simp[tQ] at B;omega
   obtain⟨e1,e2⟩:=A (by omega);obtain⟨I,E⟩:=v (by omega);split at g
   ·cases g
    rw[abQ];exact⟨by simp;omega,bqZ _ (fun a b h1 h2=>by omega) e2 E⟩
   ·cases g
  ·simp[rec] at g
   have j:n=1:=by simp[tQ] at B;omega
   obtain⟨e1,e2⟩:=A (by omega);split at g
   ·rename_i hw
    cases g;rw[abX];refine⟨by simpa using e1,fun z m=>?_⟩;obtain⟨a,ha,rfl⟩:=iJ.1 m;refine acZ ?_ (e2 a ha);simp only[wZ,dJ] at hw;unfold spn;split <;> omega
   ·cases g
  ·simp[rec] at g
   have j:n=2:=by simp[tQ] at B;omega
   obtain⟨e1,e2⟩:=A (by omega);obtain⟨I,E⟩:=v (by omega);cases g;rw[abZ];refine⟨by simp;omega,fun z m=>?_⟩
   show -(mx x3 y3)<=z/\z<=mx x3 y3
   unfold mx;rcases aV.1 m with m|m
   ·have:=e2 z m;split <;> omega
   ·have:=E z m;split <;> omega
  ·simp[rec] at g
   have j:n=1:=by simp[tQ] at B;omega
   obtain⟨e1,e2⟩:=A (by omega);cases g;rw[abJ];refine⟨by simp,fun z m=>?_⟩;obtain rfl:=uN.1 m;have:=d3Z e2;rw[e1] at this;exact this
  ·simp[rec] at g
   have j:n=1:=by simp[tQ] at B;omega
   obtain⟨e1,e2⟩:=A (by omega);split at g
   ·rename_i hlo
    cases g;rw[acQ];refine⟨by simp,fun z m=>?_⟩;obtain rfl:=uN.1 m;have F:lo.toNat<(ans l rs x).length:=by omega
    rw[List.getD,nZ F];exact e2 _ (List.getElem_mem F)
   ·cases g
  ·simp[rec] at g
   have j:n=1:=by simp[tQ] at B;omega
   obtain⟨e1,e2⟩:=A (by omega);split at g
   ·rename_i hw
    cases g;rw[acX];refine⟨by simpa using e1,fun z m=>?_⟩;obtain⟨a,ha,rfl⟩:=iJ.1 m;exact dO hw
   ·cases g
def gQ (w:World) (lo g c:Nat) (xs:List Int):Prop:=w.ownsRow lo 3 1 (.slice (some ⟨g,0,none⟩) xs.length c) xs.length (xs.map (int i64))
theorem gQ.inv {lo:Nat}(h:gQ w lo g c xs):∃ cur:Array Value,lo<=g/\w.heap[g]? = some (.cells cur 3 (0,0))/\xs.length<=c/\c<=maxLen/\cur.size=c/\cur.toList.take xs.length=xs.map (int i64):=by
 obtain⟨_,h|⟨p,o,cur,e,a,i,j,k,l,m⟩⟩:=h
 ·simp at h
 ·simp only[yZ,aZ,dD,sO,true_and] at e
  obtain⟨rfl,rfl⟩:=e;exact⟨cur,a,i,j,k,by simpa using l,by simpa using m⟩
theorem gQ.mk {lo:Nat}(a:lo<=g)(h:w.heap[g]? = some (.cells cur 3 (0,0)))(i:xs.length<=c)(j:c<=maxLen)(k:cur.size=c)(l:cur.toList.take xs.length=xs.map (int i64)):gQ w lo g c xs :=
 ⟨by simp,.inr ⟨g,c,cur,rfl,a,h,i,j,by simpa using k,by simpa using l⟩⟩
theorem gQ.lt {lo:Nat}(h:gQ w lo g c xs):lo<=g/\g<w.heap.size:=by
 obtain⟨cur,a,i,_⟩:=h.inv;exact⟨a,(mY.1 i).1⟩
theorem gQ.at {lo:Nat}(h:gQ w lo g c xs)(a:xQ w w'):gQ w' lo g c xs:=dG h a
theorem gQ.cell {lo:Nat}(h:gQ w lo g c xs)(hi:xs[i]? = some x):w.cell? ⟨g,i,none⟩=some (int i64 x):=by
 have:=World.ownsRow.cells h (g:=g) rfl i (int i64 x) (by simp[hi]);rwa [bJ,vX] at this
theorem gQ.fz {lo:Nat}(h:gQ w lo g c xs)(i:Nat):w.frozen? ⟨g,i,none⟩=false:=by
 obtain⟨cur,_,a,_⟩:=h.inv;exact xP a
theorem gQ.set {lo:Nat}(h:gQ w lo g c xs)(i:Nat)(z:Int):gQ (w.setCell ⟨g,i,none⟩ (int i64 z)) lo g c (xs.set i z):=by
 obtain⟨cur,j,k,l,m,o,p⟩:=h.inv;obtain⟨a,v⟩:=mY.1 k;refine gQ.mk (cur:=cur.setIfInBounds i (int i64 z)) j ?_ (by simpa using l) m (by simpa using o) ?_
 ·show(w.heap.modify g _)[g]? = _
  rw[Array.getElem?_eq_getElem (by rw[Array.size_modify];exact a),Array.getElem_modify_self,v];rfl
 ·rw[Array.toList_setIfInBounds,mK,List.take_set,p,List.map_set]
theorem gQ.oth {lo:Nat}(h:gQ w lo g c xs){k:Nat}(i:b≠g)(u:Value):gQ (w.setCell ⟨b,k,none⟩ u) lo g c xs:=by
 obtain⟨cur,j,l,a⟩:=h.inv;exact gQ.mk j ((fO _ _ _ g (fun e=>i (by simpa using e.symm))).trans l) a.1 a.2.1 a.2.2.1 a.2.2.2
theorem gQ.mono {lo lo':Nat}(h:gQ w lo g c xs)(k:lo'<=lo):gQ w lo' g c xs:=by
 obtain⟨cur,j,i,a⟩:=h.inv;exact gQ.mk (by omega) i a.1 a.2.1 a.2.2.1 a.2.2.2
theorem mM:maxLen=9223372036854775807:=by decide
theorem gQ.ints {lo:Nat}(h:gQ w lo g c xs)(m:Nat)(k:g≠m):yQ w w.heap.size m (.slice (some ⟨g,0,none⟩) xs.length c) xs:=by
 obtain⟨cur,l,o,a,j,p,v⟩:=h.inv;rw[mM] at j;exact⟨_,_,rfl,a,by omega,fun _=>⟨g,0,rfl,h.lt.2,k,fun i x hi=>by rw[vX];exact h.cell hi⟩⟩
theorem gQ.made (w:World)(lo n:Nat)(g:lo<=w.heap.size)(h:n<=1073741824):gQ (w.alloc (.cells (madeCells #[int i64 0] n) 3)) lo w.heap.size n (List.replicate n 0):=by
 have a:(madeCells #[Value.int .i64 0] n).size=n:=by simp[madeCells]
 refine gQ.mk g (World.alloc_heap_new w _) (by simp) (by rw[mM];omega) a ?_;rw[List.length_replicate,gJ (by rw[rL,a];omega)];apply lO;intro i;by_cases hi:i<n
 ·simp[madeCells,hi,Nat.mod_one]
 ·simp[madeCells,hi]
theorem gQ.lit (w:World)(lo:Nat)(z:Int)(a:lo<=w.heap.size):gQ (w.alloc (.cells #[int i64 z] 3)) lo w.heap.size 1 [z] :=
 gQ.mk a (World.alloc_heap_new w _) (by simp) (by rw[mM];omega) rfl rfl
theorem yQ.got {B nb:Nat}(h:yQ w B nb (.slice a n c) xs)(hi:i<xs.length):∃ b o x,a=some ⟨b,o,none⟩/\n=xs.length/\b<B/\b≠nb/\xs[i]? = some x/\xs.getD i 0=x/\w.cell? ⟨b,o+i,none⟩=some (int i64 x):=by
 obtain⟨m,p,e,_,_,j⟩:=h;simp only[yZ] at e;obtain⟨rfl,rfl,rfl⟩:=e;obtain⟨b,o,rfl,k,l,g⟩:=j (ne_of_lt hi);obtain⟨x,j⟩:=fX hi;exact⟨b,o,x,rfl,rfl,k,l,j,by simp[List.getD,j],g i x j⟩
theorem d3J (h i p:Nat)(g:Nat)(d z:Int)(M:fY d=true)(B nb:Nat)(rv:Value)(row:List Int)(w:World)(D:Boxed w h 195 (lG d p))(hi:Boxed w i 3 (int i64 (g:Int)))(E:Boxed w p 3 (int i64 z))(P:yQ w B nb rv row)(A:g < row.length) :
  Calls prog 203 #[rv,.pointer (some ⟨h,0,none⟩),.pointer (some ⟨i,0,none⟩)] w fun e w'=>e=.returned (.bool (dV d z (row.getD g 0)))/\w' = w.drew:=by
 obtain⟨a,c,rfl,hc,O,F⟩:=P;obtain⟨b,o,x,rfl,_,R,S,N,v,C⟩:=yQ.got ⟨a,c,rfl,hc,O,F⟩ A;have m:=D.cell;have T:=hi.cell;have Q:=E.cell;have k:w.drew.cell? ⟨p,0,none⟩=some (int i64 z):=Q;rw[v];clear D hi E F N v;simp only[fY,dJ] at M;by_cases G:d=1
 ·subst G
  have l:=aO 1 z x p w.drew (by decide) k;simp only[lG] at m;go_enter func203,ntmps203;go_wp2
  go_region_held3 (fun w'=>w'.cell? ⟨h,0,none⟩=some (.func (.func 220) #[] #[.pointer (some ⟨p,0,none⟩)])/\w'.cell? ⟨i,0,none⟩=some (int i64 (g:Int))/\w'.cell? ⟨b,o+g,none⟩=some (int i64 x)) (first|assumption|(simp[go_sem, *];done)) ((refine l.mono ?_;rintro x3 y ⟨rfl,j⟩;subst j))
  go_wp2;go_ret;exact⟨rfl,rfl⟩
 by_cases H:d=2
 ·subst H
  have l:=aO 2 z x p w.drew (by decide) k;simp only[lG] at m;go_enter func203,ntmps203;go_wp2
  go_region_held3 (fun w'=>w'.cell? ⟨h,0,none⟩=some (.func (.func 221) #[] #[.pointer (some ⟨p,0,none⟩)])/\w'.cell? ⟨i,0,none⟩=some (int i64 (g:Int))/\w'.cell? ⟨b,o+g,none⟩=some (int i64 x)) (first|assumption|(simp[go_sem, *];done)) ((refine l.mono ?_;rintro x3 y ⟨rfl,j⟩;subst j))
  go_wp2;go_ret;exact⟨rfl,rfl⟩
 by_cases I:d=3
 ·subst I
  have l:=aO 3 z x p w.drew (by decide) k;simp only[lG] at m;go_enter func203,ntmps203;go_wp2
  go_region_held3 (fun w'=>w'.cell? ⟨h,0,none⟩=some (.func (.func 222) #[] #[.pointer (some ⟨p,0,none⟩)])/\w'.cell? ⟨i,0,none⟩=some (int i64 (g:Int))/\w'.cell? ⟨b,o+g,none⟩=some (int i64 x)) (first|assumption|(simp[go_sem, *];done)) ((refine l.mono ?_;rintro x3 y ⟨rfl,j⟩;subst j))
  go_wp2;go_ret;exact⟨rfl,rfl⟩
 by_cases J:d=4
 ·subst J
  have l:=aO 4 z x p w.drew (by decide) k;simp only[lG] at m;go_enter func203,ntmps203;go_wp2
  go_region_held3 (fun w'=>w'.cell? ⟨h,0,none⟩=some (.func (.func 223) #[] #[.pointer (some ⟨p,0,none⟩)])/\w'.cell? ⟨i,0,none⟩=some (int i64 (g:Int))/\w'.cell? ⟨b,o+g,none⟩=some (int i64 x)) (first|assumption|(simp[go_sem, *];done)) ((refine l.mono ?_;rintro x3 y ⟨rfl,j⟩;subst j))
  go_wp2;go_ret;exact⟨rfl,rfl⟩
 by_cases L:d=5
 ·subst L
  have l:=aO 5 z x p w.drew (by decide) k;simp only[lG] at m;go_enter func203,ntmps203;go_wp2
  go_region_held3 (fun w'=>w'.cell? ⟨h,0,none⟩=some (.func (.func 224) #[] #[.pointer (some ⟨p,0,none⟩)])/\w'.cell? ⟨i,0,none⟩=some (int i64 (g:Int))/\w'.cell? ⟨b,o+g,none⟩=some (int i64 x)) (first|assumption|(simp[go_sem, *];done)) ((refine l.mono ?_;rintro x3 y ⟨rfl,j⟩;subst j))
  go_wp2;go_ret;exact⟨rfl,rfl⟩
 obtain rfl:d=6:=by omega
 have l:=aO 6 z x p w.drew (by decide) k;simp only[lG] at m;go_enter func203,ntmps203;go_wp2
 go_region_held3 (fun w'=>w'.cell? ⟨h,0,none⟩=some (.func (.func 225) #[] #[.pointer (some ⟨p,0,none⟩)])/\w'.cell? ⟨i,0,none⟩=some (int i64 (g:Int))/\w'.cell? ⟨b,o+g,none⟩=some (int i64 x)) (first|assumption|(simp[go_sem, *];done)) ((refine l.mono ?_;rintro x3 y ⟨rfl,j⟩;subst j))
 go_wp2;go_ret;exact⟨rfl,rfl⟩
structure Pss (w:World) (A lo:Nat) (ps:List (Nat × Int × Int)) (sv:Value) (es:List (Value × Nat × Int × Int)):Prop where
 box:Boxed w A 270 sv
 tcs:zK w lo sv es
 eq:es.map (·.2)=ps
theorem Pss.at {lo:Nat}(h:Pss w A lo ps sv es)(a:xQ w w'):Pss w' A lo ps sv es:=⟨Boxed.at h.box a,h.tcs.at a,h.eq⟩
theorem d4Q (h:es[i]? = some e):lY ((es.drop i).map (·.2)) r=(dV e.2.2.1 e.2.2.2 (r.getD e.2.1 0) && lY ((es.drop (i+1)).map (·.2)) r):=by
 rw[eV (fQ.1 h).1,(fQ.1 h).2];simp[lY]
theorem acJ (A lo:Nat)(ps:List (Nat × Int × Int))(sv:Value)(es:List (Value × Nat × Int × Int))(w:World)(hP:Pss w A lo ps sv es)(hes:es.length<=64)(B nb:Nat)(rv:Value)(row:List Int)(hB:B<=w.heap.size)(hr:yQ w B nb rv row)(hat:∀ e∈ps,fY e.2.1=true/\e.1<row.length)(r:Bool)(hrr:lY ps row=r) :
  Calls prog 204 #[rv,.pointer (some ⟨A,0,none⟩)] w fun e w'=>e=.returned (.bool r)/\xQ w w':=by
 have HP:Hid (Pss w A lo ps sv es):=hP;have HRV:Hid (yQ w B nb rv row):=hr;have HAT:Hid (∀ e∈ps,fY e.2.1=true/\e.1<row.length):=hat;have HRR:Hid (lY ((es.drop 0).map (·.2)) row=r):=by rw[nL,hP.eq];exact hrr
 have q0:=hP.box.cell;obtain⟨sa,sc,rfl⟩:=pI hP.tcs.1;obtain⟨ra,rc,rfl,_⟩:=hr;clear hP hat hrr;go_enter func204,ntmps204;go_wp2
 go_loopw [8] (fun s' wr=>∃ (i:Nat),s' = int i64 (i:Int)/\i<=es.length/\Hid (lY ((es.drop i).map (·.2)) row=r)/\xQ w wr) (fun s' _=>es.length - (intOf s').toNat)
 case atStart=>exact⟨0,rfl,dQ _,HRR,uQ _ _⟩
 case round =>
  obtain⟨i,rfl,hi,HI,hbl⟩:=hrel;clear q0;by_cases h1:i<es.length
  ·obtain⟨e,he⟩:=fX h1
   have hTc:=HP.out.tcs.at hbl
   obtain⟨g,c',rfl,hg1,hg2⟩:∃ g c',sa=some ⟨g,0,none⟩/\c' = sc/\True:=by
    obtain⟨_,h2|⟨g,cap,cur,e1,_⟩⟩:=hTc.1
    ·have:=h2.2;omega
    ·simp only[yZ] at e1;exact⟨g,sc,e1.1,rfl,trivial⟩
   have hc0:wr.cell? ⟨g,i,none⟩=some e.1:=by
    have:=World.ownsRow.cells hTc.1 (g:=g) rfl i e.1 (by simp[he]);rwa [bJ,vX] at this
   obtain⟨h,ii,p,hV,b1,b2,b3⟩:=hTc.2 e (qX he);have hmem:e.2∈ps:=by rw[<-HP.out.eq];exact anX (qX he)
   obtain⟨hd,ha⟩:=HAT.out _ hmem;have HST:Hid (lY ((es.drop i).map (·.2)) row=(dV e.2.2.1 e.2.2.2 (row.getD e.2.1 0) && lY ((es.drop (i+1)).map (·.2)) row)):=d4Q he;have k1:=d3J h ii p e.2.1 e.2.2.1 e.2.2.2 hd B nb _ row wr b1 b2 b3 (HRV.out.at hB hbl) ha;obtain⟨tb,htb⟩:∃ tb,dV e.2.2.1 e.2.2.2 (row.getD e.2.1 0)=tb:=⟨_,rfl⟩;rw[htb] at k1;rw[hV] at hc0;have HB2:Hid ((tb && lY ((es.drop (i+1)).map (·.2)) row)=r):=by rw[<-htb,<-HST.out];exact HI.out
   clear hTc b1 b2 b3 hd ha hmem htb hV HI;cases tb with
   | false =>
    obtain rfl:false=r:=by rw[<-HB2.out];rfl
    go_wp2_with fail;refine k1.mono ?_;rintro e w1 ⟨rfl,hw1⟩;subst hw1;go_wp2;go_ret;exact⟨rfl,hbl.drew⟩
   | true =>
    have HI2:Hid (lY ((es.drop (i+1)).map (·.2)) row=r):=by have:=HB2.out;simpa [Hid] using this
    go_wp2_with fail;refine k1.mono ?_;rintro e w1 ⟨rfl,hw1⟩;subst hw1;go_wp2
    go_roundw
    case rel=>exact⟨i+1,by go_num,h1,HI2,hbl.drew⟩
    case measure=>simp[intOf];omega
  ·obtain rfl:true=r:=by have:=HI.out;rw[nG (by omega)] at this;exact this
   go_wp2;go_ret;exact⟨rfl,hbl⟩

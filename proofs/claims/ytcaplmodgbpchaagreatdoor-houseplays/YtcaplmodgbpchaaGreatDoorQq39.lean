import Derived.Test.YtcaplmodgbpchaaGreatDoorQq38
open Go.Proofs.Tryz
open Go.Value(int)
open Go.IntKind(i64)
set_option linter.unusedSimpArgs false
set_option maxHeartbeats 16000000
set_option maxRecDepth 100000
namespace Go.Proofs.YtcaplmodgbpchaaGreatDoor
variable {b1 b2 b3 e er:Int} {W W':World} {A A':Nat} {rs:List (List Int)}
namespace K
open Go.RowKit K.Ds
def b1Q (b:dX) (er:Int):Except Int dX->Prop
 | .ok b'=>er=0/\b=b'
 | .error c=>er=c/\c≠0
def ezZ (w:World) (r:Except Int dX) (e:Ending) (w':World):Prop :=
 ∃ b1 b2 b3 er,e=.returned (.tuple #[.agg #[int i64 b1,int i64 b2,int i64 b3],int i64 er])/\xQ w w' /\
  b1Q (b1,b2,b3) er r
theorem akX {r:Except Int dX}(h:eU er (b1,b2,b3)=r):b1Q (b1,b2,b3) er r:=by
 subst h;unfold eU;by_cases a:er=0
 ·rw[jQ a];exact⟨a,rfl⟩
 ·rw[zQ a];exact⟨rfl,a⟩
theorem xC (x:Int):IntKind.i64.wrap x=wrap64 x:=by rw[lJ];unfold wrap64;omega
abbrev gH (w:World) (lv:Value) (k:Int) (c:ByteArray) (lo hi:Int) (wv kv:Value) (x1 x2 x3 y1 y2 y3:Int) (r:Except Int dX):Prop :=
 Calls prog 169 #[lv,.agg #[int i64 k,.string c,int i64 lo,int i64 hi,wv,kv],.agg #[int i64 x1,int i64 x2,int i64 x3],.agg #[int i64 y1,int i64 y2,int i64 y3]] w fun e w'=>ezZ w r e w'
theorem ezJ (j:Value)(c:ByteArray)(lo hi:Int)(F i:Value)(x1 x2 x3 y1 y2 y3:Int)(a:mX (x1,x2,x3))(g:mX (y1,y2,y3))(w:World):gH w j 4 c lo hi F i x1 x2 x3 y1 y2 y3 (if x1=y1 then .ok (x1,x2+y2,x3+y3) else .error 8):=by
 obtain⟨k,l,m,o,p,y⟩:=a;obtain⟨z,A,B,C,D,E⟩:=g;simp only at k l m o p y z A B C D E;go_enter func169,ntmps169;by_cases h:x1=y1
 ·rw[jQ h]
  subst h;go_wp2;exact eQ (v:=.tuple #[.agg #[int i64 (x1),int i64 (x2+y2),int i64 (x3+y3)],int i64 (0)]) (by simp[results,results169,go_sem]) rfl ⟨_,_,_,_,rfl,b4 _ _ _ _ _,⟨rfl,rfl⟩⟩
 ·rw[zQ h]
  have G:(x1 != y1)=true:=by simpa using h
  go_wp2;exact eQ (v:=.tuple #[.agg #[int i64 (x1),int i64 (x2),int i64 (x3)],int i64 (8)]) (by simp[results,results169,go_sem]) rfl ⟨_,_,_,_,rfl,b4 _ _ _ _ _,⟨rfl,by decide⟩⟩
theorem e0Q (j:Value)(c:ByteArray)(lo hi:Int)(F i:Value)(x1 x2 x3 y1 y2 y3:Int)(a:mX (x1,x2,x3))(g:mX (y1,y2,y3))(w:World):gH w j 5 c lo hi F i x1 x2 x3 y1 y2 y3 (if x1=y1 then .ok (x1,x2+y2,x3+y3) else .error 8):=by
 obtain⟨k,l,m,o,p,y⟩:=a;obtain⟨z,A,B,C,D,E⟩:=g;simp only at k l m o p y z A B C D E;go_enter func169,ntmps169;by_cases h:x1=y1
 ·rw[jQ h]
  subst h;go_wp2;exact eQ (v:=.tuple #[.agg #[int i64 (x1),int i64 (x2+y2),int i64 (x3+y3)],int i64 (0)]) (by simp[results,results169,go_sem]) rfl ⟨_,_,_,_,rfl,b4 _ _ _ _ _,⟨rfl,rfl⟩⟩
 ·rw[zQ h]
  have G:(x1 != y1)=true:=by simpa using h
  go_wp2;exact eQ (v:=.tuple #[.agg #[int i64 (x1),int i64 (x2),int i64 (x3)],int i64 (8)]) (by simp[results,results169,go_sem]) rfl ⟨_,_,_,_,rfl,b4 _ _ _ _ _,⟨rfl,by decide⟩⟩
theorem e0X (m:Value)(c:ByteArray)(lo hi:Int)(E l:Value)(x1 x2 x3 y1 y2 y3:Int)(j:mX (x1,x2,x3))(k:mX (y1,y2,y3))(w:World):gH w m 8 c lo hi E l x1 x2 x3 y1 y2 y3 (.ok (1,x2,x1*x3)):=by
 obtain⟨a,g,o,p,h,i⟩:=j;obtain⟨y,z,A,B,C,D⟩:=k;simp only at a g o p h i y z A B C D;have F:=nJ a g h i;have G:wrap64 (x1*x3)=x1*x3:=lA (by omega);go_enter func169,ntmps169;go_wp2;exact eQ (v:=.tuple #[.agg #[int i64 (1),int i64 (x2),int i64 (x1*x3)],int i64 (0)]) (by simp[results,results169,go_sem]) rfl ⟨_,_,_,_,rfl,b4 _ _ _ _ _,⟨rfl,rfl⟩⟩
theorem e0Z (i:Value)(c:ByteArray)(lo hi:Int)(E h:Value)(x1 x2 x3 y1 y2 y3:Int)(a:mX (x1,x2,x3))(g:mX (y1,y2,y3))(w:World):gH w i 9 c lo hi E h x1 x2 x3 y1 y2 y3 (if 0<=lo/\lo<x1 then .ok (1,x2,x3) else .error 3):=by
 obtain⟨j,k,l,m,o,p⟩:=a;obtain⟨y,z,A,B,C,D⟩:=g;simp only at j k l m o p y z A B C D;go_enter func169,ntmps169;by_cases F:lo<0
 ·rw[zQ (by omega)]
  go_wp2;exact eQ (v:=.tuple #[.agg #[int i64 (x1),int i64 (x2),int i64 (x3)],int i64 (3)]) (by simp[results,results169,go_sem]) rfl ⟨_,_,_,_,rfl,b4 _ _ _ _ _,⟨rfl,by decide⟩⟩
 ·by_cases G:x1<=lo
  ·rw[zQ (by omega)]
   go_wp2;exact eQ (v:=.tuple #[.agg #[int i64 (x1),int i64 (x2),int i64 (x3)],int i64 (3)]) (by simp[results,results169,go_sem]) rfl ⟨_,_,_,_,rfl,b4 _ _ _ _ _,⟨rfl,by decide⟩⟩
  ·rw[jQ (by omega)]
   go_wp2;exact eQ (v:=.tuple #[.agg #[int i64 (1),int i64 (x2),int i64 (x3)],int i64 (0)]) (by simp[results,results169,go_sem]) rfl ⟨_,_,_,_,rfl,b4 _ _ _ _ _,⟨rfl,rfl⟩⟩
theorem e0J (l:Value)(c:ByteArray)(lo hi:Int)(H k:Value)(x1 x2 x3 y1 y2 y3:Int)(i:mX (x1,x2,x3))(j:mX (y1,y2,y3))(w:World):gH w l 7 c lo hi H k x1 x2 x3 y1 y2 y3 (.ok (x1+y1,x2+y2,mx x3 y3)):=by
 obtain⟨m,o,p,y,z,A⟩:=i;obtain⟨B,C,D,E,F,G⟩:=j;simp only at m o p y z A B C D E F G;go_enter func169,ntmps169;have g:IntKind.i64.wrap (x1+y1)=x1+y1:=(xC _).trans (lA (by omega));have h:IntKind.i64.wrap (x2+y2)=x2+y2:=(xC _).trans (lA (by omega));go_wp2
 go_region_held3 (fun w'=>w'.cell? ⟨w.heap.size+1,0,none⟩=some (int i64 x1)/\w'.cell? ⟨w.heap.size+1,1,none⟩=some (int i64 x2)/\w'.cell? ⟨w.heap.size+1,2,none⟩=some (int i64 x3)/\w'.cell? ⟨w.heap.size+1+1,0,none⟩=some (int i64 y1)/\w'.cell? ⟨w.heap.size+1+1,1,none⟩=some (int i64 y2)/\w'.cell? ⟨w.heap.size+1+1,2,none⟩=some (int i64 y3)) (first|assumption|(simp[go_sem, *];done)) ((go_at_call 189;refine(aiJ _ _ _).mono ?_;rintro x4 I ⟨rfl,a⟩;subst a))
 go_wp2;exact eQ (v:=.tuple #[.agg #[int i64 (x1+y1),int i64 (x2+y2),int i64 (mx x3 y3)],int i64 (0)]) (by simp[results,results169,go_sem]) rfl ⟨_,_,_,_,rfl,(b4 _ _ _ _ _).drew,⟨rfl,rfl⟩⟩
theorem e1Q (C:Value)(c:ByteArray)(lo hi:Int)(P B:Value)(x1 x2 x3 y1 y2 y3:Int)(z:mX (x1,x2,x3))(A:mX (y1,y2,y3))(w:World):gH w C 6 c lo hi P B x1 x2 x3 y1 y2 y3 (if wZ lo lo then .ok (x1,spn lo lo*x2,spn lo lo*x3) else .error 3):=by
 obtain⟨F,G,l,m,o,p⟩:=z;obtain⟨H,I,J,L,M,N⟩:=A;simp only at F G l m o p H I J L M N;go_enter func169,ntmps169;cases h:wZ lo lo with
 | true =>
  have a:=aF h;have g:=h;simp only[wZ,dJ] at g;obtain⟨l1,Q,R⟩:=g;have D:=nJ a.1 a.2 l m;have E:=nJ a.1 a.2 o p;rw[jQ rfl];rw[<-ewX] at a D E ⊢;have j:wrap64 (ab lo*x2)=ab lo*x2:=lA (by omega);have k:wrap64 (ab lo*x3)=ab lo*x3:=lA (by omega);have i:IntKind.i64.wrap (ab lo*x2)=ab lo*x2:=(xC _).trans j;have y:IntKind.i64.wrap (ab lo*x3)=ab lo*x3:=(xC _).trans k;go_wp2_with fail;refine(vL lo lo _ true h).mono ?_;rintro e O ⟨rfl,rfl⟩;go_wp2
  go_region_held3 (fun w'=>w'.cell? ⟨w.heap.size+1,0,none⟩=some (int i64 x1)/\w'.cell? ⟨w.heap.size+1,1,none⟩=some (int i64 x2)/\w'.cell? ⟨w.heap.size+1,2,none⟩=some (int i64 x3)/\w'.cell? ⟨w.heap.size,2,none⟩=some (int i64 lo)/\w'.cell? ⟨w.heap.size,3,none⟩=some (int i64 hi)) (first|assumption|(simp[go_sem, *];done)) ((go_at_call 190;refine(aiZ _ ⟨by omega,by omega⟩ _).mono ?_;rintro x3 S ⟨rfl,i⟩;subst i))
  go_wp2;exact eQ (v:=.tuple #[.agg #[int i64 (x1),int i64 (ab lo*x2),int i64 (ab lo*x3)],int i64 (0)]) (by simp[results,results169,go_sem]) rfl ⟨_,_,_,_,rfl,(b4 _ _ _ _ _).drew,⟨rfl,rfl⟩⟩
 | false =>
  rw[zQ (by simp)];go_wp2_with fail;refine(vL lo lo _ false h).mono ?_;rintro e O ⟨rfl,rfl⟩;go_wp2;exact eQ (v:=.tuple #[.agg #[int i64 (x1),int i64 (x2),int i64 (x3)],int i64 (3)]) (by simp[results,results169,go_sem]) rfl ⟨_,_,_,_,rfl,b4 _ _ _ _ _,⟨rfl,by decide⟩⟩
theorem e1X (m:Value)(c:ByteArray)(lo hi:Int)(J l:Value)(x1 x2 x3 y1 y2 y3:Int)(j:mX (x1,x2,x3))(k:mX (y1,y2,y3))(w:World):gH w m 10 c lo hi J l x1 x2 x3 y1 y2 y3 (if wZ lo hi then .ok (x1,x2,spn lo hi) else .error 3):=by
 obtain⟨o,p,y,z,A,B⟩:=j;obtain⟨C,D,E,F,G,H⟩:=k;simp only at o p y z A B C D E F G H;go_enter func169,ntmps169;cases h:wZ lo hi with
 | true =>
  have a:=h;simp only[wZ,dJ] at a;obtain⟨l1,L,M⟩:=a;rw[jQ rfl,<-ajQ h];go_wp2_with fail;refine(vL lo hi _ true h).mono ?_;rintro e I ⟨rfl,rfl⟩;go_wp2
  go_region_held3 (fun w'=>w'.cell? ⟨w.heap.size+1,0,none⟩=some (int i64 x1)/\w'.cell? ⟨w.heap.size+1,1,none⟩=some (int i64 x2)/\w'.cell? ⟨w.heap.size+1,2,none⟩=some (int i64 x3)/\w'.cell? ⟨w.heap.size,2,none⟩=some (int i64 lo)/\w'.cell? ⟨w.heap.size,3,none⟩=some (int i64 hi)) (first|assumption|(simp[go_sem, *];done)) (first|(go_at_call 190;refine(aiZ _ ⟨by omega,by omega⟩ _).mono ?_;rintro x3 N ⟨rfl,g⟩;subst g)|(go_at_call 189;refine(aiJ _ _ _).mono ?_;rintro x4 O ⟨rfl,i⟩;subst i))
  go_wp2;exact eQ (v:=.tuple #[.agg #[int i64 (x1),int i64 (x2),int i64 (mx (ab lo) (ab hi))],int i64 (0)]) (by simp[results,results169,go_sem]) rfl ⟨_,_,_,_,rfl,(b4 _ _ _ _ _).drew,⟨rfl,rfl⟩⟩
 | false =>
  rw[zQ (by simp)];go_wp2_with fail;refine(vL lo hi _ false h).mono ?_;rintro e I ⟨rfl,rfl⟩;go_wp2;exact eQ (v:=.tuple #[.agg #[int i64 (x1),int i64 (x2),int i64 (x3)],int i64 (3)]) (by simp[results,results169,go_sem]) rfl ⟨_,_,_,_,rfl,b4 _ _ _ _ _,⟨rfl,by decide⟩⟩
theorem e1Z (z:Value)(c:ByteArray)(lo hi:Int)(i y:Value)(x1 x2 x3 y1 y2 y3:Int)(G:mX (x1,x2,x3))(H:mX (y1,y2,y3))(w:World)(B:Nat)(l:List aQ)(j:List cX)(hB:B<=w.heap.size)(m:kQ w B z l)(o:qZ w B i j)(r:Except Int dX)(p:eU (pJ l j) (1,1,4096)=r):gH w z 1 c lo hi i y x1 x2 x3 y1 y2 y3 (r):=by
 obtain⟨I,J,L,M,N,O⟩:=G;obtain⟨P,Q,R,S,T,U⟩:=H;simp only at I J L M N O P Q R S T U;obtain⟨er,h⟩:∃ er,pJ l j=er:=⟨_,rfl⟩;rw[h] at p;have D:=qQ p;have C:=Rk.new w 1 c lo hi i y x1 x2 x3 y1 y2 y3;have A:=aiX B z i l j ((((w.alloc (.cells #[int i64 1,.string c,int i64 lo,int i64 hi,i,y] 53)).alloc (.cells #[int i64 x1,int i64 x2,int i64 x3] 131)).alloc (.cells #[int i64 y1,int i64 y2,int i64 y3] 131)).alloc (.cells #[int i64 0,int i64 0,int i64 0] 131)) (by simp;omega) (m.at hB (b4 _ _ _ _ _)) (o.at hB (b4 _ _ _ _ _)) er h;obtain⟨wa,wc,rfl,_⟩:=o.slice;obtain⟨X,Y,rfl,E,F⟩:=m.slice;clear h m o p;go_enter func169,ntmps169;go_wp2_with fail;refine A.mono ?_;rintro e V ⟨rfl,g⟩;clear A;have k:xQ w V:=bt (b4 _ _ _ _ _) g;have a:=C.at g;clear g C;have t0:=a.e0.c;have t1:=a.e1.c;have t2:=a.e2.c;have Z:=a.e0.f;have s1:=a.e1.f;have s2:=a.e2.f;go_wp2;exact eQ (v:=.tuple #[.agg #[int i64 (1),int i64 (1),int i64 (4096)],int i64 (er)]) (by simp[results,results169,go_sem,t0,t1,t2]) rfl ⟨_,_,_,_,rfl,jK k _ _ _,akX D.out⟩
theorem e1J (U:Value)(c:ByteArray)(lo hi:Int)(O M:Value)(x1 x2 x3 y1 y2 y3:Int)(hx:mX (x1,x2,x3))(hy:mX (y1,y2,y3))(w:World)(B:Nat)(l:List aQ)(D:List cX)(hB:B<=w.heap.size)(G:kQ w B U l)(H:qZ w B O D)(r:Except Int dX)(R:rec l 2 c lo hi D (x1,x2,x3) (y1,y2,y3)=r):gH w U 2 c lo hi O M x1 x2 x3 y1 y2 y3 (r):=by
 obtain⟨p1,p2,p3,p4,p5,p6⟩:=hx;obtain⟨q1,q2,q3,q4,q5,q6⟩:=hy;simp only at p1 p2 p3 p4 p5 p6 q1 q2 q3 q4 q5 q6;have V:=Rk.new w 2 c lo hi O M x1 x2 x3 y1 y2 y3;have Q:=qQ G;have HQ:=qQ H;have m:=qQ R;obtain⟨wa,wc,rfl,_⟩:=H.slice;obtain⟨la,lc,rfl,ac,ae⟩:=G.slice;obtain⟨z,k⟩:∃ z,eF l c=z:=⟨_,rfl⟩;have S:=iL B _ l c ((((w.alloc (.cells #[int i64 2,.string c,int i64 lo,int i64 hi,.slice wa D.length wc,M] 53)).alloc (.cells #[int i64 x1,int i64 x2,int i64 x3] 131)).alloc (.cells #[int i64 y1,int i64 y2,int i64 y3] 131)).alloc (.cells #[int i64 0,int i64 0,int i64 0] 131)) (by simp;omega) (Q.out.at hB (b4 _ _ _ _ _)) z k;clear G H R;go_enter func169,ntmps169;go_wp2_with fail;refine S.mono ?_;rintro e N ⟨rfl,p⟩;have g:xQ w N:=bt (b4 _ _ _ _ _) p;have a:=V.at p;clear p V S;have af:=g.size;have a2:=a.a2.c;have a3:=a.a3.c;have a4:=a.a4.c;have g0:=a.b0.c;have g1:=a.b1.c;have g2:=a.b2.c;have t0:=a.e0.c;have t1:=a.e1.c;have t2:=a.e2.c;have X:=a.e0.f;have s1:=a.e1.f;have s2:=a.e2.f;cases hf:fnd l c with
 | none =>
  obtain rfl:Except.error 7=r:=by rw[<-m.out];simp[rec,hf]
  obtain rfl:-1=z:=by rw[<-k,lM hf]
  clear k hf;go_wp2;exact eQ (v:=.tuple #[.agg #[int i64 (x1),int i64 (x2),int i64 (x3)],int i64 (7)]) (by simp[results,results169,go_sem,t0,t1,t2]) rfl ⟨_,_,_,_,rfl,jK g _ _ _,⟨rfl,by decide⟩⟩
 | some i =>
  have P:=qQ hf;obtain rfl:(i:Int)=z:=by rw[<-k,zI hf]
  clear k hf;cases h:wZ lo hi with
  | false =>
   obtain rfl:Except.error 3=r:=by rw[<-m.out];simp[rec,P.out,h]
   go_wp2_with fail;refine(vL lo hi _ false h).mono ?_;rintro e Y ⟨rfl,rfl⟩;go_wp2;exact eQ (v:=.tuple #[.agg #[int i64 (x1),int i64 (x2),int i64 (x3)],int i64 (3)]) (by simp[results,results169,go_sem,t0,t1,t2]) rfl ⟨_,_,_,_,rfl,jK g _ _ _,⟨rfl,by decide⟩⟩
  | true =>
   have h0:=aF h;have C:=h;simp only[wZ,dJ] at C;obtain⟨l1,l2,l3⟩:=C;obtain⟨er,y⟩:∃ er,pJ l D=er:=⟨_,rfl⟩;have HR:Hid (eU er (1,mx (ab lo) (ab hi),4096*mx (ab lo) (ab hi))=r):=by rw[ajQ h,<-y];show _=_;have:=m.out;simpa [rec,P.out,h] using this
   rw[<-ajQ h] at h0;have T:=aiX B _ _ l D N.drew (by show B<=N.heap.size;omega) ((Q.out.at hB g).at (by omega) (uQ _ _).drew) ((HQ.out.at hB g).at (by omega) (uQ _ _).drew) er y;clear y m;go_wp2_with fail;refine(vL lo hi _ true h).mono ?_;rintro e Y ⟨rfl,I⟩;subst I;clear h;go_wp2
   go_region_held3 (fun w'=>w'.cell? ⟨w.heap.size,2,none⟩=some (int i64 lo)/\w'.cell? ⟨w.heap.size,3,none⟩=some (int i64 hi)) (first|assumption|(simp[go_sem, *];done)) (first|(go_at_call 190;refine(aiZ _ ⟨by omega,by omega⟩ _).mono ?_;rintro x3 w3 ⟨rfl,J⟩;subst J)|(go_at_call 189;refine(aiJ _ _ _).mono ?_;rintro x4 w4 ⟨rfl,L⟩;subst L))
   have E:=(a.at (uQ _ _).drew).a4.c;go_wp2_with fail;refine T.mono ?_;rintro e Z ⟨rfl,F⟩;clear T t0 t1 t2 X s1 s2 a2 a3 a4 g0 g1 g2 E;have o:xQ Y Z:=(uQ _ _).drew.trans F;have j:=a.at o;have A:xQ w Z:=bt g o;have t0:=j.e0.c;have t1:=j.e1.c;have t2:=j.e2.c;have X:=j.e0.f;have s1:=j.e1.f;have s2:=j.e2.f;go_wp2;exact eQ (v:=.tuple #[.agg #[int i64 (1),int i64 (mx (ab lo) (ab hi)),int i64 (4096*mx (ab lo) (ab hi))],int i64 (er)]) (by simp[results,results169,go_sem,t0,t1,t2]) rfl ⟨_,_,_,_,rfl,jK A _ _ _,akX HR.out⟩
theorem e2Q (Z:Value)(c:ByteArray)(lo hi:Int)(T Q:Value)(x1 x2 x3 y1 y2 y3:Int)(hx:mX (x1,x2,x3))(hy:mX (y1,y2,y3))(w:World)(B:Nat)(l:List aQ)(C:List cX)(hB:B<=w.heap.size)(O:kQ w B Z l)(P:qZ w B T C)(r:Except Int dX)(X:rec l 3 c lo hi C (x1,x2,x3) (y1,y2,y3)=r):gH w Z 3 c lo hi T Q x1 x2 x3 y1 y2 y3 (r):=by
 obtain⟨p1,p2,p3,p4,p5,p6⟩:=hx;obtain⟨q1,q2,q3,q4,q5,q6⟩:=hy;simp only at p1 p2 p3 p4 p5 p6 q1 q2 q3 q4 q5 q6;have rk:=Rk.new w 3 c lo hi T Q x1 x2 x3 y1 y2 y3;have M:=qQ O;have HQ:=qQ P;have p:=qQ X;obtain⟨S,wc,rfl,_⟩:=P.slice;obtain⟨la,lc,rfl,aa,ac⟩:=O.slice;obtain⟨D,k⟩:∃ D,eF l c=D:=⟨_,rfl⟩;have Y:=iL B _ l c ((((w.alloc (.cells #[int i64 3,.string c,int i64 lo,int i64 hi,.slice S C.length wc,Q] 53)).alloc (.cells #[int i64 x1,int i64 x2,int i64 x3] 131)).alloc (.cells #[int i64 y1,int i64 y2,int i64 y3] 131)).alloc (.cells #[int i64 0,int i64 0,int i64 0] 131)) (by simp;omega) (M.out.at hB (b4 _ _ _ _ _)) D k;clear O P X;go_enter func169,ntmps169;go_wp2_with fail;refine Y.mono ?_;rintro e A ⟨rfl,y⟩;have g:xQ w A:=bt (b4 _ _ _ _ _) y;have a:=rk.at y;clear y rk Y;have ae:=g.size;have a4:=a.a4.c;have g0:=a.b0.c;have g1:=a.b1.c;have g2:=a.b2.c;have t0:=a.e0.c;have t1:=a.e1.c;have t2:=a.e2.c;have s0:=a.e0.f;have s1:=a.e1.f;have s2:=a.e2.f;cases hf:fnd l c with
 | none =>
  obtain rfl:Except.error 7=r:=by rw[<-p.out];simp[rec,hf]
  obtain rfl:-1=D:=by rw[<-k,lM hf]
  clear k hf;go_wp2;exact eQ (v:=.tuple #[.agg #[int i64 (x1),int i64 (x2),int i64 (x3)],int i64 (7)]) (by simp[results,results169,go_sem,t0,t1,t2]) rfl ⟨_,_,_,_,rfl,jK g _ _ _,⟨rfl,by decide⟩⟩
 | some i =>
  have U:=qQ hf;obtain rfl:(i:Int)=D:=by rw[<-k,zI hf]
  clear k hf;obtain⟨er,z⟩:∃ er,pJ l C=er:=⟨_,rfl⟩;have V:Hid (eU er (pV l i,1,4096)=r):=by rw[<-z];show _=_;have:=p.out;simpa [rec,U.out] using this
  have N:=iD U.out;obtain⟨b,o,nm,sz,rfl,hb,I,c1,c2,hn⟩:=M.out.get hB g N;have J:pV l i=sz:=by simp[pV,I]
  rw[J] at V;have E:b<A.heap.size:=by omega
  have k3:=aiX B _ _ l C A.drew (by show B<=A.heap.size;omega) ((M.out.at hB g).at (by omega) (uQ _ _).drew) ((HQ.out.at hB g).at (by omega) (uQ _ _).drew) er z;clear I J z p;have R:w.heap.size<A.heap.size:=a.a4.lt;have j:w.heap.size+1+1+1<A.heap.size:=a.e0.lt;go_wp2
  go_region_held3 (fun w'=>w'.cell? ⟨w.heap.size,4,none⟩=some (.slice S C.length wc)/\w'.cell? ⟨b,o+i*2+1,none⟩=some (int i64 sz)) (first|assumption|(simp[go_sem, *];done)) ((go_at_call 187;refine k3.mono ?_;rintro x5 L ⟨rfl,F⟩;obtain⟨h,m⟩:=bcell F;have q1:L.cell? ⟨w.heap.size,4,none⟩=some (.slice S C.length wc):=(h _ _ R).trans a4;have q2:L.cell? ⟨b,o+i*2+1,none⟩=some (int i64 sz):=(h _ _ E).trans c2;have z0:=(h _ 0 j).trans t0;have z1:=(h _ 1 j).trans t1;have z2:=(h _ 2 j).trans t2;have y0:=(m _ 0 j).trans s0;have ay:=(m _ 1 j).trans s1;have az:=(m _ 2 j).trans s2;clear h m))
  have G:xQ A L:=(uQ _ _).drew.trans F;have H:xQ w L:=bt g G;go_wp2;exact eQ (v:=.tuple #[.agg #[int i64 (sz),int i64 (1),int i64 (4096)],int i64 (er)]) (by simp[results,results169,go_sem,z0,z1,z2]) rfl ⟨_,_,_,_,rfl,jK H _ _ _,akX V.out⟩
theorem e2X (k:Int)(z:¬ tQ k<0)(a:Value)(c:ByteArray)(lo hi:Int)(g h:Value)(x y:dX)(j:mX x)(m:mX y)(w:World)(B:Nat)(l:List aQ)(o:List cX)(hB:B<=w.heap.size)(p:kQ w B a l)(v:qZ w B g o)
  (r:Except Int dX) (i:rec l k c lo hi o x y=r):gH w a k c lo hi g h x.1 x.2.1 x.2.2 y.1 y.2.1 y.2.2 r:=by
 obtain⟨x1,x2,x3⟩:=x;obtain⟨y1,y2,y3⟩:=y;rcases cO z with rfl|rfl|rfl|rfl|rfl|rfl|rfl|rfl|rfl|rfl
 ·exact e1Z a c lo hi g h x1 x2 x3 y1 y2 y3 j m w B l o hB p v r (by rw[<-i];simp[rec])
 ·exact e1J a c lo hi g h x1 x2 x3 y1 y2 y3 j m w B l o hB p v r i
 ·exact e2Q a c lo hi g h x1 x2 x3 y1 y2 y3 j m w B l o hB p v r i
 ·subst i;have:=ezJ a c lo hi g h x1 x2 x3 y1 y2 y3 j m w;simpa [rec] using this
 ·subst i;have:=e0Q a c lo hi g h x1 x2 x3 y1 y2 y3 j m w;simpa [rec] using this
 ·subst i;have:=e1Q a c lo hi g h x1 x2 x3 y1 y2 y3 j m w;simpa [rec] using this
 ·subst i;have:=e0J a c lo hi g h x1 x2 x3 y1 y2 y3 j m w;simpa [rec] using this
 ·subst i;have:=e0X a c lo hi g h x1 x2 x3 y1 y2 y3 j m w;simpa [rec] using this
 ·subst i;have:=e0Z a c lo hi g h x1 x2 x3 y1 y2 y3 j m w;simpa [rec] using this
 ·subst i;have:=e1X a c lo hi g h x1 x2 x3 y1 y2 y3 j m w;simpa [rec] using this
structure T3 (W:World) (A:Nat) (x:dX):Prop where
 c0:Cl W A 0 (int i64 x.1)
 c1:Cl W A 1 (int i64 x.2.1)
 c2:Cl W A 2 (int i64 x.2.2)
theorem T3.at {x:dX}(h:T3 W A x)(a:xQ W W'):T3 W' A x:=⟨h.c0.at a,h.c1.at a,h.c2.at a⟩
theorem T3.new (W:World)(A:Nat)(a:A=W.heap.size)(b1 b2 b3:Int):T3 (W.alloc (.cells #[int i64 b1,int i64 b2,int i64 b3] 131)) A (b1,b2,b3):=by
 constructor <;> exact Cl.new _ 131 _ _ a rfl
theorem T3.set {x:dX}(h:T3 W A x)(b1 b2 b3:Int):T3 (((W.setCell ⟨A,0,none⟩ (int i64 b1)).setCell ⟨A,1,none⟩ (int i64 b2)).setCell ⟨A,2,none⟩ (int i64 b3)) A (b1,b2,b3):=by
 refine⟨?_,?_,?_⟩
 ·exact((h.c0.set _).oth (.inr (by decide)) _).oth (.inr (by decide)) _
 ·exact(Cl.set (h.c1.oth (.inr (by decide)) _) _).oth (.inr (by decide)) _
 ·exact Cl.set ((h.c2.oth (.inr (by decide)) _).oth (.inr (by decide)) _) _
theorem T3.oth {x:dX}(h:T3 W A x)(a:A'≠A)(u1 u2 u3:Value):T3 (((W.setCell ⟨A',0,none⟩ u1).setCell ⟨A',1,none⟩ u2).setCell ⟨A',2,none⟩ u3) A x :=
 ⟨h.c0.set3 a _ _ _,h.c1.set3 a _ _ _,h.c2.set3 a _ _ _⟩
theorem iH (h:jU (.error er)=((b1,b2,b3),e)):0=b1/\0=b2/\0=b3/\er=e:=by
 simp only[jU,cQ] at h;exact⟨h.1.1,h.1.2.1,h.1.2.2,h.2⟩
theorem jC {c1 c2 c3:Int}(h:jU (.ok (c1,c2,c3))=((b1,b2,b3),e)):c1=b1/\c2=b2/\c3=b3/\0=e:=by
 simp only[jU,cQ] at h;exact⟨h.1.1,h.1.2.1,h.1.2.2,h.2⟩
theorem e2Z (l:List aQ)(hs:cG l)(q:Qu):∀ (lev:Nat) (w:World) (B:Nat) (lv v0 v1 v2 v3 v4 v5:Value) (b1 b2 b3 er:Int),lev<=100->B<=w.heap.size->kQ w B lv l->Qm w B q v0 v1 v2 v3 v4 v5->jU (bnd l lev q)=((b1,b2,b3),er) ->
  Calls prog 119 #[lv,.agg #[v0,v1,v2,v3,v4,v5],.int .i64 (lev:Int)] w fun e w'=>e=.returned (.tuple #[.agg #[.int .i64 b1,.int .i64 b2,.int .i64 b3],.int .i64 er])/\Below w.heap.size w w':=by
 induction q with
 | none=>intro lev w B lv v0 v1 v2 v3 v4 v5 b1 b2 b3 er _ _ _ h;exact h.elim
 | node k c lo hi wh n x y ihx ihy =>
  rintro lev w B lv _ _ _ _ v4 _ b1 b2 b3 er hlev hB hp ⟨rfl,rfl,rfl,rfl,hc,hw,a,cap,rfl,hn,hm,hk⟩ hr;obtain⟨r,hrr⟩:∃ r,bnd l lev (.node k c lo hi wh n x y)=r:=⟨_,rfl⟩;rw[hrr] at hr;have HV:Hid (jU r=((b1,b2,b3),er)):=hr;have HP:Hid (kQ w B lv l):=hp;have HW:Hid (qZ w B v4 wh):=hw;have HR:Hid (bnd l lev (.node k c lo hi wh n x y)=r):=hrr
  have HK:Hid (1<=n->n<=2->∃ b o,a=some ⟨b,o,none⟩/\b<B/\(∃ u0 u1 u2 u3 u4 u5,rJ w b o u0 u1 u2 u3 u4 u5/\Qm w B x u0 u1 u2 u3 u4 u5) /\
    (2<=n->∃ u0 u1 u2 u3 u4 u5,rJ w b (o+6) u0 u1 u2 u3 u4 u5/\Qm w B y u0 u1 u2 u3 u4 u5)):=hk
  obtain⟨wa,wc,rfl,_⟩:=hw.slice;obtain⟨la,lc,rfl,_⟩:=hp.slice;have HBQ:Hid (Bq ((w.alloc (.cells #[.int .i64 k,.string c,.int .i64 lo,.int .i64 hi,.slice wa wh.length wc,.slice a n cap] 53)).alloc (.cells #[.int .i64 0,.int .i64 0,.int .i64 0] 131)) w.heap.size (.int .i64 k) (.string c) (.int .i64 lo) (.int .i64 hi) (.slice wa wh.length wc) (.slice a n cap)):=Bq.new _ _ _ _ _ _ _;clear hk hr hp hw hrr;have hb2:Below w.heap.size w ((w.alloc (.cells #[.int .i64 k,.string c,.int .i64 lo,.int .i64 hi,.slice wa wh.length wc,.slice a n cap] 53)).alloc (.cells #[.int .i64 0,.int .i64 0,.int .i64 0] 131)):=bal (ba _ _) _;go_enter func119,ntmps119;by_cases h64:64<lev
  ·obtain rfl:Except.error 4=r:=by rw[<-HR.out,bnd,jQ h64]
   obtain⟨rfl,rfl,rfl,rfl⟩:=iH HV.out;have hle:(64:Int)<(lev:Int):=by omega
   go_wp2;exact eQ (v:=.tuple #[.agg #[.int .i64 (0),.int .i64 (0),.int .i64 (0)],.int .i64 (4)]) (by simp[results,results119,go_sem]) rfl ⟨rfl,hb2⟩
  have hle:¬ (64:Int)<(lev:Int):=by omega
  obtain⟨kn,hkk⟩:∃ kn,tQ k=kn:=⟨_,rfl⟩;have k1:=fun W=>uI k W kn hkk;go_wp2_with fail;refine(k1 _).mono ?_;rintro e w2 ⟨rfl,hw2⟩;rw[<-hw2] at hb2 HBQ;have hs2:Hid (w2.heap.size=w.heap.size+2):=by show _=_;rw[hw2];simp
  clear hw2;have t0:=HBQ.out.a0.c;have t5:=HBQ.out.a5.c;have v0:=HBQ.out.e0.c;have v1:=HBQ.out.e1.c;have v2:=HBQ.out.e2.c;have n0:=HBQ.out.e0.f;have n1:=HBQ.out.e1.f;have n2:=HBQ.out.e2.f;by_cases hkn:kn<0
  ·obtain rfl:Except.error 1=r:=by rw[<-HR.out,bnd,zQ h64,jQ (by rw[hkk];exact hkn)]
   obtain⟨rfl,rfl,rfl,rfl⟩:=iH HV.out;go_wp2;exact eQ (v:=.tuple #[.agg #[.int .i64 (0),.int .i64 (0),.int .i64 (0)],.int .i64 (1)]) (by simp[results,results119,go_sem,v0,v1,v2]) rfl ⟨rfl,jA hb2 (Nat.le_succ _) _ _ _⟩
  by_cases hne:(n:Int)=kn
  ·subst hne
   have hq:((n:Int) != (n:Int))=false:=by simp
   clear v0 v1 v2 n0 n1 n2;go_wp2
   go_region_held3 (fun w'=>w'.cell? ⟨w.heap.size,0,none⟩=some (.int .i64 k)/\w'.cell? ⟨w.heap.size,5,none⟩=some (.slice a n cap)) (first|assumption|(simp[go_sem, *];done)) ((go_at_call 165;refine(k1 _).mono ?_;rintro x3 w3 ⟨rfl,hw3⟩;subst hw3))
   have hb3:Below w.heap.size w w2.drew:=hb2.drew;have hs3:Hid (w2.drew.heap.size=w.heap.size+2):=hs2;have HBQ3:Hid (Bq w2.drew w.heap.size (.int .i64 k) (.string c) (.int .i64 lo) (.int .i64 hi) (.slice wa wh.length wc) (.slice a n cap)):=HBQ.out.at (uQ _ _).drew;obtain⟨w3,hw3⟩:∃ w3,w2.drew=w3:=⟨_,rfl⟩;rename_i hHeld;rw[hw3] at hb3 hs3 HBQ3 hHeld ⊢;clear hw3 HBQ hs2 hb2 t0 t5 hHeld;have hn2:n<=2:=by have:=hkk;unfold tQ at this;repeat' split at this;all_goals omega
   have HR2:Hid ((match wJ (1<=n) (bnd l (lev+1) x) with
    | .error e=>.error e
    | .ok bx=>match wJ (2<=n) (bnd l (lev+1) y) with
     | .error e=>.error e
     | .ok b'=>match rec l k c lo hi wh bx b' with
      | .error e=>.error e
      | .ok b=>lim b)=r):=by
    have:=HR.out;rwa [bnd,zQ h64,zQ (by omega),jQ hkk.symm] at this
   clear HR;have HX0:Hid (T3 ((w3.alloc (.cells #[.int .i64 0,.int .i64 0,.int .i64 0] 131)).alloc (.cells #[.int .i64 0,.int .i64 0,.int .i64 0] 131)) w3.heap.size (0,0,0)):=(T3.new _ _ rfl _ _ _).at (ba _ _);have HY0:Hid (T3 ((w3.alloc (.cells #[.int .i64 0,.int .i64 0,.int .i64 0] 131)).alloc (.cells #[.int .i64 0,.int .i64 0,.int .i64 0] 131)) (w3.heap.size+1) (0,0,0)):=T3.new _ _ (by simp) _ _ _;have HB0:Hid (Bq ((w3.alloc (.cells #[.int .i64 0,.int .i64 0,.int .i64 0] 131)).alloc (.cells #[.int .i64 0,.int .i64 0,.int .i64 0] 131)) w.heap.size (.int .i64 k) (.string c) (.int .i64 lo) (.int .i64 hi) (.slice wa wh.length wc) (.slice a n cap)):=HBQ3.out.at (bal (ba _ _) _);have t5:=HB0.out.a5.c;have hlv1:(((lev+1:Nat)):Int)=(lev:Int)+1:=by omega
   go_wp2
   go_loopw [37] (fun s wr=>∃ (i:Nat) (bx b':dX),s=.int .i64 (i:Int)/\i<=n/\Hid (Bq wr w.heap.size (.int .i64 k) (.string c) (.int .i64 lo) (.int .i64 hi) (.slice wa wh.length wc) (.slice a n cap))/\Hid (T3 wr w3.heap.size bx)/\Hid (T3 wr (w3.heap.size+1) b')/\Hid (St l lev x y i bx b')/\Below w.heap.size w wr) (fun s _=>n - (intOf s).toNat)
   case atStart=>exact⟨0,(0,0,0),(0,0,0),rfl,dQ _,HB0,HX0,HY0,⟨fun h=>absurd h (by decide),fun _=>rfl,fun h=>absurd h (by decide),fun _=>rfl⟩,bt hb3 (bal (ba _ _) _)⟩
   case round =>
    obtain⟨i,bx,b',rfl,hin,HB,HX,HY,HS,hbr⟩:=hrel;have hszr:=hbr.size;clear t5;by_cases h1:i<n
    ·rcases (show i=0\/i=1 by omega) with rfl|rfl
     ·
      obtain⟨b,o,rfl,hbB,⟨u0,u1,u2,u3,u4,u5,hu,hqm⟩,_⟩:=HK.out (by omega) hn2;obtain⟨kk,kc,kl,kh,ka,kn',kd,kb,km,kp,rfl,rfl,rfl,rfl,rfl,rfl⟩:=hqm.shape;obtain⟨c0,c1,c2,c3,c4,c5⟩:=hu.keep hbr (lQ hbB hB);obtain⟨r1,hr1⟩:∃ r1,bnd l (lev+1) x=r1:=⟨_,rfl⟩;obtain⟨g1,g2,g3,ge,hg⟩:∃ g1 g2 g3 ge,jU r1=((g1,g2,g3),ge):=⟨_,_,_,_,rfl⟩;have k2:=ihx (lev+1) (wr.alloc (.cells #[.int .i64 kk,.string kc,.int .i64 kl,.int .i64 kh,.slice ka kn' kd,.slice kb km kp] 53)) B (.slice la l.length lc) _ _ _ _ _ _ g1 g2 g3 ge (by omega) (by simp;omega) ((HP.out.at hB hbr).at (by omega) (ba _ _)) ((hqm.at hB hbr).at (by omega) (ba _ _)) (by rw[hr1];exact hg);rw[hlv1] at k2;have HR1:Hid (bnd l (lev+1) x=r1):=hr1;have HG:Hid (jU r1=((g1,g2,g3),ge)):=hg;clear hr1 hqm hu hg;go_wp2_with fail;refine k2.mono ?_;rintro e w5 ⟨rfl,hb5⟩;clear k2;have hb5':Below wr.heap.size wr w5:=bt (ba _ _) hb5;have hb6:Below wr.heap.size wr (w5.alloc (.cells #[.int .i64 g1,.int .i64 g2,.int .i64 g3] 131)):=bal hb5' _;have h6n:Hid (T3 (w5.alloc (.cells #[.int .i64 g1,.int .i64 g2,.int .i64 g3] 131)) w5.heap.size (g1,g2,g3)):=T3.new _ _ rfl _ _ _;have hw6s:Hid ((w5.alloc (.cells #[.int .i64 g1,.int .i64 g2,.int .i64 g3] 131)).heap.size=w5.heap.size+1):=by show _=_;simp
      have HB6:Hid (Bq (w5.alloc (.cells #[.int .i64 g1,.int .i64 g2,.int .i64 g3] 131)) w.heap.size (.int .i64 k) (.string c) (.int .i64 lo) (.int .i64 hi) (.slice wa wh.length wc) (.slice (some ⟨b,o,none⟩) n cap)):=HB.out.at hb6;have HX6:Hid (T3 (w5.alloc (.cells #[.int .i64 g1,.int .i64 g2,.int .i64 g3] 131)) w3.heap.size bx):=HX.out.at hb6;have HY6:Hid (T3 (w5.alloc (.cells #[.int .i64 g1,.int .i64 g2,.int .i64 g3] 131)) (w3.heap.size+1) b'):=HY.out.at hb6;have hbw6:Below w.heap.size w (w5.alloc (.cells #[.int .i64 g1,.int .i64 g2,.int .i64 g3] 131)):=bt hbr hb6;have v0:=HB6.out.e0.c;have v1:=HB6.out.e1.c;have v2:=HB6.out.e2.c;have n0:=HB6.out.e0.f;have n1:=HB6.out.e1.f;have n2:=HB6.out.e2.f;have s0:=HX6.out.c0.c;have s1:=HX6.out.c1.c;have s2:=HX6.out.c2.c;have f0:=HX6.out.c0.f;have f1:=HX6.out.c1.f;have f2:=HX6.out.c2.f;have s3:=HY6.out.c0.c;have s4:=HY6.out.c1.c;have s5:=HY6.out.c2.c;have f3:=HY6.out.c0.f;have f4:=HY6.out.c1.f;have f5:=HY6.out.c2.f;cases r1 with
      | error er =>
       obtain⟨rfl,rfl,rfl,rfl⟩:=iH HG.out;have hne:(er != 0)=true:=by have:=iB x _ _ HR1.out;simpa using this
       have hrr:Except.error er=r:=by
        rw[<-HR2.out];have h1:=HR1.out;rw[wJ,jQ (by omega),h1]
       have hv:=HV.out;rw[<-hrr] at hv;obtain⟨rfl,rfl,rfl,rfl⟩:=iH hv;clear hrr hv;go_wp2;exact eQ (v:=.tuple #[.agg #[.int .i64 (0),.int .i64 (0),.int .i64 (0)],.int .i64 (er)]) (by simp[results,results119,go_sem,v0,v1,v2]) rfl ⟨rfl,jA hbw6 (Nat.le_succ _) _ _ _⟩
      | ok bq =>
       obtain⟨j1,j2,j3⟩:=bq;obtain⟨rfl,rfl,rfl,rfl⟩:=jC HG.out;have HS2:Hid (St l lev x y 1 (j1,j2,j3) b'):=⟨fun _=>HR1.out,fun h=>absurd h (by decide),fun h=>absurd h (by decide),fun _=>HS.out.2.2.2 (by decide)⟩;go_wp2
       go_roundw
       case rel=>exact⟨1,(j1,j2,j3),b',rfl,by omega,HB6.out.set3 (by have:=hs3.out;omega) (by have:=hs3.out;omega) _ _ _,HX6.out.set _ _ _,HY6.out.oth (by omega) _ _ _,HS2,jA hbw6 (by have:=hs3.out;omega) _ _ _⟩
       case measure=>simp[intOf];omega
     ·
      obtain⟨b,o,rfl,hbB,_,hk2⟩:=HK.out (by omega) hn2;obtain⟨u0,u1,u2,u3,u4,u5,hu,hqm⟩:=hk2 (by omega);obtain⟨kk,kc,kl,kh,ka,kn',kd,kb,km,kp,rfl,rfl,rfl,rfl,rfl,rfl⟩:=hqm.shape;obtain⟨c0,c1,c2,c3,c4,c5⟩:=hu.keep hbr (lQ hbB hB);obtain⟨r1,hr1⟩:∃ r1,bnd l (lev+1) y=r1:=⟨_,rfl⟩;obtain⟨g1,g2,g3,ge,hg⟩:∃ g1 g2 g3 ge,jU r1=((g1,g2,g3),ge):=⟨_,_,_,_,rfl⟩;have k2:=ihy (lev+1) (wr.alloc (.cells #[.int .i64 kk,.string kc,.int .i64 kl,.int .i64 kh,.slice ka kn' kd,.slice kb km kp] 53)) B (.slice la l.length lc) _ _ _ _ _ _ g1 g2 g3 ge (by omega) (by simp;omega) ((HP.out.at hB hbr).at (by omega) (ba _ _)) ((hqm.at hB hbr).at (by omega) (ba _ _)) (by rw[hr1];exact hg);rw[hlv1] at k2;have HR1:Hid (bnd l (lev+1) y=r1):=hr1;have HG:Hid (jU r1=((g1,g2,g3),ge)):=hg;clear hr1 hqm hu hg;go_wp2_with fail;refine k2.mono ?_;rintro e w5 ⟨rfl,hb5⟩;clear k2;have hb5':Below wr.heap.size wr w5:=bt (ba _ _) hb5;have hb6:Below wr.heap.size wr (w5.alloc (.cells #[.int .i64 g1,.int .i64 g2,.int .i64 g3] 131)):=bal hb5' _;have h6n:Hid (T3 (w5.alloc (.cells #[.int .i64 g1,.int .i64 g2,.int .i64 g3] 131)) w5.heap.size (g1,g2,g3)):=T3.new _ _ rfl _ _ _;have hw6s:Hid ((w5.alloc (.cells #[.int .i64 g1,.int .i64 g2,.int .i64 g3] 131)).heap.size=w5.heap.size+1):=by show _=_;simp
      have HB6:Hid (Bq (w5.alloc (.cells #[.int .i64 g1,.int .i64 g2,.int .i64 g3] 131)) w.heap.size (.int .i64 k) (.string c) (.int .i64 lo) (.int .i64 hi) (.slice wa wh.length wc) (.slice (some ⟨b,o,none⟩) n cap)):=HB.out.at hb6;have HX6:Hid (T3 (w5.alloc (.cells #[.int .i64 g1,.int .i64 g2,.int .i64 g3] 131)) w3.heap.size bx):=HX.out.at hb6;have HY6:Hid (T3 (w5.alloc (.cells #[.int .i64 g1,.int .i64 g2,.int .i64 g3] 131)) (w3.heap.size+1) b'):=HY.out.at hb6;have hbw6:Below w.heap.size w (w5.alloc (.cells #[.int .i64 g1,.int .i64 g2,.int .i64 g3] 131)):=bt hbr hb6;have v0:=HB6.out.e0.c;have v1:=HB6.out.e1.c;have v2:=HB6.out.e2.c;have n0:=HB6.out.e0.f;have n1:=HB6.out.e1.f;have n2:=HB6.out.e2.f;have s0:=HX6.out.c0.c;have s1:=HX6.out.c1.c;have s2:=HX6.out.c2.c;have f0:=HX6.out.c0.f;have f1:=HX6.out.c1.f;have f2:=HX6.out.c2.f;have s3:=HY6.out.c0.c;have s4:=HY6.out.c1.c;have s5:=HY6.out.c2.c;have f3:=HY6.out.c0.f;have f4:=HY6.out.c1.f;have f5:=HY6.out.c2.f;cases r1 with
      | error er =>
       obtain⟨rfl,rfl,rfl,rfl⟩:=iH HG.out;have hne:(er != 0)=true:=by have:=iB y _ _ HR1.out;simpa using this
       have hrr:Except.error er=r:=by
        rw[<-HR2.out];have h1:=HR1.out;have h0:=HS.out.1 (by omega);rw[wJ,if_pos (by omega),h0];dsimp only;rw[wJ,if_pos (by omega),h1]
       have hv:=HV.out;rw[<-hrr] at hv;obtain⟨rfl,rfl,rfl,rfl⟩:=iH hv;clear hrr hv;go_wp2;exact eQ (v:=.tuple #[.agg #[.int .i64 (0),.int .i64 (0),.int .i64 (0)],.int .i64 (er)]) (by simp[results,results119,go_sem,v0,v1,v2]) rfl ⟨rfl,jA hbw6 (Nat.le_succ _) _ _ _⟩
      | ok bq =>
       obtain⟨j1,j2,j3⟩:=bq;obtain⟨rfl,rfl,rfl,rfl⟩:=jC HG.out;have HS2:Hid (St l lev x y 2 bx (j1,j2,j3)):=⟨fun _=>HS.out.1 (by decide),fun h=>absurd h (by decide),fun _=>HR1.out,fun h=>absurd h (by decide)⟩;go_wp2
       go_roundw
       case rel=>exact⟨2,bx,(j1,j2,j3),rfl,by omega,HB6.out.set3 (by have:=hs3.out;omega) (by have:=hs3.out;omega) _ _ _,HX6.out.oth (by omega) _ _ _,HY6.out.set _ _ _,HS2,jA hbw6 (by have:=hs3.out;omega) _ _ _⟩
       case measure=>simp[intOf];omega
    ·obtain rfl:i=n:=by omega
     obtain⟨bdx,bdy⟩:=HS.out.bd hs;obtain⟨kx,ky⟩:=HS.out.kx hn2;obtain⟨x1,x2,x3⟩:=bx;obtain⟨y1,y2,y3⟩:=b'
     have HR3:Hid ((match rec l k c lo hi wh (x1,x2,x3) (y1,y2,y3) with
      | .error e=>.error e
      | .ok b=>lim b)=r):=by
      have:=HR2.out;rw[kx] at this;dsimp only at this;rw[ky] at this;exact this
     clear HR2 kx ky HK;obtain⟨rr,hrr⟩:∃ rr,rec l k c lo hi wh (x1,x2,x3) (y1,y2,y3)=rr:=⟨_,rfl⟩;have kr:=e2X k (by omega) (.slice la l.length lc) c lo hi (.slice wa wh.length wc) (.slice a i cap) (x1,x2,x3) (y1,y2,y3) bdx bdy wr B l wh (by omega) (HP.out.at hB hbr) (HW.out.at hB hbr) rr hrr;rw[hrr] at HR3;clear hrr bdx bdy HS;have m0:=HB.out.a0.c;have m1:=HB.out.a1.c;have m2:=HB.out.a2.c;have m3:=HB.out.a3.c;have m4:=HB.out.a4.c;have m5:=HB.out.a5.c;have q0:=HX.out.c0.c;have q1:=HX.out.c1.c;have q2:=HX.out.c2.c;have q3:=HY.out.c0.c;have q4:=HY.out.c1.c;have q5:=HY.out.c2.c;go_wp2_with fail;refine kr.mono ?_;rintro e w6 ⟨d1,d2,d3,de,rfl,hb6,hob⟩;clear kr m0 m1 m2 m3 m4 m5 q0 q1 q2 q3 q4 q5;have hb7:Below wr.heap.size wr (w6.alloc (.cells #[.int .i64 d1,.int .i64 d2,.int .i64 d3] 131)):=bal hb6 _;have hbw7:Below w.heap.size w (w6.alloc (.cells #[.int .i64 d1,.int .i64 d2,.int .i64 d3] 131)):=bt hbr hb7;have HB7:Hid (Bq (w6.alloc (.cells #[.int .i64 d1,.int .i64 d2,.int .i64 d3] 131)) w.heap.size (.int .i64 k) (.string c) (.int .i64 lo) (.int .i64 hi) (.slice wa wh.length wc) (.slice a i cap)):=HB.out.at hb7;clear HB HX HY hb6 hb7;have v0:=HB7.out.e0.c;have v1:=HB7.out.e1.c;have v2:=HB7.out.e2.c;have n0:=HB7.out.e0.f;have n1:=HB7.out.e1.f;have n2:=HB7.out.e2.f;cases rr with
     | error c1 =>
      obtain⟨rfl,hc1⟩:=hob;have hrr:Except.error de=r:=HR3.out;have hv:=HV.out;rw[<-hrr] at hv;obtain⟨rfl,rfl,rfl,rfl⟩:=iH hv;clear hrr hv HR3;have hn1:(de != 0)=true:=by simpa using hc1
      have hn2':(de == 0)=false:=by simpa using hc1
      go_wp2;exact eQ (v:=.tuple #[.agg #[.int .i64 (0),.int .i64 (0),.int .i64 (0)],.int .i64 (de)]) (by simp[results,results119,go_sem,v0,v1,v2]) rfl ⟨rfl,jA hbw7 (Nat.le_succ _) _ _ _⟩
     | ok bb =>
      obtain⟨rfl,hbb⟩:=hob;subst hbb;have HR4:Hid (lim (d1,d2,d3)=r):=HR3.out;clear HR3;by_cases hl:sH (d1,d2,d3)=true
      ·have hrr:Except.ok (d1,d2,d3)=r:=by rw[<-HR4.out,lim,jQ hl]
       have hv:=HV.out;rw[<-hrr] at hv;obtain⟨rfl,rfl,rfl,rfl⟩:=jC hv;clear hrr hv HR4;simp only[sH,dJ] at hl;obtain⟨l1,l2,l3⟩:=hl;have l3':¬ 1099511627776<d3:=by omega
       have l4':decide (1099511627776<d3)=false:=lZ l3';go_wp2;exact eQ (v:=.tuple #[.agg #[.int .i64 (d1),.int .i64 (d2),.int .i64 (d3)],.int .i64 (0)]) (by simp[results,results119,go_sem,v0,v1,v2]) rfl ⟨rfl,jA hbw7 (Nat.le_succ _) _ _ _⟩
      ·have hrr:Except.error 4=r:=by rw[<-HR4.out,lim,zQ hl]
       have hv:=HV.out;rw[<-hrr] at hv;obtain⟨rfl,rfl,rfl,rfl⟩:=iH hv;clear hrr hv HR4;simp only[sH,dJ] at hl;by_cases l1:4096<d1
       ·go_wp2
        exact eQ (v:=.tuple #[.agg #[.int .i64 (0),.int .i64 (0),.int .i64 (0)],.int .i64 (4)]) (by simp[results,results119,go_sem,v0,v1,v2]) rfl ⟨rfl,jA hbw7 (Nat.le_succ _) _ _ _⟩
       ·by_cases l2:1099511627776<d2
        ·go_wp2
         exact eQ (v:=.tuple #[.agg #[.int .i64 (0),.int .i64 (0),.int .i64 (0)],.int .i64 (4)]) (by simp[results,results119,go_sem,v0,v1,v2]) rfl ⟨rfl,jA hbw7 (Nat.le_succ _) _ _ _⟩
        ·have l3:1099511627776<d3:=by omega
         clear hl;go_wp2;exact eQ (v:=.tuple #[.agg #[.int .i64 (0),.int .i64 (0),.int .i64 (0)],.int .i64 (4)]) (by simp[results,results119,go_sem,v0,v1,v2]) rfl ⟨rfl,jA hbw7 (Nat.le_succ _) _ _ _⟩
  ·obtain rfl:Except.error 5=r:=by rw[<-HR.out,bnd,zQ h64,zQ (by omega),zQ (by rw[hkk];exact hne)]
   obtain⟨rfl,rfl,rfl,rfl⟩:=iH HV.out;have hq:(kn != (n:Int))=true:=by simpa using fun h:kn=(n:Int)=>hne h.symm
   go_wp2
   go_region_held3 (fun w'=>w'.cell? ⟨w.heap.size,0,none⟩=some (.int .i64 k)/\w'.cell? ⟨w.heap.size,5,none⟩=some (.slice a n cap)) (first|assumption|(simp[go_sem, *];done)) ((go_at_call 165;refine(k1 _).mono ?_;rintro x3 w3 ⟨rfl,hw3⟩;subst hw3))
   go_wp2;exact eQ (v:=.tuple #[.agg #[.int .i64 (0),.int .i64 (0),.int .i64 (0)],.int .i64 (5)]) (by simp[results,results119,go_sem,v0,v1,v2]) rfl ⟨rfl,jA hb2.drew (Nat.le_succ _) _ _ _⟩
end K
namespace K.Ds
end K.Ds
namespace K
open Go.RowKit K.Ds
theorem akZ (l:List aQ)(q:Qu)(w:World)(B:Nat)(U v0 v1 v2 v3 V X:Value)(b1 b2 b3 er:Int)(hB:B<=w.heap.size)(A:kQ w B U l)(D:Qm w B q v0 v1 v2 v3 V X)(I:jU (typ l q)=((b1,b2,b3),er)) :
  Calls prog 68 #[U,.agg #[v0,v1,v2,v3,V,X]] w (iQ w (.tuple #[.agg #[int i64 b1,int i64 b2,int i64 b3],int i64 er])):=by
 have Z:=qQ A;have HQ:=qQ D;have G:=qQ I;obtain⟨la,lc,rfl,_⟩:=A.slice;obtain⟨R,O,S,Q,M,z,P,N,T,kp,rfl,rfl,rfl,rfl,rfl,rfl⟩:=D.shape;obtain⟨p,o⟩:∃ p,oY l=p:=⟨_,rfl⟩;have H:=Bq.new w (int i64 R) (.string O) (int i64 S) (int i64 Q) (.slice M z P) (.slice N T kp);have i:xQ w ((w.alloc (.cells #[int i64 R,.string O,int i64 S,int i64 Q,.slice M z P,.slice N T kp] 53)).alloc (.cells #[int i64 0,int i64 0,int i64 0] 131)):=bal (ba _ _) _;have J:=arJ B _ l _ (bQ hB i.size) (A.at hB i) p o;have j:=qQ o;clear A D I o;go_enter func68,ntmps68;go_wp2_with fail;refine J.mono ?_;rintro e Y ⟨rfl,k⟩;clear J;have h:xQ w Y:=bt i k;have a:=qQ (H.at k);clear H i k;by_cases C:p=0
 ·subst C
  have HT:Hid (jU (bnd l 1 q)=((b1,b2,b3),er)):=by have:=G.out;rwa [typ,jQ j.out] at this
  have a9:=h.size;have L:=e2Z l (nI j.out).2.2.1 q 1 Y B (.slice la l.length lc) _ _ _ _ _ _ b1 b2 b3 er (by decide) (by omega) (Z.out.at hB h) (HQ.out.at hB h) HT.out;have m0:=a.out.a0.c;have m1:=a.out.a1.c;have m2:=a.out.a2.c;have m3:=a.out.a3.c;have m4:=a.out.a4.c;have m5:=a.out.a5.c;go_wp2_with fail;refine L.mono ?_;rintro e w3 ⟨rfl,m⟩;clear L m0 m1 m2 m3 m4 m5;have g:=qQ (a.out.at m);have y:xQ w w3:=bt h m;clear a m;have F:=g.out.e0.c;have s1:=g.out.e1.c;have s2:=g.out.e2.c;have f0:=g.out.e0.f;have f1:=g.out.e1.f;have f2:=g.out.e2.f;go_wp2;exact eQ (v:=.tuple #[.agg #[int i64 b1,int i64 b2,int i64 b3],int i64 er]) (by simp[results,results68,go_sem,F,s1,s2]) rfl ⟨rfl,jA y (Nat.le_succ _) _ _ _⟩
 ·have E:=G.out
  rw[typ,j.out,zQ C] at E;obtain⟨rfl,rfl,rfl,rfl⟩:=iH E;clear E;have a8:(p != 0)=true:=by simpa using C
  have F:=a.out.e0.c;have s1:=a.out.e1.c;have s2:=a.out.e2.c;have f0:=a.out.e0.f;have f1:=a.out.e1.f;have f2:=a.out.e2.f;go_wp2;exact eQ (v:=.tuple #[.agg #[int i64 0,int i64 0,int i64 0],int i64 p]) (by simp[results,results68,go_sem,F,s1,s2]) rfl ⟨rfl,jA h (Nat.le_succ _) _ _ _⟩
theorem b1X {r:Except Int dX}(h:jU r=((b1,b2,b3),er))(a:∀ e,r=.error e->e≠0):(er=0/\r=.ok (b1,b2,b3))\/(er≠0/\r=.error er):=by
 cases r with
 | error e =>
  obtain⟨_,_,_,rfl⟩:=iH h;exact .inr ⟨a _ rfl,rfl⟩
 | ok b =>
  obtain⟨c1,c2,c3⟩:=b;obtain⟨rfl,rfl,rfl,rfl⟩:=jC h;exact .inl ⟨rfl,rfl⟩
theorem b1Z {l:List aQ}{q:Qu}(h:typ l q=.error e):e≠0:=by
 unfold typ at h;split at h
 ·exact iB q _ _ h
 ·cases h;assumption
end K
namespace K
open Go.RowKit K.Ds
theorem b1J {l:List aQ}{q:Qu}(h:fV l rs=0):lV l rs q=match typ l q with | .ok _=>.ok (ans l rs q) | .error e=>.error e:=by
 rw[lV,jQ h,typ,jQ (xM h).1]
 all_goals (cases bnd l 1 q <;> rfl)
theorem e2J (l:List aQ)(ts:List Rw)(q:Qu)(w:World)(B:Nat)(cv rv v0 v1 v2 v3 v4 v5:Value)(T:List Int)(er:Int)(hB:B<=w.heap.size)(hp:kQ w B cv l)(I:nQ w B rv ts)(hq:Qm w B q v0 v1 v2 v3 v4 v5)(hr:uY (lV l (rr ts) q)=(T,er)) :
  Calls prog 66 #[.agg #[cv,rv],.agg #[v0,v1,v2,v3,v4,v5]] w (adJ w T er):=by
 have HP:=qQ hp;have Z:=qQ I;have HQ:=qQ hq;have HR:=qQ hr;obtain⟨A,C,rfl,_⟩:=hp.slice;obtain⟨D,E,rfl,_⟩:=I.slice;obtain⟨Q,N,R,P,L,m,O,M,S,kp,rfl,rfl,rfl,rfl,rfl,rfl⟩:=hq.shape;have p:xQ w ((w.alloc (.cells #[.slice A l.length C,.slice D ts.length E] 25)).alloc (.cells #[int i64 Q,.string N,int i64 R,int i64 P,.slice L m O,.slice M S kp] 53)):=bal (ba _ _) _;have U:Hid (Cl ((w.alloc (.cells #[.slice A l.length C,.slice D ts.length E] 25)).alloc (.cells #[int i64 Q,.string N,int i64 R,int i64 P,.slice L m O,.slice M S kp] 53)) w.heap.size 0 (.slice A l.length C)/\Cl ((w.alloc (.cells #[.slice A l.length C,.slice D ts.length E] 25)).alloc (.cells #[int i64 Q,.string N,int i64 R,int i64 P,.slice L m O,.slice M S kp] 53)) w.heap.size 1 (.slice D ts.length E)):=⟨(Cl.new _ 25 _ _ rfl rfl).at (ba _ _),(Cl.new _ 25 _ _ rfl rfl).at (ba _ _)⟩;have HN:Hid (Bx ((w.alloc (.cells #[.slice A l.length C,.slice D ts.length E] 25)).alloc (.cells #[int i64 Q,.string N,int i64 R,int i64 P,.slice L m O,.slice M S kp] 53)) (w.heap.size+1) (int i64 Q) (.string N) (int i64 R) (int i64 P) (.slice L m O) (.slice M S kp)):=Bx.new _ _ (by simp) _ _ _ _ _ _;obtain⟨W0,a8⟩:∃ W0,((w.alloc (.cells #[.slice A l.length C,.slice D ts.length E] 25)).alloc (.cells #[int i64 Q,.string N,int i64 R,int i64 P,.slice L m O,.slice M S kp] 53))=W0:=⟨_,rfl⟩;rw[a8] at p U HN;obtain⟨G,H⟩:∃ G,fV l (rr ts)=G:=⟨_,rfl⟩;have k1:=asQ B _ _ l ts W0 (bQ hB p.size) (HP.out.at hB p) (Z.out.at hB p) G H;have o:=qQ H;have m0:=U.out.1.c;have m1:=U.out.2.c;clear hp I hq hr H;go_enter func66,ntmps66;go_wp2_with fail;refine k1.mono ?_;rintro e w1 ⟨rfl,y⟩;clear k1 m0 m1 a8;have g:=bt p y;by_cases he:G=0
 ·subst he
  have F:Hid (Cl w1 w.heap.size 0 (.slice A l.length C)/\Cl w1 w.heap.size 1 (.slice D ts.length E)):=⟨U.out.1.at y,U.out.2.at y⟩;have j:=qQ (HN.out.at y);obtain⟨b1,b2,V,Y,J⟩:∃ b1 b2 V Y,jU (typ l q)=((b1,b2,V),Y):=⟨_,_,_,_,rfl⟩;have k2:=akZ l q w1 B _ _ _ _ _ _ _ b1 b2 V Y (bQ hB g.size) (HP.out.at hB g) (HQ.out.at hB g) J;have ao:=qQ J;have m0:=F.out.1.c;have m1:=j.out.a0.c;have m2:=j.out.a1.c;have m3:=j.out.a2.c;have m4:=j.out.a3.c;have m5:=j.out.a4.c;have m6:=j.out.a5.c;clear J U HN y;go_wp2_with fail;refine k2.mono ?_;rintro e w2 ⟨rfl,aa⟩;clear k2 m0 m1 m2 m3 m4 m5 m6;rcases b1X ao.out (fun e he=>b1Z he) with⟨rfl,X⟩|⟨b5,X⟩
  ·obtain⟨ah,rfl⟩:ans l (rr ts) q=T/\0=er:=by
    have:=HR.out;rw[b1J o.out,X] at this;simp only[uY,cQ] at this;exact this
   obtain⟨ac,af,ag⟩:=xM o.out
   have HK:∀ W,xQ w1 W->Calls prog 117 #[.agg #[.slice A l.length C,.slice D ts.length E],.agg #[int i64 Q,.string N,int i64 R,int i64 P,.slice L m O,.slice M S kp]] W (kU W T):=fun W hW=>by
    rw[<-ah];exact ezX (nI ac).2.2.1 (by rw[<-sA];exact af) ag q 1 W B _ _ _ _ _ _ _ _ _ (bQ hB (bt g hW).size) (HP.out.at hB (bt g hW)) (Z.out.at hB (bt g hW)) (HQ.out.at hB (bt g hW)) (gB X).2
   have i:=bal aa (.cells #[int i64 b1,int i64 b2,int i64 V] 131);obtain⟨W2,a9⟩:∃ W2,w2.alloc (.cells #[int i64 b1,int i64 b2,int i64 V] 131)=W2:=⟨_,rfl⟩;rw[a9] at i;have k3:=HK W2 i;have a6:=F.out.1.at i;have a7:=F.out.2.at i;have k:=j.out.at i;have m0:=a6.c;have m7:=a7.c;have m1:=k.a0.c;have m2:=k.a1.c;have m3:=k.a2.c;have m4:=k.a3.c;have m5:=k.a4.c;have m6:=k.a5.c;clear a6 a7 k HK ah ac af ag X;go_wp2_with fail;refine k3.mono ?_;rintro e w3 ⟨a,c,rfl,hI,aw⟩;clear k3 a9;have z:xQ w w3:=bt (bt g i) aw;go_wp2;exact eQ (v:=.tuple #[.slice a T.length c,int i64 0]) (by simp[results,results66,go_sem]) rfl ⟨a,c,rfl,hI,z⟩
  ·obtain⟨rfl,rfl⟩:[]=T/\Y=er:=by
    have:=HR.out;rw[b1J o.out,X] at this;simp only[uY,cQ] at this;exact this
   have ax:(Y != 0)=true:=by simpa using b5
   have z:xQ w (w2.alloc (.cells #[int i64 b1,int i64 b2,int i64 V] 131)):=bt g (bal aa _);clear X;go_wp2;exact eQ (v:=.tuple #[.slice none 0 0,int i64 Y]) (by simp[results,results66,go_sem]) rfl ⟨none,0,rfl,⟨none,0,rfl,vQ _,by simp,fun h=>absurd rfl h⟩,z⟩
 ·obtain⟨rfl,rfl⟩:[]=T/\G=er:=by
   have:=HR.out;rw[lV,zQ (by rw[o.out];exact he),o.out] at this;simp only[uY,cQ] at this;exact this
  have ax:(G != 0)=true:=by simpa using he
  go_wp2;exact eQ (v:=.tuple #[.slice none 0 0,int i64 G]) (by simp[results,results66,go_sem]) rfl ⟨none,0,rfl,⟨none,0,rfl,vQ _,by simp,fun h=>absurd rfl h⟩,g⟩

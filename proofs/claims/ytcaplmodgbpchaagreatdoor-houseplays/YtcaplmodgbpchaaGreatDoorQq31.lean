import Derived.Test.YtcaplmodgbpchaaGreatDoorQq30
import Derived.Deep.DeepCutAuto
open Go.Proofs.Tryz
open Go.Value(int)
open Go.IntKind(i64)
set_option linter.unusedSimpArgs false
set_option maxHeartbeats 16000000
set_option maxRecDepth 100000
namespace Go.Proofs.YtcaplmodgbpchaaGreatDoor
variable {W w w' w3:World} {B b bh bk g h i k:Nat} {l1 n x x0 x1 x2 x3 x4 x5 x6 x7 x8:Int} {a0 a1 a2 a3 a4 cv v y:Value} {brk ok:Bool} {K M M' N:Nat->Prop} {d1 disk l:List Int} {ws:List (Nat × Int)} {P:Program} {t:TypeId} {ts:List (List Int)}
namespace K.P
open Go.RowKit K.Ds
theorem oX.cells (h:oX w b [x0,x1,x2,x3,x4,x5,x6,x7,x8]):w.cell? ⟨b,0,none⟩=some (int i64 x0)/\w.cell? ⟨b,1,none⟩=some (int i64 x1)/\w.cell? ⟨b,2,none⟩=some (int i64 x2)/\w.cell? ⟨b,3,none⟩=some (int i64 x3)/\w.cell? ⟨b,4,none⟩=some (int i64 x4)/\w.cell? ⟨b,5,none⟩=some (int i64 x5)/\w.cell? ⟨b,6,none⟩=some (int i64 x6)/\w.cell? ⟨b,7,none⟩=some (int i64 x7)/\w.cell? ⟨b,8,none⟩=some (int i64 x8) :=
 ⟨(h.2 0 _ rfl).c,(h.2 1 _ rfl).c,(h.2 2 _ rfl).c,(h.2 3 _ rfl).c,(h.2 4 _ rfl).c,(h.2 5 _ rfl).c,(h.2 6 _ rfl).c,(h.2 7 _ rfl).c,(h.2 8 _ rfl).c⟩
theorem oX.range (h:oX w b [x0,x1,x2,x3,x4,x5,x6,x7,x8]):w.rangeAt b 0 [int i64 x0,int i64 x1,int i64 x2,int i64 x3,int i64 x4,int i64 x5,int i64 x6,int i64 x7,int i64 x8]:=by
 intro j v a
 match j,a with
 | 0,a | 1,a | 2,a | 3,a | 4,a | 5,a | 6,a | 7,a | 8,a=>cases a;exact(h.2 _ _ rfl).c
theorem nW (x5 x6 x7 x8:Int):(dY [x5,x6,x7,x8]).length<=32:=by
 have h:∀ x,((rZ 8 (vG x)).filter (·≠0)).length<=8:=fun x=>bQ (List.length_filter_le _ _) (by rw[oN];exact vQ _);have a:=h x5;have g:=h x6;have i:=h x7;have j:=h x8;simp only[dY,eC,List.flatMap_nil,bG,sY];omega
theorem a9X (x0 x1 x2 x3 x4 x5 x6 x7 x8:Int):rvl [x0,x1,x2,x3,x4,x5,x6,x7,x8]=.agg #[int i64 x0,int i64 x1,int i64 x2,int i64 x3,int i64 x4,int i64 x5,int i64 x6,int i64 x7,int i64 x8]:=rfl
theorem dbZ (a:Below (W.alloc (.cells #[int i64 0,.string ⟨#[]⟩,int i64 0,int i64 0,int i64 0] 72)).drew.heap.size (W.alloc (.cells #[int i64 0,.string ⟨#[]⟩,int i64 0,int i64 0,int i64 0] 72)).drew w3):FivB w3 W.heap.size (int i64 0) (.string ⟨#[]⟩) (int i64 0) (int i64 0) (int i64 0) :=
 ((FivB.new W _ _ _ _ _ 72 _ rfl).below (uQ _ _).drew).below a
theorem dbJ (h:oX w b [x0,x1,x2,x3,x4,x5,x6,x7,x8]):w.cell? ⟨b,0,none⟩=some (int i64 x0)/\w.cell? ⟨b,1,none⟩=some (int i64 x1)/\w.cell? ⟨b,2,none⟩=some (int i64 x2)/\w.cell? ⟨b,3,none⟩=some (int i64 x3)/\w.cell? ⟨b,4,none⟩=some (int i64 x4)/\w.cell? ⟨b,5,none⟩=some (int i64 x5)/\w.cell? ⟨b,6,none⟩=some (int i64 x6)/\w.cell? ⟨b,7,none⟩=some (int i64 x7)/\w.cell? ⟨b,8,none⟩=some (int i64 x8)/\w.rangeAt b 0 [int i64 x0,int i64 x1,int i64 x2,int i64 x3,int i64 x4,int i64 x5,int i64 x6,int i64 x7,int i64 x8] :=
 have k:=h.cells
 ⟨k.1,k.2.1,k.2.2.1,k.2.2.2.1,k.2.2.2.2.1,k.2.2.2.2.2.1,k.2.2.2.2.2.2.1,k.2.2.2.2.2.2.2.1,k.2.2.2.2.2.2.2.2,h.range⟩
theorem oT (h:oX w b [x0,x1,x2,x3,x4,x5,x6,x7,x8])(a:g≠b)(u0 u1 u2 u3 u4:Value):oX (((((w.setCell ⟨g,0,none⟩ u0).setCell ⟨g,1,none⟩ u1).setCell ⟨g,2,none⟩ u2).setCell ⟨g,3,none⟩ u3).setCell ⟨g,4,none⟩ u4) b [x0,x1,x2,x3,x4,x5,x6,x7,x8] :=
 ((((h.oth a _).oth a _).oth a _).oth a _).oth a _
theorem a9Z (h:oX w b [x0,x1,x2,x3,x4,x5,x6,x7,x8])(k:FivB w g a0 a1 a2 a3 a4):w.cell? ⟨g,0,none⟩=some a0/\w.cell? ⟨g,1,none⟩=some a1/\w.cell? ⟨g,2,none⟩=some a2/\w.cell? ⟨g,3,none⟩=some a3/\w.cell? ⟨g,4,none⟩=some a4/\w.rangeAt b 0 [int i64 x0,int i64 x1,int i64 x2,int i64 x3,int i64 x4,int i64 x5,int i64 x6,int i64 x7,int i64 x8] :=
 ⟨k.c0,k.c1,k.c2,k.c3,k.c4,h.range⟩
theorem oW (h:FivB w b a0 a1 a2 a3 a4)(a:g≠b)(u0 u1 u2 u3 u4:Value):FivB (((((w.setCell ⟨g,0,none⟩ u0).setCell ⟨g,1,none⟩ u1).setCell ⟨g,2,none⟩ u2).setCell ⟨g,3,none⟩ u3).setCell ⟨g,4,none⟩ u4) b a0 a1 a2 a3 a4 :=
 h.gb (aX (aX (aX (aX (aX (wX _ (some g)) _ _) _ _) _ _) _ _) _ _) (by simpa using fun e=>a e.symm)
theorem mP (h:FivB w b a0 a1 a2 a3 a4)(u0 u1 u2 u3 u4:Value):FivB (((((w.setCell ⟨b,0,none⟩ u0).setCell ⟨b,1,none⟩ u1).setCell ⟨b,2,none⟩ u2).setCell ⟨b,3,none⟩ u3).setCell ⟨b,4,none⟩ u4) b u0 u1 u2 u3 u4:=by
 obtain⟨c0,c1,c2,c3,c4,f0,f1,f2,f3,f4,a⟩:=h;constructor <;> simp[oR,pR,uU,c0,c1,c2,c3,c4,f0,f1,f2,f3,f4,a,go_sem]
theorem dcQ (x0 x1 x2 x3 x4 x5 x6 x7 x8:Int)(w:World)(e:En)(he:(x1,jY (dY [x5,x6,x7,x8]),x2,x3,x4)=e)(r:Bool)(hr:decide ([x0,x1,x2,x3,x4,x5,x6,x7,x8]=oJ e)=r) :
  Calls prog 46 #[.agg #[int i64 x0,int i64 x1,int i64 x2,int i64 x3,int i64 x4,int i64 x5,int i64 x6,int i64 x7,int i64 x8]] w (iQ w (.tuple #[ev e,.bool r])):=by
 obtain⟨nm,D⟩:∃ nm,jY (dY [x5,x6,x7,x8])=nm:=⟨_,rfl⟩;rw[D] at he;subst he;have hs:nm.size<=32:=by rw[<-D,fP];exact nW _ _ _ _
 have kn:∀ W,oX W w.heap.size [x0,x1,x2,x3,x4,x5,x6,x7,x8]->Calls prog 81 #[.agg #[int i64 x0,int i64 x1,int i64 x2,int i64 x3,int i64 x4,int i64 x5,int i64 x6,int i64 x7,int i64 x8]] W fun e w'=>e=.returned (.string nm)/\xQ W w'/\oX w' w.heap.size [x0,x1,x2,x3,x4,x5,x6,x7,x8]:=fun W L=>(dbQ x0 x1 x2 x3 x4 x5 x6 x7 x8 W).mono (by rintro e w' ⟨O,P⟩;rw[D] at O;exact⟨O,P,L.at P⟩);clear D;obtain⟨y0,y1,y2,y3,y4,y5,y6,y7,y8,hy⟩:=dM (pN (x1,nm,x2,x3,x4));rw[hy] at hr
 have kr:∀ W,Calls prog 49 #[.agg #[int i64 x1,.string nm,int i64 x2,int i64 x3,int i64 x4]] W (iQ W (.agg #[int i64 y0,int i64 y1,int i64 y2,int i64 y3,int i64 y4,int i64 y5,int i64 y6,int i64 y7,int i64 y8])):=fun W=>by
  have h:=a2J (x1,nm,x2,x3,x4) hs W;rw[hy,a9X] at h;exact h
 clear hy;have hq:=eq9 (x0:=x0) (x1:=x1) (x2:=x2) (x3:=x3) (x4:=x4) (x5:=x5) (x6:=x6) (x7:=x7) (x8:=x8) (y0:=y0) (y1:=y1) (y2:=y2) (y3:=y3) (y4:=y4) (y5:=y5) (y6:=y6) (y7:=y7) (y8:=y8);simp only[hr] at hq;clear hr;obtain⟨W,L⟩:∃ W,(w.alloc (.cells #[int i64 x0,int i64 x1,int i64 x2,int i64 x3,int i64 x4,int i64 x5,int i64 x6,int i64 x7,int i64 x8] 121)).alloc (.cells #[int i64 0,.string ⟨#[]⟩,int i64 0,int i64 0,int i64 0] 72)=W:=⟨_,rfl⟩;have V:W.heap.size=w.heap.size+1+1:=by rw[<-L];simp
 have A:xQ w W:=L▸bal (ba _ _) _;have HN:oX W w.heap.size [x0,x1,x2,x3,x4,x5,x6,x7,x8]:=L▸(oX.new _ _ _ _ _ _ _ _ _ 121 rfl).at (ba _ _);have HR:Hid (FivB W (w.heap.size+1) (int i64 0) (.string ⟨#[]⟩) (int i64 0) (int i64 0) (int i64 0)):=L▸FivB.new _ _ _ _ _ _ 72 _ (by simp);obtain⟨c0,c1,c2,c3,c4,c5,c6,c7,c8⟩:=HN.cells;have bp:=underlying121;have bk:(prog.info? 121).map (·.size)=some ([int i64 x0,int i64 x1,int i64 x2,int i64 x3,int i64 x4,int i64 x5,int i64 x6,int i64 x7,int i64 x8]:List Value).length:=by kernel_rfl
 have Q:Hid (W.heap.size≠w.heap.size):=by show _≠_;omega
 have Z:=qQ HN.drew;have H2:Hid (∀ o,oX (W.alloc o).drew w.heap.size [x0,x1,x2,x3,x4,x5,x6,x7,x8]):=fun o=>(HN.at (ba _ _)).drew;have G:=qQ V;clear V;go_enter func46,ntmps46;go_wp2;clear L HN
 go_region_held3 (fun w'=>w'.cell? ⟨w.heap.size,0,none⟩=some (int i64 x0)/\w'.cell? ⟨w.heap.size,1,none⟩=some (int i64 x1)/\w'.cell? ⟨w.heap.size,2,none⟩=some (int i64 x2)/\w'.cell? ⟨w.heap.size,3,none⟩=some (int i64 x3)/\w'.cell? ⟨w.heap.size,4,none⟩=some (int i64 x4)/\w'.cell? ⟨w.heap.size,5,none⟩=some (int i64 x5)/\w'.cell? ⟨w.heap.size,6,none⟩=some (int i64 x6)/\w'.cell? ⟨w.heap.size,7,none⟩=some (int i64 x7)/\w'.cell? ⟨w.heap.size,8,none⟩=some (int i64 x8)/\w'.rangeAt w.heap.size 0 [int i64 x0,int i64 x1,int i64 x2,int i64 x3,int i64 x4,int i64 x5,int i64 x6,int i64 x7,int i64 x8])
  ((refine dbJ ?_;first|with_reducible exact Z.out|with_reducible exact H2.out _|with_reducible exact a|with_reducible exact a.at (ba _ _)|(with_reducible exact five_oth a _ _ _ _ _ _)|(with_reducible exact oT a Q.out _ _ _ _ _)))
  (first
   | (go_at_call 81;refine(kn _ ?_).mono ?_;(with_reducible exact H2.out _);rintro x3 k ⟨rfl,i,a⟩;obtain⟨z0,z1,z2,z3,z4,z5,z6,z7,z8⟩:=a.cells;have zr:=a.range;obtain⟨s0,s1,s2,s3,s4,g0,g1,g2,g3,g4,ai⟩:=dbZ i)
   | (go_at_call 81;refine(kn _ ?_).mono ?_;(with_reducible exact Z.out);rintro x3 k ⟨rfl,i,a⟩;obtain⟨z0,z1,z2,z3,z4,z5,z6,z7,z8⟩:=a.cells;have zr:=a.range))
 ·have Y:W.heap.size<=k.heap.size:=by have:=i.size;simp at this;omega
  have C:xQ w k:=bt A.drew i;have F:=(HR.out.below (uQ _ _).drew).below i;have N:k.heap.size≠w.heap.size+1:=by have:=G.out;omega
  have m:oX (k.alloc (.cells #[int i64 x1,.string nm,int i64 x2,int i64 x3,int i64 x4] 72)) w.heap.size [x0,x1,x2,x3,x4,x5,x6,x7,x8]:=a.at (ba _ _);have j:FivB (k.alloc (.cells #[int i64 x1,.string nm,int i64 x2,int i64 x3,int i64 x4] 72)) k.heap.size (int i64 x1) (.string nm) (int i64 x2) (int i64 x3) (int i64 x4):=FivB.new k _ _ _ _ _ 72 _ rfl;have p:FivB (k.alloc (.cells #[int i64 x1,.string nm,int i64 x2,int i64 x3,int i64 x4] 72)) (w.heap.size+1) (int i64 0) (.string ⟨#[]⟩) (int i64 0) (int i64 0) (int i64 0):=F.below (ba _ _);have l:xQ w (k.alloc (.cells #[int i64 x1,.string nm,int i64 x2,int i64 x3,int i64 x4] 72)):=bal C _;generalize hX:k.alloc (.cells #[int i64 x1,.string nm,int i64 x2,int i64 x3,int i64 x4] 72)=X at m j p l ⊢;generalize hgd:k.heap.size=g at j N ⊢;have T:=m;have H:=j;have U:=p;have XB:xQ w X:=l;have I:Hid (w.heap.size+1≠w.heap.size):=by show _≠_;omega
  have J:Hid (w.heap.size+1≠g):=by show _≠_;omega
  clear hX hgd a i z0 z1 z2 z3 z4 z5 z6 z7 z8 zr Z H2 c0 c1 c2 c3 c4 c5 c6 c7 c8 m j p l HR;have ka:∀ W,oX W w.heap.size [x0,x1,x2,x3,x4,x5,x6,x7,x8]->FivB W g (int i64 x1) (.string nm) (int i64 x2) (int i64 x3) (int i64 x4)->FivB W (w.heap.size+1) (int i64 0) (.string ⟨#[]⟩) (int i64 0) (int i64 0) (int i64 0)->Calls prog 49 #[.agg #[int i64 x1,.string nm,int i64 x2,int i64 x3,int i64 x4]] W fun x w'=>x=.returned (.agg #[int i64 y0,int i64 y1,int i64 y2,int i64 y3,int i64 y4,int i64 y5,int i64 y6,int i64 y7,int i64 y8])/\xQ W w'/\oX w' w.heap.size [x0,x1,x2,x3,x4,x5,x6,x7,x8]/\FivB w' g (int i64 x1) (.string nm) (int i64 x2) (int i64 x3) (int i64 x4)/\FivB w' (w.heap.size+1) (int i64 0) (.string ⟨#[]⟩) (int i64 0) (int i64 0) (int i64 0):=fun W O P h3=>(kr W).mono (by rintro e w' ⟨k1,E⟩;exact⟨k1,E,O.at E,P.below E,h3.below E⟩);have R:=qQ T.drew;have S:Hid (FivB X.drew g (int i64 x1) (.string nm) (int i64 x2) (int i64 x3) (int i64 x4)):=H.below (uQ _ _).drew;have I3:Hid (FivB X.drew (w.heap.size+1) (int i64 0) (.string ⟨#[]⟩) (int i64 0) (int i64 0) (int i64 0)):=U.below (uQ _ _).drew;obtain⟨v0,v1,v2,v3,v4,_,_,_,_,_,_⟩:=id H;clear kr kn T H U;go_wp2_with fail
  go_region_held3 (fun w'=>w'.cell? ⟨g,0,none⟩=some (int i64 x1)/\w'.cell? ⟨g,1,none⟩=some (.string nm)/\w'.cell? ⟨g,2,none⟩=some (int i64 x2)/\w'.cell? ⟨g,3,none⟩=some (int i64 x3)/\w'.cell? ⟨g,4,none⟩=some (int i64 x4)/\w'.rangeAt w.heap.size 0 [int i64 x0,int i64 x1,int i64 x2,int i64 x3,int i64 x4,int i64 x5,int i64 x6,int i64 x7,int i64 x8])
   ((refine a9Z ?_ ?_;(first|with_reducible exact R.out|with_reducible exact z|with_reducible exact oT z I.out _ _ _ _ _);(first|with_reducible exact S.out|with_reducible exact y|with_reducible exact oW y J.out _ _ _ _ _)))
   ((go_at_call 49;refine(ka _ R.out S.out I3.out).mono ?_;rintro x4 w4 ⟨rfl,M,z,y,B⟩;obtain⟨p0,p1,p2,p3,p4,_,_,_,_,_,_⟩:=id y;obtain⟨q0,q1,q2,q3,q4,f0,f1,f2,f3,f4,_⟩:=id B;have b6:=z.range))
  have BX:xQ w w4:=bt XB.drew M;have FR:=mP B (int i64 x1) (.string nm) (int i64 x2) (int i64 x3) (int i64 x4);go_wp2;obtain⟨r0,r1,r2,r3,r4,_,_,_,_,_,_⟩:=FR;refine eQ (v:=.tuple #[.agg #[int i64 x1,.string nm,int i64 x2,int i64 x3,int i64 x4],.bool r]) ?_ rfl ⟨rfl,?_⟩
  ·simp[results,results46,go_sem,r0,r1,r2,r3,r4]
  ·exact bs (bs (bs (bs (bs BX (by simp) _) (by simp) _) (by simp) _) (by simp) _) (by simp) _
 ·have Y:W.heap.size<=k.heap.size:=by have:=i.size;simp at this;omega
  have C:xQ w k:=bt (bal A _).drew i;have F:=((HR.out.below (ba _ _)).below (uQ _ _).drew).below i;have N:W.heap.size≠w.heap.size+1:=by have:=G.out;omega
  have m:oX (((((k.setCell ⟨W.heap.size,0,none⟩ (int i64 x1)).setCell ⟨W.heap.size,1,none⟩ (.string nm)).setCell ⟨W.heap.size,2,none⟩ (int i64 x2)).setCell ⟨W.heap.size,3,none⟩ (int i64 x3)).setCell ⟨W.heap.size,4,none⟩ (int i64 x4)) w.heap.size [x0,x1,x2,x3,x4,x5,x6,x7,x8]:=oT a Q.out _ _ _ _ _;have j:FivB (((((k.setCell ⟨W.heap.size,0,none⟩ (int i64 x1)).setCell ⟨W.heap.size,1,none⟩ (.string nm)).setCell ⟨W.heap.size,2,none⟩ (int i64 x2)).setCell ⟨W.heap.size,3,none⟩ (int i64 x3)).setCell ⟨W.heap.size,4,none⟩ (int i64 x4)) W.heap.size (int i64 x1) (.string nm) (int i64 x2) (int i64 x3) (int i64 x4):=mP ⟨s0,s1,s2,s3,s4,g0,g1,g2,g3,g4,ai⟩ _ _ _ _ _;have p:FivB (((((k.setCell ⟨W.heap.size,0,none⟩ (int i64 x1)).setCell ⟨W.heap.size,1,none⟩ (.string nm)).setCell ⟨W.heap.size,2,none⟩ (int i64 x2)).setCell ⟨W.heap.size,3,none⟩ (int i64 x3)).setCell ⟨W.heap.size,4,none⟩ (int i64 x4)) (w.heap.size+1) (int i64 0) (.string ⟨#[]⟩) (int i64 0) (int i64 0) (int i64 0):=oW F (by have:=G.out;omega) _ _ _ _ _;have l:xQ w (((((k.setCell ⟨W.heap.size,0,none⟩ (int i64 x1)).setCell ⟨W.heap.size,1,none⟩ (.string nm)).setCell ⟨W.heap.size,2,none⟩ (int i64 x2)).setCell ⟨W.heap.size,3,none⟩ (int i64 x3)).setCell ⟨W.heap.size,4,none⟩ (int i64 x4)):=bs (bs (bs (bs (bs C (by simp;have:=A.size;omega) _) (by simp;have:=A.size;omega) _) (by simp;have:=A.size;omega) _) (by simp;have:=A.size;omega) _) (by simp;have:=A.size;omega) _;generalize hX:((((k.setCell ⟨W.heap.size,0,none⟩ (int i64 x1)).setCell ⟨W.heap.size,1,none⟩ (.string nm)).setCell ⟨W.heap.size,2,none⟩ (int i64 x2)).setCell ⟨W.heap.size,3,none⟩ (int i64 x3)).setCell ⟨W.heap.size,4,none⟩ (int i64 x4)=X at m j p l ⊢;generalize hgd:W.heap.size=g at j N ⊢;have T:=m;have H:=j;have U:=p;have XB:xQ w X:=l;have I:Hid (w.heap.size+1≠w.heap.size):=by show _≠_;omega
  have J:Hid (w.heap.size+1≠g):=by show _≠_;omega
  clear hX hgd a i z0 z1 z2 z3 z4 z5 z6 z7 z8 zr Z H2 c0 c1 c2 c3 c4 c5 c6 c7 c8 m j p l HR;have ka:∀ W,oX W w.heap.size [x0,x1,x2,x3,x4,x5,x6,x7,x8]->FivB W g (int i64 x1) (.string nm) (int i64 x2) (int i64 x3) (int i64 x4)->FivB W (w.heap.size+1) (int i64 0) (.string ⟨#[]⟩) (int i64 0) (int i64 0) (int i64 0)->Calls prog 49 #[.agg #[int i64 x1,.string nm,int i64 x2,int i64 x3,int i64 x4]] W fun x w'=>x=.returned (.agg #[int i64 y0,int i64 y1,int i64 y2,int i64 y3,int i64 y4,int i64 y5,int i64 y6,int i64 y7,int i64 y8])/\xQ W w'/\oX w' w.heap.size [x0,x1,x2,x3,x4,x5,x6,x7,x8]/\FivB w' g (int i64 x1) (.string nm) (int i64 x2) (int i64 x3) (int i64 x4)/\FivB w' (w.heap.size+1) (int i64 0) (.string ⟨#[]⟩) (int i64 0) (int i64 0) (int i64 0):=fun W O P h3=>(kr W).mono (by rintro e w' ⟨k1,E⟩;exact⟨k1,E,O.at E,P.below E,h3.below E⟩);have R:=qQ T.drew;have S:Hid (FivB X.drew g (int i64 x1) (.string nm) (int i64 x2) (int i64 x3) (int i64 x4)):=H.below (uQ _ _).drew;have I3:Hid (FivB X.drew (w.heap.size+1) (int i64 0) (.string ⟨#[]⟩) (int i64 0) (int i64 0) (int i64 0)):=U.below (uQ _ _).drew;obtain⟨v0,v1,v2,v3,v4,_,_,_,_,_,_⟩:=id H;clear kr kn T H U;go_wp2_with fail
  go_region_held3 (fun w'=>w'.cell? ⟨g,0,none⟩=some (int i64 x1)/\w'.cell? ⟨g,1,none⟩=some (.string nm)/\w'.cell? ⟨g,2,none⟩=some (int i64 x2)/\w'.cell? ⟨g,3,none⟩=some (int i64 x3)/\w'.cell? ⟨g,4,none⟩=some (int i64 x4)/\w'.rangeAt w.heap.size 0 [int i64 x0,int i64 x1,int i64 x2,int i64 x3,int i64 x4,int i64 x5,int i64 x6,int i64 x7,int i64 x8])
   ((refine a9Z ?_ ?_;(first|with_reducible exact R.out|with_reducible exact z|with_reducible exact oT z I.out _ _ _ _ _);(first|with_reducible exact S.out|with_reducible exact y|with_reducible exact oW y J.out _ _ _ _ _)))
   ((go_at_call 49;refine(ka _ R.out S.out I3.out).mono ?_;rintro x4 w4 ⟨rfl,M,z,y,B⟩;obtain⟨p0,p1,p2,p3,p4,_,_,_,_,_,_⟩:=id y;obtain⟨q0,q1,q2,q3,q4,f0,f1,f2,f3,f4,_⟩:=id B;have b6:=z.range))
  have BX:xQ w w4:=bt XB.drew M;have FR:=mP B (int i64 x1) (.string nm) (int i64 x2) (int i64 x3) (int i64 x4);go_wp2;obtain⟨r0,r1,r2,r3,r4,_,_,_,_,_,_⟩:=FR;refine eQ (v:=.tuple #[.agg #[int i64 x1,.string nm,int i64 x2,int i64 x3,int i64 x4],.bool r]) ?_ rfl ⟨rfl,?_⟩
  ·simp[results,results46,go_sem,r0,r1,r2,r3,r4]
  ·exact bs (bs (bs (bs (bs BX (by simp) _) (by simp) _) (by simp) _) (by simp) _) (by simp) _
structure HouC (w:World) (bh bd:Nat) (cv rv:Value) (bk:Nat) (n:Int) (brk:Bool):Prop where
 c0:Cl w bh 0 cv
 c1:Cl w bh 1 rv
 c2:Cl w bh 2 (.pointer (some ⟨bk,0,none⟩))
 c3:Cl w bh 3 (.iface 46 (.pointer (some ⟨bd,0,none⟩)))
 c4:Cl w bh 4 (int i64 n)
 c5:Cl w bh 5 (.bool brk)
theorem HouC.kp {bd:Nat}{rv:Value}(h:HouC w bh bd cv rv bk n brk)(a:Keeps w w' N)(g:¬ N bh):HouC w' bh bd cv rv bk n brk :=
 ⟨wV h.c0 a g,wV h.c1 a g,wV h.c2 a g,wV h.c3 a g,wV h.c4 a g,wV h.c5 a g⟩
theorem HouC.at {bd:Nat}{rv:Value}(h:HouC w bh bd cv rv bk n brk)(a:xQ w w'):HouC w' bh bd cv rv bk n brk :=
 h.kp (N:=fun _=>False) (xX a) (fun h=>h)
theorem HouC.s4 {bd:Nat}{rv:Value}(h:HouC w bh bd cv rv bk n brk)(m:Int):HouC (w.setCell ⟨bh,4,none⟩ (int i64 m)) bh bd cv rv bk m brk :=
 ⟨h.c0.oth (.inr (by decide)) _,h.c1.oth (.inr (by decide)) _,h.c2.oth (.inr (by decide)) _,h.c3.oth (.inr (by decide)) _,h.c4.set _,h.c5.oth (.inr (by decide)) _⟩
theorem a9J (bh bd:Nat)(cv rv:Value)(bk n m:Nat)(brk:Bool)(w:World)(h:HouC w bh bd cv rv bk n brk)(g:n<=4096)(a:9*n=m) :
  Calls prog 80 #[.pointer (some ⟨bh,0,none⟩)] w fun e w'=>e=.returned (int i64 (m:Int))/\w' = w:=by
 have j:=h.c4.c;have i:IntKind.i64.wrap ((n:Int)*9)=(m:Int):=by rw[lJ];omega
 have H:Hid ((n:Int)*9=(m:Int)):=by show _=_;omega
 clear h a;go_enter func80,ntmps80;go_wp2;go_ret;exact⟨congrArg (fun z=>Ending.returned (Value.int .i64 z)) (by first|exact H.out|rfl),rfl⟩
theorem baQ (bh bd g:Nat)(cv rv:Value)(bk n:Nat)(brk:Bool)(a:Option Addr)(c:Nat)(disk:List Int)(left:Int)(w:World)(h:HouC w bh bd cv rv bk n brk)(j:DskM w bd g a c disk left)(v:n<=4096)(r:Bool)(k:decide (9*n+9<=disk.length)=r) :
  Calls prog 44 #[.pointer (some ⟨bh,0,none⟩)] w (iQ w (.bool r)):=by
 have o:=fun W (hW:DskM W bd g a c disk left)=>czQ bd g a c disk left W hW;have p : ∀ w : World, (method 440 46 (.pointer (some ⟨bd, 0, none⟩)) "Size").run prog w = .ok (297, .pointer (some ⟨bd, 0, none⟩)) w := fun _ => by kernel_rfl
 have A:=h.c4.c;have z:=h.c3.c;have i:Hid (∀ q,DskM (w.drewN q) bd g a c disk left):=fun q=>j.at (below_drewN (uQ _ _) q);have l:IntKind.i64.wrap ((n:Int)+1)=(n:Int)+1:=by rw[lJ];omega
 have m:IntKind.i64.wrap (((n:Int)+1)*9)=((n:Int)+1)*9:=by rw[lJ];omega
 have y:decide (((n:Int)+1)*9<=(disk.length:Int))=r:=by rw[<-k];exact decide_eq_decide.2 (by omega)
 clear k h j;go_enter func44,ntmps44;go_wp2_with fail;go_quiet ((go_at_call 297;refine Calls.quiet_of_same (o _ ?_);first|exact i.out _|exact i.out 0));go_wp2;go_ret;exact⟨rfl,below_drewN (uQ _ _) _⟩
def vO (l:List Int) (i:Nat):List Int:=l.take i++List.replicate (9 - i) 0
theorem dcX (h:l.length=9)(hi:i<9)(g:l[i]? = some x):(vO l i).set i x=vO l (i+1):=by
 unfold vO;have a:(l.take i).length=i:=by rw[lU];omega
 rw[xS _ _ (by omega),a,iI,rX,g,show 9 - i=(9 - (i+1))+1 by omega,List.replicate_succ];simp
theorem baX {n:Nat}(hi:i<9):(rcd disk n)[i]? = disk[9*n+i]?:=by
 unfold rcd;rw[oG hi,kK]
theorem nP {n:Nat}(h:9*n+9<=disk.length):(rcd disk n).length=9:=by
 unfold rcd;rw[lU,pF];omega
theorem dcZ (bh bd bw:Nat)(cv rv:Value)(bk n:Nat)(brk:Bool)(a:Option Addr)(c:Nat)(disk:List Int)(left:Int)(w:World)(h:HouC w bh bd cv rv bk n brk)(hd:DskM w bd bw a c disk left)(hn:n<=4096)(hr:9*n+9<=disk.length)(x0 x1 x2 x3 x4 x5 x6 x7 x8:Int)(hx:rcd disk n=[x0,x1,x2,x3,x4,x5,x6,x7,x8]) :
  Calls prog 45 #[.pointer (some ⟨bh,0,none⟩)] w fun e w'=>e=.returned (.agg #[int i64 x0,int i64 x1,int i64 x2,int i64 x3,int i64 x4,int i64 x5,int i64 x6,int i64 x7,int i64 x8])/\xQ w w':=by
 have HH:=qQ h;have HD:=qQ hd;have HX:=qQ hx;have hm : ∀ w : World, (method 440 46 (.pointer (some ⟨bd, 0, none⟩)) "Get").run prog w = .ok (295, .pointer (some ⟨bd, 0, none⟩)) w := fun _ => by kernel_rfl
 obtain⟨m,hmm⟩:∃ m,9*n=m:=⟨_,rfl⟩;have HM:=qQ hmm;have HRL:=qQ hr;have hm9:m<=40000:=by omega
 clear h hd hx hmm hr;go_enter func45,ntmps45;go_wp2
 go_loopw [5] (fun t wr=>∃ (i:Nat),t=int i64 (i:Int)/\i<=9/\Hid (oX wr (w.heap.size+1) (vO (rcd disk n) i))/\Hid (xQ w wr)/\Hid (oX wr w.heap.size [0,0,0,0,0,0,0,0,0])) (fun t _=>9 - (intOf t).toNat)
 case atStart =>
  exact⟨0,rfl,dQ _,oX.new _ _ _ _ _ _ _ _ _ 121 (by simp),bal (ba _ _) _,(oX.new _ _ _ _ _ _ _ _ _ 121 rfl).at (ba _ _)⟩
 case round =>
  obtain⟨i,rfl,hi,HN,HW,HZ⟩:=hrel;by_cases h1:i<9
  ·obtain⟨x,hxi⟩:∃ x,(rcd disk n)[i]? = some x:=⟨_,nZ (by rw[nP HRL.out];exact h1)⟩
   obtain⟨j,hj⟩:∃ j,m+i=j:=⟨_,rfl⟩;have hdx:disk[j]? = some x:=by rw[<-hj,<-HM.out,<-baX h1];exact hxi
   have hw1:IntKind.i64.wrap ((m:Int)+(i:Int))=(j:Int):=by rw[lJ];omega
   have HHr:HouC wr bh bd cv rv bk n brk:=HH.out.at HW.out;have HDr:DskM wr bd bw a c disk left:=HD.out.at HW.out;have m3:=HHr.c3.c;have ks:∀ W,HouC W bh bd cv rv bk n brk->_:=fun W hW=>a9J bh bd cv rv bk n m brk W hW hn HM.out;have kg:∀ W,DskM W bd bw a c disk left->_:=fun W hW=>czX bd bw a c disk left j x W hW hdx;have I1:Hid (HouC wr.drew bh bd cv rv bk n brk):=HHr.at (uQ _ _).drew;have I2:Hid (DskM wr.drew bd bw a c disk left):=HDr.at (uQ _ _).drew;obtain⟨y,hy⟩:∃ y,(vO (rcd disk n) i)[i]? = some y:=⟨_,nZ (by rw[HN.out.1];exact h1)⟩;have m1:=(HN.out.2 i y hy).c;have m2:=(HN.out.2 i y hy).f;have hi9:(i:Int)<9:=by omega
   have FN:Hid (oX (wr.setCell ⟨w.heap.size+1,i,none⟩ (int i64 x)).drew (w.heap.size+1) (vO (rcd disk n) (i+1))):=by
    rw[<-dcX (nP HRL.out) h1 hxi];exact(HN.out.set h1 _).drew
   have FW:Hid (xQ w (wr.setCell ⟨w.heap.size+1,i,none⟩ (int i64 x)).drew):=(bs HW.out (by simp) _).drew;have FZ:Hid (oX (wr.setCell ⟨w.heap.size+1,i,none⟩ (int i64 x)).drew w.heap.size [0,0,0,0,0,0,0,0,0]):=(HZ.out.oth (by omega) _).drew;clear hxi hj hdx HHr HDr hy;go_wp2_with fail
   go_region_law (first
    | (go_simp;go_at_call 80;refine(ks _ I1.out).mono ?_;rintro e w' ⟨rfl,rfl⟩;go_wp2_with fail)
    | (go_simp;go_at_call 295;refine(kg _ I2.out).mono ?_;rintro e w' ⟨rfl,rfl⟩;go_wp2_with fail))
   all_goals
    go_wp2
    go_roundw
    ·exact⟨i+1,by go_num,h1,FN,FW,FZ⟩
    ·simp[intOf];omega
  ·obtain rfl:i=9:=by omega
   have HN2:oX wr (w.heap.size+1) [x0,x1,x2,x3,x4,x5,x6,x7,x8]:=by
    have h:=HN.out;rw[HX.out] at h;exact h
   obtain⟨a0,a1,a2,a3,a4,a5,a6,a7,a8⟩:=HN2.cells;obtain⟨z0,z1,z2,z3,z4,z5,z6,z7,z8⟩:=HZ.out.nine;have HZ9:=(((((((((HZ.out.set (i:=0) (by decide) x0).set (i:=1) (by decide) x1).set (i:=2) (by decide) x2).set (i:=3) (by decide) x3).set (i:=4) (by decide) x4).set (i:=5) (by decide) x5).set (i:=6) (by decide) x6).set (i:=7) (by decide) x7).set (i:=8) (by decide) x8);have FZ:Hid (oX _ w.heap.size [x0,x1,x2,x3,x4,x5,x6,x7,x8]):=HZ9;obtain⟨c0,f0,l0⟩:=z0;obtain⟨c1,f1,_⟩:=z1;obtain⟨c2,f2,_⟩:=z2;obtain⟨c3,f3,_⟩:=z3;obtain⟨c4,f4,_⟩:=z4;obtain⟨c5,f5,_⟩:=z5;obtain⟨c6,f6,_⟩:=z6;obtain⟨c7,f7,_⟩:=z7;obtain⟨c8,f8,_⟩:=z8;clear HZ9 HN HN2;go_wp2;obtain⟨r0,r1,r2,r3,r4,r5,r6,r7,r8⟩:=FZ.out.cells;refine eQ (v:=.agg #[int i64 x0,int i64 x1,int i64 x2,int i64 x3,int i64 x4,int i64 x5,int i64 x6,int i64 x7,int i64 x8]) ?_ rfl ⟨rfl,?_⟩
   ·simp[results,results45,go_sem,r0,r1,r2,r3,r4,r5,r6,r7,r8]
   ·exact bs (bs (bs (bs (bs (bs (bs (bs (bs HW.out (by simp) _) (by simp) _) (by simp) _) (by simp) _) (by simp) _) (by simp) _) (by simp) _) (by simp) _) (by simp) _
theorem baZ {left:Int}(h:nX disk left ws=(d1,l1,true))(p:Nat × Int):nX disk left (ws++[p])=nX d1 l1 [p]:=by
 induction ws generalizing disk left with
 | nil=>simp only[nX,cQ] at h;obtain⟨rfl,rfl,_⟩:=h;rfl
 | cons q ws ih =>
  obtain⟨a,x⟩:=q;simp only[nX] at h;by_cases c:left=0
  ·rw[jQ c] at h;simp at h
  ·rw[zQ c] at h
   rw[xF,nX,zQ c];exact ih h
theorem baJ {left:Int}(h:nX disk left ws=(d1,l1,false))(r:List (Nat × Int)):nX disk left (ws++r)=(d1,l1,false):=by
 induction ws generalizing disk left with
 | nil=>simp[nX] at h
 | cons q ws ih =>
  obtain⟨a,x⟩:=q;simp only[nX] at h;by_cases c:left=0
  ·rw[jQ c] at h;rw[xF,nX,jQ c];exact h
  ·rw[zQ c] at h
   rw[xF,nX,zQ c];exact ih h
theorem dcJ {left:Int}(h:nX disk left ws=(d1,l1,ok))(g:-9223372036854775808<=left/\left<=9223372036854775807):-9223372036854775808<=l1/\l1<=9223372036854775807:=by
 induction ws generalizing disk left with
 | nil=>simp only[nX,cQ] at h;omega
 | cons q ws ih =>
  obtain⟨a,x⟩:=q;simp only[nX] at h;by_cases c:left=0
  ·rw[jQ c] at h;simp only[cQ] at h;omega
  ·rw[zQ c] at h
   exact ih h (by split <;> omega)
theorem pW {left:Int}(h:nX disk left ws=(d1,l1,ok)):d1.length=disk.length:=by
 obtain⟨m,_,a,_,_⟩:=ayJ h;rw[a,cqZ]
def rW (bd bw:Nat) (a:Option Addr) (c:Nat) (d':List Int) (l':Int) (ok:Bool) (w:World):Ending->World->Prop:=fun e w' =>
 e=.returned (.bool ok)/\DskM w' bd bw a c d' l'/\Keeps w w' (fun k=>k=bd\/k=bw)
theorem sW (bd g y v m:Nat)(a:Option Addr)(c:Nat)(disk:List Int)(left:Int)(i:Nat)(x:Int)(w:World)(A:DskM w bd g a c disk left)(hB:Cl w y 0 (.iface 46 (.pointer (some ⟨bd,0,none⟩))))(z:Cl w v 0 (int i64 (m:Int)))(D:m<=40000)(hi:i<9)(H:m+9<=disk.length)(C:-9223372036854775808<=left/\left<=9223372036854775807)(h:List Int)(p:Int)(ok:Bool)(o:nX disk left [(m+i,x)]=(h,p,ok)) :
  Calls prog 136 #[int i64 i,int i64 x,.pointer (some ⟨y,0,none⟩),.pointer (some ⟨v,0,none⟩)] w (rW bd g a c h p ok w):=by
 have G : ∀ w : World, (method 440 46 (.pointer (some ⟨bd, 0, none⟩)) "Put").run prog w = .ok (296, .pointer (some ⟨bd, 0, none⟩)) w := fun _ => by kernel_rfl
 obtain⟨j,B⟩:∃ j,m+i=j:=⟨_,rfl⟩;rw[B] at o;have E:IntKind.i64.wrap ((m:Int)+(i:Int))=(j:Int):=by rw[lJ];omega
 have F:(m:Int)+(i:Int)=(j:Int):=by omega
 have kp:=czJ bd g a c disk left j x w A (by omega) C h p ok o;have J:=hB.c;have I:=z.c;clear A hB z B o;go_enter func136,ntmps136;go_wp2_with fail;refine kp.mono ?_;rintro e w' ⟨rfl,k,l,_⟩;clear kp;go_wp2;go_ret;exact⟨rfl,k,l⟩
def qK (n:Nat) (l:List Int) (k:Nat):List (Nat × Int):=(9*n,0)::(List.range k).map fun j=>(9*n+(j+1),l.getD (j+1) 0)
theorem ddQ (n:Nat)(l:List Int)(k:Nat):qK n l (k+1)=qK n l k++[(9*n+(k+1),l.getD (k+1) 0)]:=by
 unfold qK;rw[List.range_succ,iA,xF];rfl
theorem ddX (n:Nat)(e:En):wrs n e=qK n (oJ e) 8++[(9*n+0,1)]:=rfl
theorem bbQ (n:Nat)(e:En)(a:k<=8):∃ r,wrs n e=qK n (oJ e) k++r:=by
 refine⟨((List.range (8 - k)).map fun j=>(9*n+(k+j+1),(oJ e).getD (k+j+1) 0))++[(9*n,1)],?_⟩;unfold wrs qK;rw[xF,<-qS];congr 2;have h:List.range 8=List.range k++(List.range (8 - k)).map (k + ·):=by rw[<-List.range_add,show k+(8 - k)=8 by omega]
 rw[h,iA,List.map_map];congr 1
theorem ddZ (bd g R n m:Nat)(a:Option Addr)(c:Nat)(disk:List Int)(left:Int)(e:En)(w:World)(hd:DskM w bd g a c disk left)(I:9*n=m)(G:R≠bd/\R≠g)(bp:g<w.heap.size)(hn:n<=4096)(M:9*n+9<=disk.length)(hl:-9223372036854775808<=left/\left<=9223372036854775807)(x0 x1 x2 x3 x4 x5 x6 x7 x8:Int)(hR:oX w R [x0,x1,x2,x3,x4,x5,x6,x7,x8])(N:oJ e=[x0,x1,x2,x3,x4,x5,x6,x7,x8])(d':List Int)(l':Int)(ok:Bool)(hp:nX disk left (wrs n e)=(d',l',ok)) :
  Calls prog 85 #[.iface 46 (.pointer (some ⟨bd,0,none⟩)),int i64 (m:Int),.slice (some ⟨R,0,none⟩) 9 9] w (rW bd g a c d' l' ok w):=by
 have hmf:=hmf;have HX:=qQ N;have HP:=qQ hp;have HM:=qQ I;have H:m<=40000:=by omega
 have T:Hid (¬ (R=bd\/R=g)):=fun h=>h.elim G.1 G.2;have ax:=qQ M;have an:=qQ hl;have bn:bd<w.heap.size:=hd.c0.lt;obtain⟨W,hW⟩:∃ W,(w.alloc (.cells #[.iface 46 (.pointer (some ⟨bd,0,none⟩))] 77)).alloc (.cells #[int i64 (m:Int)] 3)=W:=⟨_,rfl⟩;have E:Hid (xQ w W):=hW▸bal (ba _ _) _;have HC:Hid (Cl W w.heap.size 0 (.iface 46 (.pointer (some ⟨bd,0,none⟩)))):=hW▸(Cl.new _ 77 0 _ rfl rfl).at (ba _ _);have HA:Hid (Cl W (w.heap.size+1) 0 (int i64 (m:Int))):=hW▸Cl.new _ 3 0 _ (by simp) rfl;have HN:=qQ (hR.at E.out);have ak:=qQ (hd.at E.out);have nK:Hid (¬ (w.heap.size=bd\/w.heap.size=g)/\¬ (w.heap.size+1=bd\/w.heap.size+1=g)):=by constructor <;> omega
 obtain⟨d0,l0,v,B⟩:∃ d0 l0 v,nX disk left [(m+0,0)]=(d0,l0,v):=⟨_,_,_,rfl⟩;have k0:=sW bd g w.heap.size (w.heap.size+1) m a c disk left 0 0 W ak.out HC.out HA.out H (by decide) (by omega) hl d0 l0 v B;have S:Hid (nX disk left (qK n (oJ e) 0)=(d0,l0,v)):=by rw[<-I] at B;exact B
 clear hd I G M hl N hp B hR;go_enter func85,ntmps85;go_wp2_with fail;clear hW;refine k0.mono ?_;rintro x w1 ⟨rfl,F,o⟩;have K1:Keeps w w1 (fun k=>k=bd\/k=g):=(xX E.out).trans o;cases v with
 | false =>
  obtain⟨r,M⟩:=bbQ n e (k:=0) (by decide);have h:=baJ S.out r;rw[<-M,HP.out] at h;simp only[cQ] at h;obtain⟨rfl,rfl,rfl⟩:=h;clear k0;go_wp2;go_ret;exact⟨rfl,F,K1⟩
 | true =>
  have ag:=qQ (wV HC.out o nK.out.1);have ae:=qQ (wV HA.out o nK.out.2);have aq:Hid (oX w1 R [x0,x1,x2,x3,x4,x5,x6,x7,x8]):=⟨rfl,fun k x N=>wV (HN.out.2 k x N) o T.out⟩;have ai:=qQ F;have al:=qQ K1;clear k0 F o K1;go_wp2
  go_loopw [8] (fun t wr=>∃ (k:Nat) (d1:List Int) (l1:Int),t=int i64 ((k:Int)+1)/\k<=8/\Hid (nX disk left (qK n (oJ e) k)=(d1,l1,true))/\Hid (DskM wr bd g a c d1 l1)/\Hid (Keeps w wr (fun k=>k=bd\/k=g))/\Hid (Cl wr w.heap.size 0 (.iface 46 (.pointer (some ⟨bd,0,none⟩))))/\Hid (Cl wr (w.heap.size+1) 0 (int i64 (m:Int)))/\Hid (oX wr R [x0,x1,x2,x3,x4,x5,x6,x7,x8])) (fun t _=>9 - (intOf t).toNat)
  case atStart=>exact⟨0,d0,l0,by simp,by decide,S,ai,al,ag,ae,aq⟩
  case round =>
   obtain⟨k,d1,l1,rfl,hk,A,O,P,D,C,Q⟩:=hrel;have a6:=dcJ A.out an.out;have Y:d1.length=disk.length:=pW A.out;have U:Hid (m+9<=d1.length):=by rw[Hid,Y,<-HM.out];exact ax.out
   clear Y;by_cases h1:k<8
   ·obtain⟨y,hy⟩:∃ y,[x0,x1,x2,x3,x4,x5,x6,x7,x8][k+1]? = some y:=⟨_,nZ (by simp;omega)⟩
    have m1:=(Q.out.2 (k+1) y hy).c;have Z:(oJ e).getD (k+1) 0=y:=by rw[HX.out,List.getD,hy];rfl
    obtain⟨d2,l2,z,J⟩:∃ d2 l2 z,nX d1 l1 [(m+(k+1),y)]=(d2,l2,z):=⟨_,_,_,rfl⟩;have p:nX disk left (qK n (oJ e) (k+1))=(d2,l2,z):=by rw[ddQ,baZ A.out,Z,HM.out,J]
    have V:=qQ p;have L:=sW bd g w.heap.size (w.heap.size+1) m a c d1 l1 (k+1) y wr O.out D.out C.out H (by omega) U.out a6 d2 l2 z J;obtain⟨j,hj⟩:∃ j,k+1=j:=⟨_,rfl⟩;have br:(k:Int)+1=(j:Int):=by omega
    have bq:(j:Int)<9:=by omega
    rw[hj] at L m1;have HJ:=qQ hj;clear hy Z J p hj;go_wp2_with fail;refine L.mono ?_;rintro x w2 ⟨rfl,l,i⟩;have X:Keeps w w2 (fun k=>k=bd\/k=g):=P.out.trans i;cases z with
    | false =>
     obtain⟨r,M⟩:=bbQ n e (k:=k+1) (by omega);have h:=baJ V.out r;rw[<-M,HP.out] at h;simp only[cQ] at h;obtain⟨rfl,rfl,rfl⟩:=h;clear L;go_wp2;go_ret;exact⟨rfl,l,X⟩
    | true =>
     have ah:=qQ (wV D.out i nK.out.1);have af:=qQ (wV C.out i nK.out.2);have au:Hid (oX w2 R [x0,x1,x2,x3,x4,x5,x6,x7,x8]):=⟨rfl,fun k x N=>wV (Q.out.2 k x N) i T.out⟩;have aj:=qQ l;have am:=qQ X;clear L l i X;go_wp2
     go_roundw
     ·exact⟨k+1,d2,l2,by have:=HJ.out;go_num,by omega,V,aj,am,ah,af,au⟩
     ·have:=HJ.out;simp[intOf];omega
   ·obtain rfl:k=8:=by omega
    have L:=sW bd g w.heap.size (w.heap.size+1) m a c d1 l1 0 1 wr O.out D.out C.out H (by decide) U.out a6 d' l' ok (by rw[<-HP.out,ddX,baZ A.out,HM.out]);go_wp2_with fail;refine L.mono ?_;rintro x w2 ⟨rfl,l,i⟩;have X:Keeps w w2 (fun k=>k=bd\/k=g):=P.out.trans i;clear L;go_wp2;go_ret;exact⟨rfl,l,X⟩
theorem ddJ (bh bd l:Nat)(cv rv:Value)(bk n:Nat)(brk:Bool)(a:Option Addr)(c:Nat)(disk:List Int)(left:Int)(e:En)(w:World)(h:HouC w bh bd cv rv bk n brk)(A:DskM w bd l a c disk left)(_hne:bh≠bd/\bh≠l)(M:l<w.heap.size)(D:n<=4096)(F:9*n+9<=disk.length)(C:-9223372036854775808<=left/\left<=9223372036854775807)(x0 x1 x2 x3 x4 x5 x6 x7 x8:Int)(G:oJ e=[x0,x1,x2,x3,x4,x5,x6,x7,x8])(v:List Int)(B:Int)(ok:Bool)(E:nX disk left (wrs n e)=(v,B,ok)) :
  Calls prog 48 #[.pointer (some ⟨bh,0,none⟩),.agg #[int i64 x0,int i64 x1,int i64 x2,int i64 x3,int i64 x4,int i64 x5,int i64 x6,int i64 x7,int i64 x8]] w (rW bd l a c v B ok w):=by
 have L:bd<w.heap.size:=A.c0.lt;obtain⟨m,j⟩:∃ m,9*n=m:=⟨_,rfl⟩;obtain⟨W,o⟩:∃ W,w.alloc (.cells #[int i64 x0,int i64 x1,int i64 x2,int i64 x3,int i64 x4,int i64 x5,int i64 x6,int i64 x7,int i64 x8] 121)=W:=⟨_,rfl⟩;have g:Hid (xQ w W):=o▸ba _ _;have H:Hid (oX W w.heap.size [x0,x1,x2,x3,x4,x5,x6,x7,x8]):=o▸oX.new _ _ _ _ _ _ _ _ _ 121 rfl;have p:=qQ g.out.size;have i:=h.at g.out;have O:=i.c3.c;have I:Hid (HouC W.drew bh bd cv rv bk n brk):=i.at (uQ _ _).drew;have J:Hid (Keeps w W.drew (fun k=>k=bd\/k=l)):=xX (g.out.trans ((uQ _ _).drew));have N:∀ U,HouC U bh bd cv rv bk n brk->_:=fun U hU=>a9J bh bd cv rv bk n m brk U hU D j;have kp:=ddZ bd l w.heap.size n m a c disk left e W.drew ((A.at g.out).at (uQ _ _).drew) j (by omega) (by have:=p.out;simp;omega) D F C x0 x1 x2 x3 x4 x5 x6 x7 x8 H.out.drew G v B ok E;clear h A F C G E j i;go_enter func48,ntmps48;go_wp2_with fail
 try rw[o]
 clear o
 go_region_law (first
  | (go_simp;go_at_call 80;refine(N _ I.out).mono ?_;rintro e w' ⟨rfl,rfl⟩;go_wp2_with fail)
  | (go_simp;go_at_call 85;refine kp.mono ?_;rintro e w' ⟨rfl,y,z⟩;go_wp2_with fail))
 all_goals
  go_wp2;go_ret;exact⟨rfl,y,J.out.trans z⟩
theorem bbX {H:Type}{R:Value->Option (DataW H × List MemPlace)}{n:Nat}{D:DataW H}(h:w.ownsMap P t R b n D)(e:w'.heap[b]? = w.heap[b]?):w'.ownsMap P t R b n D:=by
 obtain⟨g,a,i,j⟩:=h;exact⟨g,a,e.trans i,j⟩
theorem bbZ {x:Value}(h:TwoB w b x y)(e:w'.heap[b]? = w.heap[b]?)(g:w.heap.size<=w'.heap.size):TwoB w' b x y :=
 ⟨(vJ (w:=w) (a:=⟨b,0,none⟩) e).trans h.c0,(vJ (w:=w) (a:=⟨b,1,none⟩) e).trans h.c1,(nV (w:=w) (a:=⟨b,0,none⟩) e).trans h.f0,(nV (w:=w) (a:=⟨b,1,none⟩) e).trans h.f1,lQ h.lt g⟩
theorem BookM.kp {bm n:Nat}{D:DataW Value}{done:List En}(h:BookM w N bk bm n v D done)(i:Keeps w w' K)(j:∀ k,N k->¬ K k):BookM w' N bk bm n v D done:=by
 obtain⟨l,m,G,o⟩:=h.lob;refine⟨h.inv,bbZ h.two (i.block bk h.two.lt (j _ l)) i.size,bbX h.own (i.block bm h.own.lt (j _ m)),qA h.row i (fun g hg=>j _ (o g hg).1),h.cnt,h.is,fun x b hx=>?_,h.sz,h.lob⟩;obtain⟨p,H,z,A,a,B,C,y,E,F⟩:=(h.el x b hx).ex;exact⟨p,H,z,A,⟨bbX a.own (i.block p a.own.lt (j _ y)),a.is,a.el,a.rng⟩,B,C,y,E,F⟩
def Agr (h B:Nat) (w w':World):Prop:=B<=w'.heap.size/\∀ k,h<=k->k<B->w'.heap[k]? = w.heap[k]?
def lD (w:World) (h B:Nat) (cv rv:Value) (l:List aQ) (ts:List (List Int)):Prop :=
 ∃ rs,rr rs=ts/\∀ w',Agr h B w w'->kQ w' B cv l/\nQ w' B rv rs
theorem lD.kp {rv:Value}{l:List aQ}(m:lD w h B cv rv l ts)(j:Keeps w w' K)(hB:B<=w.heap.size)(i:∀ k,h<=k->k<B->¬ K k):lD w' h B cv rv l ts:=by
 obtain⟨rs,a,g⟩:=m;refine⟨rs,a,fun w'' ha=>g w'' ⟨ha.1,fun k hk1 hk2=>?_⟩⟩;rw[ha.2 k hk1 hk2,j.block k (by omega) (i k hk1 hk2)]
theorem deJ {rv:Value}{l:List aQ}{rs:List Rw}(hc:kQ w B cv l)(C:nQ w B rv rs)(A:tW (fun b=>h<=b) cv)(ar:deX (fun b=>h<=b) rv rs):lD w h B cv rv l (rr rs):=by
 refine⟨rs,rfl,fun w' ha=>⟨?_,?_⟩⟩
 ·obtain⟨a,c,rfl,k,m,p,v⟩:=hc
  refine⟨a,c,rfl,k,m,p,fun hne=>?_⟩;obtain⟨b,o,rfl,g,j⟩:=v hne;have e:=ha.2 b (A b o _ _ rfl) g;exact⟨b,o,rfl,g,fun i x hi=>⟨(vJ (w:=w) (a:=⟨b,o+i*2,none⟩) e).trans (j i x hi).1,(vJ (w:=w) (a:=⟨b,o+i*2+1,none⟩) e).trans (j i x hi).2⟩⟩
 ·obtain⟨a,c,rfl,k,m,p,v⟩:=C
  refine⟨a,c,rfl,k,m,fun t ht=>?_,fun hne=>?_⟩
  ·obtain⟨a2,c2,z,D,E,F⟩:=p t ht
   refine⟨a2,c2,z,D,E,fun hne=>?_⟩;obtain⟨b,o,rfl,g,y,j⟩:=F hne;have e:=ha.2 b (ar.2 t ht b o _ _ z) g;exact⟨b,o,rfl,g,y,fun i x hi=>(vJ (w:=w) (a:=⟨b,o+i,none⟩) e).trans (j i x hi)⟩
  ·obtain⟨b,o,rfl,g,j⟩:=v hne
   have e:=ha.2 b (ar.1 b o _ _ rfl) g;exact⟨b,o,rfl,g,fun i t hi=>(vJ (w:=w) (a:=⟨b,o+i,none⟩) e).trans (j i t hi)⟩
structure HouK (w:World) (M:Nat->Prop) (bh bd:Nat) (l:List aQ) (ts:List (List Int)) (done:List En) (cv rv:Value) (bk bm n:Nat) (v:Value) (D:DataW Value) (h B:Nat) (N:Nat->Prop):Prop where
 hc:HouC w bh bd cv rv bk done.length false
 bo:BookM w N bk bm n v D done
 tb:lD w h B cv rv l ts
 nn:∀ k,N k->B<=k/\k<w.heap.size/\k≠bh
 hB:h<=B/\B<=w.heap.size
 ap:bh<h\/B<=bh
 mm:∀ k,k=bh\/N k\/(h<=k/\k<B)->M k
def qJ (w:World) (M:Nat->Prop) (bh bd:Nat) (l:List aQ) (ts:List (List Int)) (done:List En):Prop :=
 ∃ cv rv bk bm n v D h B N,HouK w M bh bd l ts done cv rv bk bm n v D h B N
theorem qJ.kp {bd:Nat}{l:List aQ}{done:List En}(m:qJ w M bh bd l ts done)(a:Keeps w w' K)(g:∀ k,M k->¬ K k):qJ w' M bh bd l ts done:=by
 obtain⟨cv,rv,i,j,n,v,D,h,B,N,q⟩:=m;refine⟨cv,rv,i,j,n,v,D,h,B,N,q.hc.kp a (g _ (q.mm _ (.inl rfl))),q.bo.kp a (fun k hN=>g _ (q.mm _ (.inr (.inl hN)))),q.tb.kp a q.hB.2 (fun k h1 h2=>g _ (q.mm _ (.inr (.inr ⟨h1,h2⟩)))),fun k hN=>?_,⟨q.hB.1,bQ q.hB.2 a.size⟩,q.ap,q.mm⟩;have:=q.nn k hN;exact⟨this.1,lQ this.2.1 a.size,this.2.2⟩
theorem qJ.mono {bd:Nat}{l:List aQ}{done:List En}(i:qJ w M bh bd l ts done)(j:∀ k,M k->M' k):qJ w M' bh bd l ts done:=by
 obtain⟨cv,rv,a,g,n,v,D,h,B,N,q⟩:=i;exact⟨cv,rv,a,g,n,v,D,h,B,N,q.hc,q.bo,q.tb,q.nn,q.hB,q.ap,fun k hk=>j k (q.mm k hk)⟩

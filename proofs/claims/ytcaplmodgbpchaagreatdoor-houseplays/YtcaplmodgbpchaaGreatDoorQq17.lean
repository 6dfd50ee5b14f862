import Derived.Test.YtcaplmodgbpchaaGreatDoorQq16
open Go.Proofs.Tryz
open Go.Value(int)
open Go.IntKind(i64)
set_option linter.unusedSimpArgs false
set_option maxHeartbeats 16000000
set_option maxRecDepth 100000
namespace Go.Proofs.YtcaplmodgbpchaaGreatDoor
variable {W w w':World} {h m m':Nat} {v v':Value} {row:Option Nat} {T:Int}
section
open Go.RowKit Ds
theorem evJ (u d lo hi n:Int)(l:List Pt)(er:Int)(j:jJ u d lo hi n=(l,er))(w:World) :
  Calls prog 118 #[rv u d,int i64 lo,int i64 hi,int i64 n] w (pD w l er):=by
 obtain⟨e0,h⟩:∃ e0,kG u d=e0:=⟨_,rfl⟩;have z:=ahX u d e0 h;rw[jJ,h] at j;by_cases c:e0=0
 ·subst c
  obtain⟨B,S,Q,E⟩:=bnX h;rw[zQ (by simp)] at j;by_cases F:-1073741824<=lo/\lo<=hi/\hi<=1073741824/\hi - lo<=64
  ·obtain⟨b1,b2,V,b4⟩:=F
   rw[zQ (by simp;omega)] at j;by_cases Y:lo=hi
   ·subst Y
    rw[jQ rfl] at j
    have ks:∀ W:World,Calls prog 122 #[.slice (some ⟨W.heap.size+1,0,none⟩) 1 1] ((W.alloc (.cells #[int i64 lo] 3)).alloc (.cells #[.slice (some ⟨W.heap.size,0,none⟩) 1 1,int i64 1] 186)) (fun e w'=>∃ J C,e=.returned (.tuple #[J,int i64 er])/\rd C=l/\uV w' W.heap.size J C/\xQ W w'/\dZ W.heap.size C):=fun W=>by
     have Z:=bhX (W.alloc (.cells #[int i64 lo] 3)) (W.heap.size+1) (W.heap.size+1) _ [lo] 1 (by simp) (vB W lo (W.heap.size+1) (by omega));rw[show(W.alloc (.cells #[int i64 lo] 3)).heap.size=W.heap.size+1 by simp] at Z;refine(ahZ (W.heap.size+1+1) _ _ _ (by simp) Z l er j).mono fun e w' h2=>?_;obtain⟨J,C,q1,q2,q3,q4,q5⟩:=h2;refine⟨J,C,q1,q2,q3.mono (by simp;omega),bt (bal (ba _ _) _) q4,fun t ht _ b o sp n c e=>?_⟩;obtain⟨y,h3,h4,_⟩:=q5 t ht;obtain rfl:y=(.slice (some ⟨W.heap.size,0,none⟩) 1 1,[lo],1):=by simpa using h3
     rw[<-h4] at e;simp only[yZ,aZ,dD] at e;omega
    clear h B j;go_enter func118,ntmps118;go_wp2_with fail;refine(z _).mono ?_;rintro e p ⟨rfl,a⟩;have k:=bt (ba _ _) a;obtain⟨g,i⟩:=bcell a;go_wp2_with fail;refine(ks _).mono ?_;rintro e w2 ⟨v2,C,rfl,k1,U,k3,k4⟩;obtain⟨a2,c2,rfl⟩:=U.slice;have HZ:Hid (pD w l er (.returned (.tuple #[.slice a2 C.length c2,int i64 er])) w2):=⟨_,C,rfl,k1,U.mono k.size,bt k k3,k4.mono k.size⟩;clear k1 U k3 k4 ks;go_wp2;exact eQ (v:=.tuple #[.slice a2 C.length c2,int i64 er]) (by simp[results,results118,go_sem]) rfl HZ.out
   ·rw[zQ Y] at j
    obtain⟨R,hR⟩:∃ R:Nat,hi - lo=(R:Int):=⟨(hi - lo).toNat,by omega⟩;obtain rfl:hi=lo+(R:Int):=by omega
    obtain⟨A,I⟩:∃ A:Nat,zU lo (lo+(R:Int)) n=lo+(A:Int):=⟨(zU lo (lo+(R:Int)) n - lo).toNat,by unfold zU;omega⟩
    have L:A<=R:=by
     have:zU lo (lo+(R:Int)) n<=lo+(R:Int):=by unfold zU;omega
     omega
    rw[I,show(lo+(R:Int) - lo).toNat=R by omega,show(lo+(A:Int) - lo).toNat=A by omega] at j;by_cases G:1073741824<(u+d)*u ^ R
    ·rw[jQ G] at j
     simp only[cQ] at j;obtain⟨rfl,rfl⟩:=j;have af:(lo == lo+(R:Int))=false:=by simp;omega
     have wA:IntKind.i64.wrap (lo+(R:Int) - lo)=lo+(R:Int) - lo:=by rw[lJ];omega
     have wB:IntKind.i64.wrap (u+d)=u+d:=by rw[lJ];omega
     by_cases H:u ^ R<=1073741824
     ·obtain⟨X,D⟩:∃ X,u ^ R=X:=⟨_,rfl⟩
      rw[D] at H G;have M:1<=X:=by rw[<-D];exact uD (by omega) R
      have O:0<=X*(u+d):=sD (by omega) (by omega);have P:X*(u+d)<=1073741824*2147483648:=nH H (by omega) (by omega) (by omega);rw[Int.mul_comm] at G;have T:decide (1073741824<X)=false:=by simp;omega
      have wC:IntKind.i64.wrap (X*(u+d))=X*(u+d):=by rw[lJ];omega
      have kp:∀ (m:Int) (W:World),m=(R:Int)->Calls prog 168 #[int i64 u,int i64 m] W fun e w'=>e=.returned (int i64 X)/\w' = W:=fun m W hm=>by
       subst hm;exact oB u R (by omega) (by omega) E X (by rw[D,ahJ H]) W
      clear h B I hR D;go_enter func118,ntmps118;go_wp2_with fail;refine(z _).mono ?_;rintro e p ⟨rfl,a⟩;have k:=bt (ba _ _) a;obtain⟨g,i⟩:=bcell a;have d1:p.cell? ⟨w.heap.size,0,none⟩=some (int i64 u):=by rw[g _ _ (by simp)];simp[go_sem]
      have d2:p.cell? ⟨w.heap.size,1,none⟩=some (int i64 d):=by rw[g _ _ (by simp)];simp[go_sem]
      clear g i z a;go_wp2_with fail
      go_region_held3 (fun w'=>w'.cell? ⟨w.heap.size,0,none⟩=some (int i64 u)/\w'.cell? ⟨w.heap.size,1,none⟩=some (int i64 d))
       ((go_split_ands;refine⟨?_,?_⟩ <;> first|assumption|(simp[go_sem, *];done)))
       ((go_at_call 168;refine(kp _ _ (by omega)).mono ?_;rintro x1 w2 ⟨rfl,rfl⟩))
      have G2:=bt k (uQ p.heap.size p).drew;go_wp2;exact eQ (v:=.tuple #[.slice none 0 0,int i64 4]) (by simp[results,results118,go_sem]) rfl (pD.err G2)
     ·obtain⟨X,D⟩:∃ X:Int,1073741825=X:=⟨_,rfl⟩
      have kp:∀ (m:Int) (W:World),m=(R:Int)->Calls prog 168 #[int i64 u,int i64 m] W fun e w'=>e=.returned (int i64 X)/\w' = W:=fun m W hm=>by
       subst hm;exact oB u R (by omega) (by omega) E X (by rw[<-D];exact zQ H) W
      have M:1<=X:=by omega
      have N:X<=1073741825:=by omega
      have O:0<=X*(u+d):=sD (by omega) (by omega);have P:X*(u+d)<=1073741825*2147483648:=nH N (by omega) (by omega) (by omega);have T:1073741824<X:=by omega
      have wC:IntKind.i64.wrap (X*(u+d))=X*(u+d):=by rw[lJ];omega
      clear h B I hR H G D;go_enter func118,ntmps118;go_wp2_with fail;refine(z _).mono ?_;rintro e p ⟨rfl,a⟩;have k:=bt (ba _ _) a;obtain⟨g,i⟩:=bcell a;have d1:p.cell? ⟨w.heap.size,0,none⟩=some (int i64 u):=by rw[g _ _ (by simp)];simp[go_sem]
      have d2:p.cell? ⟨w.heap.size,1,none⟩=some (int i64 d):=by rw[g _ _ (by simp)];simp[go_sem]
      clear g i z a;go_wp2_with fail;go_quiet ((go_at_call 168;refine Calls.quiet_of_same (kp _ _ (by omega))));go_wp2;exact eQ (v:=.tuple #[.slice none 0 0,int i64 4]) (by simp[results,results118,go_sem]) rfl (pD.err (below_drewN k _))
    ·rw[zQ G] at j
     exact evZ u d lo n R A (by omega) (by omega) L I h Q S E (by omega) b1 V l er j w
  ·rw[jQ F] at j
   simp only[cQ] at j;obtain⟨rfl,rfl⟩:=j;clear h B;by_cases b1:lo < -1073741824
   ·clear F
    go_enter func118,ntmps118;go_wp2_with fail;refine(z _).mono ?_;rintro e p ⟨rfl,a⟩;have k:=bt (ba _ _) a;obtain⟨g,i⟩:=bcell a;go_wp2;exact eQ (v:=.tuple #[.slice none 0 0,int i64 3]) (by simp[results,results118,go_sem]) rfl (pD.err k)
   ·by_cases b2:1073741824<hi
    ·clear F
     go_enter func118,ntmps118;go_wp2_with fail;refine(z _).mono ?_;rintro e p ⟨rfl,a⟩;have k:=bt (ba _ _) a;obtain⟨g,i⟩:=bcell a;go_wp2;exact eQ (v:=.tuple #[.slice none 0 0,int i64 3]) (by simp[results,results118,go_sem]) rfl (pD.err k)
    ·by_cases V:hi<lo
     ·clear F
      go_enter func118,ntmps118;go_wp2_with fail;refine(z _).mono ?_;rintro e p ⟨rfl,a⟩;have k:=bt (ba _ _) a;obtain⟨g,i⟩:=bcell a;go_wp2;exact eQ (v:=.tuple #[.slice none 0 0,int i64 3]) (by simp[results,results118,go_sem]) rfl (pD.err k)
     ·have b4:lo+64<hi:=by omega
      clear F;go_enter func118,ntmps118;go_wp2_with fail;refine(z _).mono ?_;rintro e p ⟨rfl,a⟩;have k:=bt (ba _ _) a;obtain⟨g,i⟩:=bcell a;go_wp2;exact eQ (v:=.tuple #[.slice none 0 0,int i64 3]) (by simp[results,results118,go_sem]) rfl (pD.err k)
 ·rw[jQ c] at j
  simp only[cQ] at j;obtain⟨rfl,rfl⟩:=j;have c2:(e0 != 0)=true:=by simpa using c
  clear h;go_enter func118,ntmps118;go_wp2_with fail;refine(z _).mono ?_;rintro e p ⟨rfl,a⟩;have k:=bt (ba _ _) a;obtain⟨g,i⟩:=bcell a;go_wp2;exact eQ (v:=.tuple #[.slice none 0 0,int i64 e0]) (by simp[results,results118,go_sem]) rfl (pD.err k)
theorem pY.grow {ts:List Tr}(h:pY W W.heap.size m v ts)(p:W.grownBy w' row)(l:∀ g,row=some g->m=g)(y:m' = m\/W.heap.size<=m'):pY w' w'.heap.size m' v ts:=by
 obtain⟨a,c,B,hc,z,hi,C⟩:=h;refine⟨a,c,B,hc,z,fun t ht=>(hi t ht).grow p (vQ _) l y,fun hne=>?_⟩;obtain⟨b,o,ha,D,A,j⟩:=C hne;have:=p.size;refine⟨b,o,ha,by omega,by rcases y with h|h <;> omega,fun i t ht=>?_⟩;have k:some b≠row:=fun e=>A (l b e.symm).symm;exact⟨p.cell (j i t ht).1 k,p.cell (j i t ht).2 k⟩
def yA (w:World) (lo:Nat) (v:Value) (ns:List Dl):Prop :=
 w.ownsRow lo 93 1 v ns.length (ns.map (·.1))/\∀ n∈ns,∃ m,pY w w.heap.size m n.1 n.2/\∀ g,v.ownBlock=some g->m=g
theorem yA.nil (w:World)(lo:Nat):yA w lo (.slice none 0 0) []:=⟨⟨rfl,.inl ⟨rfl,rfl⟩⟩,fun t ht=>by cases ht⟩
theorem yA.keep {lo:Nat}{ns:List Dl}(h:yA w lo v ns)(a:xQ w w'):yA w' lo v ns :=
 ⟨dG h.1 a,fun t ht=>let ⟨m,h1,h2⟩:=h.2 t ht;⟨m,h1.at2 a,h2⟩⟩
theorem yA.slice {lo:Nat}{ns:List Dl}(h:yA w lo v ns):∃ a c,v=.slice a ns.length c:=pI h.1
theorem yA.lt {lo:Nat}{ns:List Dl}(h:yA w lo v ns):∀ g,v.ownBlock=some g->lo<=g/\g<w.heap.size:=h.1.lt
theorem yA.app {lo:Nat}{ns:List Dl}{n:Dl}(h:yA W lo v ns)(j:w'.ownsRow lo 93 1 v' (ns.length+1) (ns.map (·.1)++[n.1]))(p:W.grownBy w' v.ownBlock)
  (a:v'.ownBlock=v.ownBlock\/v'.ownBlock=some W.heap.size) (A:pY W W.heap.size m n.1 n.2) (z:∀ g,v.ownBlock=some g->m=g):yA w' lo v' (ns++[n]):=by
 refine⟨by simpa using j,fun t k=>?_⟩
 have l:∀ (m:Nat) (t:Dl),pY W W.heap.size m t.1 t.2->(∀ g,v.ownBlock=some g->m=g)->∃ m',pY w' w'.heap.size m' t.1 t.2/\∀ g,v'.ownBlock=some g->m' = g:=by
  intro m t o i;rcases a with a|a
  ·exact⟨m,o.grow p i (.inl rfl),by rw[a];exact i⟩
  ·exact⟨W.heap.size,o.grow p i (.inr (vQ _)),by rw[a];intro g e;simpa using e⟩
 rcases aV.1 k with k|k
 ·obtain⟨m,y,i⟩:=h.2 t k
  exact l m t y i
 ·obtain rfl:t=n:=by simpa using k
  exact l m t A z
theorem yA.dss {lo:Nat}{ns:List Dl}(h:yA w lo v ns)(l:ns.length<=1073741824):kM w w.heap.size v ns:=by
 have hi:∀ t∈ns,uX w w.heap.size t.1 t.2:=fun t ht=>let ⟨m,j,_⟩:=h.2 t ht;j.parts;obtain⟨o,⟨k,p⟩|⟨g,cap,cur,k,B,a,hc,_,z,A⟩⟩:=h.1
 ·obtain rfl:ns=[]:=oL.1 p
  exact⟨none,0,k,vQ _,l,hi,fun h=>absurd rfl h⟩
 ·refine⟨_,cap,k,hc,l,hi,fun _=>⟨g,0,rfl,(mY.1 a).1,fun i t ht=>?_⟩⟩
  have y:i<ns.length:=(fQ.1 ht).1
  have:cur[i]? = some t.1:=by
   have j:(ns.map (·.1))[i]? = some t.1:=by simp[ht]
   rw[<-A,oG (by omega)] at j;simpa using j
  simp[World.cell?,a,this]
theorem yA.dssA {lo:Nat}{ns:List Dl}(d:yA w lo v ns)(i:ns.length<=1073741824)(p:h<=lo)(k:∀ z∈ns,∀ m,m<h->pY w w.heap.size m z.1 z.2):fJ w h v ns:=by
 obtain⟨a,c,j,hc,_,_,y⟩:=d.dss i;refine⟨a,c,j,hc,i,k,fun hne=>?_⟩;obtain⟨b,o,ha,l,g⟩:=y hne;refine⟨b,o,ha,?_,l,g⟩;have:=(d.lt b (by rw[j,ha];rfl)).1;omega
def aiQ (w:World) (l:List (List Pt)) (er:Int) (e:Ending) (w':World):Prop :=
 ∃ v zs,e=.returned (.tuple #[v,int i64 er])/\rds zs=l/\fJ w' w.heap.size v zs/\xQ w w'
theorem ewQ (B nb:Nat)(u d lo hi:Int)(v:Value)(ns:List Int)(w:World)(hB:B<=w.heap.size)(hx:yQ w B nb v ns)(bi:ns.length<=1048576)(l:List (List Pt))(er:Int)(hr:sV u d lo hi ns=(l,er)) :
  Calls prog 67 #[rv u d,int i64 lo,int i64 hi,v] w (aiQ w l er):=by
 have HX:=qQ hx;have V:=qQ hr;obtain⟨va,vc,rfl,_⟩:=hx;obtain⟨i0,aw,b8,bb,bc⟩:=pZ bpJ;clear hr;obtain⟨C,G⟩:∃ C,w.alloc (.cells #[int i64 u,int i64 d] 37)=C:=⟨_,rfl⟩;have a7:xQ w C:=G▸ba w _;have aa:w.heap.size<C.heap.size:=by rw[<-G];simp
 have p1:C.cell? ⟨w.heap.size,0,none⟩=some (int i64 u):=by rw[<-G];simp[go_sem]
 have p2:C.cell? ⟨w.heap.size,1,none⟩=some (int i64 d):=by rw[<-G];simp[go_sem]
 go_enter func67,ntmps67;go_wp2_with fail;clear G
 go_loopw [10,17] (fun pv s wr=>∃ (i:Nat) (zs:List Dz),s=int i64 (i:Int)/\i<=ns.length/\Hid (zs.length=i/\rds zs=(ns.take i).map (fun n=>(jJ u d lo hi n).1)/\∀ x∈ns.take i,(jJ u d lo hi x).2=0)/\Hid (yA wr C.heap.size pv zs)/\Hid (∀ z∈zs,∀ m,m<w.heap.size->pY wr wr.heap.size m z.1 z.2)/\xQ C wr) (fun _ s _=>ns.length - (intOf s).toNat)
 case atStart=>exact⟨0,[],rfl,dQ _,⟨rfl,by simp[rds],by simp⟩,yA.nil _ _,fun z hz=>by(cases hz),uQ _ _⟩
 case round =>
  obtain⟨i,zs,rfl,c8,O,Q,S,F⟩:=hrel;have c6:=F.size;have b3:=Q.out.lt;obtain⟨pa,pc,rfl⟩:=Q.out.slice;have P:xQ w wr:=a7.trans (F.mono a7.size);have U:Hid (zs.length<=1048576):=by have:=O.out.1;show zs.length<=1048576;omega
  by_cases h1:i<ns.length
  ·obtain⟨b,o,x,rfl,hb,ac,c7⟩:=HX.out.get' hB P h1
   have N:=qQ ac;obtain⟨⟨l1,e1⟩,hh⟩:∃ y,jJ u d lo hi x=y:=⟨_,rfl⟩;have kh:=evJ u d lo hi x l1 e1 hh;have HH:=qQ hh;have c1:wr.cell? ⟨w.heap.size,0,none⟩=some (int i64 u):=(F.cell (p:=⟨w.heap.size,0,none⟩) aa).trans p1;have c2:wr.cell? ⟨w.heap.size,1,none⟩=some (int i64 d):=(F.cell (p:=⟨w.heap.size,1,none⟩) aa).trans p2;obtain⟨mo,az,a9⟩:=k9 (n:=wr.heap.size) (fun g e=>(b3 g e).2) (by omega);have HO:=qQ a9;clear ac hh a9;go_wp2_with fail;refine(kh _).mono ?_;rintro e L ⟨v2,A,rfl,k1,k2,k3,k4⟩;obtain⟨a2,k,b5⟩:=k2.slice;subst b5;by_cases I:e1=0
   ·subst I
    have M:Hid (pY L L.heap.size mo (.slice a2 A.length k) A/\rd A=l1):=⟨aaQ k2 k4 az,k1⟩;have H:xQ wr (L.alloc (.cells #[.slice a2 A.length k] 93)):=bal k3 _;have D:=qQ (Q.out.keep H);have BB:=qQ (bt F H);have ca:C.heap.size<=L.heap.size:=by have:=k3.size;omega
    have c9:=U.out;have R:Hid (∀ m,m<w.heap.size->pY L L.heap.size m (.slice a2 A.length k) A):=fun m hm=>aaQ k2 k4 (by omega);have X:=qQ H;clear k1 k2 k3 k4 H kh;go_wp2_with (at_builtin;refine wpList_append_lies _ rfl _ _ 86 rfl C.heap.size 93 i0 (.slice none 0 0) 1 24 underlying86 aw b8 bb bc rfl (by decide) _ _ _ rfl D.out.1 ⟨L.heap.size,0,none⟩ 1 1 [.slice a2 A.length k] rfl ?q1 ?q2 ?q3 (by decide) ?q4 ?q5 ?q6 (L.heap.size+1) ?q7 ?_)
    case q1=>rfl
    case q2 =>
     intro j u hj
     match j,hj with
     | 0,hj=>simp at hj;subst hj;simp[go_sem,Addr.add]
    case q3=>intro u hu;simp at hu;subst hu;rfl
    case q4=>simp[maxLen];omega
    case q5=>omega
    case q6=>simp;omega
    case q7=>simp
    intro g cap w4 J a a6 ax
    have am:Hid (yA w4 C.heap.size (.slice (some ⟨g,0,none⟩) (zs.length+1) cap) (zs++[(.slice a2 A.length k,A)])) :=
     D.out.app (n:=(.slice a2 A.length k,A)) J a (a6.imp (fun e=>by rw[e];rfl) (fun e=>by rw[e];simp[Value.ownBlock])) (M.out.1.at2 (ba _ _)) HO.out
    have T:Hid (∀ z∈zs++[((.slice a2 A.length k,A):Dz)],∀ m,m<w.heap.size->pY w4 w4.heap.size m z.1 z.2):=by
     intro z hz m hm;rcases aV.1 hz with h|h
     ·obtain⟨m0,h1,h2⟩:=D.out.2 z h
      exact((S.out z h m hm).at2 X.out).grow2 h1 a h2
     ·obtain rfl:z=(.slice a2 A.length k,A):=by simpa using h
      exact((R.out m hm).at2 (ba _ _)).grow2 (M.out.1.at2 (ba _ _)) a HO.out
    have B4:xQ C w4:=BB.out.grown a (by simp;omega) (xJ D.out.1)
    have an:Hid ((zs++[((.slice a2 A.length k,A):Dz)]).length=i+1/\rds (zs++[(.slice a2 A.length k,A)])=(ns.take (i+1)).map (fun n=>(jJ u d lo hi n).1)/\∀ y∈ns.take (i+1),(jJ u d lo hi y).2=0):=by
     refine⟨by simp[O.out.1],?_,?_⟩
     ·have h5:=O.out.2.1
      rw[rX,N.out];simp only[rds,iA] at h5 ⊢;rw[h5];simp[HH.out,M.out.2]
     ·intro y hy
      rw[rX,N.out] at hy;rcases aV.1 hy with h6|h6
      ·exact O.out.2.2 y h6
      ·obtain rfl:y=x:=by simpa using h6
       rw[HH.out]
    clear J a a6 ax D;go_wp2
    go_roundw
    case rel=>exact⟨i+1,_,by go_num,h1,an,am,T,B4⟩
    case measure=>simp[intOf];omega
   ·have bj:(e1 == 0)=false:=by simpa using I
    have bk:(e1 != 0)=true:=by simpa using I
    have Y:=bpZ O.out.2.2 N.out (e:=e1) (by rw[HH.out]) I;rw[Y] at V;have E:=V.out;simp only[cQ] at E;obtain⟨rfl,rfl⟩:=E;have a8:=bt P k3;clear k1 k2 k4 kh Y HH Q;go_wp2;exact eQ (v:=.tuple #[.slice none 0 0,int i64 e1]) (by simp[results,results67,go_sem]) rfl ⟨_,[],rfl,rfl,fJ.nil _ _,a8⟩
  ·have Z:∀ n∈ns,(jJ u d lo hi n).2=0:=by have:=O.out.2.2;rwa [gJ (by omega)] at this
   have Y:=bpX Z;rw[Y] at V;have E:=V.out;simp only[cQ] at E;obtain⟨rfl,rfl⟩:=E
   have ao:Hid (aiQ w (ns.map fun n=>(jJ u d lo hi n).1) 0 (.returned (.tuple #[.slice pa zs.length pc,int i64 0])) wr):=by
    refine⟨_,zs,rfl,?_,Q.out.dssA (by have:=U.out;omega) (by omega) S.out,P⟩;have h5:=O.out.2.1;rwa [gJ (by omega)] at h5
   clear Q V Y;go_wp2;exact eQ (v:=.tuple #[.slice pa zs.length pc,int i64 0]) (by simp[results,results67,go_sem]) rfl ao.out
theorem e4Z (B nb:Nat)(v:Value)(bits:List Int)(g:Int)(w:World)(R:pU w B nb v bits)(r:Int)(M:xU bits g=r) :
  Calls prog 71 #[v,int i64 g] w fun e w'=>e=.returned (int i64 r)/\w' = w:=by
 obtain⟨⟨a,c,rfl⟩,l⟩:=R;have y:=qQ M;clear M;by_cases A:65536<bits.length
 ·obtain rfl:r=5:=by rw[<-y.out];simp[xU,A]
  clear l;go_enter func71,ntmps71;go_wp2;go_ret;exact⟨rfl,rfl⟩
 obtain⟨_,_,G,hc,U,p⟩:=l (by omega);cases G;have C:=qQ p;clear p l;by_cases J:g<0
 ·obtain rfl:r=3:=by rw[<-y.out];simp[xU,A,J]
  go_enter func71,ntmps71;go_wp2;go_ret;exact⟨rfl,rfl⟩
 by_cases L:4096<g
 ·obtain rfl:r=3:=by rw[<-y.out];simp[xU,A,L]
  go_enter func71,ntmps71;go_wp2;go_ret;exact⟨rfl,rfl⟩
 have k:Hid ((if kY bits=true then 3 else 0)=r):=by
  have h:=y.out;unfold xU at h;rw[zQ A] at h;rw[Hid,<-h];by_cases m:kY bits=true
  ·rw[jQ m,jQ (.inr (.inr m))]
  ·rw[zQ m,zQ]
   rintro(h|h|h)
   ·exact J h
   ·exact L h
   ·exact m h
 go_enter func71,ntmps71;go_wp2
 go_loop [18] (fun s=>∃ i:Nat,s=int i64 (i:Int)/\i<=bits.length/\Hid ((bits.take i).all mA=true)) (fun s=>bits.length - (intOf s).toNat)
 case atStart=>exact⟨0,rfl,dQ _,by simp[Hid]⟩
 case round =>
  obtain⟨i,rfl,P,I⟩:=hrel;by_cases E:i<bits.length
  ·obtain⟨b,o,rfl,m,V,j⟩:=C.out (ne_of_lt E)
   obtain⟨z,H⟩:=fX E;have N:=j i z H;have D:=qQ H;clear j C H;by_cases S:z<0
   ·obtain rfl:r=3:=by
     have F:mA z=false:=by simp[mA];omega
     rw[<-k.out,jQ];rw[tP,xL D.out F];rfl
    go_wp2;go_ret;exact⟨rfl,rfl⟩
   by_cases T:1<z
   ·obtain rfl:r=3:=by
     have F:mA z=false:=by simp[mA];omega
     rw[<-k.out,jQ];rw[tP,xL D.out F];rfl
    go_wp2;go_ret;exact⟨rfl,rfl⟩
   have Q:Hid (mA z=true):=by simp[Hid,mA];omega
   go_wp2
   go_round
   case rel=>exact⟨i+1,by go_num,E,by rw[Hid,nN D.out,I.out,Q.out];rfl⟩
   case measure=>simp[intOf];omega
  ·obtain rfl:r=0:=by
    have O:bits.all mA=true:=by have:=I.out;rwa [gJ (by omega)] at this
    rw[<-k.out,zQ];rw[tP,O];simp
   clear C;go_wp2;go_ret;exact⟨rfl,rfl⟩
def fA (T:Int):Nat->Int
 | 0=>1
 | k+1=>2*fA T k % T
theorem fsZ (a:2<=T)(k:Nat):0<=fA T k/\fA T k<T:=by
 cases k with
 | zero=>simp only[fA];omega
 | succ k=>exact⟨Int.emod_nonneg _ (by omega),Int.emod_lt_of_pos _ (by omega)⟩
theorem b2Q (x T:Int)(k:Nat)(w:World)(H:2<=T/\T<=1073741824)(a:0<=x/\x<T)(I:k<=65536)(r:Int)(z:(if T<=2*rm T (fA T k) x then 1 else 0)=r) :
  Calls prog 124 #[int i64 x,int i64 T,int i64 ((k:Int)+1)] w fun e w'=>e=.returned (int i64 r)/\w' = w:=by
 have B:=qQ z;have C:Hid (rm T 1 x=x):=by rw[Hid,rm,Int.mul_one,Int.emod_eq_of_lt a.1 a.2]
 have E:¬ T=0:=by omega
 clear z;go_enter func124,ntmps124;go_wp2
 go_loop [0,7,8] (fun xv dv iv=>∃ (i:Nat) (y d:Int),xv=int i64 y/\dv=int i64 d/\iv=int i64 (i:Int)/\i<=k+1/\0<=y/\y<T/\Hid (y=rm T (fA T i) x)/\Hid (i=k+1->d=r)) (fun _ _ iv=>k+1 - (intOf iv).toNat)
 case atStart=>exact⟨0,x,0,rfl,rfl,rfl,dQ _,a.1,a.2,C.out.symm,fun h=>by omega⟩
 case round =>
  obtain⟨i,y,d,rfl,rfl,rfl,hi,F,G,m,A⟩:=hrel;by_cases D:i<k+1
  ·have o:(2*y) % T=rm T (fA T (i+1)) x:=by rw[m.out,fA,bjQ]
   have p:(2*y) / T=if T<=2*y then 1 else 0:=by
    by_cases c:T<=2*y
    ·rw[jQ c,show 2*y=(2*y - T)+T*1 by omega,Int.add_mul_ediv_left _ _ (by omega),Int.ediv_eq_zero_of_lt (by omega) (by omega)];rfl
    ·rw[zQ c,Int.ediv_eq_zero_of_lt (by omega) (by omega)]
   have v:0<=(2*y) % T/\(2*y) % T<T:=⟨Int.emod_nonneg _ (by omega),Int.emod_lt_of_pos _ (by omega)⟩;have j:=qQ o
   have g:Hid (i+1=k+1->(2*y) / T=r):=fun e=>by
    rw[p,<-B.out,m.out,show i=k by omega]
   have l:(i:Int)<(k:Int)+1:=by omega
   clear o p;go_wp2
   go_round
   case rel=>exact⟨i+1,(2*y) % T,(2*y) / T,rfl,rfl,by go_num,D,v.1,v.2,j,g⟩
   case measure=>simp[intOf];omega
  ·obtain rfl:d=r:=A.out (by omega)
   have l:¬ (i:Int)<(k:Int)+1:=by omega
   go_wp2;go_ret;exact⟨rfl,rfl⟩
def e4J (lo:Nat) (nx:Nx) (bits:List Int) (w:World) (e:Ending) (w':World):Prop :=
 xQ w w'/\((nx bits=none/\e=.returned (.tuple #[qI,.bool false])) \/
  ∃ a c o,∃ j:Nat,nx bits=some (o,(j:Int),bits.drop j)/\j<=bits.length/\e=.returned (.tuple #[.agg #[.slice a (o:List Int).length c,int i64 (j:Int)],.bool true]) /\
   ∀ m,(lo<=m/\m<w.heap.size)\/m=w'.heap.size->yQ w' w'.heap.size m (.slice a o.length c) o)
theorem e5Q {l:List Pt}(h:Dis l)(a:2<=l.length):2<=tot l:=by
 match l,a,h with
 | p::q::l,_,h =>
  have g:=h.pos p (by simp);have a:=h.pos q (by simp);have i:0<=tot l:=(Nn.of_pos (l:=l) fun r hr=>h.pos r (by simp[hr])).tot_nn;rw[xY,xY];omega
theorem e5X {l:List Pt}(a:2<=l.length)(bits:List Int):cV l bits=aU (tot l) l 1 0 0 bits:=by
 match l,a with
 | _::_::_,_=>rfl
theorem vT (lo B nb:Nat)(v u:Value)(ts:List Tr)(bits:List Int)(w:World)(hB:B<=w.heap.size)(de:B<=lo)(hp:uX w B v ts)(hu:yQ w B nb u bits)(hD:Dis (rd ts))(a8:kY bits=false)(co:bits.length<=65536) :
  Calls prog 72 #[v,u] w (e4J lo (cV (rd ts)) bits w):=by
 have HP:=qQ hp;have HU:=qQ hu;have HD:=qQ hD;have ao:=qQ a8;have dc:ts.length<=4096:=by have:=hD.few;rwa [yY] at this
 have ch:Hid (ts≠[]):=fun h=>hD.ne (by rw[h];rfl);have ax:Hid (Rv (w.alloc (.cells #[.slice none 0 0,int i64 0] 110)) w.heap.size (.slice none 0 0) 0):=Rv.new _ _ _ _ _ rfl;have b6:xQ w (w.alloc (.cells #[.slice none 0 0,int i64 0] 110)):=ba _ _;obtain⟨a,c,rfl,hc,hl,_⟩:=hp;obtain⟨ua,uc,rfl,di,_⟩:=hu;clear hD a8;by_cases h1:ts.length=1
 ·obtain⟨b,o,G,H,g,k,rfl,hb,R,c1,c2,hI⟩:=HP.out.get hB b6 (i:=0) (by omega)
  have HN:Hid (cV (rd ts) bits=some (g,0,bits)):=by
   match ts,h1,R with
   | [t],_,R=>simp at R;subst R;rfl
  simp only[zS,fI] at c1
  have HI:Hid (yQ w B B (.slice G g.length H) g):=by
   obtain⟨b',o',dp,dq,dr,k',_,_,ak,_,_,cd⟩:=HP.out.get hB (uQ _ _) (i:=0) (by omega);rw[R] at ak;simp only[aZ,cQ,yZ] at ak;obtain⟨⟨rfl,_,rfl⟩,rfl,rfl⟩:=ak;exact cd
  rw[h1] at hc ⊢;obtain⟨r0,r1,r2,r3,r4⟩:=id ax.out;clear R hI c2 h1;go_enter func72,ntmps72;go_wp2;refine eQ (v:=.tuple #[.agg #[.slice G g.length H,int i64 0],.bool true]) (by simp[results,results72,go_sem]) rfl ⟨ba _ _,.inr ⟨G,H,g,0,HN.out,dQ _,rfl,fun m hm=>?_⟩⟩;exact(HI.out.at hB (ba _ _)).mono (by simp;omega) (.inr (by simp at hm;omega))
 ·have d5:((ts.length:Int) == 1)=false:=by simp;omega
  have cm:¬ (ts.length:Int)=1:=by omega
  have h2:2<=ts.length:=by
   have:0<ts.length:=aoQ.2 ch.out;omega
  obtain⟨T,hT⟩:∃ T,tot (rd ts)=T:=⟨_,rfl⟩;have HT:=qQ hT
  have az:2<=T/\T<=1073741824:=by
   rw[<-hT];exact⟨e5Q HD.out (by rw[yY];exact h2),HD.out.le⟩
  have HW:Hid (∀ p∈rd ts,0<=p.2/\p.2<T):=by rw[Hid,<-hT];exact HD.out.less (by rw[yY];exact h2)
  have c7:Hid (Nd T 1 (rd ts) 0):=by rw[Hid,<-hT];exact Nd.start (HD.out.less (by rw[yY];exact h2))
  have S:Hid (Nn (rd ts)/\tot (rd ts)<=4611686018427387904):=⟨Nn.of_pos HD.out.pos,by rw[hT];omega⟩;have c8:Hid (cV (rd ts) bits=aU T (rd ts) 1 0 0 bits):=by rw[Hid,e5X (by rw[yY];exact h2),hT]
  clear hT;go_enter func72,ntmps72;go_wp2
  go_loopw [6,7] (fun nv kv wr=>∃ (j:Nat) (nd:Int),nv=int i64 nd/\kv=int i64 ((j:Int)+1)/\j<=bits.length/\0<=nd/\nd<=4096/\Hid (Nd T (fA T j) (rd ts) nd)/\Hid (cV (rd ts) bits=aU T (rd ts) (fA T j) nd j (bits.drop j))/\xQ w wr/\Hid (Rv wr w.heap.size (.slice none 0 0) 0)) (fun _ kv _=>bits.length+1 - (intOf kv).toNat)
  case atStart=>exact⟨0,0,rfl,rfl,dQ _,by omega,by omega,c7,by simpa [fA,Hid] using c8.out,b6,ax⟩
  case round =>
   obtain⟨j,nd,rfl,rfl,hj,dg,dh,HN,HE,ag,HV⟩:=hrel;have hz:w.heap.size+1<=wr.heap.size:=HV.out.lt;by_cases h3:j<bits.length
   ·obtain⟨b,hb⟩:=fX h3
    have a7:=qQ hb;have bc:=j9 ao.out hb;obtain⟨_,_,bi,_,_,hx⟩:=HU.out.at hB ag;simp only[yZ] at bi;obtain⟨rfl,_,rfl⟩:=bi;obtain⟨ub,uo,rfl,ct,_,N⟩:=hx (ne_of_lt h3);have c1:=N j b hb;obtain⟨m,hm⟩:=nY (show 0<=2*nd+b by omega);have HM:=qQ hm;have df:m<=8193:=by omega
    have cf:((j:Int)+1)<=(bits.length:Int):=by omega
    obtain⟨pl,aj⟩:∃ pl,fA T j=pl:=⟨_,rfl⟩;have U:=qQ aj;rw[aj] at HN HE;clear hb hx N aj;obtain⟨wo,ci⟩:∃ wo:World,wo=wr:=⟨_,rfl⟩;subst ci;go_wp2;clear hm
    go_loopw [8,35] (fun qv iv wr=>∃ (i q:Nat),qv=int i64 (q:Int)/\iv=int i64 (i:Int)/\i<=ts.length/\q<=m/\Hid ((uZ T pl (rd (ts.take i))).length=q)/\xQ w wr/\Hid (Rv wr w.heap.size (.slice none 0 0) 0)) (fun _ iv _=>ts.length - (intOf iv).toNat)
    case atStart=>exact⟨0,0,rfl,rfl,dQ _,dQ _,by simp[Hid,rd,uZ],ag,HV⟩
    case round =>
     obtain⟨i,q,rfl,rfl,dd,bh,HQ,A,ac⟩:=hrel;have dj:w.heap.size+1<=wr.heap.size:=ac.out.lt;by_cases h4:i<ts.length
     ·obtain⟨bb,bo,G,H,g,F,rfl,db,R,d1,d2,ay⟩:=HP.out.get hB A h4
      have HS:=qQ R;have ai:=HW.out _ (qX (yV R));simp only at ai;have c6:=qQ ay;generalize hO:Obj.cells #[Value.slice G g.length H,Value.int IntKind.i64 F] 186=O;have J:Hid (Rv (wr.alloc O) wr.heap.size (.slice G g.length H) F):=hO▸Rv.new _ _ _ _ _ rfl;have V:Hid (uX (wr.alloc O) B (.slice (some ⟨bb,bo,none⟩) ts.length c) ts):=HP.out.at hB (bal A _);have a6:Hid (xQ w (wr.alloc O)):=bal A _;have X:=qQ (ac.out.alloc O);have bj:(wr.alloc O).heap.size=wr.heap.size+1:=by simp
      have af:Hid (xQ wr (wr.alloc O)):=ba _ _;subst hO;clear R ay;by_cases C:T<=2*rm T pl F
      ·have aa:Hid ((if T<=2*rm T (fA T j) F then (1:Int) else 0)=1):=by rw[Hid,U.out,jQ C]
       have l:Hid ((uZ T pl (rd (ts.take (i+1)))).length=q+1):=by
        rw[Hid,sP HS.out,jQ C,sY,HQ.out];rfl
       have bw:Hid ((uZ T pl (rd ts))[q]? = some g):=by
        have:=bjJ HS.out C;rw[HQ.out] at this;exact this
       clear C;go_wp2_with fail;obtain⟨W,hW⟩:∃ W,wr.alloc (.cells #[.slice G g.length H,int i64 F] 186)=W:=⟨_,rfl⟩;rw[hW] at J V a6 X bj af ⊢;clear hW;have f1:=J.out.c1;have am:wr.heap.size<W.heap.size:=by omega
       have Q:B<=W.heap.size:=by have:=A.size;omega
       go_region_held3 (fun w'=>w'.cell? ⟨wr.heap.size,1,none⟩=some (int i64 F))
        (first|assumption|(simp[go_sem, *];done))
        (first
         | (go_at_call 125;refine(ahQ B _ ts _ ?_ ?_ S.out.1 S.out.2 T HT.out).mono ?_;(show B<=W.heap.size;exact Q);(exact V.out.at Q (uQ _ _).drew);rintro x5 w5 ⟨rfl,y⟩;obtain⟨M,ah⟩:=bcell y;have q1:w5.cell? ⟨wr.heap.size,1,none⟩=some (int i64 F):=(M _ _ am).trans f1;clear M ah)
         | (have D:=y;clear D;go_at_call 124;refine(b2Q F T j _ az ai (by omega) 1 aa.out).mono ?_;rintro x6 w6 ⟨rfl,al⟩;subst al))
       have z:xQ W w6:=(uQ _ W).drew.trans y;have L:=qQ (X.out.below z);have E:xQ w w6:=bt a6.out z;by_cases h5:q=m
       ·subst h5
        have I:Hid (cV (rd ts) bits=some (g,(j:Int)+1,bits.drop (j+1))):=by
         have e:(uZ T pl (rd ts))[(2*nd+b).toNat]? = some g:=by rw[HM.out,tF];exact bw.out
         rw[Hid,HE.out,eV h3,(fQ.1 a7.out).2];simp only[aU,e]
        have ca:=qQ (J.out.below z);obtain⟨g0,g1,_,_,_⟩:=id ca.out;obtain⟨r0,r1,r2,r3,r4⟩:=id L.out;have Y:=L.out.put (.slice G g.length H) ((j:Int)+1);have bx:=qQ (c6.out.at (by have:=A.size;omega) (bt af.out z));go_wp2;generalize hZ:(w6.setCell ⟨w.heap.size,0,none⟩ (.slice G g.length H)).setCell ⟨w.heap.size,1,none⟩ (int i64 ((j:Int)+1))=Z at Y ⊢;have ce:xQ w Z:=hZ▸bs (bs E (p:=⟨w.heap.size,0,none⟩) (vQ _) _) (p:=⟨w.heap.size,1,none⟩) (vQ _) _;have b8:Below B w6 Z:=hZ▸((uQ B w6).setCell (p:=⟨w.heap.size,0,none⟩) hB _).setCell (p:=⟨w.heap.size,1,none⟩) hB _;have bz:yQ Z B B (.slice G g.length H) g:=bx.out.keep b8;clear hZ;obtain⟨z0,z1,_,_,_⟩:=Y;exact eQ (v:=.tuple #[.agg #[.slice G g.length H,int i64 ((j:Int)+1)],.bool true]) (by simp[results,results72,go_sem,z0,z1]) rfl ⟨ce,.inr ⟨G,H,g,j+1,I.out,h3,rfl,fun m hm=>bz.mono (by omega) (.inr (by omega))⟩⟩
       ·have d7:((q:Int) == (m:Int))=false:=by simp;omega
        have cn:¬ (q:Int)=(m:Int):=by omega
        go_wp2
        go_roundw
        case rel=>exact⟨i+1,q+1,by go_num,by go_num,h4,by omega,l,E,L⟩
        case measure=>simp[intOf];omega
      ·have aa:Hid ((if T<=2*rm T (fA T j) F then (1:Int) else 0)=0):=by rw[Hid,U.out,zQ C]
       have l:Hid ((uZ T pl (rd (ts.take (i+1)))).length=q):=by
        rw[Hid,sP HS.out,zQ C,bG];exact HQ.out
       clear C;go_wp2_with fail;obtain⟨W,hW⟩:∃ W,wr.alloc (.cells #[.slice G g.length H,int i64 F] 186)=W:=⟨_,rfl⟩;rw[hW] at J V a6 X bj af ⊢;clear hW;have f1:=J.out.c1;have am:wr.heap.size<W.heap.size:=by omega
       have Q:B<=W.heap.size:=by have:=A.size;omega
       go_region_held3 (fun w'=>w'.cell? ⟨wr.heap.size,1,none⟩=some (int i64 F))
        (first|assumption|(simp[go_sem, *];done))
        (first
         | (go_at_call 125;refine(ahQ B _ ts _ ?_ ?_ S.out.1 S.out.2 T HT.out).mono ?_;(show B<=W.heap.size;exact Q);(exact V.out.at Q (uQ _ _).drew);rintro x5 w5 ⟨rfl,y⟩;obtain⟨M,ah⟩:=bcell y;have q1:w5.cell? ⟨wr.heap.size,1,none⟩=some (int i64 F):=(M _ _ am).trans f1;clear M ah)
         | (have D:=y;clear D;go_at_call 124;refine(b2Q F T j _ az ai (by omega) 0 aa.out).mono ?_;rintro x6 w6 ⟨rfl,al⟩;subst al))
       have z:xQ W w6:=(uQ _ W).drew.trans y;have L:=qQ (X.out.below z);have E:xQ w w6:=bt a6.out z;go_wp2
       go_roundw
       case rel=>exact⟨i+1,q,rfl,by go_num,h4,bh,l,E,L⟩
       case measure=>simp[intOf];omega
     ·have l:Hid ((uZ T pl (rd ts)).length=q):=by have:=HQ.out;rwa [gJ (by omega)] at this
      have P:(uZ T pl (rd ts))[(2*nd+b).toNat]? = none:=by
       rw[HM.out,tF];exact pL (by rw[l.out];exact bh)
      have I:Hid (cV (rd ts) bits=aU T (rd ts) (fA T (j+1)) ((m:Int) - q) ((j:Int)+1) (bits.drop (j+1))):=by
       rw[Hid,HE.out,eV h3,(fQ.1 a7.out).2];simp only[aU,P];rw[HM.out,l.out,fA,U.out]
      have aw:Hid (Nd T (fA T (j+1)) (rd ts) ((m:Int) - q)):=by
       have:=HN.out.next (b:=b) (by omega) bc (by rw[l.out,HM.out];omega);rw[HM.out,l.out] at this;rw[Hid,fA,U.out];exact this
      have cg:=aw.out.le (by omega);rw[yY] at cg;have bf:=A;clear P;go_wp2
      go_roundw
      case rel=>exact⟨j+1,(m:Int) - q,rfl,by go_num,h3,by omega,by omega,aw,I,bf,ac⟩
      case measure=>simp[intOf];omega
   ·have I:Hid (cV (rd ts) bits=none):=by
     rw[Hid,HE.out,gA (by omega)];rfl
    have cf:¬ ((j:Int)+1)<=(bits.length:Int):=by omega
    have Y:=HV.out.put (.slice none 0 0) 0;obtain⟨r0,r1,r2,r3,_⟩:=id HV.out;go_wp2;obtain⟨z0,z1,_,_,_⟩:=Y;exact eQ (v:=.tuple #[qI,.bool false]) (by simp[results,results72,go_sem,z0,z1]) rfl ⟨bs (bs ag (p:=⟨w.heap.size,0,none⟩) (vQ _) _) (p:=⟨w.heap.size,1,none⟩) (vQ _) _,.inl ⟨I.out,rfl⟩⟩
theorem e5Z (B:Nat)(v:Value)(ts:List Tr)(w:World)(hB:B<=w.heap.size)(J:uX w B v ts)(er:Int)(z:(fU (rd ts)).2=er) :
  Calls prog 70 #[v] w (iQ w (int i64 er)):=by
 have H:=qQ J;obtain⟨a,c,rfl,hc,O,_⟩:=J;obtain⟨⟨m,e1⟩,D⟩:∃ m,iV (rd ts)=m:=⟨_,rfl⟩;have L:=euJ B _ ts w hB H.out m e1 D;rw[fU,D] at z;simp only at z;have A:=qQ z;clear z D;go_enter func70,ntmps70;go_wp2_with fail;refine L.mono ?_;rintro e o ⟨v1,M,rfl,p,E,i⟩;have G:=qQ E;have F:=qQ p;obtain⟨a1,c1,rfl⟩:=E.slice;clear E p L;by_cases C:e1=0
 ·subst C
  have j:uX o o.heap.size (.slice a ts.length c) ts:=(H.out.at hB i).mono (bQ hB i.size);by_cases l:m=rd ts
  ·have g:=A.out
   rw[jQ rfl,jQ l] at g;simp only at g;subst g;have y:=b0X o.heap.size _ _ ts M o (vQ _) j G.out.parts true (sJ (by rw[F.out,l]));clear l j;go_wp2_with fail;refine y.mono ?_;rintro e N ⟨rfl,k⟩;clear y;go_wp2;go_ret;exact⟨rfl,bt i k⟩
  ·have g:=A.out
   rw[jQ rfl,zQ l] at g;simp only at g;subst g;have y:=b0X o.heap.size _ _ ts M o (vQ _) j G.out.parts false (lZ (by rw[F.out];exact fun h=>l h.symm));clear l j;go_wp2_with fail;refine y.mono ?_;rintro e N ⟨rfl,k⟩;clear y;go_wp2;go_ret;exact⟨rfl,bt i k⟩
 ·have g:=A.out
  rw[zQ C] at g;simp only at g;subst g;have I:(e1 != 0)=true:=by simpa using C
  go_wp2;go_ret;exact⟨rfl,i⟩

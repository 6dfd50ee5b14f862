import Derived.Test.YtcaplmodgbpchaaGreatDoorQq13
open Go.Proofs.Tryz
open Go.Value(int)
open Go.IntKind(i64)
set_option linter.unusedSimpArgs false
set_option maxHeartbeats 16000000
set_option maxRecDepth 100000
namespace Go.Proofs.YtcaplmodgbpchaaGreatDoor
variable {R a i j:Nat} {v:Value} {f:Bool} {d u:Int}
section
open Go.RowKit Ds
theorem eqJ {l:List Pt}{p:Pt}(h:l[i]? = some p)(o:List Int):wt (l.take (i+1)) o=wt (l.take i) o+if p.1=o then p.2 else 0:=by
 rw[rX,h,cP];simp[dU]
theorem Nn.wt_le {l:List Pt}(h:Nn l)(o:List Int):0<=wt l o/\wt l o<=tot l:=by
 induction l with
 | nil=>simp
 | cons p l ih =>
  have:=ih fun q hq=>h q (by simp[hq]);have:=h p (by simp);rw[dU,xY];split <;> omega
theorem ahQ (B:Nat)(v:Value)(ts:List Tr)(w:World)(hB:B<=w.heap.size)(y:uX w B v ts)(p:Nn (rd ts))(D:tot (rd ts)<=4611686018427387904)(r:Int)(A:tot (rd ts)=r) :
  Calls prog 125 #[v] w (iQ w (int i64 r)):=by
 have E:=qQ y;obtain⟨a,c,rfl,hc,J,_⟩:=y;have j:Hid (tot (rd ts)<=4611686018427387904/\tot (rd ts)=r/\Nn (rd ts)):=⟨D,A,p⟩;clear p D A;go_enter func125,ntmps125;go_wp2
 go_loopw [3,8] (fun s u wr=>∃ (i:Nat) (z:Int),s=int i64 z/\u=int i64 (i:Int)/\i<=ts.length/\tot ((rd ts).take i)=z/\xQ w wr) (fun _ u _=>ts.length - (intOf u).toNat)
 case atStart=>exact⟨0,0,rfl,rfl,dQ _,by simp,uQ _ _⟩
 case round =>
  obtain⟨i,z,rfl,rfl,H,l,g⟩:=hrel;by_cases m:i<ts.length
  ·obtain⟨b,o,L,M,N,k,rfl,I,C,c1,c2,_⟩:=E.out.get hB g m
   have e1:=sT (yV C);have e2:=j.out.2.2.tot_take_le (i+1);have G:=j.out.1;have h:-4611686018427387904<=z+k/\z+k<=4611686018427387904:=by simp only at e1;omega
   have F:Hid (tot ((rd ts).take (i+1))=z+k):=by rw[Hid,e1,l]
   clear e1 e2 G l C;go_wp2
   go_roundw
   case rel=>exact⟨i+1,z+k,by go_num,by go_num,m,F.out,bal g _⟩
   case measure=>simp[intOf];omega
  ·have h:z=r:=by rw[<-l,<-j.out.2.1,vD (by omega)]
   subst h;clear l j;go_wp2;go_ret;exact⟨rfl,g⟩
theorem erQ (B nb:Nat)(v u:Value)(ts:List Tr)(x:List Int)(w:World)(hB:B<=w.heap.size)(M:uX w B v ts)(P:yQ w B nb u x)(L:Nn (rd ts))(O:tot (rd ts)<=4611686018427387904)(r:Int)(N:wt (rd ts) x=r) :
  Calls prog 192 #[v,u] w (iQ w (int i64 r)):=by
 have Q:=qQ M;have R:=qQ P;obtain⟨a,c,rfl,hc,X,_⟩:=M;obtain⟨ua,uc,rfl,_⟩:=P;have p:Hid (tot (rd ts)<=4611686018427387904/\wt (rd ts) x=r/\Nn (rd ts)):=⟨O,N,L⟩;clear L O N;go_enter func192,ntmps192;go_wp2
 go_loopw [5,10] (fun s u wr=>∃ (i:Nat) (z:Int),s=int i64 z/\u=int i64 (i:Int)/\i<=ts.length/\wt ((rd ts).take i) x=z/\xQ w wr) (fun _ u _=>ts.length - (intOf u).toNat)
 case atStart=>exact⟨0,0,rfl,rfl,dQ _,by simp,uQ _ _⟩
 case round =>
  obtain⟨i,z,rfl,rfl,S,l,g⟩:=hrel;by_cases E:i<ts.length
  ·obtain⟨b,o,Y,Z,m,k,rfl,V,F,c1,c2,J⟩:=Q.out.get hB g E
   have e1:=eqJ (yV F) x;have e2:=(p.out.2.2.take (i+1)).wt_le x;have H:=p.out.1;have I:=(p.out.2.2.tot_take_le (i+1)).2;have G:=qQ J;have y:=qQ (R.out.at hB g);have U:=g.size;clear J;by_cases j:m=x
   ·have C:Hid (iZ m x=0):=(tK m x).2 j
    simp only[j,uA] at e1;have A:-4611686018427387904<=z+k/\z+k<=4611686018427387904:=by omega
    have D:Hid (wt ((rd ts).take (i+1)) x=z+k):=by rw[Hid,e1,l]
    clear e1 e2 H I l F j;go_wp2_with (go_at_call 17;refine(nD B B nb _ _ m x _ ?_ ?_ 0 C.out).mono ?_;exact G.out.at (by omega) (ba _ _);exact y.out.at (by omega) (ba _ _);rintro e w' ⟨rfl,q,rfl⟩)
    go_roundw
    case rel=>exact⟨i+1,z+k,by go_num,by go_num,E,D.out,below_drewN (bal g _) _⟩
    case measure=>simp[intOf];omega
   ·obtain⟨r1,C⟩:∃ r1,Hid (iZ m x=r1):=⟨_,rfl⟩
    have T:(r1 == 0)=false:=by
     rw[<-C.out];simp only[yU,ne_eq];exact fun h=>j ((tK _ _).1 h)
    simp only[j,gK] at e1;have D:Hid (wt ((rd ts).take (i+1)) x=z):=by rw[Hid,e1,l];omega
    clear e1 e2 H I l F j;go_wp2_with (go_at_call 17;refine(nD B B nb _ _ m x _ ?_ ?_ r1 C.out).mono ?_;exact G.out.at (by omega) (ba _ _);exact y.out.at (by omega) (ba _ _);rintro e w' ⟨rfl,q,rfl⟩)
    go_roundw
    case rel=>exact⟨i+1,z,rfl,by go_num,E,D.out,below_drewN (bal g _) _⟩
    case measure=>simp[intOf];omega
  ·have A:z=r:=by rw[<-l,<-p.out.2.1,vD (by omega)]
   subst A;clear l p;go_wp2;go_ret;exact⟨rfl,g⟩
theorem erX (B nb:Nat)(v:Value)(x:List Int)(w:World)(H:yQ w B nb v x)(r:Bool)(l:qL x=r) :
  Calls prog 170 #[v] w fun e w'=>e=.returned (.bool r)/\w' = w:=by
 subst l;obtain⟨a,c,rfl,hc,L,k⟩:=H;have p:=qQ k;clear k;unfold qL;by_cases I:16<x.length
 ·rw[show decide (x.length<=16)=false from lZ (by omega),Bool.false_and]
  go_enter func170,ntmps170;go_wp2;go_ret;exact⟨rfl,rfl⟩
 rw[show decide (x.length<=16)=true from sJ (by omega),Bool.true_and];generalize l:x.all jG=r;have m:=qQ l;clear l;go_enter func170,ntmps170;go_wp2
 go_loop [10] (fun s=>∃ i:Nat,s=int i64 (i:Int)/\i<=x.length/\(x.take i).all jG=true) (fun s=>x.length - (intOf s).toNat)
 case atStart=>exact⟨0,rfl,dQ _,by simp⟩
 case round =>
  obtain⟨i,rfl,F,j⟩:=hrel;have D:=qQ j;clear j;by_cases A:i<x.length
  ·obtain⟨b,o,rfl,J,M,g⟩:=p.out (ne_of_lt A)
   obtain⟨z,C⟩:=fX A;have E:=g i z C;have y:=qQ C;clear g p C;by_cases c1:1073741824<z
   ·have h:r=false:=by rw[<-m.out];exact xL y.out (by unfold jG;exact lZ (by omega))
    subst h;go_wp2;go_ret;exact⟨rfl,rfl⟩
   ·by_cases c2:z < -1073741824
    ·have h:r=false:=by rw[<-m.out];exact xL y.out (by unfold jG;exact lZ (by omega))
     subst h;go_wp2;go_ret;exact⟨rfl,rfl⟩
    ·have G:Hid (jG z=true):=by unfold Hid jG;exact sJ (by omega)
     go_wp2
     go_round
     case rel=>exact⟨i+1,by go_num,A,by rw[nN y.out,D.out,G.out];rfl⟩
     case measure=>simp[intOf];omega
  ·have h:r=true:=by have:=D.out;rw[show i=x.length by omega,bU] at this;rw[<-m.out,this]
   subst h;clear p;go_wp2;go_ret;exact⟨rfl,rfl⟩
def vA (bd:Bool) (ab:List Int) (t:Tr):Prop:=0<t.2.2/\(bd=true->yJ ab t.2.1)
def xV (bd:Bool) (ab:List Int) (l:List Tr) (v:Value) (f:Bool):Prop :=
 (f=false/\v=.slice none 0 0/\∀ t∈l,¬ vA bd ab t)\/(f=true/\∃ t∈l,v=t.1/\vA bd ab t/\∀ u∈l,vA bd ab u->¬ yJ u.2.1 t.2.1)
theorem gR {α:Type}{l:List α}{x y:α}:y∈l++[x]↔y∈l\/y=x:=by simp
theorem xV.skip {bd:Bool}{ab:List Int}{l:List Tr}{t:Tr}(h:xV bd ab l v f)(k:¬ vA bd ab t):xV bd ab (l++[t]) v f:=by
 rcases h with⟨g,i,j⟩|⟨g,s,o,i,j,m⟩
 ·exact .inl ⟨g,i,fun u a=>by rcases gR.1 a with a|rfl <;> first|exact j u a|exact k⟩
 ·exact .inr ⟨g,s,by simp[o],i,j,fun u a hc=>by rcases gR.1 a with a|rfl <;> first|exact m u a hc|exact absurd hc k⟩
theorem xV.first {bd:Bool}{ab:List Int}{l:List Tr}{t:Tr}(h:xV bd ab l v false)(j:vA bd ab t):xV bd ab (l++[t]) t.1 true:=by
 rcases h with⟨_,_,i⟩|⟨g,_⟩
 ·exact .inr ⟨rfl,t,by simp,rfl,j,fun u a hc=>by
   rcases gR.1 a with a|rfl
   ·exact absurd hc (i u a)
   ·exact qT _⟩
 ·cases g
theorem xV.held {bd:Bool}{ab:List Int}{l:List Tr}(h:xV bd ab l v true):∃ s∈l,v=s.1/\vA bd ab s/\∀ u∈l,vA bd ab u->¬ yJ u.2.1 s.2.1:=by
 rcases h with⟨a,_⟩|⟨_,h⟩
 ·cases a
 ·exact h
theorem xV.less {bd:Bool}{ab:List Int}{l:List Tr}{s t:Tr}(h:∀ u∈l,vA bd ab u->¬ yJ u.2.1 s.2.1)(i:vA bd ab t)(a:yJ t.2.1 s.2.1):xV bd ab (l++[t]) t.1 true :=
 .inr ⟨rfl,t,by simp,rfl,i,fun u g hc=>by
  rcases gR.1 g with g|rfl
  ·exact fun k=>h u g hc (wK k a)
  ·exact qT _⟩
theorem xV.stays {bd:Bool}{ab:List Int}{l:List Tr}{s t:Tr}(i:s∈l)(hc:vA bd ab s)(h:∀ u∈l,vA bd ab u->¬ yJ u.2.1 s.2.1)(a:¬ yJ t.2.1 s.2.1):xV bd ab (l++[t]) s.1 true :=
 .inr ⟨rfl,s,by simp[i],rfl,hc,fun u g hc2=>by
  rcases gR.1 g with g|rfl
  ·exact h u g hc2
  ·exact a⟩
theorem dK {α:Type}{l:List α}{x:α}(h:l[i]? = some x):l.take (i+1)=l.take i++[x]:=by
 rw[rX,h];rfl
theorem erZ (B:Nat)(v av:Value)(ts:List Tr)(ab:List Int)(w:World)(hB:B<=w.heap.size)(hp:uX w B v ts)(ha:yQ w B B av ab) :
  Calls prog 191 #[v,av,.bool false] w fun e w'=>∃ v' f,e=.returned (.tuple #[v',.bool f])/\xV false ab ts v' f/\(∃ a n c,v' = .slice a n c)/\xQ w w':=by
 have Q:=qQ hp;have HA:=qQ ha;obtain⟨a,c,rfl,hc,hl,_⟩:=hp;obtain⟨aa,ac,rfl,_⟩:=ha;go_enter func191,ntmps191;go_wp2
 go_loopw [8,9,14] (fun s f u wr=>∃ (i:Nat) (A:Bool),f=.bool A/\u=int i64 (i:Int)/\i<=ts.length/\xV false ab (ts.take i) s A/\xQ w wr) (fun _ _ u _=>ts.length - (intOf u).toNat)
 case atStart=>exact⟨0,false,rfl,rfl,dQ _,.inl ⟨rfl,rfl,by simp⟩,uQ _ _⟩
 case round =>
  obtain⟨i,A,rfl,rfl,ag,hF,g⟩:=hrel;have I:=qQ hF;have ai:=g.size;clear hF;by_cases L:i<ts.length
  ·obtain⟨b,o,Y,Z,z,k,rfl,hb,hs,c1,c2,hI⟩:=Q.out.get hB g L
   have HI:=qQ hI;have R:=qQ hs;clear hs hI
   have H:∃ a n c,u8=.slice a n c:=by
    rcases I.out with⟨_,h,_⟩|⟨_,t,X,h,_⟩
    ·exact⟨_,_,_,h⟩
    ·obtain⟨x,y,T,_⟩:=Q.out.elem hB g (pG X)
     exact⟨_,_,_,h.trans T⟩
   obtain⟨D,F,E,rfl⟩:=H;by_cases V:0<k
   ·have ah:decide (0<k)=true:=sJ V
    have j:Hid (vA false ab (.slice Y z.length Z,z,k)):=⟨V,fun h=>by cases h⟩;cases A with
    | false =>
     have l:Hid (xV false ab (ts.take (i+1)) (.slice Y z.length Z) true):=by rw[Hid,dK R.out];exact I.out.first j.out
     go_wp2
     go_roundw
     case rel=>exact⟨i+1,true,rfl,by go_num,L,l.out,bal g _⟩
     case measure=>simp[intOf];omega
    | true =>
     obtain⟨⟨hv,m,S⟩,G,he,M,C⟩:=I.out.held;have J:=qQ (Q.out.elem hB g (pG G));simp only at he;subst he;obtain⟨O,p⟩:∃ O,Hid (iZ z m=O):=⟨_,rfl⟩;have P:Hid ((.slice D F E,m,S)∈ts.take i/\vA false ab (.slice D F E,m,S)/\∀ u∈ts.take i,vA false ab u->¬ yJ u.2.1 m):=⟨G,M,C⟩;clear G M C;by_cases N:O<0
     ·have l:Hid (xV false ab (ts.take (i+1)) (.slice Y z.length Z) true):=by
       rw[Hid,dK R.out];exact xV.less (s:=(.slice D F E,m,S)) P.out.2.2 j.out (by show iZ z m<0;rw[p.out];exact N)
      go_wp2_with fail;refine(nD B B B _ _ z m _ ?_ ?_ O p.out).mono ?_
      ·exact HI.out.at (by omega) (ba _ _)
      ·exact J.out.at (by omega) (ba _ _)
      rintro e w2 ⟨rfl,q2,rfl⟩;go_wp2
      go_roundw
      case rel=>exact⟨i+1,true,rfl,by go_num,L,l.out,below_drewN (bal g _) _⟩
      case measure=>simp[intOf];omega
     ·have l:Hid (xV false ab (ts.take (i+1)) (.slice D F E) true):=by
       rw[Hid,dK R.out];exact xV.stays (s:=(.slice D F E,m,S)) P.out.1 P.out.2.1 P.out.2.2 (by show ¬ iZ z m<0;rw[p.out];exact N)
      go_wp2_with fail;refine(nD B B B _ _ z m _ ?_ ?_ O p.out).mono ?_
      ·exact HI.out.at (by omega) (ba _ _)
      ·exact J.out.at (by omega) (ba _ _)
      rintro e w2 ⟨rfl,q2,rfl⟩;go_wp2
      go_roundw
      case rel=>exact⟨i+1,true,rfl,by go_num,L,l.out,below_drewN (bal g _) _⟩
      case measure=>simp[intOf];omega
   ·have l:Hid (xV false ab (ts.take (i+1)) (.slice D F E) A):=by
     rw[Hid,dK R.out];exact I.out.skip (fun h=>V h.1)
    go_wp2
    go_roundw
    case rel=>exact⟨i+1,A,rfl,by go_num,L,l.out,bal g _⟩
    case measure=>simp[intOf];omega
  ·have U:i=ts.length:=by omega
   have l:Hid (xV false ab ts u8 A):=by have:=I.out;rwa [U,bU] at this
   have H:∃ a n c,u8=.slice a n c:=by
    rcases l.out with⟨_,h,_⟩|⟨_,t,X,h,_⟩
    ·exact⟨_,_,_,h⟩
    ·obtain⟨x,y,T,_⟩:=Q.out.elem hB g X
     exact⟨_,_,_,h.trans T⟩
   obtain⟨D,F,E,rfl⟩:=H;go_wp2;exact eQ (v:=.tuple #[.slice D F E,.bool A]) (by simp[results,results191,go_sem]) rfl ⟨_,_,rfl,l.out,⟨_,_,_,rfl⟩,g⟩
theorem erJ (B:Nat)(v av:Value)(ts:List Tr)(ab:List Int)(w:World)(hB:B<=w.heap.size)(hp:uX w B v ts)(ha:yQ w B B av ab) :
  Calls prog 191 #[v,av,.bool true] w fun e w'=>∃ v' f,e=.returned (.tuple #[v',.bool f])/\xV true ab ts v' f/\(∃ a n c,v' = .slice a n c)/\xQ w w':=by
 have V:=qQ hp;have HA:=qQ ha;obtain⟨a,c,rfl,hc,hl,_⟩:=hp;obtain⟨aa,ac,rfl,_⟩:=ha;go_enter func191,ntmps191;go_wp2
 go_loopw [8,9,14] (fun s f u wr=>∃ (i:Nat) (p:Bool),f=.bool p/\u=int i64 (i:Int)/\i<=ts.length/\xV true ab (ts.take i) s p/\xQ w wr) (fun _ _ u _=>ts.length - (intOf u).toNat)
 case atStart=>exact⟨0,false,rfl,rfl,dQ _,.inl ⟨rfl,rfl,by simp⟩,uQ _ _⟩
 case round =>
  obtain⟨i,p,rfl,rfl,am,hF,g⟩:=hrel;have L:=qQ hF;have ao:=g.size;clear hF;by_cases N:i<ts.length
  ·obtain⟨b,o,sa,sc,j,k,rfl,hb,hs,c1,c2,hI⟩:=V.out.get hB g N
   have M:=qQ hI;have A:=qQ (HA.out.at hB g);have P:=qQ hs;clear hs hI
   have I:∃ a n c,u8=.slice a n c:=by
    rcases L.out with⟨_,h,_⟩|⟨_,t,ht,h,_⟩
    ·exact⟨_,_,_,h⟩
    ·obtain⟨x,y,Q,_⟩:=V.out.elem hB g (pG ht)
     exact⟨_,_,_,h.trans Q⟩
   obtain⟨D,F,E,rfl⟩:=I;by_cases Z:0<k
   ·have an:decide (0<k)=true:=sJ Z
    obtain⟨r1,J⟩:∃ r1,Hid (iZ j ab=r1):=⟨_,rfl⟩;by_cases a6:0<r1
    ·have m:Hid (vA true ab (.slice sa j.length sc,j,k)):=⟨Z,fun _=>by show iZ ab j<0;rw[wS j ab,J.out];omega⟩
     cases p with
     | false =>
      have l:Hid (xV true ab (ts.take (i+1)) (.slice sa j.length sc) true):=by rw[Hid,dK P.out];exact L.out.first m.out
      go_wp2_with fail;refine(nD B B B _ _ j ab _ ?_ ?_ r1 J.out).mono ?_
      ·exact M.out.at (by omega) (ba _ _)
      ·exact A.out.at (by omega) (ba _ _)
      rintro e w1 ⟨rfl,q,rfl⟩;go_wp2
      go_roundw
      case rel=>exact⟨i+1,true,rfl,by go_num,N,l.out,below_drewN (bal g _) _⟩
      case measure=>simp[intOf];omega
     | true =>
      obtain⟨⟨hv,z,X⟩,H,he,R,G⟩:=L.out.held;have O:=qQ (V.out.elem hB g (pG H));simp only at he;subst he;obtain⟨T,C⟩:∃ T,Hid (iZ j z=T):=⟨_,rfl⟩;have U:Hid ((.slice D F E,z,X)∈ts.take i/\vA true ab (.slice D F E,z,X)/\∀ u∈ts.take i,vA true ab u->¬ yJ u.2.1 z):=⟨H,R,G⟩;clear H R G;by_cases S:T<0
      ·have l:Hid (xV true ab (ts.take (i+1)) (.slice sa j.length sc) true):=by
        rw[Hid,dK P.out];exact xV.less (s:=(.slice D F E,z,X)) U.out.2.2 m.out (by show iZ j z<0;rw[C.out];exact S)
       go_wp2_with fail;refine(nD B B B _ _ j ab _ ?_ ?_ r1 J.out).mono ?_
       ·exact M.out.at (by omega) (ba _ _)
       ·exact A.out.at (by omega) (ba _ _)
       rintro e w1 ⟨rfl,q,rfl⟩;go_wp2_with fail;refine(nD B B B _ _ j z _ ?_ ?_ T C.out).mono ?_
       ·exact M.out.at (by omega) (below_drewN (ba _ _) q)
       ·exact O.out.at (by omega) (below_drewN (ba _ _) q)
       rintro e w2 ⟨rfl,q2,rfl⟩;go_wp2
       go_roundw
       case rel=>exact⟨i+1,true,rfl,by go_num,N,l.out,below_drewN (bal g _) _⟩
       case measure=>simp[intOf];omega
      ·have l:Hid (xV true ab (ts.take (i+1)) (.slice D F E) true):=by
        rw[Hid,dK P.out];exact xV.stays (s:=(.slice D F E,z,X)) U.out.1 U.out.2.1 U.out.2.2 (by show ¬ iZ j z<0;rw[C.out];exact S)
       go_wp2_with fail;refine(nD B B B _ _ j ab _ ?_ ?_ r1 J.out).mono ?_
       ·exact M.out.at (by omega) (ba _ _)
       ·exact A.out.at (by omega) (ba _ _)
       rintro e w1 ⟨rfl,q,rfl⟩;go_wp2_with fail;refine(nD B B B _ _ j z _ ?_ ?_ T C.out).mono ?_
       ·exact M.out.at (by omega) (below_drewN (ba _ _) q)
       ·exact O.out.at (by omega) (below_drewN (ba _ _) q)
       rintro e w2 ⟨rfl,q2,rfl⟩;go_wp2
       go_roundw
       case rel=>exact⟨i+1,true,rfl,by go_num,N,l.out,below_drewN (bal g _) _⟩
       case measure=>simp[intOf];omega
    ·have l:Hid (xV true ab (ts.take (i+1)) (.slice D F E) p):=by
      rw[Hid,dK P.out];exact L.out.skip (fun h=>a6 (by have Q:=h.2 rfl;have h3:iZ ab j<0:=Q;rw[wS j ab,J.out] at h3;omega))
     go_wp2_with fail;refine(nD B B B _ _ j ab _ ?_ ?_ r1 J.out).mono ?_
     ·exact M.out.at (by omega) (ba _ _)
     ·exact A.out.at (by omega) (ba _ _)
     rintro e w1 ⟨rfl,q,rfl⟩;go_wp2
     go_roundw
     case rel=>exact⟨i+1,p,rfl,by go_num,N,l.out,below_drewN (bal g _) _⟩
     case measure=>simp[intOf];omega
   ·have l:Hid (xV true ab (ts.take (i+1)) (.slice D F E) p):=by
     rw[Hid,dK P.out];exact L.out.skip (fun h=>Z h.1)
    go_wp2
    go_roundw
    case rel=>exact⟨i+1,p,rfl,by go_num,N,l.out,bal g _⟩
    case measure=>simp[intOf];omega
  ·have Y:i=ts.length:=by omega
   have l:Hid (xV true ab ts u8 p):=by have:=L.out;rwa [Y,bU] at this
   have I:∃ a n c,u8=.slice a n c:=by
    rcases l.out with⟨_,h,_⟩|⟨_,t,ht,h,_⟩
    ·exact⟨_,_,_,h⟩
    ·obtain⟨x,y,Q,_⟩:=V.out.elem hB g ht
     exact⟨_,_,_,h.trans Q⟩
   obtain⟨D,F,E,rfl⟩:=I;go_wp2;exact eQ (v:=.tuple #[.slice D F E,.bool p]) (by simp[results,results191,go_sem]) rfl ⟨_,_,rfl,l.out,⟨_,_,_,rfl⟩,g⟩
theorem esQ (a b n:Int)(h:Rt.rQ a b=false)(w:World) :
  Calls prog 121 #[rv a b,int i64 n] w (iQ w (.tuple #[rv 0 0,int i64 2])):=by
 have H:=qQ h;clear h;go_enter func121,ntmps121;go_wp2_with fail;refine(refRight_any a b false H.out _).mono ?_;rintro e1 l ⟨rfl,g⟩;have j:=bt (bal (ba _ _) _) g;obtain⟨i,k⟩:=bcell g;go_wp2_with fail;exact eQ (v:=.tuple #[rv 0 0,int i64 2]) (by simp[results,results121,go_sem,i]) rfl ⟨rfl,bs (bs j (by simp) _) (by simp) _⟩
theorem esX (a b n:Int)(h:Rt.rQ a b=true)(j:n<0\/4096<n)(w:World) :
  Calls prog 121 #[rv a b,int i64 n] w (iQ w (.tuple #[rv 0 0,int i64 3])):=by
 have H:=qQ h;clear h;have k:n<0\/(¬ n<0/\4096<n):=by omega
 clear j;rcases k with j|⟨o,j⟩
 all_goals
  go_enter func121,ntmps121;go_wp2_with fail;refine(refRight_any a b true H.out _).mono ?_;rintro e1 p ⟨rfl,g⟩;have l:=bt (bal (ba _ _) _) g;obtain⟨i,m⟩:=bcell g;go_wp2_with fail;exact eQ (v:=.tuple #[rv 0 0,int i64 3]) (by simp[results,results121,go_sem,i]) rfl ⟨rfl,bs (bs l (by simp) _) (by simp) _⟩
theorem esZ (x y n:Nat)(h:Rt.rQ x y=true)(hn:n<=4096)(p q e:Int)(m:Rt.xH x y n=(p,q,e))(w:World) :
  Calls prog 121 #[rv x y,int i64 n] w (iQ w (.tuple #[rv p q,int i64 e])):=by
 have H:=qQ h;have M:=qQ m;clear h m;have V:=(Rt.qE x y).1 H.out;obtain⟨al,an,am,J⟩:=V;have O:=qQ J;clear J;go_enter func121,ntmps121;go_wp2_with fail;refine(refRight_any x y true H.out _).mono ?_;rintro e1 w1 ⟨rfl,B⟩;have G1:=bt (bal (ba _ _) _) B;obtain⟨Q,S⟩:=bcell B;go_wp2_with fail
 go_loopw [6,7,8] (fun u d c wr=>∃ i:Nat,i<=n/\c=int i64 (i:Int)/\u=int i64 ((x ^ i:Nat):Int)/\d=int i64 ((y ^ i:Nat):Int)/\x ^ i<=1073741824/\y ^ i<=1073741824/\xQ w1 wr) (fun _ _ c _=>n - (intOf c).toNat)
 case atStart=>exact⟨0,by omega,rfl,by simp,by simp,by simp,by simp,uQ _ _⟩
 case round =>
  obtain⟨i,hi,rfl,rfl,rfl,hx,hy,C⟩:=hrel;have o:=bt B C;have A:=bt G1 C;have k0:wr.cell? ⟨w.heap.size,0,none⟩=some (int i64 (x:Int)):=by rw[o.cell (p:=⟨w.heap.size,0,none⟩) (by simp <;> omega)];simp[go_sem]
  have k1:wr.cell? ⟨w.heap.size,1,none⟩=some (int i64 (y:Int)):=by rw[o.cell (p:=⟨w.heap.size,1,none⟩) (by simp <;> omega)];simp[go_sem]
  have k4:wr.cell? ⟨w.heap.size+1,0,none⟩=some (int i64 0):=by rw[o.cell (p:=⟨w.heap.size+1,0,none⟩) (by simp)];simp[go_sem]
  have k5:wr.cell? ⟨w.heap.size+1,1,none⟩=some (int i64 0):=by rw[o.cell (p:=⟨w.heap.size+1,1,none⟩) (by simp)];simp[go_sem]
  have k6:wr.frozen? ⟨w.heap.size+1,0,none⟩=false:=by rw[o.frozen (p:=⟨w.heap.size+1,0,none⟩) (by simp)];simp[go_sem]
  have k7:wr.frozen? ⟨w.heap.size+1,1,none⟩=false:=by rw[o.frozen (p:=⟨w.heap.size+1,1,none⟩) (by simp)];simp[go_sem]
  have j:=qQ (rO x i);have k:=qQ (rO y i);have Z:=Rt.nJ (a:=((x ^ i:Nat):Int)) (b:=(x:Int)) (by omega) (by omega) (by omega) (by omega);have R:=Rt.nJ (a:=((y ^ i:Nat):Int)) (b:=(y:Int)) (by omega) (by omega) (by omega) (by omega);obtain⟨aj,ak⟩:=Z;obtain⟨ah,ai⟩:=R;clear o Q S;by_cases c0:i<n
  ·have ae:(i:Int)<(n:Int):=by omega
   by_cases c1:x ^ (i+1)<=1073741824/\y ^ (i+1)<=1073741824
   ·obtain⟨c1,c2⟩:=c1
    rw[j.out] at c1;rw[k.out] at c2;have z:((x ^ i:Nat):Int)*(x:Int)<=1073741824:=by rw[<-gI];omega
    have P:((y ^ i:Nat):Int)*(y:Int)<=1073741824:=by rw[<-gI];omega
    clear c1 c2;generalize hX:x ^ i=X at *
    generalize hY:y ^ i=Y at *
    clear hX hY;go_wp2_with fail;go_quiet (fail);go_wp2_with fail;refine⟨⟨i+1,by omega,by go_num,?_,?_,?_,?_,below_drewN C nq⟩,by simp[intOf];omega⟩
    ·rw[j.out,gI]
    ·rw[k.out,gI]
    ·rw[j.out];rw[<-gI] at z;omega
    ·rw[k.out];rw[<-gI] at P;omega
   ·have T:1073741824<x ^ n\/1073741824<y ^ n:=by
     by_cases g:1073741824<x ^ (i+1)
     ·exact .inl (Rt.gS x (i+1) n (by omega) g)
     ·exact .inr (Rt.gS y (i+1) n (by omega) (by omega))
    have m:=Rt.iS x y n H.out hn p q e M.out
    have D:0=p/\0=q/\4=e:=by
     rcases m with⟨_,N⟩|⟨N,h2,_⟩
     ·exact N
     ·omega
    clear m T M;obtain⟨rfl,rfl,rfl⟩:=D;rw[j.out,k.out] at c1
    have z:1073741824<((x ^ i:Nat):Int)*(x:Int)\/(((x ^ i:Nat):Int)*(x:Int)<=1073741824/\1073741824<((y ^ i:Nat):Int)*(y:Int)):=by
     rw[<-gI,<-gI];omega
    clear c1;generalize hX:x ^ i=X at *
    generalize hY:y ^ i=Y at *
    clear hX hY;rcases z with c1|⟨c1,c2⟩
    all_goals
     go_wp2_with fail;go_quiet (fail);go_wp2_with fail;exact eQ (v:=.tuple #[rv 0 0,int i64 4]) (by simp[results,results121,go_sem,k4,k5]) rfl ⟨rfl,bs (bs (below_drewN A _) (by simp) _) (by simp) _⟩
  ·have U:i=n:=by omega
   subst U;have m:=Rt.iS x y i H.out hn p q e M.out
   have D:((x ^ i:Nat):Int)=p/\((y ^ i:Nat):Int)=q/\0=e:=by
    rcases m with⟨_,N⟩|⟨N,h2,h3⟩
    ·omega
    ·exact h3
   clear m M
   have l:x ^ i=0->y ^ i=1:=by
    intro hz;have L:x=0:=Nat.pow_eq_zero.1 hz |>.1;have:=O.out;rw[L,Nat.gcd_zero_left] at this;rw[this,Nat.one_pow]
   obtain⟨G,I,rfl⟩:=D;generalize hX:x ^ i=X at *
   generalize hY:y ^ i=Y at *
   clear hX hY;have E:=qQ G;have F:=qQ I;clear G I;by_cases c9:X=0
   ·have c8:=l c9
    subst c9 c8;go_wp2_with fail;exact eQ (v:=.tuple #[rv 0 1,int i64 0]) (by simp[results,results121,go_sem,k4,k5]) rfl ⟨by rw[<-E.out,<-F.out];rfl,bs (bs A (by simp) _) (by simp) _⟩
   ·have c8:((X:Int) == 0)=false:=by simp;omega
    clear l;go_wp2_with fail;exact eQ (v:=.tuple #[rv X Y,int i64 0]) (by simp[results,results121,go_sem,k4,k5]) rfl ⟨by rw[<-E.out,<-F.out],bs (bs A (by simp) _) (by simp) _⟩
theorem esJ (a b n p q e:Int)(h:Rt.xH a b n=(p,q,e))(w:World) :
  Calls prog 121 #[rv a b,int i64 n] w (iQ w (.tuple #[rv p q,int i64 e])):=by
 cases r:Rt.rQ a b with
 | false =>
  unfold Rt.xH at h;rw[zQ (by simp[r])] at h;simp only[cQ] at h;obtain⟨rfl,rfl,rfl⟩:=h;exact esQ a b n r w
 | true =>
  by_cases g:n<0\/4096<n
  ·unfold Rt.xH at h
   rw[jQ r,jQ g] at h;simp only[cQ] at h;obtain⟨rfl,rfl,rfl⟩:=h;exact esX a b n r g w
  ·obtain⟨a1,a2,b1,b2⟩:=Rt.vF r
   obtain⟨x,rfl⟩:=nY a1;obtain⟨y,rfl⟩:=nY (show 0<=b by omega);obtain⟨m,rfl⟩:=nY (show 0<=n by omega);exact esZ x y m r (by omega) p q e h w
end
section
open Ds
def oD (f:Nat->Int):Nat->Int
 | 0=>0
 | n+1=>oD f n+f n
theorem bzZ (ha:a<=R)(l:j<=a)(h:j<R):oD (hwt u d R a) (j+1)=u*gk u d R (a - j):=by
 induction j with
 | zero=>simp[oD,hwt];rw[Int.mul_comm]
 | succ j ih =>
  have i:=ih (by omega) (by omega);rw[oD,i]
  have e1:hwt u d R a (j+1)=gk u d R (a - (j+1))*(u - d):=by
   unfold hwt;rw[zQ (by omega),show j+1 - a+(a - (j+1))=a - (j+1) from by omega]
  have g:=qR u d (R:=R) (k:=a - (j+1)) (by omega);rw[show a - (j+1)+1=a - j from by omega] at g;rw[e1,g,Int.mul_sub,Int.mul_comm (gk u d R (a - (j+1))) u,Int.mul_comm (gk u d R (a - (j+1))) d];omega
theorem etQ (ha:a<R)(l:a<=j)(h:j<R):oD (hwt u d R a) (j+1)=u*gk u d R 0+d*gk u d R 0 - u*gk u d R (j+1 - a):=by
 obtain⟨s,rfl⟩:=Nat.le.dest l;clear l
 induction s with
 | zero =>
  have g:=bzZ (u:=u) (d:=d) (R:=R) (a:=a) (by omega) (j:=a) (vQ _) ha;have i:=qR u d (R:=R) (k:=0) (by omega);rw[fI,g,show a+1 - a=0+1 from by omega,i,iI];omega
 | succ s ih =>
  have g:=ih (by omega);rw[<-cU,oD,g]
  have e1:hwt u d R a (a+s+1)=gk u d R (s+1)*(u - d):=by
   unfold hwt;rw[zQ (by omega),show a+s+1 - a+(a - (a+s+1))=s+1 from by omega]
  have i:=qR u d (R:=R) (k:=s+1) (by omega);rw[e1,show a+s+1 - a=s+1 from by omega,show a+s+1+1 - a=s+1+1 from by omega,i,Int.mul_sub,Int.mul_comm (gk u d R (s+1)) u,Int.mul_comm (gk u d R (s+1)) d];omega
theorem etX (ha:a<=R)(hR:1<=R):oD (hwt u d R a) (R+1)=(u+d)*u ^ R:=by
 rw[oD,<-d9 u d R];obtain⟨r,rfl⟩:∃ r,R=r+1:=⟨R - 1,by omega⟩;by_cases c:a=r+1
 ·subst c
  have g:=bzZ (u:=u) (d:=d) (R:=r+1) (a:=r+1) (vQ _) (j:=r) (by omega) (by omega);have h:=qR u d (R:=r+1) (k:=0) (by omega);rw[g,show r+1 - r=0+1 from by omega,h];unfold hwt;rw[jQ (.inr rfl),show r+1 - (r+1)+(r+1 - (r+1))=0 from by omega,Int.add_mul,Int.mul_comm (gk u d (r+1) 0) u];omega
 ·have g:=etQ (u:=u) (d:=d) (R:=r+1) (a:=a) (by omega) (j:=r) (by omega) (by omega)
  rw[g];unfold hwt;rw[jQ (.inr rfl),show r+1 - a+(a - (r+1))=r+1 - a from by omega,Int.add_mul,Int.mul_comm (gk u d (r+1) (r+1 - a)) u];omega
theorem bzJ (g:1<=d)(h:d<=u)(R a i:Nat):0<=hwt u d R a i:=by
 unfold hwt;refine sD (bnJ (by omega) (by omega) _ _) ?_;split <;> omega
theorem b0Q {f:Nat->Int}(h:∀ i,0<=f i):∀ {n i:Nat},i<n->f i<=oD f n
 | 0,_,hi=>absurd hi (by omega)
 | n+1,i,hi=>by
  rw[oD]
  have a:∀ m,0<=oD f m:=by intro m;induction m with
   | zero=>simp[oD]
   | succ m ih=>rw[oD];have:=h m;omega
  by_cases c:i=n
  ·subst c;have:=a i;omega
  ·have:=b0Q h (n:=n) (i:=i) (by omega);have:=h n;omega
theorem etZ (g:1<=d)(h:d<=u)(ha:a<=R)(hR:1<=R)(hi:i<=R):hwt u d R a i<=(u+d)*u ^ R:=by
 rw[<-etX ha hR];exact b0Q (bzJ g h R a) (by omega)
end
section
open Go.RowKit Ds
def lim (x:Int):Int:=if x<=1073741824 then x else 1073741825
theorem oB (x:Int)(n:Nat)(v:n<=4096)(o:1<=x)(h:x<=1073741824)(r:Int)(j:lim (x ^ n)=r)(w:World) :
  Calls prog 168 #[int i64 x,int i64 (n:Int)] w fun e w'=>e=.returned (int i64 r)/\w' = w:=by
 have k:=qQ j;clear j;go_enter func168,ntmps168;go_wp2
 go_loop [5,6] (fun a c=>∃ i:Nat,i<=n/\a=int i64 (x ^ i)/\c=int i64 (i:Int)/\x ^ i<=1152921504606846976) (fun _ c=>n - (intOf c).toNat)
 case atStart=>exact⟨0,dQ _,by simp,rfl,by simp⟩
 case round =>
  obtain⟨i,hi,rfl,rfl,l⟩:=hrel;obtain⟨P,g⟩:∃ P,x ^ i=P:=⟨_,rfl⟩;have p:1<=P:=by rw[<-g];exact uD o i
  rw[g] at l;by_cases c2:1073741824<P
  ·have j:r=1073741825:=by
    rw[<-k.out,lim,zQ];have:=bnZ o hi;omega
   subst j;rw[g];clear k g;by_cases c:i<n
   ·go_wp2
    go_ret;exact⟨rfl,rfl⟩
   ·have:i=n:=by omega
    subst this;go_wp2;go_ret;exact⟨rfl,rfl⟩
  ·by_cases c:i<n
   ·have m:Hid (x ^ (i+1)=P*x):=by show _=_;rw[wL,g]
    have b0:0<=P*x:=sD (by omega) (by omega);have b1:P*x<=1073741824*1073741824:=nH (by omega) h (by omega) (by omega);rw[g];clear g;go_wp2
    go_round
    case rel=>exact⟨i+1,c,by rw[m.out],by go_num,by rw[m.out];omega⟩
    case measure=>simp[intOf];omega
   ·have:i=n:=by omega
    subst this
    have j:r=P:=by
     rw[<-k.out,lim,jQ] <;> omega
    subst j;rw[g];clear k g;go_wp2;go_ret;exact⟨rfl,rfl⟩
theorem ahX (u d er:Int)(h:kG u d=er)(w:World) :
  Calls prog 120 #[rv u d] w (iQ w (int i64 er)):=by
 obtain⟨b,j⟩:∃ b,Rt.rQ u d=b:=⟨_,rfl⟩;rw[kG,j] at h;have i:=ba w (.cells #[int i64 u,int i64 d] 37);have m:=refRight_any u d b j (w.alloc (.cells #[int i64 u,int i64 d] 37));clear j;cases b with
 | false =>
  simp at h;subst h;go_enter func120,ntmps120;go_wp2_with fail;refine m.mono ?_;rintro e o ⟨rfl,a⟩;have g:=bt i a;go_wp2;go_ret;exact⟨rfl,g⟩
 | true =>
  simp at h;by_cases c:u<d
  ·rw[jQ c] at h
   subst h;go_enter func120,ntmps120;go_wp2_with fail;refine m.mono ?_;rintro e o ⟨rfl,a⟩;have g:=bt i a;obtain⟨k,l⟩:=bcell a;go_wp2;go_ret;exact⟨rfl,g⟩
  ·rw[zQ c] at h
   subst h;go_enter func120,ntmps120;go_wp2_with fail;refine m.mono ?_;rintro e o ⟨rfl,a⟩;have g:=bt i a;obtain⟨k,l⟩:=bcell a;go_wp2;go_ret;exact⟨rfl,g⟩
theorem etJ (u d n p q er:Int)(h:dF u d n=(p,q,er))(w:World) :
  Calls prog 69 #[rv u d,int i64 n] w (iQ w (.tuple #[rv p q,int i64 er])):=by
 obtain⟨e0,i⟩:∃ e0,kG u d=e0:=⟨_,rfl⟩;rw[dF,i] at h;have y:=ahX u d e0 i;by_cases c:e0=0
 ·subst c
  simp at h;have kp:=esJ u d n p q er h;clear h i;go_enter func69,ntmps69;go_wp2_with fail;refine(y _).mono ?_;rintro e z ⟨rfl,a⟩;have k:=bt (bal (ba _ _) _) a;obtain⟨g,m⟩:=bcell a;go_wp2_with fail;refine(kp _).mono ?_;rintro e C ⟨rfl,j⟩;have A:=bt k j;obtain⟨l,B⟩:=bcell j;have o:w.heap.size+1<z.heap.size:=by have:=a.size;simp at this;omega
  go_wp2_with fail;exact eQ (v:=.tuple #[rv p q,int i64 er]) (by simp[results,results69,go_sem,g,l,o]) rfl ⟨rfl,bs (bs A (by simp) _) (by simp) _⟩
 ·simp only[ne_eq,c,not_false_eq_true,uA,cQ] at h
  obtain⟨rfl,rfl,rfl⟩:=h;have c2:(e0 != 0)=true:=by simpa using c
  go_enter func69,ntmps69;go_wp2_with fail;refine(y _).mono ?_;rintro e z ⟨rfl,a⟩;have k:=bt (bal (ba _ _) _) a;obtain⟨g,m⟩:=bcell a;go_wp2_with fail;exact eQ (v:=.tuple #[rv 0 0,int i64 e0]) (by simp[results,results69,go_sem,g]) rfl ⟨rfl,bs (bs k (by simp) _) (by simp) _⟩

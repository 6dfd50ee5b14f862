import Derived.Test.YtcaplmodgbpchaaGreatDoorQq05
import Derived.Test.YtcaplmodgbpchaaGreatDoorQq04
import Derived.Laws.IdiomCopy
open Go.Proofs.Tryz
open Go.Value(int)
open Go.IntKind(i64)
set_option linter.unusedSimpArgs false
set_option maxHeartbeats 16000000
set_option maxRecDepth 100000
namespace Go.Proofs.Rt
theorem bdJ (a b:Nat)(ha:a % 2=0)(h:b % 2=1):Nat.gcd (a / 2) b=Nat.gcd a b:=by
 obtain⟨k,rfl⟩:∃ k,a=2*k:=⟨a / 2,by omega⟩
 have g:Nat.Coprime 2 b:=by
  unfold Nat.Coprime;rw[Nat.gcd_rec,h];decide
 rw[Nat.mul_div_cancel_left _ (by decide)];exact(Nat.Coprime.gcd_mul_left_cancel k g).symm
theorem dhQ (a b:Nat)(ha:a % 2=1)(g:b % 2=0):Nat.gcd a (b / 2)=Nat.gcd a b:=by
 rw[Nat.gcd_comm,bdJ b a g ha,Nat.gcd_comm]
theorem dhX (a b:Nat)(ha:a % 2=0)(g:b % 2=0):2*Nat.gcd (a / 2) (b / 2)=Nat.gcd a b:=by
 rw[<-Nat.gcd_mul_left];congr 1 <;> omega
theorem dhZ (a b:Nat)(h:b<=a):Nat.gcd (a - b) b=Nat.gcd a b:=by
 rw[Nat.gcd_comm,Nat.gcd_sub_self_right h,Nat.gcd_comm]
theorem dhJ (a b:Nat)(h:a<=b):Nat.gcd a (b - a)=Nat.gcd a b:=Nat.gcd_sub_self_right h
end Go.Proofs.Rt
namespace Go.Proofs.YtcaplmodgbpchaaGreatDoor
open Go.RowKit
theorem rT (a b:Nat)(ha:(a:Int)<=9223372036854775807)(R:1<=b)(hb:(b:Int)<=9223372036854775807)(w:World) :
  Calls prog 113 #[int i64 a,int i64 b] w fun e w'=>e=.returned (int i64 (Nat.gcd a b:Nat))/\w' = w:=by
 by_cases Q:a=0
 ·subst Q
  go_enter func113,ntmps113;go_wp2;go_ret;exact⟨oE (by simp),rfl⟩
 have D:((a:Int) == 0)=false:=by simp;omega
 have M:Nat.gcd a b<=b:=Nat.gcd_le_right _ (by omega);generalize hG:Nat.gcd a b=g at *
 have B:=qQ hG;clear hG;go_enter func113,ntmps113;go_wp2
 go_loop [0,1,5] (fun s t u=>∃ x y k:Nat,s=int i64 (x:Int)/\t=int i64 (y:Int)/\u=int i64 (k:Int)/\1<=x/\1<=y/\x<=a/\y<=b/\k+y<=b/\2 ^ k*Nat.gcd x y=g) (fun s _ _=>(intOf s).toNat)
 case atStart=>exact⟨a,b,0,rfl,rfl,rfl,by omega,by omega,by omega,by omega,by omega,by rw[B.out];simp⟩
 case round =>
  obtain⟨x,y,k,rfl,rfl,rfl,G,H,Z,hy,hk,L⟩:=hrel;have I:=qQ L;clear L;by_cases hc:x % 2=0/\y % 2=0
  ·obtain⟨E,F⟩:=hc
   have e1:((x:Int) % 2 == 0)=true:=by simp;omega
   have e2:((y:Int) % 2 == 0)=true:=by simp;omega
   go_wp2
   go_round
   case rel=>exact⟨x / 2,y / 2,k+1,by go_num,by go_num,by go_num,by omega,by omega,by omega,by omega,by omega,by rw[<-I.out,rO,Nat.mul_assoc,Rt.dhX x y E F]⟩
   case measure=>simp[intOf];omega
  ·have S:1<=Nat.gcd x y:=Nat.gcd_pos_of_pos_right _ (by omega)
   have U:k<2 ^ 63:=by omega
   have N:=qQ hc
   have e0:((x:Int) % 2 == 0)=true/\((y:Int) % 2 == 0)=false\/((x:Int) % 2 == 0)=false:=by
    by_cases a6:x % 2=0
    ·exact .inl ⟨by simp;omega,by simp;omega⟩
    ·exact .inr (by simp;omega)
   clear hc D;rcases e0 with⟨e1,e2⟩|e1
   all_goals
    go_wp2;clear e1
    try clear e2
    go_loop [0,1] (fun s t=>∃ x' y':Nat,s=int i64 (x':Int)/\t=int i64 (y':Int)/\1<=x'/\1<=y'/\x'<=a/\y'<=b/\¬ (x' % 2=0/\y' % 2=0)/\Nat.gcd x' y' = Nat.gcd x y) (fun s t=>(intOf s).toNat+(intOf t).toNat)
    case atStart=>exact⟨x,y,rfl,rfl,G,H,Z,hy,N.out,rfl⟩
    case round =>
     obtain⟨p,q,rfl,rfl,V,Y,hp,hq,X,o⟩:=hrel;have h:=qQ o;clear o;by_cases c0:p=q
     ·subst c0
      have v:2 ^ k*p=g:=by rw[<-I.out,<-h.out,Nat.gcd_self]
      have C:=qQ v;clear v;go_wp2
      go_loop [0,5] (fun s u=>∃ z j:Nat,s=int i64 (z:Int)/\u=int i64 (j:Int)/\j<=k/\2 ^ j*z=g) (fun _ u=>(intOf u).toNat)
      case atStart=>exact⟨p,k,rfl,rfl,vQ _,C.out⟩
      case round =>
       obtain⟨z,j,rfl,rfl,hj,A⟩:=hrel;have m:=qQ A;clear A;by_cases P:j=0
       ·subst P
        go_wp2;go_ret;exact⟨oE (by have:=m.out;simp at this;rw[this]),rfl⟩
       ·have T:0<j:=by omega
        have a8:2*z<=g:=by
         rw[<-m.out];obtain⟨i,rfl⟩:∃ i,j=i+1:=⟨j - 1,by omega⟩;rw[rO,Nat.mul_assoc];exact Nat.le_mul_of_pos_left _ (Nat.two_pow_pos i)
        go_wp2
        go_round
        case rel=>exact⟨2*z,j - 1,by go_num,by go_num,by omega,by rw[<-Nat.mul_assoc,<-rO,show(j - 1).succ=j by omega];exact m.out⟩
        case measure=>simp[intOf];omega
     ·have O:((p:Int) == (q:Int))=false:=by simp;omega
      have J:((p:Int) != (q:Int))=true:=by simp;omega
      by_cases c1:p % 2=0
      ·have d1:((p:Int) % 2 == 0)=true:=by simp;omega
       have l:Hid (Nat.gcd (p / 2) q=Nat.gcd x y):=by rw[Hid,Rt.bdJ p q c1 (by omega)];exact h.out
       go_wp2
       go_round
       case rel=>exact⟨p / 2,q,by go_num,rfl,by omega,by omega,by omega,by omega,by omega,l.out⟩
       case measure=>simp[intOf];omega
      ·have d1:((p:Int) % 2 == 0)=false:=by simp;omega
       by_cases c2:q % 2=0
       ·have d2:((q:Int) % 2 == 0)=true:=by simp;omega
        have l:Hid (Nat.gcd p (q / 2)=Nat.gcd x y):=by rw[Hid,Rt.dhQ p q (by omega) c2];exact h.out
        go_wp2
        go_round
        case rel=>exact⟨p,q / 2,rfl,by go_num,by omega,by omega,by omega,by omega,by omega,l.out⟩
        case measure=>simp[intOf];omega
       ·have d2:((q:Int) % 2 == 0)=false:=by simp;omega
        by_cases c3:q<p
        ·have l:Hid (Nat.gcd (p - q) q=Nat.gcd x y):=by rw[Hid,Rt.dhZ p q (by omega)];exact h.out
         go_wp2
         go_round
         case rel=>exact⟨p - q,q,by go_num,rfl,by omega,by omega,by omega,by omega,by omega,l.out⟩
         case measure=>simp[intOf];omega
        ·have l:Hid (Nat.gcd p (q - p)=Nat.gcd x y):=by rw[Hid,Rt.dhJ p q (by omega)];exact h.out
         go_wp2
         go_round
         case rel=>exact⟨p,q - p,rfl,by go_num,by omega,by omega,by omega,by omega,by omega,l.out⟩
         case measure=>simp[intOf];omega
end Go.Proofs.YtcaplmodgbpchaaGreatDoor
namespace Go.Proofs.YtcaplmodgbpchaaGreatDoor
open Go.RowKit Go.Proofs.YtcaplmodgbpchaaGreatDoor.Ds
theorem dr2 (w:World)(a b c:Nat):∃ q,((w.drewN a).drewN b).drewN c=w.drewN q:=by simp only[World.drewN_drewN];exact⟨_,rfl⟩
theorem nD (B Y Z:Nat)(u v:Value)(x y:List Int)(w:World)(V:yQ w B Y u x)(X:yQ w B Z v y)(r:Int)(G:iZ x y=r) :
  Calls prog 17 #[u,v] w fun e w'=>e=.returned (int i64 r)/\∃ q,w' = w.drewN q:=by
 obtain⟨ax,cx,rfl,g,R,z⟩:=V;obtain⟨ay,cy,rfl,h,S,A⟩:=X;have m:=qQ z;have o:=qQ A;have H:=qQ G;clear z A G;go_enter func17,ntmps17;go_wp2
 go_loopw [8] (fun s wr=>∃ i:Nat,s=int i64 (i:Int)/\i<=x.length/\i<=y.length/\iZ (x.drop i) (y.drop i)=r/\∃ q,wr=w.drewN q) (fun s _=>x.length - (intOf s).toNat)
 case atStart=>exact⟨0,rfl,dQ _,dQ _,H.out,0,rfl⟩
 case round =>
  obtain⟨i,rfl,P,Q,hc,q,rfl⟩:=hrel;have l:=qQ hc;clear hc;by_cases C:i<x.length
  ·obtain⟨bx,ox,rfl,N,T,g⟩:=m.out (ne_of_lt C)
   obtain⟨D,j⟩:=fX C;have J:=g i D j;by_cases p:i<y.length
   ·obtain⟨I,oy,rfl,O,U,h⟩:=o.out (ne_of_lt p)
    obtain⟨E,k⟩:=fX p;have L:=h i E k;have st:=awQ j k;have F:=qQ st;clear st g h m o j k;by_cases c1:D=E
    ·subst c1
     go_wp2;go_quiet (fail);go_wp2
     go_roundw
     case rel=>exact⟨i+1,by go_num,C,p,by rw[<-l.out,F.out];simp,_,rfl⟩
     case measure=>simp[intOf];omega
    ·by_cases c2:D<E
     ·have a:r = -1:=by rw[<-l.out,F.out];simp[c2]
      subst a;go_wp2;go_quiet (fail);go_wp2;go_quiet (fail);go_wp2;go_ret;exact⟨rfl,dr2 _ _ _ _⟩
     ·have a:r=1:=by rw[<-l.out,F.out];simp[c2,show E<D by omega]
      subst a;go_wp2;go_quiet (fail);go_wp2;go_quiet (fail);go_wp2;go_ret;exact⟨rfl,dr2 _ _ _ _⟩
   ·have a:r=1:=by
     rw[<-l.out,eV C,gA (show y.length<=i by omega)];rfl
    subst a;clear g m o;go_wp2;go_ret;exact⟨rfl,_,rfl⟩
  ·by_cases p:i<y.length
   ·have a:r = -1:=by
     rw[<-l.out,gA (show x.length<=i by omega),eV p];rfl
    subst a;have M:x.length<y.length:=by omega
    clear m o;go_wp2;go_ret;exact⟨rfl,_,rfl⟩
   ·have a:r=0:=by
     rw[<-l.out,gA (show x.length<=i by omega),gA (show y.length<=i by omega)];rfl
    subst a;have M:¬ x.length<y.length:=by omega
    clear m o;go_wp2;go_ret;exact⟨rfl,_,rfl⟩
theorem refRight_any (u d:Int)(b:Bool)(i:Rt.rQ u d=b)(w:World) :
  Calls prog 60 #[rv u d] w (iQ w (.bool b)):=by
 have g:=qQ i;clear i;by_cases c:0<=u/\u<=1073741824/\1<=d/\d<=1073741824
 ·obtain⟨c1,c2,c3,c4⟩:=c
  obtain⟨x,rfl⟩:=nY c1;obtain⟨y,rfl⟩:=nY (show 0<=d by omega)
  have a:b=(((Nat.gcd x y:Nat):Int) == 1):=by
   rw[<-g.out];unfold Rt.rQ;rw[Bool.eq_iff_iff];simp[Rt.mx];omega
  subst a;clear g;go_enter func60,ntmps60;go_wp2_with (go_at_call 113;refine(rT _ _ (by omega) (by omega) (by omega) _).mono ?_;rintro e w' ⟨rfl,rfl⟩);go_ret;exact⟨rfl,ba _ _⟩
 ·have a:b=false:=by
   rw[<-g.out];unfold Rt.rQ Rt.mx;exact lZ (fun h=>c ⟨h.1,h.2.1,h.2.2.1,h.2.2.2.1⟩)
  subst a;clear g;by_cases c1:u<0
  ·clear c
   go_enter func60,ntmps60;go_wp2;go_ret;exact⟨rfl,ba _ _⟩
  by_cases c3:d<1
  ·clear c
   go_enter func60,ntmps60;go_wp2;go_ret;exact⟨rfl,ba _ _⟩
  by_cases c2:1073741824<u
  ·clear c
   go_enter func60,ntmps60;go_wp2;go_ret;exact⟨rfl,ba _ _⟩
  ·have c4:1073741824<d:=by omega
   clear c;go_enter func60,ntmps60;go_wp2;go_ret;exact⟨rfl,ba _ _⟩
end Go.Proofs.YtcaplmodgbpchaaGreatDoor
namespace Go.Proofs.YtcaplmodgbpchaaGreatDoor.K.P
open Go.RowKit
theorem refRight_any:type_of% @Go.Proofs.YtcaplmodgbpchaaGreatDoor.refRight_any:=@Go.Proofs.YtcaplmodgbpchaaGreatDoor.refRight_any
theorem diQ (u d n m e:Int)(z:u<=9223372036854775807)(o:d<=9223372036854775807)(h:Rt.qG u d=(n,m,e))(w:World) :
  Calls prog 164 #[int i64 u,int i64 d] w fun x w'=>x=.returned (.tuple #[rv n m,int i64 e])/\xQ w w':=by
 have H:=qQ h;clear h;by_cases c1:u<0
 ·have i:(0,0,3)=(n,m,e):=by rw[<-H.out];unfold Rt.qG;rw[jQ (.inl c1)]
  simp only[cQ] at i;obtain⟨rfl,rfl,rfl⟩:=i;go_enter func164,ntmps164;go_wp2;exact eQ (v:=.tuple #[rv 0 0,int i64 3]) (by simp[results,results164,go_sem]) rfl ⟨rfl,ba _ _⟩
 by_cases c2:d<1
 ·have i:(0,0,3)=(n,m,e):=by rw[<-H.out];unfold Rt.qG;rw[jQ (.inr c2)]
  simp only[cQ] at i;obtain⟨rfl,rfl,rfl⟩:=i;go_enter func164,ntmps164;go_wp2;exact eQ (v:=.tuple #[rv 0 0,int i64 3]) (by simp[results,results164,go_sem]) rfl ⟨rfl,ba _ _⟩
 have l:=Rt.tC u d n m e (by omega) (by omega) H.out;clear H;obtain⟨x,rfl⟩:=nY (show 0<=u by omega);obtain⟨y,rfl⟩:=nY (show 0<=d by omega);rw[show Int.gcd (x:Int) (y:Int)=Nat.gcd x y from rfl] at l;have p:1<=Nat.gcd x y:=Nat.gcd_pos_of_pos_right _ (by omega);have A:0<=(x:Int) / (Nat.gcd x y:Nat):=wM (by omega) (by omega);have B:0<=(y:Int) / (Nat.gcd x y:Nat):=wM (by omega) (by omega);have C:(x:Int) / (Nat.gcd x y:Nat)<=9223372036854775807:=fK (qN _ (by omega)) z;have D:(y:Int) / (Nat.gcd x y:Nat)<=9223372036854775807:=fK (qN _ (by omega)) o;rcases l with⟨hc,rfl,rfl,rfl⟩|⟨a,k,rfl,rfl,rfl⟩
 ·have j:1073741824<(x:Int) / (Nat.gcd x y:Nat)\/((x:Int) / (Nat.gcd x y:Nat)<=1073741824/\1073741824<(y:Int) / (Nat.gcd x y:Nat)):=by omega
  clear hc;rcases j with a|⟨a,k⟩
  all_goals
   go_enter func164,ntmps164;go_wp2_with (go_at_call 113;refine(rT _ _ (by omega) (by omega) (by omega) _).mono ?_;rintro e w' ⟨rfl,rfl⟩);generalize Nat.gcd x y=g at *
   go_wp2;exact eQ (v:=.tuple #[rv 0 0,int i64 4]) (by simp[results,results164,go_sem]) rfl ⟨rfl,ba _ _⟩
 ·go_enter func164,ntmps164
  go_wp2_with (go_at_call 113;refine(rT _ _ (by omega) (by omega) (by omega) _).mono ?_;rintro e w' ⟨rfl,rfl⟩);go_wp2
  go_region
  all_goals go_wp2
  exact eQ (v:=.tuple #[rv (x / (Nat.gcd x y:Nat)) (y / (Nat.gcd x y:Nat)),int i64 0]) (by simp[results,results164,go_sem]) rfl ⟨rfl,(ba _ _).drew⟩
theorem beX (a b c d n m e:Int)(h:Rt.eG a b c d=(n,m,e))(w:World) :
  Calls prog 116 #[rv a b,rv c d] w (iQ w (.tuple #[rv n m,int i64 e])):=by
 have H:=qQ h;clear h;by_cases r:Rt.rQ a b=true/\Rt.rQ c d=true
 ·obtain⟨r1,p⟩:=r
  have F:Rt.qG (a*c) (b*d)=(n,m,e):=by rw[<-H.out];unfold Rt.eG;rw[jQ ⟨r1,p⟩]
  have L:=qQ F;have o:=qQ r1;have z:=qQ p;clear F r1 p H;obtain⟨a1,a2,b1,b2⟩:=Rt.vF o.out;obtain⟨c1,c2,d1,d2⟩:=Rt.vF z.out;obtain⟨R,S⟩:=Rt.nJ a1 a2 c1 c2;obtain⟨T,U⟩:=Rt.nJ (a:=b) (b:=d) (by omega) b2 (by omega) d2;obtain⟨V,X⟩:=Rt.nJ (a:=a) (b:=d) (by omega) a2 (by omega) d2;obtain⟨Y,Z⟩:=Rt.nJ (a:=c) (b:=b) (by omega) c2 (by omega) b2;obtain⟨p9,N⟩:=Rt.nJ (a:=b) (b:=c) (by omega) b2 (by omega) c2;go_enter func116,ntmps116;go_wp2_with fail;refine(refRight_any a b true o.out _).mono ?_;rintro e1 I ⟨rfl,g⟩;obtain⟨i,k⟩:=bcell g;go_wp2_with fail;refine(refRight_any c d true z.out _).mono ?_;rintro e2 P ⟨rfl,j⟩;have l:=bt g j;clear i k g j;obtain⟨B,D⟩:=bcell l;go_wp2_with fail;refine(diQ (a*c) (b*d) n m e (by omega) (by omega) L.out _).mono ?_;rintro Q w4 ⟨rfl,y⟩;have E:=bt l y;have J:=bt (bal (bal (ba _ _) _) _) E;clear l y B D;obtain⟨C,M⟩:=bcell E;go_wp2_with fail;exact eQ (v:=.tuple #[rv n m,int i64 e]) (by simp[results,results116,go_sem,C]) rfl ⟨rfl,bs (bs J (by simp;omega) _) (by simp;omega) _⟩
 ·have G:(0,0,2)=(n,m,e):=by rw[<-H.out];unfold Rt.eG;rw[zQ r]
  simp only[cQ] at G;obtain⟨rfl,rfl,rfl⟩:=G
  have O:Rt.rQ a b=false\/(Rt.rQ a b=true/\Rt.rQ c d=false):=by
   cases h1:Rt.rQ a b <;> cases h2:Rt.rQ c d <;> simp_all
  clear r H;rcases O with r1|⟨r1,p⟩
  ·have o:Hid (Rt.rQ a b=false):=r1
   clear r1;go_enter func116,ntmps116;go_wp2_with fail;refine(refRight_any a b false o.out _).mono ?_;rintro e1 I ⟨rfl,g⟩;have A:=bt (bal (bal (ba _ _) _) _) g;obtain⟨i,k⟩:=bcell g;go_wp2_with fail;exact eQ (v:=.tuple #[rv 0 0,int i64 2]) (by simp[results,results116,go_sem,i]) rfl ⟨rfl,bs (bs A (by simp;omega) _) (by simp;omega) _⟩
  ·have o:Hid (Rt.rQ a b=true):=r1
   have z:=qQ p;clear r1 p;go_enter func116,ntmps116;go_wp2_with fail;refine(refRight_any a b true o.out _).mono ?_;rintro e1 I ⟨rfl,g⟩;obtain⟨i,k⟩:=bcell g;go_wp2_with fail;refine(refRight_any c d false z.out _).mono ?_;rintro e2 P ⟨rfl,j⟩;have l:=bt g j;clear i k g j;have A:=bt (bal (bal (ba _ _) _) _) l;obtain⟨i,k⟩:=bcell l;go_wp2_with fail;exact eQ (v:=.tuple #[rv 0 0,int i64 2]) (by simp[results,results116,go_sem,i]) rfl ⟨rfl,bs (bs A (by simp;omega) _) (by simp;omega) _⟩
end Go.Proofs.YtcaplmodgbpchaaGreatDoor.K.P
namespace Go.Proofs.Rt
end Go.Proofs.Rt
namespace Go.Proofs.YtcaplmodgbpchaaGreatDoor
open Go.RowKit Go.Proofs.YtcaplmodgbpchaaGreatDoor.Ds
def Nn (l:List Pt):Prop:=∀ p∈l,0<=p.2
theorem sT {l:List Pt}{i:Nat}{p:Pt}(h:l[i]? = some p):tot (l.take (i+1))=tot (l.take i)+p.2:=by
 rw[rX,h,uM];simp[xY]
theorem Nn.tot_nn {l:List Pt}(h:Nn l):0<=tot l:=by
 induction l with
 | nil=>simp
 | cons p l ih=>have:=ih fun q hq=>h q (by simp[hq]);have:=h p (by simp);rw[xY];omega
theorem Nn.take {l:List Pt}(h:Nn l)(i:Nat):Nn (l.take i):=fun p hp=>h p (pG hp)
theorem Nn.drop {l:List Pt}(h:Nn l)(i:Nat):Nn (l.drop i):=fun p hp=>h p (amZ hp)
theorem Nn.tot_take_le {l:List Pt}(h:Nn l)(i:Nat):0<=tot (l.take i)/\tot (l.take i)<=tot l:=by
 have a:=(h.take i).tot_nn;have g:=(h.drop i).tot_nn;have j:tot l=tot (l.take i)+tot (l.drop i):=by rw[<-uM,xN]
 omega
theorem Nn.of_pos {l:List Pt}(h:tJ l):Nn l:=fun p hp=>sL (h p hp)
theorem yV {ts:List Tr}{i:Nat}{t:Tr}(h:ts[i]? = some t):(rd ts)[i]? = some t.2:=by
 simp[rd,h]
theorem gD.get {w w':World}{b o:Nat}{ts:List Tr}(h:gD w b o ts)(a:xQ w w')(hB:b<w.heap.size){i:Nat}{t:Tr}(g:ts[i]? = some t) :
  w'.cell? ⟨b,o+i*2,none⟩=some t.1/\w'.cell? ⟨b,o+i*2+1,none⟩=some (int i64 t.2.2):=h.keep a hB i t g
theorem uX.get {w wr:World}{B:Nat}{a:Option Addr}{n c:Nat}{ts:List Tr}(D:uX w B (.slice a n c) ts)(hB:B<=w.heap.size)(l:xQ w wr){i:Nat}(h:i<ts.length) :
  ∃ b o m p j k,a=some ⟨b,o,none⟩/\b<w.heap.size/\ts[i]? = some (.slice m j.length p,j,k)/\wr.cell? ⟨b,o+i*2,none⟩=some (.slice m j.length p)/\wr.cell? ⟨b,o+i*2+1,none⟩=some (int i64 k)/\yQ wr B B (.slice m j.length p) j:=by
 obtain⟨F,G,C,hc,I,hi,E⟩:=D;simp only[yZ] at C;obtain⟨rfl,rfl,rfl⟩:=C;obtain⟨b,o,ha,H,g⟩:=E (ne_of_lt h);obtain⟨⟨s,j,k⟩,y⟩:=fX h;have z:=hi _ (qX y);have v:=z.at hB l;obtain⟨m,p,A,_⟩:=z;simp only at A;subst A;obtain⟨c1,c2⟩:=g.get l (by omega) y;exact⟨b,o,m,p,j,k,ha,by omega,y,c1,c2,v⟩
theorem yY (ts:List Tr):(rd ts).length=ts.length:=by simp[rd]
theorem vD {ts:List Tr}{i:Nat}(h:i=ts.length):(rd ts).take i=rd ts:=by rw[h,<-yY,bU]
theorem b7 (B:Nat)(v:Value)(ts:List Tr)(w:World)(hB:B<=w.heap.size)(y:uX w B v ts)(p:Nn (rd ts))(D:tot (rd ts)<=4611686018427387904)(r:Int)(A:tot (rd ts)=r) :
  Calls prog 228 #[v] w (iQ w (int i64 r)):=by
 have E:=qQ y;obtain⟨a,c,rfl,hc,J,_⟩:=y;have j:Hid (tot (rd ts)<=4611686018427387904/\tot (rd ts)=r/\Nn (rd ts)):=⟨D,A,p⟩;clear p D A;go_enter func228,ntmps228;go_wp2
 go_loopw [3,8] (fun s u wr=>∃ (i:Nat) (z:Int),s=int i64 z/\u=int i64 (i:Int)/\i<=ts.length/\tot ((rd ts).take i)=z/\xQ w wr) (fun _ u _=>ts.length - (intOf u).toNat)
 case atStart=>exact⟨0,0,rfl,rfl,dQ _,by simp,uQ _ _⟩
 case round =>
  obtain⟨i,z,rfl,rfl,H,l,g⟩:=hrel;by_cases m:i<ts.length
  ·obtain⟨b,o,L,M,N,k,rfl,I,C,c1,c2,_⟩:=E.out.get hB g m
   have e1:=sT (yV C);have e2:=j.out.2.2.tot_take_le (i+1);have G:=j.out.1;have h:-4611686018427387904<=z+k/\z+k<=4611686018427387904:=by simp only at e1;omega
   have F:Hid (tot ((rd ts).take (i+1))=z+k):=by rw[Hid,e1,l]
   clear e1 e2 G l C;go_wp2
   go_roundw
   case rel=>exact⟨i+1,z+k,by go_num,by go_num,m,F.out,bal g _⟩
   case measure=>simp[intOf];omega
  ·have h:z=r:=by rw[<-l,<-j.out.2.1,vD (by omega)]
   subst h;clear l j;go_wp2;go_ret;exact⟨rfl,g⟩
theorem diX (B:Nat)(v:Value)(ts:List Tr)(w:World)(hB:B<=w.heap.size)(E:uX w B v ts) :
  Calls prog 226 #[v,.func (.func 206) #[] #[]] w fun e w'=>∃ r:Int,e=.returned (int i64 r)/\(decide (0<=r) = !(rd ts).all gV)/\xQ w w':=by
 have G:=qQ E;obtain⟨a,c,rfl,hc,M,_⟩:=E;go_enter func226,ntmps226;go_wp2
 go_loopw [8] (fun s wr=>∃ i:Nat,s=int i64 (i:Int)/\i<=ts.length/\((rd ts).take i).all gV=true/\xQ w wr) (fun s _=>ts.length - (intOf s).toNat)
 case atStart=>exact⟨0,rfl,dQ _,by simp,uQ _ _⟩
 case round =>
  obtain⟨i,rfl,H,h,g⟩:=hrel;have A:=qQ h;clear h;by_cases D:i<ts.length
  ·obtain⟨b,o,N,O,z,k,rfl,L,F,c1,c2,m⟩:=G.out.get hB g D
   have C:=qQ (yV F);have I:=g.size;clear F;cases hk:gV (z,k) with
   | true =>
    have l:=qQ hk;have y:=awJ B B _ k z wr (by omega) m _ hk;clear hk m;go_wp2_with (go_at_call 206;refine y.mono ?_;rintro e J ⟨rfl,j⟩)
    go_roundw
    case rel=>exact⟨i+1,by go_num,D,by rw[nN C.out,A.out,l.out];rfl,bt g j⟩
    case measure=>simp[intOf];omega
   | false =>
    have l:=qQ hk;have y:=awJ B B _ k z wr (by omega) m _ hk;clear hk m;go_wp2_with (go_at_call 206;refine y.mono ?_;rintro e J ⟨rfl,j⟩);go_ret;exact⟨_,rfl,by rw[xL C.out l.out];simp,bt g j⟩
  ·have p:Hid ((rd ts).all gV=true):=by have:=A.out;rwa [vD (by omega)] at this
   go_wp2;go_ret;exact⟨_,rfl,by rw[p.out];simp,g⟩
theorem beZ (B:Nat)(v:Value)(ts:List Tr)(w:World)(hB:B<=w.heap.size)(g:uX w B v ts)(r:Bool)(h:(rd ts).all gV=r) :
  Calls prog 205 #[v,.func (.func 206) #[] #[]] w (iQ w (.bool (!r))):=by
 subst h;have i:=qQ g;obtain⟨a,c,rfl,_⟩:=g;go_enter func205,ntmps205;go_wp2_with (go_at_call 226;refine(diX B _ ts _ hB i.out).mono ?_;rintro e w' ⟨r,rfl,h,j⟩);go_ret;exact⟨rfl,j⟩
theorem jX {w:World}{a b:Addr}{v:Value}(h:a≠b):(w.setCell a v).cell? b=w.cell? b:=oR _ _ _ _ h
theorem uU {w:World}{a:Addr}{u v:Value}(h:w.cell? a=some u):(w.setCell a v).cell? a=some v:=World.cell?_setCell_same _ _ _ h
theorem eJ {w:World}{a b:Addr}{v:Value}:(w.setCell a v).frozen? b=w.frozen? b:=pR _ _ _ _
structure Row (w:World) (b o:Nat) (us:List Tr):Prop where
 cells:gD w b o us
 thaw:∀ j,j<us.length*2->w.frozen? ⟨b,o+j,none⟩=false
 lt:b<w.heap.size
theorem Row.keep {w w':World}{b o:Nat}{us:List Tr}(h:Row w b o us)(a:xQ w w'):Row w' b o us :=
 ⟨h.cells.keep a h.lt,fun j hj=>(a.frozen (p:=⟨b,o+j,none⟩) h.lt).trans (h.thaw j hj),lQ h.lt a.size⟩
theorem gD.len_cell {w:World}{b o:Nat}{us:List Tr}(h:gD w b o us){i:Nat}(hi:i<us.length):(w.cell? ⟨b,o+i*2,none⟩).isSome=true/\(w.cell? ⟨b,o+i*2+1,none⟩).isSome=true:=by
 obtain⟨t,j⟩:=fX hi;obtain⟨a,g⟩:=h i t j;exact⟨by rw[a];rfl,by rw[g];rfl⟩
theorem Row.setW {w:World}{b o:Nat}{us:List Tr}(h:Row w b o us){i:Nat}{t:Tr}(g:us[i]? = some t)(k:Int) :
  Row (w.setCell ⟨b,o+i*2+1,none⟩ (int i64 k)) b o (us.set i (t.1,t.2.1,k)):=by
 have hi:=(fQ.1 g).1;refine⟨fun j u hu=>?_,fun j a=>by rw[eJ];exact h.thaw j (by simpa using a),by simpa using h.lt⟩;by_cases a:i=j
 ·subst a
  rw[wD hi] at hu;obtain rfl:(t.1,t.2.1,k)=u:=by simpa using hu
  have c:=h.cells i t g;exact⟨by rw[jX (by simp)];exact c.1,uU c.2⟩
 ·rw[sF a] at hu
  have c:=h.cells j u hu;exact⟨by rw[jX (by simp <;> omega)];exact c.1,by rw[jX (by simp <;> omega)];exact c.2⟩
theorem Row.setP {w:World}{b o:Nat}{us:List Tr}(h:Row w b o us){i:Nat}(hi:i<us.length)(t:Tr) :
  Row (w.setCells b (o+i*2) [t.1,int i64 t.2.2]) b o (us.set i t):=by
 have k:=h.cells.len_cell hi;have e1:∀ a:Addr,(w.setCells b (o+i*2) [t.1,int i64 t.2.2]).cell? a=((w.setCell ⟨b,o+i*2,none⟩ t.1).setCell ⟨b,o+i*2+1,none⟩ (int i64 t.2.2)).cell? a:=fun a=>rfl;refine⟨fun j u hu=>?_,fun j g=>by rw[World.frozen?_setCells];exact h.thaw j (by simpa using g),?_⟩
 ·rw[e1,e1]
  by_cases g:i=j
  ·subst g
   rw[wD hi] at hu;obtain rfl:t=u:=by simpa using hu
   refine⟨?_,?_⟩
   ·rw[jX (by simp)]
    exact World.cell?_setCell_same' _ _ _ k.1
   ·refine World.cell?_setCell_same' _ _ _ ?_
    rw[jX (by simp)];exact k.2
  ·rw[sF g] at hu
   have c:=h.cells j u hu;exact⟨by rw[jX (by simp <;> omega),jX (by simp <;> omega)];exact c.1,by rw[jX (by simp <;> omega),jX (by simp <;> omega)];exact c.2⟩
 ·show b<(((w.setCell ⟨b,o+i*2,none⟩ t.1).setCell ⟨b,o+i*2+1,none⟩ (int i64 t.2.2))).heap.size
  simpa using h.lt
def Own (w:World) (lo:Nat) (v:Value) (ts:List Tr):Prop :=
 ∃ b o c,v=.slice (some ⟨b,o,none⟩) ts.length c/\ts.length<=c/\ts.length<=1073741824/\lo<=b/\Row w b o ts/\∀ t∈ts,yQ w w.heap.size b t.1 t.2.1
theorem Own.parts {w:World}{lo:Nat}{v:Value}{ts:List Tr}(h:Own w lo v ts):uX w w.heap.size v ts:=by
 obtain⟨b,o,c,i,hc,g,_,a,hi⟩:=h;refine⟨_,c,i,hc,g,fun t ht=>?_,fun _=>⟨b,o,rfl,a.lt,a.cells⟩⟩;exact(hi t ht).mono (vQ _) (.inr (vQ _))
theorem Own.keep {w w':World}{lo:Nat}{v:Value}{ts:List Tr}(h:Own w lo v ts)(a:xQ w w'):Own w' lo v ts:=by
 obtain⟨b,o,c,k,hc,i,g,j,hi⟩:=h;exact⟨b,o,c,k,hc,i,g,j.keep a,fun t ht=>((hi t ht).keep a).mono a.size (.inl rfl)⟩
theorem Own.mono {w:World}{lo lo':Nat}{v:Value}{ts:List Tr}(h:Own w lo v ts)(k:lo'<=lo):Own w lo' v ts:=by
 obtain⟨b,o,c,j,hc,a,g,i,hi⟩:=h;exact⟨b,o,c,j,hc,a,by omega,i,hi⟩
def dZ (lo:Nat) (ts:List Tr):Prop:=∀ t∈ts,t.2.1≠[]->∀ b o sp n c,t.1=.slice (some ⟨b,o,sp⟩) n c->lo<=b
theorem dZ.mono {lo lo':Nat}{ts:List Tr}(h:dZ lo ts)(a:lo'<=lo):dZ lo' ts:=fun t ht hne b o sp n c e=>bQ a (h t ht hne b o sp n c e)
theorem dZ.of {lo:Nat}{ts us:List Tr}(h:dZ lo ts)(j:∀ t∈us,∃ u∈ts,t.1=u.1/\t.2.1=u.2.1):dZ lo us:=by
 intro t i a b o k n c e;obtain⟨u,g,e1,e2⟩:=j t i;exact h u g (e2▸a) b o k n c (e1▸e)
theorem dZ.nil (lo:Nat):dZ lo []:=fun t ht=>by cases ht
theorem i7 {w:World}{B lo:Nat}{s:Value}{xs:List Int}(h:∀ m,m<lo->yQ w B m s xs):xs≠[]->∀ b o j n c,s=.slice (some ⟨b,o,j⟩) n c->lo<=b:=by
 intro i b o j n c e;rcases Nat.lt_or_ge b lo with g|g
 ·obtain⟨a,v,l,_,_,p⟩:=h b g
  obtain⟨b',y,ha,_,k,_⟩:=p i;rw[l,ha] at e;simp only[yZ,aZ,dD] at e;exact absurd e.1.1 k
 ·exact g
theorem yH (w:World)(B:Nat):uX w B (.slice none 0 0) []:=⟨none,0,rfl,vQ _,by simp,by simp,fun h=>absurd rfl h⟩

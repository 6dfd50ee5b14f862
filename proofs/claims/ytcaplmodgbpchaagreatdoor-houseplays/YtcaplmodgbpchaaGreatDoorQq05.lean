import Derived.Test.YtcaplmodgbpchaaGreatDoorQq03
import Derived.Test.YtcaplmodgbpchaaGreatDoorRows
import Derived.WalkKit
import Derived.WalkSpells
import Derived.Deep.QuietTactic
import Derived.BigQuiet
import Derived.WalkSmall
import Derived.Sort.Grow
import Derived.Deep.RegionHeld3
open Go.Proofs.Tryz
open Go.Value(int)
open Go.IntKind(i64)
set_option linter.unusedSimpArgs false
set_option maxHeartbeats 16000000
set_option maxRecDepth 100000
namespace Go.Proofs.YtcaplmodgbpchaaGreatDoor
variable {o x xs y z:List Int} {M a b g:Int} {W w w' w1 w2:World} {B B' i nb:Nat} {v:Value} {p:Addr}
namespace Ds
abbrev Pt:=List Int × Int
def iZ:List Int->List Int->Int
 | [],[]=>0
 | [],_::_=>-1
 | _::_,[]=>1
 | a::x,b::y=>if a<b then -1 else if b<a then 1 else iZ x y
theorem wS (x y:List Int):iZ y x = - iZ x y:=by
 induction x generalizing y with
 | nil=>cases y <;> simp[iZ]
 | cons a x ih=>cases y with
  | nil=>simp[iZ]
  | cons b y =>
   simp only[iZ];by_cases g:a<b
   ·simp[g,Int.not_lt.2 (sL g)]
   ·by_cases h:b<a
    ·simp[g,h]
    ·simp[g,h,ih y]
theorem aP (x:List Int):iZ x x=0:=by
 have:=wS x x;omega
theorem tK (x y:List Int):iZ x y=0↔x=y:=by
 constructor
 ·intro h
  induction x generalizing y with
  | nil=>cases y with | nil=>rfl | cons b y=>simp[iZ] at h
  | cons a x ih=>cases y with
   | nil=>simp[iZ] at h
   | cons b y =>
    simp only[iZ] at h;by_cases g:a<b
    ·simp[g] at h
    ·by_cases i:b<a
     ·simp[g,i] at h
     ·simp[g,i] at h
      rw[ih y h,show a=b by omega]
 ·rintro rfl;exact aP x
abbrev yJ (x y:List Int):Prop:=iZ x y<0
theorem qT (x:List Int):¬ yJ x x:=by unfold yJ;rw[aP];omega
theorem wK (h:yJ x y)(k:yJ y z):yJ x z:=by
 unfold yJ at *
 induction x generalizing y z with
 | nil=>cases z with
  | nil=>cases y <;> simp[iZ] at *
  | cons c z=>simp[iZ]
 | cons a x ih=>cases y with
  | nil=>simp[iZ] at h
  | cons b y=>cases z with
   | nil=>simp[iZ] at k
   | cons c z =>
    simp only[iZ] at *
    by_cases j:a<b
    ·have:a<c:=by
      by_cases g:b<c;· omega
      ·by_cases i:c<b
       ·simp[g,i] at k
       ·omega
     simp[this]
    ·by_cases l:b<a
     ·simp[j,l] at h
     ·simp[j,l] at h
      have:a=b:=by omega
      subst this;by_cases g:a<c;· simp[g]
      ·by_cases i:c<a
       ·simp[g,i] at k
       ·simp[g,i] at k ⊢
        exact ih h k
theorem iN (h:yJ x y):x≠y:=by rintro rfl;exact qT _ h
theorem bP (x y:List Int):yJ x y\/x=y\/yJ y x:=by
 unfold yJ;rw[<-tK x y,wS x y];omega
def wt:List Pt->List Int->Int
 | [],_=>0
 | p::l,o=>(if p.1=o then p.2 else 0)+wt l o
@[simp] theorem cjX (o:List Int):wt [] o=0:=rfl
theorem dU (p:Pt)(l:List Pt)(o:List Int):wt (p::l) o=(if p.1=o then p.2 else 0)+wt l o:=rfl
theorem cP (l k:List Pt)(o:List Int):wt (l++k) o=wt l o+wt k o:=by
 induction l with
 | nil=>simp
 | cons p l ih=>simp only[xF,dU,ih];omega
theorem cjZ {l k:List Pt}(h:l.Perm k)(o:List Int):wt l o=wt k o:=by
 induction h with
 | nil=>rfl
 | cons x _ ih=>simp only[dU,ih]
 | swap x y l=>simp only[dU];omega
 | trans _ _ h1 h2=>exact h1.trans h2
def tot:List Pt->Int
 | []=>0
 | p::l=>p.2+tot l
@[simp] theorem cjJ:tot []=0:=rfl
theorem xY (p:Pt)(l:List Pt):tot (p::l)=p.2+tot l:=rfl
theorem uM (l k:List Pt):tot (l++k)=tot l+tot k:=by
 induction l with
 | nil=>simp
 | cons p l ih=>simp only[xF,xY,ih];omega
def cY (l:List Pt):Prop:=l.Pairwise fun p q=>yJ p.1 q.1
def tJ (l:List Pt):Prop:=∀ p∈l,0<p.2
theorem dP {l:List Pt}(h:∀ p∈l,p.1≠o):wt l o=0:=by
 induction l with
 | nil=>rfl
 | cons p l ih =>
  rw[dU,zQ (h p (by simp)),ih fun q hq=>h q (by simp[hq])];omega
theorem aM {p:Pt}{l:List Pt}(h:cY (p::l)):wt (p::l) p.1=p.2:=by
 rw[dU,jQ rfl,dP fun q hq=>(iN ((mL.1 h).1 q hq)).symm];omega
theorem cE {p:Pt}{l:List Pt}(h:cY (p::l)):cY l:=(mL.1 h).2
theorem ckQ {l k:List Pt}(i:cY l)(pl:tJ l)(g:cY k)(m:tJ k)(h:∀ o,wt l o=wt k o):l=k:=by
 induction l generalizing k with
 | nil=>cases k with
  | nil=>rfl
  | cons q k=>have:=h q.1;rw[aM g] at this;have:=m q (by simp);simp at *;omega
 | cons p l ih=>cases k with
  | nil=>have:=h p.1;rw[aM i] at this;have:=pl p (by simp);simp at *;omega
  | cons q k =>
   have e:p.1=q.1:=by
    rcases bP p.1 q.1 with c|c|c
    ·have:=h p.1
     rw[aM i,dP] at this
     ·have:=pl p (by simp);omega
     ·intro r a
      rcases kJ.1 a with rfl|a
      ·exact(iN c).symm
      ·exact(iN (wK c ((mL.1 g).1 r a))).symm
    ·exact c
    ·have:=h q.1
     rw[aM g,dP] at this
     ·have:=m q (by simp);omega
     ·intro r a
      rcases kJ.1 a with rfl|a
      ·exact(iN c).symm
      ·exact(iN (wK c ((mL.1 i).1 r a))).symm
   have e2:p.2=q.2:=by
    have:=h p.1;rw[aM i,e,aM g] at this;exact this
   have j:p=q:=Prod.ext e e2;subst j
   rw[ih (cE i) (fun r a=>pl r (by simp[a])) (cE g) (fun r a=>m r (by simp[a])) fun o=>by
    have:=h o;simp only[dU] at this;omega]
def ins (p:Pt):List Pt->List Pt
 | []=>[p]
 | q::l=>if yJ p.1 q.1 then p::q::l else if p.1=q.1 then (q.1,q.2+p.2)::l else q::ins p l
theorem ckX {p r:Pt}{l:List Pt}(h:r∈ins p l):r.1=p.1\/∃ q∈l,r.1=q.1:=by
 induction l with
 | nil=>simp[ins] at h;exact .inl (by rw[h])
 | cons q l ih =>
  simp only[ins] at h;split at h
  ·rcases kJ.1 h with rfl|h
   ·exact .inl rfl
   ·exact .inr ⟨r,h,rfl⟩
  ·split at h
   ·rcases kJ.1 h with rfl|h
    ·exact .inr ⟨q,by simp,rfl⟩
    ·exact .inr ⟨r,by simp[h],rfl⟩
   ·rcases kJ.1 h with rfl|h
    ·exact .inr ⟨r,by simp,rfl⟩
    ·rcases ih h with h|⟨s,a,e⟩
     ·exact .inl h
     ·exact .inr ⟨s,by simp[a],e⟩
theorem ckZ {p:Pt}{l:List Pt}(h:cY l):cY (ins p l):=by
 induction l with
 | nil=>simp[ins,cY]
 | cons q l ih =>
  have g:=mL.1 h;simp only[ins];split
  ·rename_i c
   refine mL.2 ⟨fun r a=>?_,h⟩;rcases kJ.1 a with rfl|a
   ·exact c
   ·exact wK c (g.1 r a)
  ·split
   ·exact mL.2 ⟨fun r a=>g.1 r a,g.2⟩
   ·rename_i c1 c2
    have c3:yJ q.1 p.1:=by rcases bP p.1 q.1 with c|c|c <;> first|exact absurd c c1|exact absurd c c2|exact c
    refine mL.2 ⟨fun r a=>?_,ih g.2⟩;rcases ckX a with e|⟨s,i,e⟩
    ·rw[e];exact c3
    ·rw[e];exact g.1 s i
theorem ckJ (p:Pt)(l:List Pt)(o:List Int):wt (ins p l) o=(if p.1=o then p.2 else 0)+wt l o:=by
 induction l with
 | nil=>simp[ins,dU]
 | cons q l ih =>
  simp only[ins];split
  ·simp only[dU]
  ·split
   ·rename_i c
    simp only[dU,c];split <;> omega
   ·simp only[dU,ih];omega
theorem clQ {p:Pt}{l:List Pt}(i:0<p.2)(h:tJ l):tJ (ins p l):=by
 induction l with
 | nil=>intro r a;simp[ins] at a;rw[a];exact i
 | cons q l ih =>
  simp only[ins];have j:=h q (by simp);have g:tJ l:=fun r a=>h r (by simp[a]);split
  ·intro r a
   rcases kJ.1 a with rfl|a
   ·exact i
   ·exact h r a
  ·split
   ·intro r a
    rcases kJ.1 a with rfl|a
    ·show 0<q.2+p.2;omega
    ·exact g r a
   ·intro r a
    rcases kJ.1 a with rfl|a
    ·exact j
    ·exact ih g r a
def gath:List Pt->List Pt
 | []=>[]
 | p::l=>if p.2=0 then gath l else ins p (gath l)
theorem dE (l:List Pt):cY (gath l):=by
 induction l with
 | nil=>simp[gath,cY]
 | cons p l ih=>simp only[gath];split <;> first | exact ih | exact ckZ ih
theorem avZ (l:List Pt)(o:List Int):wt (gath l) o=wt l o:=by
 induction l with
 | nil=>rfl
 | cons p l ih =>
  simp only[gath];split
  ·rename_i c;rw[dU,ih,c];split <;> omega
  ·rw[ckJ,dU,ih]
theorem xT {l:List Pt}(h:∀ p∈l,0<=p.2):tJ (gath l):=by
 induction l with
 | nil=>simp[gath,tJ]
 | cons p l ih =>
  have a:=ih fun q hq=>h q (by simp[hq]);simp only[gath];split
  ·exact a
  ·have:=h p (by simp)
   exact clQ (by omega) a
theorem eE {l k:List Pt}(h:∀ p∈l,0<=p.2)(r:cY k)(p:tJ k)(e:∀ o,wt k o=wt l o):gath l=k :=
 ckQ (dE l) (xT h) r p fun o=>by rw[avZ,e]
def dv:List Pt->Nat
 | []=>0
 | p::l=>Nat.gcd (dv l) p.2.natAbs
def zG (g:Nat):List Pt->Nat
 | []=>g
 | p::l=>zG (Nat.gcd g p.2.natAbs) l
theorem fE (g:Nat)(l:List Pt):zG g l=Nat.gcd g (dv l):=by
 induction l generalizing g with
 | nil=>simp[zG,dv]
 | cons p l ih =>
  simp only[zG,dv,ih];rw[Nat.gcd_assoc,Nat.gcd_comm (dv l)]
theorem gE {l:List Pt}{p:Pt}(h:p∈l):dv l ∣ p.2.natAbs:=by
 induction l with
 | nil=>cases h
 | cons q l ih =>
  rcases kJ.1 h with rfl|h
  ·exact Nat.gcd_dvd_right _ _
  ·exact Nat.dvd_trans (Nat.gcd_dvd_left _ _) (ih h)
theorem lE {l:List Pt}(h:tJ l)(a:l≠[]):0<dv l:=by
 cases l with
 | nil=>exact absurd rfl a
 | cons p l=>exact Nat.gcd_pos_of_pos_right _ (by have:=h p (by simp);omega)
def cut (g:Int) (l:List Pt):List Pt:=l.map fun p=>(p.1,p.2 / g)
@[simp] theorem clX (g:Int) (l:List Pt):(cut g l).length=l.length:=by simp[cut]
def mU (l:List Pt):List Pt × Int :=
 if l=[] then ([],6) else if 1073741824<tot (cut (dv l) l)\/4096<l.length then ([],4) else (cut (dv l) l,0)
def jG (n:Int):Bool:=decide (-1073741824<=n/\n<=1073741824)
def qL (x:List Int):Bool:=decide (x.length<=16) && x.all jG
def gV (p:Pt):Bool:=decide (0<=p.2/\p.2<=1073741824) && qL p.1
def iV (l:List Pt):List Pt × Int:=if l.all gV then mU (gath l) else ([],3)
theorem clZ {l:List Pt}(h:∀ p∈l,p.2<=M):tot l<=l.length*M:=by
 induction l with
 | nil=>simp
 | cons p l ih =>
  have a:=ih fun q hq=>h q (by simp[hq]);have g:=h p (by simp);rw[xY,cD,lC,Int.add_mul];omega
theorem clJ (p:Pt)(l:List Pt):tot (ins p l)=p.2+tot l:=by
 induction l with
 | nil=>simp[ins,xY]
 | cons q l ih =>
  simp only[ins];split
  ·simp only[xY]
  ·split
   ·simp only[xY];omega
   ·simp only[xY,ih];omega
theorem mE (l:List Pt):tot (gath l)=tot l:=by
 induction l with
 | nil=>rfl
 | cons p l ih =>
  simp only[gath];split
  ·rw[xY,ih];omega
  ·rw[clJ,xY,ih]
theorem avJ {l:List Pt}(h:∀ p∈l,g ∣ p.2):tot (cut g l)=tot l / g:=by
 induction l with
 | nil=>simp[cut]
 | cons p l ih =>
  have a:=ih fun q hq=>h q (by simp[hq]);simp only[cut,aI,xY] at *
  rw[a,Int.add_ediv_of_dvd_left (h p (by simp))]
theorem zT {l:List Pt}{p:Pt}(h:p∈l):((dv l:Nat):Int) ∣ p.2:=Int.ofNat_dvd_left.2 (gE h)
end Ds
section
open Go.RowKit
theorem oE {k:IntKind}(h:a=b):Ending.returned (.int k a)=.returned (.int k b):=by rw[h]
theorem cmQ (x y:Int):Int.gcd y (x.tmod y)=Int.gcd x y:=by
 have h:(x.tmod y).natAbs=x.natAbs % y.natAbs:=Int.natAbs_tmod x y;rw[Int.gcd,h,Int.gcd,Nat.gcd_comm x.natAbs,Nat.gcd_rec y.natAbs x.natAbs,Nat.gcd_comm]
theorem cmX (a b:Int)(h:-9223372036854775807<=a)(ha:a<=9223372036854775807)(i:-9223372036854775807<=b)(z:b<=9223372036854775807)(w:World) :
  Calls prog 175 #[int i64 a,int i64 b] w (iQ w (int i64 (Int.gcd a b:Nat))):=by
 go_enter func175,ntmps175;go_wp2
 go_loopw [0,1] (fun s t wr=>∃ x y:Int,s=int i64 x/\t=int i64 y/\-9223372036854775807<=x/\x<=9223372036854775807/\-9223372036854775807<=y/\y<=9223372036854775807/\Int.gcd x y=Int.gcd a b/\xQ w wr) (fun _ t _=>(intOf t).natAbs)
 case atStart=>exact⟨a,b,rfl,rfl,h,ha,i,z,rfl,uQ _ _⟩
 case round =>
  obtain⟨x,y,rfl,rfl,A,E,l,B,o,g⟩:=hrel;have m:=qQ o;clear o;by_cases C:y=0
  ·subst C
   go_wp2
   all_goals
    go_ret;refine⟨oE ?_,g⟩;rw[<-m.out,Int.gcd_zero_right];omega
  ·have D:(y == 0)=false:=by simp;omega
   have p:(x.tmod y).natAbs<y.natAbs:=by rw[Int.natAbs_tmod];exact Nat.mod_lt _ (by omega)
   have j:-9223372036854775807<=x.tmod y:=by omega
   have k:x.tmod y<=9223372036854775807:=by omega
   have v:=qQ p;clear p;go_wp2;go_quiet (fail);go_wp2
   go_roundw
   case rel=>exact⟨y,x.tmod y,rfl,by go_num,l,B,j,k,by rw[cmQ];exact m.out,below_drewN g nq⟩
   case measure=>exact v.out
theorem jT (a b:Nat)(ha:(a:Int)<=9223372036854775807)(g:(b:Int)<=9223372036854775807)(w:World) :
  Calls prog 175 #[int i64 a,int i64 b] w (iQ w (int i64 (Nat.gcd a b:Nat))) :=
 cmX a b (by omega) ha (by omega) g w
end
section
open Go.RowKit Ds
abbrev Tr:=Value × List Int × Int
def yQ (w:World) (B nb:Nat) (v:Value) (xs:List Int):Prop :=
 ∃ a c,v=.slice a xs.length c/\xs.length<=c/\xs.length<=1073741824 /\
  (xs≠[]->∃ b o,a=some ⟨b,o,none⟩/\b<B/\b≠nb/\∀ i x,xs[i]? = some x->w.cell? ⟨b,o+i,none⟩=some (int i64 x))
theorem yQ.keep (h:yQ w B nb v xs)(j:Below B w w'):yQ w' B nb v xs:=by
 obtain⟨a,c,m,hc,k,y⟩:=h;refine⟨a,c,m,hc,k,fun hne=>?_⟩;obtain⟨b,o,ha,hB,l,g⟩:=y hne;exact⟨b,o,ha,hB,l,fun i x hi=>(j.cell (p:=⟨b,o+i,none⟩) hB).trans (g i x hi)⟩
theorem yQ.mono {nb':Nat}(h:yQ w B nb v xs)(hB:B<=B')(j:nb' = nb\/B<=nb'):yQ w B' nb' v xs:=by
 obtain⟨a,c,l,hc,i,m⟩:=h;refine⟨a,c,l,hc,i,fun hne=>?_⟩;obtain⟨b,o,ha,p,k,g⟩:=m hne;exact⟨b,o,ha,by omega,by rcases j with h|h <;> omega,g⟩
def gD (w:World) (b o:Nat) (ts:List Tr):Prop :=
 ∀ i t,ts[i]? = some t->w.cell? ⟨b,o+i*2,none⟩=some t.1/\w.cell? ⟨b,o+i*2+1,none⟩=some (int i64 t.2.2)
def uX (w:World) (B:Nat) (v:Value) (ts:List Tr):Prop :=
 ∃ a c,v=.slice a ts.length c/\ts.length<=c/\ts.length<=1073741824/\(∀ t∈ts,yQ w B B t.1 t.2.1) /\
  (ts≠[]->∃ b o,a=some ⟨b,o,none⟩/\b<B/\gD w b o ts)
def rd (ts:List Tr):List Pt:=ts.map (·.2)
theorem gD.keep {b o:Nat}{ts:List Tr}(h:gD w b o ts)(a:Below B w w')(hB:b<B):gD w' b o ts :=
 fun i t hi=>⟨(a.cell (p:=⟨b,o+i*2,none⟩) hB).trans (h i t hi).1,(a.cell (p:=⟨b,o+i*2+1,none⟩) hB).trans (h i t hi).2⟩
theorem uX.keep {ts:List Tr}(h:uX w B v ts)(i:Below B w w'):uX w' B v ts:=by
 obtain⟨a,c,k,hc,j,hi,l⟩:=h;refine⟨a,c,k,hc,j,fun t ht=>(hi t ht).keep i,fun hne=>?_⟩;obtain⟨b,o,ha,hB,g⟩:=l hne;exact⟨b,o,ha,hB,g.keep i hB⟩
theorem uX.mono {ts:List Tr}(h:uX w B v ts)(hB:B<=B'):uX w B' v ts:=by
 obtain⟨a,c,j,hc,i,hi,k⟩:=h;refine⟨a,c,j,hc,i,fun t ht=>(hi t ht).mono hB (.inr hB),fun hne=>?_⟩;obtain⟨b,o,ha,l,g⟩:=k hne;exact⟨b,o,ha,by omega,g⟩
theorem fX {α:Type}{l:List α}(h:i<l.length):∃ x,l[i]? = some x:=⟨l[i],nZ h⟩
theorem ne_of_lt {α:Type}{l:List α}(h:i<l.length):l≠[]:=by rintro rfl;simp at h
theorem qH {a b:Bool}(h:a=b):Ending.returned (.bool a)=.returned (.bool b):=by rw[h]
theorem awQ (g:x[i]? = some a)(h:y[i]? = some b) :
  iZ (x.drop i) (y.drop i)=if a<b then -1 else if b<a then 1 else iZ (x.drop (i+1)) (y.drop (i+1)):=by
 rw[eV (fQ.1 g).1,eV (fQ.1 h).1,(fQ.1 g).2,(fQ.1 h).2];rfl
theorem pE (x:Int)(w:World):Calls prog 249 #[int i64 x] w fun e w'=>e=.returned (.bool false)/\w' = w:=by
 go_enter func249,ntmps249;go_wp2;go_ret;exact⟨rfl,rfl⟩
theorem rE (a b r:Int)(i:(if a<b then -1 else if b<a then 1 else 0)=r)(w:World) :
  Calls prog 242 #[int i64 a,int i64 b] w fun e w'=>e=.returned (int i64 r)/\w' = w:=by
 subst i;by_cases g:a<b
 ·simp only[g,uA]
  go_enter func242,ntmps242;go_wp2_with (go_at_call 249;refine(pE _ _).mono ?_;rintro e w' ⟨rfl,rfl⟩);go_ret;exact⟨rfl,rfl⟩
 ·by_cases h:b<a
  ·simp only[g,h,uA,gK]
   go_enter func242,ntmps242;go_wp2_with (go_at_call 249;refine(pE _ _).mono ?_;rintro e w' ⟨rfl,rfl⟩);go_ret;exact⟨rfl,rfl⟩
  ·simp only[g,h,gK]
   go_enter func242,ntmps242;go_wp2_with (go_at_call 249;refine(pE _ _).mono ?_;rintro e w' ⟨rfl,rfl⟩);go_ret;exact⟨rfl,rfl⟩
theorem sE (B Z n2:Nat)(u v:Value)(x y:List Int)(w:World)(X:yQ w B Z u x)(Y:yQ w B n2 v y)(r:Int)(H:iZ x y=r) :
  Calls prog 232 #[u,v] w fun e w'=>e=.returned (int i64 r)/\w' = w:=by
 obtain⟨ax,cx,rfl,g,S,C⟩:=X;obtain⟨ay,cy,rfl,j,T,D⟩:=Y;have p:=qQ C;have z:=qQ D;have I:=qQ H;clear C D H;go_enter func232,ntmps232;go_wp2
 go_loop [11] (fun s=>∃ i:Nat,s=int i64 (i:Int)/\i<=x.length/\i<=y.length/\iZ (x.drop i) (y.drop i)=r) (fun s=>x.length - (intOf s).toNat)
 case atStart=>exact⟨0,rfl,dQ _,dQ _,I.out⟩
 case round =>
  obtain⟨i,rfl,Q,R,hc⟩:=hrel;have m:=qQ hc;clear hc;by_cases F:i<x.length
  ·obtain⟨bx,ox,rfl,O,U,g⟩:=p.out (ne_of_lt F)
   obtain⟨h,k⟩:=fX F;have L:=g i h k;by_cases A:i<y.length
   ·obtain⟨J,oy,rfl,P,V,j⟩:=z.out (ne_of_lt A)
    obtain⟨o,l⟩:=fX A;have M:=j i o l;have st:=awQ k l;have G:=qQ st;clear st g j p z k l;by_cases c1:h=o
    ·subst c1
     have E:=rE h h 0 (by simp) w;go_wp2_with (go_at_call 242;refine E.mono ?_;rintro e w' ⟨rfl,rfl⟩)
     go_round
     case rel=>exact⟨i+1,by go_num,F,A,by rw[<-m.out,G.out];simp⟩
     case measure=>simp[intOf];omega
    ·by_cases c2:h<o
     ·have a:r = -1:=by rw[<-m.out,G.out];simp[c2]
      subst a;have E:=rE h o (-1) (by simp[c2]) w;go_wp2_with (go_at_call 242;refine E.mono ?_;rintro e w' ⟨rfl,rfl⟩);go_ret;exact⟨rfl,rfl⟩
     ·have c3:o<h:=by omega
      have a:r=1:=by rw[<-m.out,G.out];simp[c2,c3]
      subst a;have E:=rE h o 1 (by rw[zQ c2,jQ c3]) w;go_wp2_with (go_at_call 242;refine E.mono ?_;rintro e w' ⟨rfl,rfl⟩);go_ret;exact⟨rfl,rfl⟩
   ·have a:r=1:=by
     rw[<-m.out,eV F,gA (show y.length<=i by omega)];rfl
    subst a;clear g p z;go_wp2;go_ret;exact⟨rfl,rfl⟩
  ·by_cases A:i<y.length
   ·have a:r = -1:=by
     rw[<-m.out,gA (show x.length<=i by omega),eV A];rfl
    subst a;have N:x.length<y.length:=by omega
    clear p z;go_wp2;go_ret;exact⟨rfl,rfl⟩
   ·have a:r=0:=by
     rw[<-m.out,gA (show x.length<=i by omega),gA (show y.length<=i by omega)];rfl
    subst a;have N:¬ x.length<y.length:=by omega
    clear p z;go_wp2;go_ret;exact⟨rfl,rfl⟩
theorem ba (w:World)(o:Obj):xQ w (w.alloc o):=(uQ _ _).alloc (vQ _) o
theorem bt (h:xQ w w1)(k:xQ w1 w2):xQ w w2:=h.trans (k.mono h.size)
theorem bal (h:xQ w w1)(o:Obj):xQ w (w1.alloc o):=h.alloc h.size o
theorem bs (h:xQ w w1)(a:w.heap.size<=p.block)(u:Value):xQ w (w1.setCell p u):=h.setCell a u
theorem bcell (a:xQ W w1):(∀ b o,b<W.heap.size->w1.cell? ⟨b,o,none⟩=W.cell? ⟨b,o,none⟩)/\(∀ b o,b<W.heap.size->w1.frozen? ⟨b,o,none⟩=W.frozen? ⟨b,o,none⟩) :=
 ⟨fun b o h=>a.cell (p:=⟨b,o,none⟩) h,fun b o h=>a.frozen (p:=⟨b,o,none⟩) h⟩
theorem yQ.at (h:yQ w B nb v xs)(hB:B<=w.heap.size)(a:xQ w w'):yQ w' B nb v xs:=h.keep (a.mono hB)
theorem uX.at {ts:List Tr}(h:uX w B v ts)(hB:B<=w.heap.size)(a:xQ w w'):uX w' B v ts:=h.keep (a.mono hB)
theorem mN (B i j:Nat)(u v:Value)(k l:Int)(x y:List Int)(w:World)(hB:B<=w.heap.size)(g:yQ w B i u x)(h:yQ w B j v y)(r:Int)(a:iZ x y=r) :
  Calls prog 210 #[.agg #[u,int i64 k],.agg #[v,int i64 l]] w fun e w'=>e=.returned (int i64 r)/\∃ o1 o2,w' = (w.alloc o1).alloc o2:=by
 have o:=qQ g;have p:=qQ h;have m:=qQ a;obtain⟨z,A,rfl,_⟩:=g;obtain⟨av,cv,rfl,_⟩:=h;clear a;go_enter func210,ntmps210;go_wp2_with (go_at_call 232;refine(sE B i j _ _ x y _ ?_ ?_ r m.out).mono ?_;exact o.out.at hB (bal (ba _ _) _);exact p.out.at hB (bal (ba _ _) _);rintro e w' ⟨rfl,rfl⟩);go_ret;exact⟨rfl,_,_,rfl⟩
theorem awX (B i j:Nat)(u v:Value)(k l:Int)(x y:List Int)(w:World)(hB:B<=w.heap.size)(z:yQ w B i u x)(A:yQ w B j v y)(r:Bool)(g:decide (k=l/\x=y)=r) :
  Calls prog 186 #[.agg #[u,int i64 k],.agg #[v,int i64 l]] w (iQ w (.bool r)):=by
 subst g;have m:=qQ z;have o:=qQ A;obtain⟨F,G,rfl,_⟩:=z;obtain⟨av,cv,rfl,_⟩:=A;by_cases h:k=l
 ·subst h
  by_cases a:x=y
  ·have hc:Hid (iZ x y=0):=(tK x y).2 a
   rw[sJ (show k=k/\x=y from ⟨rfl,a⟩)];clear a;go_enter func186,ntmps186;go_wp2_with (go_at_call 210;refine(mN B i j _ _ _ _ x y _ ?_ ?_ ?_ _ hc.out).mono ?_;(simp;omega);exact m.out.at hB (bal (ba _ _) _);exact o.out.at hB (bal (ba _ _) _);rintro e w' ⟨rfl,D,E,rfl⟩);go_ret;exact⟨rfl,bal (bal (bal (ba _ _) _) _) _⟩
  ·have hc:¬ (iZ x y=0):=fun h=>a ((tK x y).1 h)
   rw[lZ (show ¬ (k=k/\x=y) from fun h=>a h.2)];obtain⟨r,g⟩:∃ r,Hid (iZ x y=r):=⟨_,rfl⟩;have C:(r == 0)=false:=by rw[<-g.out];simpa using hc
   clear a hc;go_enter func186,ntmps186;go_wp2_with (go_at_call 210;refine(mN B i j _ _ _ _ x y _ ?_ ?_ ?_ _ g.out).mono ?_;(simp;omega);exact m.out.at hB (bal (ba _ _) _);exact o.out.at hB (bal (ba _ _) _);rintro e w' ⟨rfl,D,E,rfl⟩);go_ret;exact⟨rfl,bal (bal (bal (ba _ _) _) _) _⟩
 ·rw[lZ (show ¬ (k=l/\x=y) from fun p=>h p.1)]
  have p:(k == l)=false:=by simpa using h
  go_enter func186,ntmps186;go_wp2;go_ret;exact⟨rfl,bal (ba _ _) _⟩
theorem awZ (n:Int)(w:World):Calls prog 227 #[int i64 n] w fun e w'=>e=.returned (.bool (!jG n))/\w' = w:=by
 unfold jG;by_cases a:n < -1073741824
 ·rw[lZ (by omega)]
  go_enter func227,ntmps227;go_wp2;go_ret;exact⟨rfl,rfl⟩
 ·by_cases g:1073741824<n
  ·rw[lZ (by omega)]
   go_enter func227,ntmps227;go_wp2;go_ret;exact⟨rfl,rfl⟩
  ·rw[sJ (by omega)]
   go_enter func227,ntmps227;go_wp2;go_ret;exact⟨rfl,rfl⟩
theorem nN {α:Type}{l:List α}{f:α->Bool}{x:α}(h:l[i]? = some x):(l.take (i+1)).all f=((l.take i).all f && f x):=by
 rw[rX,h];simp
theorem xL {α:Type}{l:List α}{f:α->Bool}{x:α}(h:l[i]? = some x)(a:f x=false):l.all f=false:=by
 rw[List.all_eq_false];exact⟨x,qX h,by simp[a]⟩
theorem cmZ (B nb:Nat)(v:Value)(x:List Int)(w:World)(H:yQ w B nb v x) :
  Calls prog 159 #[v,.func (.func 227) #[] #[]] w fun e w'=>∃ r:Int,e=.returned (int i64 r)/\(decide (0<=r) = !x.all jG)/\w' = w:=by
 obtain⟨a,c,rfl,hc,J,k⟩:=H;have p:=qQ k;clear k;go_enter func159,ntmps159;go_wp2
 go_loop [8] (fun s=>∃ i:Nat,s=int i64 (i:Int)/\i<=x.length/\(x.take i).all jG=true) (fun s=>x.length - (intOf s).toNat)
 case atStart=>exact⟨0,rfl,dQ _,by simp⟩
 case round =>
  obtain⟨i,rfl,G,j⟩:=hrel;have C:=qQ j;clear j;by_cases y:i<x.length
  ·obtain⟨b,o,rfl,I,L,g⟩:=p.out (ne_of_lt y)
   obtain⟨z,A⟩:=fX y;have F:=g i z A;have D:=qQ A;clear g p A;cases hk:jG z with
   | true =>
    have h:=qQ hk;clear hk;have l:=awZ z w;rw[h.out] at l;go_wp2_with (go_at_call 227;refine l.mono ?_;rintro e w' ⟨rfl,rfl⟩)
    go_round
    case rel=>exact⟨i+1,by go_num,y,by rw[nN D.out,C.out,h.out];rfl⟩
    case measure=>simp[intOf];omega
   | false =>
    have h:=qQ hk;clear hk;have l:=awZ z w;rw[h.out] at l;go_wp2_with (go_at_call 227;refine l.mono ?_;rintro e w' ⟨rfl,rfl⟩);go_ret;exact⟨_,rfl,by rw[xL D.out h.out];simp,rfl⟩
  ·have hi:i=x.length:=by omega
   have E:x.all jG=true:=by have:=C.out;rw[hi,bU] at this;exact this
   have m:=qQ E;clear E p;go_wp2;go_ret;exact⟨_,rfl,by rw[m.out];simp,rfl⟩
theorem cmJ (B nb:Nat)(v:Value)(x:List Int)(w:World)(h:yQ w B nb v x)(r:Bool)(g:x.all jG=r) :
  Calls prog 103 #[v,.func (.func 227) #[] #[]] w fun e w'=>e=.returned (.bool (!r))/\w' = w:=by
 subst g;have i:=qQ h;obtain⟨a,c,rfl,_⟩:=h;go_enter func103,ntmps103;go_wp2_with (go_at_call 159;refine(cmZ B nb _ x _ i.out).mono ?_;rintro e w' ⟨r,rfl,g,rfl⟩);go_ret;exact⟨qH (by rw[<-g]),rfl⟩
theorem awJ (B nb:Nat)(v:Value)(k:Int)(x:List Int)(w:World)(hB:B<=w.heap.size)(h:yQ w B nb v x)(r:Bool)(g:gV (x,k)=r) :
  Calls prog 206 #[.agg #[v,int i64 k]] w (iQ w (.bool (!r))):=by
 subst g;have j:=qQ h;obtain⟨a,c,rfl,hc,p,_⟩:=h;by_cases l:k<0
 ·have e:gV (x,k)=false:=by unfold gV;rw[lZ (by simp;omega)];rfl
  rw[e];clear e;go_enter func206,ntmps206;go_wp2;go_ret;exact⟨rfl,ba _ _⟩
 by_cases m:1073741824<k
 ·have e:gV (x,k)=false:=by unfold gV;rw[lZ (by simp;omega)];rfl
  rw[e];clear e;go_enter func206,ntmps206;go_wp2;go_ret;exact⟨rfl,ba _ _⟩
 by_cases o:16<x.length
 ·have e:gV (x,k)=false:=by unfold gV qL;rw[show decide (x.length<=16)=false from lZ (by omega)];simp
  rw[e];clear e;go_enter func206,ntmps206;go_wp2;go_ret;exact⟨rfl,ba _ _⟩
 ·have e:gV (x,k)=x.all jG:=by unfold gV qL;rw[show decide (x.length<=16)=true from sJ (by omega),sJ (by simp;omega)];rfl
  rw[e];clear e;generalize g:x.all jG=r;have i:=qQ g;clear g;go_enter func206,ntmps206;go_wp2_with (go_at_call 103;refine(cmJ B nb _ x _ ?_ r i.out).mono ?_;exact j.out.at hB (ba _ _);rintro e w' ⟨rfl,rfl⟩);go_ret;exact⟨rfl,ba _ _⟩
end
section
open Go.RowKit
abbrev rv (n m:Int):Value:=.agg #[int i64 n,int i64 m]
theorem cnQ (u d n m e:Int)(D:u<=9223372036854775807)(B:d<=9223372036854775807)(h:Rt.qG u d=(n,m,e))(w:World) :
  Calls prog 209 #[int i64 u,int i64 d] w fun x w'=>x=.returned (.tuple #[rv n m,int i64 e])/\xQ w w':=by
 have H:=qQ h;clear h;by_cases c1:u<0
 ·have l:(0,0,3)=(n,m,e):=by rw[<-H.out];unfold Rt.qG;rw[jQ (.inl c1)]
  simp only[cQ] at l;obtain⟨rfl,rfl,rfl⟩:=l;go_enter func209,ntmps209;go_wp2;exact eQ (v:=.tuple #[rv 0 0,int i64 3]) (by simp[results,results209,go_sem]) rfl ⟨rfl,ba _ _⟩
 by_cases c2:d<1
 ·have l:(0,0,3)=(n,m,e):=by rw[<-H.out];unfold Rt.qG;rw[jQ (.inr c2)]
  simp only[cQ] at l;obtain⟨rfl,rfl,rfl⟩:=l;go_enter func209,ntmps209;go_wp2;exact eQ (v:=.tuple #[rv 0 0,int i64 3]) (by simp[results,results209,go_sem]) rfl ⟨rfl,ba _ _⟩
 have A:=Rt.tC u d n m e (by omega) (by omega) H.out;clear H;obtain⟨x,rfl⟩:=nY (show 0<=u by omega);obtain⟨y,rfl⟩:=nY (show 0<=d by omega);rw[show Int.gcd (x:Int) (y:Int)=Nat.gcd x y from rfl] at A;have C:1<=Nat.gcd x y:=Nat.gcd_pos_of_pos_right _ (by omega);have E:0<=(x:Int) / (Nat.gcd x y:Nat):=wM (by omega) (by omega);have F:0<=(y:Int) / (Nat.gcd x y:Nat):=wM (by omega) (by omega);have G:(x:Int) / (Nat.gcd x y:Nat)<=9223372036854775807:=fK (qN _ (by omega)) D;have I:(y:Int) / (Nat.gcd x y:Nat)<=9223372036854775807:=fK (qN _ (by omega)) B;rcases A with⟨hc,rfl,rfl,rfl⟩|⟨k,p,rfl,rfl,rfl⟩
 ·have o:1073741824<(x:Int) / (Nat.gcd x y:Nat)\/((x:Int) / (Nat.gcd x y:Nat)<=1073741824/\1073741824<(y:Int) / (Nat.gcd x y:Nat)):=by omega
  clear hc;rcases o with k|⟨k,p⟩
  all_goals
   go_enter func209,ntmps209;go_wp2_with (go_at_call 175;refine(jT _ _ (by omega) (by omega) _).mono ?_;rintro e w' ⟨rfl,a⟩);obtain⟨i,j⟩:=bcell a;generalize Nat.gcd x y=g at *
   have z:w.heap.size<w'.heap.size:=by have:=a.size;simp at this;omega
   go_region
   go_wp2;exact eQ (v:=.tuple #[rv 0 0,int i64 4]) (by simp[results,results209,go_sem,i,z]) rfl ⟨rfl,(bal (bs (bs (bt (ba _ _) a) (vQ _) _) (vQ _) _) _).drew⟩
 ·go_enter func209,ntmps209
  go_wp2_with (go_at_call 175;refine(jT _ _ (by omega) (by omega) _).mono ?_;rintro e w' ⟨rfl,a⟩);obtain⟨i,j⟩:=bcell a;have z:w.heap.size<w'.heap.size:=by have:=a.size;simp at this;omega
  go_region
  go_wp2;exact eQ (v:=.tuple #[rv (x / (Nat.gcd x y:Nat)) (y / (Nat.gcd x y:Nat)),int i64 0]) (by simp[results,results209,go_sem,i,z]) rfl ⟨rfl,(bal (bs (bs (bt (ba _ _) a) (vQ _) _) (vQ _) _) _).drew⟩
end
section
open Go.RowKit Ds
theorem right_any (u d:Int)(b:Bool)(j:Rt.rQ u d=b)(w:World) :
  Calls prog 132 #[rv u d] w (iQ w (.bool b)):=by
 have g:=qQ j;clear j;by_cases c:0<=u/\u<=1073741824/\1<=d/\d<=1073741824
 ·obtain⟨c1,c2,c3,c4⟩:=c
  obtain⟨x,rfl⟩:=nY c1;obtain⟨y,rfl⟩:=nY (show 0<=d by omega)
  have a:b=(((Nat.gcd x y:Nat):Int) == 1):=by
   rw[<-g.out];unfold Rt.rQ;rw[Bool.eq_iff_iff];simp[Rt.mx];omega
  subst a;clear g;go_enter func132,ntmps132;go_wp2_with (go_at_call 175;refine(jT _ _ (by omega) (by omega) _).mono ?_;rintro e w' ⟨rfl,i⟩);go_ret;exact⟨rfl,bt (ba _ _) i⟩
 ·have a:b=false:=by
   rw[<-g.out];unfold Rt.rQ Rt.mx;exact lZ (fun h=>c ⟨h.1,h.2.1,h.2.2.1,h.2.2.2.1⟩)
  subst a;clear g;by_cases c1:u<0
  ·clear c
   go_enter func132,ntmps132;go_wp2;go_ret;exact⟨rfl,ba _ _⟩
  by_cases c2:1073741824<u
  ·clear c
   go_enter func132,ntmps132;go_wp2;go_ret;exact⟨rfl,ba _ _⟩
  by_cases c3:d<1
  ·clear c
   go_enter func132,ntmps132;go_wp2;go_ret;exact⟨rfl,ba _ _⟩
  ·have c4:1073741824<d:=by omega
   clear c;go_enter func132,ntmps132;go_wp2;go_ret;exact⟨rfl,ba _ _⟩
theorem cnX (a b c d:Int)(p q:Nat)(w:World)(a1:0<=a)(a2:a<=1073741824)(b1:1<=b)(b2:b<=1073741824)(c1:0<=c)(c2:c<=1073741824)(d1:1<=d)(d2:d<=1073741824)
  (h:w.cell? ⟨p,0,none⟩=some (int i64 a)) (i:w.cell? ⟨p,1,none⟩=some (int i64 b)) (j:w.cell? ⟨q,0,none⟩=some (int i64 c)) (k:w.cell? ⟨q,1,none⟩=some (int i64 d)) :
  Calls prog 184 #[.pointer (some ⟨p,0,none⟩),.pointer (some ⟨q,0,none⟩)] w (iQ w (.tuple #[int i64 (a*c),int i64 (b*d)])):=by
 obtain⟨l,m⟩:=Rt.nJ a1 a2 c1 c2;obtain⟨o,v⟩:=Rt.nJ (a:=b) (b:=d) (by omega) b2 (by omega) d2;obtain⟨y,z⟩:=Rt.nJ (a:=a) (b:=d) (by omega) a2 (by omega) d2;obtain⟨A,B⟩:=Rt.nJ (a:=c) (b:=b) (by omega) c2 (by omega) b2;obtain⟨C,g⟩:=Rt.nJ (a:=b) (b:=c) (by omega) b2 (by omega) c2;go_enter func184,ntmps184;go_wp2;go_quiet (fail);go_wp2;go_ret2;exact⟨rfl,below_drewN (uQ _ _) _⟩
theorem cnZ (a b c d n m e:Int)(r1:Rt.rQ a b=true)(A:Rt.rQ c d=true)(C:Rt.qG (a*c) (b*d)=(n,m,e))(p q:Nat)(w:World)(D:p<w.heap.size)(E:q<w.heap.size)
  (L:w.cell? ⟨p,0,none⟩=some (int i64 a)) (M:w.cell? ⟨p,1,none⟩=some (int i64 b)) (N:w.cell? ⟨q,0,none⟩=some (int i64 c)) (O:w.cell? ⟨q,1,none⟩=some (int i64 d)) :
  Calls prog 183 #[rv a b,rv c d,.func (.func 184) #[] #[.pointer (some ⟨p,0,none⟩),.pointer (some ⟨q,0,none⟩)]] w (iQ w (.tuple #[rv n m,int i64 e])):=by
 have G:=qQ C;have H:=qQ r1;have I:=qQ A;obtain⟨a1,a2,b1,b2⟩:=Rt.vF r1;obtain⟨c1,c2,d1,d2⟩:=Rt.vF A;clear r1 A C;obtain⟨S,T⟩:=Rt.nJ a1 a2 c1 c2;obtain⟨U,V⟩:=Rt.nJ (a:=b) (b:=d) (by omega) b2 (by omega) d2;obtain⟨X,Y⟩:=Rt.nJ (a:=a) (b:=d) (by omega) a2 (by omega) d2;obtain⟨Z,p8⟩:=Rt.nJ (a:=c) (b:=b) (by omega) c2 (by omega) b2;obtain⟨p9,P⟩:=Rt.nJ (a:=b) (b:=c) (by omega) b2 (by omega) c2;go_enter func183,ntmps183;go_wp2_with fail;refine(right_any a b true H.out _).mono ?_;rintro e1 w1 ⟨rfl,g⟩;obtain⟨o,z⟩:=bcell g;go_wp2_with fail;refine(right_any c d true I.out _).mono ?_;rintro e2 w2 ⟨rfl,i⟩;have l:=bt g i;clear o z g i;have h:=bt (bal (bal (ba _ _) _) _) l;go_wp2_with fail;refine(cnX a b c d p q _ a1 a2 b1 b2 c1 c2 d1 d2 ((h.cell (p:=⟨p,0,none⟩) D).trans L) ((h.cell (p:=⟨p,1,none⟩) D).trans M) ((h.cell (p:=⟨q,0,none⟩) E).trans N) ((h.cell (p:=⟨q,1,none⟩) E).trans O)).mono ?_;rintro Q w3 ⟨rfl,j⟩;go_wp2_with fail;refine(cnQ (a*c) (b*d) n m e (by omega) (by omega) G.out _).mono ?_;rintro R w4 ⟨rfl,k⟩;have B:=bt (bt l j) k;have F:=bt (bal (bal (ba _ _) _) _) B;clear l j k h;obtain⟨y,J⟩:=bcell B;go_wp2_with fail;exact eQ (v:=.tuple #[rv n m,int i64 e]) (by simp[results,results183,go_sem,y]) rfl ⟨rfl,bs (bs F (by simp;omega) _) (by simp;omega) _⟩
theorem cnJ (a b c d:Int)(f:Value)(h:Rt.rQ a b=false\/(Rt.rQ a b=true/\Rt.rQ c d=false))(w:World) :
  Calls prog 183 #[rv a b,rv c d,f] w (iQ w (.tuple #[rv 0 0,int i64 2])):=by
 rcases h with r1|⟨r1,o⟩
 ·have l:Hid (Rt.rQ a b=false):=r1
  clear r1;go_enter func183,ntmps183;go_wp2_with fail;refine(right_any a b false l.out _).mono ?_;rintro e1 A ⟨rfl,g⟩;have p:=bt (bal (bal (ba _ _) _) _) g;obtain⟨i,j⟩:=bcell g;go_wp2_with fail;exact eQ (v:=.tuple #[rv 0 0,int i64 2]) (by simp[results,results183,go_sem,i]) rfl ⟨rfl,bs (bs p (by simp;omega) _) (by simp;omega) _⟩
 ·have l:Hid (Rt.rQ a b=true):=r1
  have z:=qQ o;clear r1 o;go_enter func183,ntmps183;go_wp2_with fail;refine(right_any a b true l.out _).mono ?_;rintro e1 A ⟨rfl,g⟩;obtain⟨i,j⟩:=bcell g;go_wp2_with fail;refine(right_any c d false z.out _).mono ?_;rintro e2 B ⟨rfl,k⟩;have m:=bt g k;clear i j g k;have y:=bt (bal (bal (ba _ _) _) _) m;obtain⟨i,j⟩:=bcell m;go_wp2_with fail;exact eQ (v:=.tuple #[rv 0 0,int i64 2]) (by simp[results,results183,go_sem,i]) rfl ⟨rfl,bs (bs y (by simp;omega) _) (by simp;omega) _⟩
theorem times_any (a b c d n m e:Int)(h:Rt.eG a b c d=(n,m,e))(w:World) :
  Calls prog 157 #[rv a b,rv c d] w (iQ w (.tuple #[rv n m,int i64 e])):=by
 have H:=qQ h;clear h;by_cases r:Rt.rQ a b=true/\Rt.rQ c d=true
 ·obtain⟨r1,l⟩:=r
  have o:Rt.qG (a*c) (b*d)=(n,m,e):=by rw[<-H.out];unfold Rt.eG;rw[jQ ⟨r1,l⟩]
  have z:=qQ o;have A:=qQ r1;have B:=qQ l;clear o r1 l H;go_enter func157,ntmps157;go_wp2_with fail;refine(cnZ a b c d n m e A.out B.out z.out w.heap.size (w.heap.size+1) _ (by simp <;> omega) (by simp <;> omega) (by simp[go_sem]) (by simp[go_sem]) (by simp[go_sem]) (by simp[go_sem])).mono ?_;rintro e1 C ⟨rfl,g⟩;have j:=bt (bal (bal (ba _ _) _) _) g;obtain⟨i,k⟩:=bcell g;go_wp2_with fail;exact eQ (v:=.tuple #[rv n m,int i64 e]) (by simp[results,results157,go_sem,i]) rfl ⟨rfl,bs (bs j (by simp;omega) _) (by simp;omega) _⟩
 ·have p:(0,0,2)=(n,m,e):=by rw[<-H.out];unfold Rt.eG;rw[zQ r]
  simp only[cQ] at p;obtain⟨rfl,rfl,rfl⟩:=p
  have y:Rt.rQ a b=false\/(Rt.rQ a b=true/\Rt.rQ c d=false):=by
   cases h1:Rt.rQ a b <;> cases h2:Rt.rQ c d <;> simp_all
  have R:=qQ y;clear r y H;go_enter func157,ntmps157;go_wp2_with fail;refine(cnJ a b c d _ R.out _).mono ?_;rintro e1 C ⟨rfl,g⟩;have j:=bt (bal (bal (ba _ _) _) _) g;obtain⟨i,k⟩:=bcell g;go_wp2_with fail;exact eQ (v:=.tuple #[rv 0 0,int i64 2]) (by simp[results,results157,go_sem,i]) rfl ⟨rfl,bs (bs j (by simp;omega) _) (by simp;omega) _⟩
end
namespace K.P
open Go.RowKit
abbrev rv (n m:Int):Value:=.agg #[int i64 n,int i64 m]
theorem bcell (a:xQ W w1):(∀ b o,b<W.heap.size->w1.cell? ⟨b,o,none⟩=W.cell? ⟨b,o,none⟩)/\(∀ b o,b<W.heap.size->w1.frozen? ⟨b,o,none⟩=W.frozen? ⟨b,o,none⟩) :=
 ⟨fun b o h=>a.cell (p:=⟨b,o,none⟩) h,fun b o h=>a.frozen (p:=⟨b,o,none⟩) h⟩
theorem bt (h:xQ w w1)(k:xQ w1 w2):xQ w w2:=h.trans (k.mono h.size)
theorem ba (w:World)(o:Obj):xQ w (w.alloc o):=(uQ _ _).alloc (vQ _) o
theorem bs (h:xQ w w1)(a:w.heap.size<=p.block)(u:Value):xQ w (w1.setCell p u):=h.setCell a u
theorem bal (h:xQ w w1)(o:Obj):xQ w (w1.alloc o):=h.alloc h.size o
theorem right_any:type_of% @Go.Proofs.YtcaplmodgbpchaaGreatDoor.right_any:=@Go.Proofs.YtcaplmodgbpchaaGreatDoor.right_any
theorem times_any:type_of% @Go.Proofs.YtcaplmodgbpchaaGreatDoor.times_any:=@Go.Proofs.YtcaplmodgbpchaaGreatDoor.times_any
theorem tE (a:Int)(w:World):Calls prog 249 #[int i64 a] w fun x w'=>x=.returned (.bool false)/\w' = w:=by
 go_enter func249,ntmps249;go_wp2;go_ret;exact⟨rfl,rfl⟩
theorem sE (a b k:Int)(h:(if a<b then -1 else if b<a then 1 else 0)=k)(w:World):Calls prog 242 #[int i64 a,int i64 b] w fun x w'=>x=.returned (int i64 k)/\w' = w:=by
 have H:=qQ h;clear h;by_cases c1:a<b
 ·have g:-1=k:=by rw[<-H.out,jQ c1]
  subst g;clear H;go_enter func242,ntmps242;go_wp2_with (go_at_call 249;refine(tE _ _).mono ?_;rintro e w' ⟨rfl,rfl⟩);go_ret;exact⟨rfl,rfl⟩
 by_cases c2:b<a
 ·have g:1=k:=by rw[<-H.out,zQ c1,jQ c2]
  subst g;clear H;go_enter func242,ntmps242;go_wp2_with (go_at_call 249;refine(tE _ _).mono ?_;rintro e w' ⟨rfl,rfl⟩);go_ret;exact⟨rfl,rfl⟩
 ·have g:0=k:=by rw[<-H.out,zQ c1,zQ c2]
  subst g;clear H;go_enter func242,ntmps242;go_wp2_with (go_at_call 249;refine(tE _ _).mono ?_;rintro e w' ⟨rfl,rfl⟩);go_ret;exact⟨rfl,rfl⟩
theorem mN (a b c d k e:Int)(h:Rt.jM a b c d=(k,e))(w:World) :
  Calls prog 219 #[rv a b,rv c d] w (iQ w (.tuple #[int i64 k,int i64 e])):=by
 have H:=qQ h;clear h;by_cases r:Rt.rQ a b=true/\Rt.rQ c d=true
 ·obtain⟨r1,o⟩:=r
  have y:=H.out;unfold Rt.jM at y;rw[jQ ⟨r1,o⟩] at y;simp only[cQ] at y;obtain⟨B,rfl⟩:=y;have E:=qQ B;have m:=qQ r1;have v:=qQ o;clear B r1 o H;obtain⟨a1,a2,b1,b2⟩:=Rt.vF m.out;obtain⟨c1,c2,d1,d2⟩:=Rt.vF v.out;obtain⟨N,O⟩:=Rt.nJ a1 a2 c1 c2;obtain⟨P,Q⟩:=Rt.nJ (a:=b) (b:=d) (by omega) b2 (by omega) d2;obtain⟨R,S⟩:=Rt.nJ (a:=a) (b:=d) (by omega) a2 (by omega) d2;obtain⟨T,U⟩:=Rt.nJ (a:=c) (b:=b) (by omega) c2 (by omega) b2;obtain⟨V,I⟩:=Rt.nJ (a:=b) (b:=c) (by omega) b2 (by omega) c2;go_enter func219,ntmps219;go_wp2_with fail;refine(right_any a b true m.out _).mono ?_;rintro e1 C ⟨rfl,g⟩;obtain⟨j,l⟩:=bcell g;go_wp2_with fail;refine(right_any c d true v.out _).mono ?_;rintro e2 L ⟨rfl,i⟩;have p:=bt g i;clear j l g i;obtain⟨F,G⟩:=bcell p;have D:=bt (bal (ba _ _) _) p;go_wp2_with fail;refine(sE (a*d) (c*b) k E.out _).mono ?_;rintro M X ⟨rfl,rfl⟩;go_wp2_with fail;go_ret2;exact⟨rfl,D⟩
 ·have z:=H.out
  unfold Rt.jM at z;rw[zQ r] at z;simp only[cQ] at z;obtain⟨rfl,rfl⟩:=z
  have J:Rt.rQ a b=false\/(Rt.rQ a b=true/\Rt.rQ c d=false):=by
   cases h1:Rt.rQ a b <;> cases h2:Rt.rQ c d <;> simp_all
  clear r H;rcases J with r1|⟨r1,o⟩
  ·have m:Hid (Rt.rQ a b=false):=r1
   clear r1;go_enter func219,ntmps219;go_wp2_with fail;refine(right_any a b false m.out _).mono ?_;rintro e1 C ⟨rfl,g⟩;have A:=bt (bal (ba _ _) _) g;obtain⟨j,l⟩:=bcell g;go_wp2_with fail;go_ret2;exact⟨rfl,A⟩
  ·have m:Hid (Rt.rQ a b=true):=r1
   have v:=qQ o;clear r1 o;go_enter func219,ntmps219;go_wp2_with fail;refine(right_any a b true m.out _).mono ?_;rintro e1 C ⟨rfl,g⟩;obtain⟨j,l⟩:=bcell g;go_wp2_with fail;refine(right_any c d false v.out _).mono ?_;rintro e2 L ⟨rfl,i⟩;have p:=bt g i;clear j l g i;have A:=bt (bal (ba _ _) _) p;obtain⟨j,l⟩:=bcell p;go_wp2_with fail;go_ret2;exact⟨rfl,A⟩

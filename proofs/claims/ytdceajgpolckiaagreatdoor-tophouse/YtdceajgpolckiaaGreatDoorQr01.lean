import Derived.Test.YtdceajgpolckiaaGreatDoorQr00
open Go.Proofs.Tryz
set_option linter.unusedSimpArgs false
set_option maxHeartbeats 16000000
set_option maxRecDepth 100000
namespace Go.Proofs.YtdceajgpolckiaaGreatDoor
variable {o x y z:List Int} {M g:Int}
namespace Ds
abbrev Pt:=List Int × Int
def nX:List Int->List Int->Int
 | [],[]=>0
 | [],_::_=>-1
 | _::_,[]=>1
 | a::x,b::y=>if a<b then -1 else if b<a then 1 else nX x y
theorem bT (x y:List Int):nX y x = - nX x y:=by
 induction x generalizing y with
 | nil=>cases y <;> simp[nX]
 | cons a x ih=>cases y with
  | nil=>simp[nX]
  | cons b y =>
   simp only[nX];by_cases h1:a<b
   ·simp[h1,Int.not_lt.2 (bF h1)]
   ·by_cases h2:b<a
    ·simp[h1,h2]
    ·simp[h1,h2,ih y]
theorem sE (x:List Int):nX x x=0:=by
 have:=bT x x;omega
theorem dH (x y:List Int):nX x y=0↔x=y:=by
 constructor
 ·intro h
  induction x generalizing y with
  | nil=>cases y with | nil=>rfl | cons b y=>simp[nX] at h
  | cons a x ih=>cases y with
   | nil=>simp[nX] at h
   | cons b y =>
    simp only[nX] at h;by_cases h1:a<b
    ·simp[h1] at h
    ·by_cases h2:b<a
     ·simp[h1,h2] at h
     ·simp[h1,h2] at h
      rw[ih y h,show a=b by omega]
 ·rintro rfl;exact sE x
abbrev sJ (x y:List Int):Prop:=nX x y<0
theorem apJ (x:List Int):¬ sJ x x:=by unfold sJ;rw[sE];omega
theorem cF (h:sJ x y)(k:sJ y z):sJ x z:=by
 unfold sJ at *
 induction x generalizing y z with
 | nil=>cases z with
  | nil=>cases y <;> simp[nX] at *
  | cons c z=>simp[nX]
 | cons a x ih=>cases y with
  | nil=>simp[nX] at h
  | cons b y=>cases z with
   | nil=>simp[nX] at k
   | cons c z =>
    simp only[nX] at *
    by_cases h1:a<b
    ·have:a<c:=by
      by_cases h3:b<c;· omega
      ·by_cases h4:c<b
       ·simp[h3,h4] at k
       ·omega
     simp[this]
    ·by_cases h2:b<a
     ·simp[h1,h2] at h
     ·simp[h1,h2] at h
      have:a=b:=by omega
      subst this;by_cases h3:a<c;· simp[h3]
      ·by_cases h4:c<a
       ·simp[h3,h4] at k
       ·simp[h3,h4] at k ⊢
        exact ih h k
theorem eH (h:sJ x y):x≠y:=by rintro rfl;exact apJ _ h
theorem cT (x y:List Int):sJ x y\/x=y\/sJ y x:=by
 unfold sJ;rw[<-dH x y,bT x y];omega
def wt:List Pt->List Int->Int
 | [],_=>0
 | p::l,o=>(if p.1=o then p.2 else 0)+wt l o
@[simp] theorem caQ (o:List Int):wt [] o=0:=rfl
theorem eJ (p:Pt)(l:List Pt)(o:List Int):wt (p::l) o=(if p.1=o then p.2 else 0)+wt l o:=rfl
theorem fL (l k:List Pt)(o:List Int):wt (l++k) o=wt l o+wt k o:=by
 induction l with
 | nil=>simp
 | cons p l ih=>simp only[qG,eJ,ih];omega
theorem caX {l k:List Pt}(h:l.Perm k)(o:List Int):wt l o=wt k o:=by
 induction h with
 | nil=>rfl
 | cons x _ ih=>simp only[eJ,ih]
 | swap x y l=>simp only[eJ];omega
 | trans _ _ h1 h2=>exact h1.trans h2
def tot:List Pt->Int
 | []=>0
 | p::l=>p.2+tot l
@[simp] theorem aqQ:tot []=0:=rfl
theorem iZ (p:Pt)(l:List Pt):tot (p::l)=p.2+tot l:=rfl
theorem dK (l k:List Pt):tot (l++k)=tot l+tot k:=by
 induction l with
 | nil=>simp
 | cons p l ih=>simp only[qG,iZ,ih];omega
def cZ (l:List Pt):Prop:=l.Pairwise fun p q=>sJ p.1 q.1
def jZ (l:List Pt):Prop:=∀ p∈l,0<p.2
theorem jR {l:List Pt}(h:∀ p∈l,p.1≠o):wt l o=0:=by
 induction l with
 | nil=>rfl
 | cons p l ih =>
  rw[eJ,xQ (h p (by simp)),ih fun q hq=>h q (by simp[hq])];omega
theorem iM {p:Pt}{l:List Pt}(h:cZ (p::l)):wt (p::l) p.1=p.2:=by
 rw[eJ,zQ rfl,jR fun q hq=>(eH ((iY.1 h).1 q hq)).symm];omega
theorem gD {p:Pt}{l:List Pt}(h:cZ (p::l)):cZ l:=(iY.1 h).2
theorem caZ {l k:List Pt}(hl:cZ l)(pl:jZ l)(hk:cZ k)(pk:jZ k)(h:∀ o,wt l o=wt k o):l=k:=by
 induction l generalizing k with
 | nil=>cases k with
  | nil=>rfl
  | cons q k=>have:=h q.1;rw[iM hk] at this;have:=pk q (by simp);simp at *;omega
 | cons p l ih=>cases k with
  | nil=>have:=h p.1;rw[iM hl] at this;have:=pl p (by simp);simp at *;omega
  | cons q k =>
   have e:p.1=q.1:=by
    rcases cT p.1 q.1 with c|c|c
    ·have:=h p.1
     rw[iM hl,jR] at this
     ·have:=pl p (by simp);omega
     ·intro r hr
      rcases fX.1 hr with rfl|hr
      ·exact(eH c).symm
      ·exact(eH (cF c ((iY.1 hk).1 r hr))).symm
    ·exact c
    ·have:=h q.1
     rw[iM hk,jR] at this
     ·have:=pk q (by simp);omega
     ·intro r hr
      rcases fX.1 hr with rfl|hr
      ·exact(eH c).symm
      ·exact(eH (cF c ((iY.1 hl).1 r hr))).symm
   have e2:p.2=q.2:=by
    have:=h p.1;rw[iM hl,e,iM hk] at this;exact this
   have epq:p=q:=vI e e2;subst epq
   rw[ih (gD hl) (fun r hr=>pl r (by simp[hr])) (gD hk) (fun r hr=>pk r (by simp[hr])) fun o=>by
    have:=h o;simp only[eJ] at this;omega]
def ins (p:Pt):List Pt->List Pt
 | []=>[p]
 | q::l=>if sJ p.1 q.1 then p::q::l else if p.1=q.1 then (q.1,q.2+p.2)::l else q::ins p l
theorem caJ {p r:Pt}{l:List Pt}(h:r∈ins p l):r.1=p.1\/∃ q∈l,r.1=q.1:=by
 induction l with
 | nil=>simp[ins] at h;exact .inl (by rw[h])
 | cons q l ih =>
  simp only[ins] at h;split at h
  ·rcases fX.1 h with rfl|h
   ·exact .inl rfl
   ·exact .inr ⟨r,h,rfl⟩
  ·split at h
   ·rcases fX.1 h with rfl|h
    ·exact .inr ⟨q,by simp,rfl⟩
    ·exact .inr ⟨r,by simp[h],rfl⟩
   ·rcases fX.1 h with rfl|h
    ·exact .inr ⟨r,by simp,rfl⟩
    ·rcases ih h with h|⟨s,hs,e⟩
     ·exact .inl h
     ·exact .inr ⟨s,by simp[hs],e⟩
theorem cbQ {p:Pt}{l:List Pt}(h:cZ l):cZ (ins p l):=by
 induction l with
 | nil=>simp[ins,cZ]
 | cons q l ih =>
  have h':=iY.1 h;simp only[ins];split
  ·rename_i c
   refine iY.2 ⟨fun r hr=>?_,h⟩;rcases fX.1 hr with rfl|hr
   ·exact c
   ·exact cF c (h'.1 r hr)
  ·split
   ·exact iY.2 ⟨fun r hr=>h'.1 r hr,h'.2⟩
   ·rename_i c1 c2
    have c3:sJ q.1 p.1:=by rcases cT p.1 q.1 with c|c|c <;> first|exact absurd c c1|exact absurd c c2|exact c
    refine iY.2 ⟨fun r hr=>?_,ih h'.2⟩;rcases caJ hr with e|⟨s,hs,e⟩
    ·rw[e];exact c3
    ·rw[e];exact h'.1 s hs
theorem cbX (p:Pt)(l:List Pt)(o:List Int):wt (ins p l) o=(if p.1=o then p.2 else 0)+wt l o:=by
 induction l with
 | nil=>simp[ins,eJ]
 | cons q l ih =>
  simp only[ins];split
  ·simp only[eJ]
  ·split
   ·rename_i c
    simp only[eJ,c];split <;> omega
   ·simp only[eJ,ih];omega
theorem cbZ {p:Pt}{l:List Pt}(hp:0<p.2)(h:jZ l):jZ (ins p l):=by
 induction l with
 | nil=>intro r hr;simp[ins] at hr;rw[hr];exact hp
 | cons q l ih =>
  simp only[ins];have hq:=h q (by simp);have hl:jZ l:=fun r hr=>h r (by simp[hr]);split
  ·intro r hr
   rcases fX.1 hr with rfl|hr
   ·exact hp
   ·exact h r hr
  ·split
   ·intro r hr
    rcases fX.1 hr with rfl|hr
    ·show 0<q.2+p.2;omega
    ·exact hl r hr
   ·intro r hr
    rcases fX.1 hr with rfl|hr
    ·exact hq
    ·exact ih hl r hr
def gath:List Pt->List Pt
 | []=>[]
 | p::l=>if p.2=0 then gath l else ins p (gath l)
theorem vR (l:List Pt):cZ (gath l):=by
 induction l with
 | nil=>simp[gath,cZ]
 | cons p l ih=>simp only[gath];split <;> first | exact ih | exact cbQ ih
theorem dT (l:List Pt)(o:List Int):wt (gath l) o=wt l o:=by
 induction l with
 | nil=>rfl
 | cons p l ih =>
  simp only[gath];split
  ·rename_i c;rw[eJ,ih,c];split <;> omega
  ·rw[cbX,eJ,ih]
theorem yR {l:List Pt}(h:∀ p∈l,0<=p.2):jZ (gath l):=by
 induction l with
 | nil=>simp[gath,jZ]
 | cons p l ih =>
  have h1:=ih fun q hq=>h q (by simp[hq]);simp only[gath];split
  ·exact h1
  ·have:=h p (by simp)
   exact cbZ (by omega) h1
theorem tE {l k:List Pt}(h:∀ p∈l,0<=p.2)(r:cZ k)(p:jZ k)(e:∀ o,wt k o=wt l o):gath l=k :=
 caZ (vR l) (yR h) r p fun o=>by rw[dT,e]
def dv:List Pt->Nat
 | []=>0
 | p::l=>Nat.gcd (dv l) p.2.natAbs
def iD (g:Nat):List Pt->Nat
 | []=>g
 | p::l=>iD (Nat.gcd g p.2.natAbs) l
theorem aqX (g:Nat)(l:List Pt):iD g l=Nat.gcd g (dv l):=by
 induction l generalizing g with
 | nil=>simp[iD,dv]
 | cons p l ih =>
  simp only[iD,dv,ih];rw[Nat.gcd_assoc,Nat.gcd_comm (dv l)]
theorem aqZ {l:List Pt}{p:Pt}(h:p∈l):dv l ∣ p.2.natAbs:=by
 induction l with
 | nil=>cases h
 | cons q l ih =>
  rcases fX.1 h with rfl|h
  ·exact Nat.gcd_dvd_right _ _
  ·exact Nat.dvd_trans (Nat.gcd_dvd_left _ _) (ih h)
theorem eT {l:List Pt}(h:jZ l)(hne:l≠[]):0<dv l:=by
 cases l with
 | nil=>exact absurd rfl hne
 | cons p l=>exact Nat.gcd_pos_of_pos_right _ (by have:=h p (by simp);omega)
def cut (g:Int) (l:List Pt):List Pt:=l.map fun p=>(p.1,p.2 / g)
@[simp] theorem cbJ (g:Int) (l:List Pt):(cut g l).length=l.length:=by simp[cut]
def bU (l:List Pt):List Pt × Int :=
 if l=[] then ([],6) else if 1073741824<tot (cut (dv l) l)\/4096<l.length then ([],4) else (cut (dv l) l,0)
def uI (n:Int):Bool:=decide (-1073741824<=n/\n<=1073741824)
def okO (x:List Int):Bool:=decide (x.length<=16) && x.all uI
def tJ (p:Pt):Bool:=decide (0<=p.2/\p.2<=1073741824) && okO p.1
def uY (l:List Pt):List Pt × Int:=if l.all tJ then bU (gath l) else ([],3)
theorem ccQ {l:List Pt}(h:jZ l):0<=tot l:=by
 induction l with
 | nil=>simp
 | cons p l ih=>have:=ih fun q hq=>h q (by simp[hq]);have:=h p (by simp);rw[iZ];omega
theorem ccX {l:List Pt}(h:∀ p∈l,p.2<=M):tot l<=l.length*M:=by
 induction l with
 | nil=>simp
 | cons p l ih =>
  have h1:=ih fun q hq=>h q (by simp[hq]);have h2:=h p (by simp);rw[iZ,pJ,zT,gP];omega
theorem ccZ (p:Pt)(l:List Pt):tot (ins p l)=p.2+tot l:=by
 induction l with
 | nil=>simp[ins,iZ]
 | cons q l ih =>
  simp only[ins];split
  ·simp only[iZ]
  ·split
   ·simp only[iZ];omega
   ·simp only[iZ,ih];omega
theorem qW (l:List Pt):tot (gath l)=tot l:=by
 induction l with
 | nil=>rfl
 | cons p l ih =>
  simp only[gath];split
  ·rw[iZ,ih];omega
  ·rw[ccZ,iZ,ih]
theorem ccJ {l:List Pt}(h:∀ p∈l,g ∣ p.2):tot (cut g l)=tot l / g:=by
 induction l with
 | nil=>simp[cut]
 | cons p l ih =>
  have h1:=ih fun q hq=>h q (by simp[hq]);simp only[cut,xV,iZ] at *
  rw[h1,Int.add_ediv_of_dvd_left (h p (by simp))]
theorem fT {l:List Pt}{p:Pt}(h:p∈l):((dv l:Nat):Int) ∣ p.2:=Int.ofNat_dvd_left.2 (aqZ h)

import Derived.Test.YtdceajgpolckiaaGreatDoorQs00
open Go.Proofs.Tryz
set_option linter.unusedSimpArgs false
set_option maxHeartbeats 16000000
set_option maxRecDepth 100000
namespace Go.Proofs.YtdceajgpolckiaaGreatDoor
namespace Ds
abbrev Pt:=List Int × Int
def jZ:List Int->List Int->Int
 | [],[]=>0
 | [],_::_=>-1
 | _::_,[]=>1
 | a::x,b::y=>if a<b then -1 else if b<a then 1 else jZ x y
theorem mC (x y:List Int):jZ y x = - jZ x y:=by
 induction x generalizing y with
 | nil=>cases y <;> simp[jZ]
 | cons a x ih=>cases y with
  | nil=>simp[jZ]
  | cons b y =>
   simp only[jZ];by_cases h1:a<b
   ·simp[h1,Int.not_lt.2 (fN h1)]
   ·by_cases h2:b<a
    ·simp[h1,h2]
    ·simp[h1,h2,ih y]
theorem sN (x:List Int):jZ x x=0:=by
 have:=mC x x;omega
theorem gK (x y:List Int):jZ x y=0↔x=y:=by
 constructor
 ·intro h
  induction x generalizing y with
  | nil=>cases y with | nil=>rfl | cons b y=>simp[jZ] at h
  | cons a x ih=>cases y with
   | nil=>simp[jZ] at h
   | cons b y =>
    simp only[jZ] at h;by_cases h1:a<b
    ·simp[h1] at h
    ·by_cases h2:b<a
     ·simp[h1,h2] at h
     ·simp[h1,h2] at h
      rw[ih y h,show a=b by omega]
 ·rintro rfl;exact sN x
abbrev fV (x y:List Int):Prop:=jZ x y<0
theorem nC (x:List Int):¬ fV x x:=by unfold fV;rw[sN];omega
theorem iK {x y z:List Int}(h:fV x y)(k:fV y z):fV x z:=by
 unfold fV at *
 induction x generalizing y z with
 | nil=>cases z with
  | nil=>cases y <;> simp[jZ] at *
  | cons c z=>simp[jZ]
 | cons a x ih=>cases y with
  | nil=>simp[jZ] at h
  | cons b y=>cases z with
   | nil=>simp[jZ] at k
   | cons c z =>
    simp only[jZ] at *
    by_cases h1:a<b
    ·have:a<c:=by
      by_cases h3:b<c;· omega
      ·by_cases h4:c<b
       ·simp[h3,h4] at k
       ·omega
     simp[this]
    ·by_cases h2:b<a
     ·simp[h1,h2] at h
     ·simp[h1,h2] at h
      have:a=b:=by omega
      subst this;by_cases h3:a<c;· simp[h3]
      ·by_cases h4:c<a
       ·simp[h3,h4] at k
       ·simp[h3,h4] at k ⊢
        exact ih h k
theorem kK {x y:List Int}(h:fV x y):x≠y:=by rintro rfl;exact nC _ h
theorem tN (x y:List Int):fV x y\/x=y\/fV y x:=by
 unfold fV;rw[<-gK x y,mC x y];omega
def wt:List Pt->List Int->Int
 | [],_=>0
 | p::l,o=>(if p.1=o then p.2 else 0)+wt l o
@[simp] theorem a2Q (o:List Int):wt [] o=0:=rfl
theorem tY (p:Pt)(l:List Pt)(o:List Int):wt (p::l) o=(if p.1=o then p.2 else 0)+wt l o:=rfl
theorem wN (l k:List Pt)(o:List Int):wt (l++k) o=wt l o+wt k o:=by
 induction l with
 | nil=>simp
 | cons p l ih=>simp only[kF,tY,ih];omega
theorem a2X {l k:List Pt}(h:l.Perm k)(o:List Int):wt l o=wt k o:=by
 induction h with
 | nil=>rfl
 | cons x _ ih=>simp only[tY,ih]
 | swap x y l=>simp only[tY];omega
 | trans _ _ h1 h2=>exact h1.trans h2
def tot:List Pt->Int
 | []=>0
 | p::l=>p.2+tot l
@[simp] theorem a2Z:tot []=0:=rfl
theorem jV (p:Pt)(l:List Pt):tot (p::l)=p.2+tot l:=rfl
theorem mI (l k:List Pt):tot (l++k)=tot l+tot k:=by
 induction l with
 | nil=>simp
 | cons p l ih=>simp only[kF,jV,ih];omega
def mV (l:List Pt):Prop:=l.Pairwise fun p q=>fV p.1 q.1
def qJ (l:List Pt):Prop:=∀ p∈l,0<p.2
theorem qO {l:List Pt}{o:List Int}(h:∀ p∈l,p.1≠o):wt l o=0:=by
 induction l with
 | nil=>rfl
 | cons p l ih =>
  rw[tY,qQ (h p (by simp)),ih fun q hq=>h q (by simp[hq])];omega
theorem nI {p:Pt}{l:List Pt}(h:mV (p::l)):wt (p::l) p.1=p.2:=by
 rw[tY,zQ rfl,qO fun q hq=>(kK ((cH.1 h).1 q hq)).symm];omega
theorem nR {p:Pt}{l:List Pt}(h:mV (p::l)):mV l:=(cH.1 h).2
theorem a2J {l k:List Pt}(hl:mV l)(pl:qJ l)(hk:mV k)(pk:qJ k)(h:∀ o,wt l o=wt k o):l=k:=by
 induction l generalizing k with
 | nil=>cases k with
  | nil=>rfl
  | cons q k=>have:=h q.1;rw[nI hk] at this;have:=pk q (by simp);simp at *;omega
 | cons p l ih=>cases k with
  | nil=>have:=h p.1;rw[nI hl] at this;have:=pl p (by simp);simp at *;omega
  | cons q k =>
   have e:p.1=q.1:=by
    rcases tN p.1 q.1 with c|c|c
    ·have:=h p.1
     rw[nI hl,qO] at this
     ·have:=pl p (by simp);omega
     ·intro r hr
      rcases kX.1 hr with rfl|hr
      ·exact(kK c).symm
      ·exact(kK (iK c ((cH.1 hk).1 r hr))).symm
    ·exact c
    ·have:=h q.1
     rw[nI hk,qO] at this
     ·have:=pk q (by simp);omega
     ·intro r hr
      rcases kX.1 hr with rfl|hr
      ·exact(kK c).symm
      ·exact(kK (iK c ((cH.1 hl).1 r hr))).symm
   have e2:p.2=q.2:=by
    have:=h p.1;rw[nI hl,e,nI hk] at this;exact this
   have epq:p=q:=Prod.ext e e2;subst epq
   rw[ih (nR hl) (fun r hr=>pl r (by simp[hr])) (nR hk) (fun r hr=>pk r (by simp[hr])) fun o=>by
    have:=h o;simp only[tY] at this;omega]
def ins (p:Pt):List Pt->List Pt
 | []=>[p]
 | q::l=>if fV p.1 q.1 then p::q::l else if p.1=q.1 then (q.1,q.2+p.2)::l else q::ins p l
theorem a3Q {p r:Pt}{l:List Pt}(h:r∈ins p l):r.1=p.1\/∃ q∈l,r.1=q.1:=by
 induction l with
 | nil=>simp[ins] at h;exact .inl (by rw[h])
 | cons q l ih =>
  simp only[ins] at h;split at h
  ·rcases kX.1 h with rfl|h
   ·exact .inl rfl
   ·exact .inr ⟨r,h,rfl⟩
  ·split at h
   ·rcases kX.1 h with rfl|h
    ·exact .inr ⟨q,by simp,rfl⟩
    ·exact .inr ⟨r,by simp[h],rfl⟩
   ·rcases kX.1 h with rfl|h
    ·exact .inr ⟨r,by simp,rfl⟩
    ·rcases ih h with h|⟨s,hs,e⟩
     ·exact .inl h
     ·exact .inr ⟨s,by simp[hs],e⟩
theorem a3X {p:Pt}{l:List Pt}(h:mV l):mV (ins p l):=by
 induction l with
 | nil=>simp[ins,mV]
 | cons q l ih =>
  have h':=cH.1 h;simp only[ins];split
  ·rename_i c
   refine cH.2 ⟨fun r hr=>?_,h⟩;rcases kX.1 hr with rfl|hr
   ·exact c
   ·exact iK c (h'.1 r hr)
  ·split
   ·exact cH.2 ⟨fun r hr=>h'.1 r hr,h'.2⟩
   ·rename_i c1 c2
    have c3:fV q.1 p.1:=by rcases tN p.1 q.1 with c|c|c <;> first|exact absurd c c1|exact absurd c c2|exact c
    refine cH.2 ⟨fun r hr=>?_,ih h'.2⟩;rcases a3Q hr with e|⟨s,hs,e⟩
    ·rw[e];exact c3
    ·rw[e];exact h'.1 s hs
theorem a3Z (p:Pt)(l:List Pt)(o:List Int):wt (ins p l) o=(if p.1=o then p.2 else 0)+wt l o:=by
 induction l with
 | nil=>simp[ins,tY]
 | cons q l ih =>
  simp only[ins];split
  ·simp only[tY]
  ·split
   ·rename_i c
    simp only[tY,c];split <;> omega
   ·simp only[tY,ih];omega
theorem a3J {p:Pt}{l:List Pt}(hp:0<p.2)(h:qJ l):qJ (ins p l):=by
 induction l with
 | nil=>intro r hr;simp[ins] at hr;rw[hr];exact hp
 | cons q l ih =>
  simp only[ins];have hq:=h q (by simp);have hl:qJ l:=fun r hr=>h r (by simp[hr]);split
  ·intro r hr
   rcases kX.1 hr with rfl|hr
   ·exact hp
   ·exact h r hr
  ·split
   ·intro r hr
    rcases kX.1 hr with rfl|hr
    ·show 0<q.2+p.2;omega
    ·exact hl r hr
   ·intro r hr
    rcases kX.1 hr with rfl|hr
    ·exact hq
    ·exact ih hl r hr
def gath:List Pt->List Pt
 | []=>[]
 | p::l=>if p.2=0 then gath l else ins p (gath l)
theorem oR (l:List Pt):mV (gath l):=by
 induction l with
 | nil=>simp[gath,mV]
 | cons p l ih=>simp only[gath];split <;> first | exact ih | exact a3X ih
theorem oC (l:List Pt)(o:List Int):wt (gath l) o=wt l o:=by
 induction l with
 | nil=>rfl
 | cons p l ih =>
  simp only[gath];split
  ·rename_i c;rw[tY,ih,c];split <;> omega
  ·rw[a3Z,tY,ih]
theorem xO {l:List Pt}(h:∀ p∈l,0<=p.2):qJ (gath l):=by
 induction l with
 | nil=>simp[gath,qJ]
 | cons p l ih =>
  have h1:=ih fun q hq=>h q (by simp[hq]);simp only[gath];split
  ·exact h1
  ·have:=h p (by simp)
   exact a3J (by omega) h1
theorem pC {l k:List Pt}(h:∀ p∈l,0<=p.2)(r:mV k)(p:qJ k)(e:∀ o,wt k o=wt l o):gath l=k :=
 a2J (oR l) (xO h) r p fun o=>by rw[oC,e]
def dv:List Pt->Nat
 | []=>0
 | p::l=>Nat.gcd (dv l) p.2.natAbs
def fA (g:Nat):List Pt->Nat
 | []=>g
 | p::l=>fA (Nat.gcd g p.2.natAbs) l
theorem rC (g:Nat)(l:List Pt):fA g l=Nat.gcd g (dv l):=by
 induction l generalizing g with
 | nil=>simp[fA,dv]
 | cons p l ih =>
  simp only[fA,dv,ih];rw[Nat.gcd_assoc,Nat.gcd_comm (dv l)]
theorem sC {l:List Pt}{p:Pt}(h:p∈l):dv l ∣ p.2.natAbs:=by
 induction l with
 | nil=>cases h
 | cons q l ih =>
  rcases kX.1 h with rfl|h
  ·exact Nat.gcd_dvd_right _ _
  ·exact Nat.dvd_trans (Nat.gcd_dvd_left _ _) (ih h)
theorem pR {l:List Pt}(h:qJ l)(hne:l≠[]):0<dv l:=by
 cases l with
 | nil=>exact absurd rfl hne
 | cons p l=>exact Nat.gcd_pos_of_pos_right _ (by have:=h p (by simp);omega)
def cut (g:Int) (l:List Pt):List Pt:=l.map fun p=>(p.1,p.2 / g)
@[simp] theorem a4Q (g:Int) (l:List Pt):(cut g l).length=l.length:=by simp[cut]
def rU (l:List Pt):List Pt × Int :=
 if l=[] then ([],6) else if 1073741824<tot (cut (dv l) l)\/4096<l.length then ([],4) else (cut (dv l) l,0)
def sU (n:Int):Bool:=decide (-1073741824<=n/\n<=1073741824)
def rR (x:List Int):Bool:=decide (x.length<=16) && x.all sU
def pJ (p:Pt):Bool:=decide (0<=p.2/\p.2<=1073741824) && rR p.1
def rJ (l:List Pt):List Pt × Int:=if l.all pJ then rU (gath l) else ([],3)
theorem a4X {l:List Pt}{M:Int}(h:∀ p∈l,p.2<=M):tot l<=l.length*M:=by
 induction l with
 | nil=>simp
 | cons p l ih =>
  have h1:=ih fun q hq=>h q (by simp[hq]);have h2:=h p (by simp);rw[jV,nD,gN,Int.add_mul];omega
theorem a4Z (p:Pt)(l:List Pt):tot (ins p l)=p.2+tot l:=by
 induction l with
 | nil=>simp[ins,jV]
 | cons q l ih =>
  simp only[ins];split
  ·simp only[jV]
  ·split
   ·simp only[jV];omega
   ·simp only[jV,ih];omega
theorem tC (l:List Pt):tot (gath l)=tot l:=by
 induction l with
 | nil=>rfl
 | cons p l ih =>
  simp only[gath];split
  ·rw[jV,ih];omega
  ·rw[a4Z,jV,ih]
theorem a4J {l:List Pt}{g:Int}(h:∀ p∈l,g ∣ p.2):tot (cut g l)=tot l / g:=by
 induction l with
 | nil=>simp[cut]
 | cons p l ih =>
  have h1:=ih fun q hq=>h q (by simp[hq]);simp only[cut,bH,jV] at *
  rw[h1,Int.add_ediv_of_dvd_left (h p (by simp))]
theorem sR {l:List Pt}{p:Pt}(h:p∈l):((dv l:Nat):Int) ∣ p.2:=Int.ofNat_dvd_left.2 (sC h)

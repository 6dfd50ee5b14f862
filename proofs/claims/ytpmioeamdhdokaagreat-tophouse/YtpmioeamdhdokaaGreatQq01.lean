import Derived.Test.YtpmioeamdhdokaaGreatQq00
open Go.Proofs.Tryz
set_option linter.unusedSimpArgs false
set_option maxHeartbeats 16000000
set_option maxRecDepth 100000
namespace Go.Proofs.YtpmioeamdhdokaaGreat
variable {o x y z:List Int} {M g:Int}
namespace Ds
abbrev Pt:=List Int × Int
def nX:List Int->List Int->Int
 | [],[]=>0
 | [],_::_=>-1
 | _::_,[]=>1
 | a::x,b::y=>if a<b then -1 else if b<a then 1 else nX x y
theorem vT (x y:List Int):nX y x = - nX x y:=by
 induction x generalizing y with
 | nil=>cases y <;> simp[nX]
 | cons a x ih=>cases y with
  | nil=>simp[nX]
  | cons b y =>
   simp only[nX];by_cases h1:a<b
   ·simp[h1,Int.not_lt.2 (yF h1)]
   ·by_cases h2:b<a
    ·simp[h1,h2]
    ·simp[h1,h2,ih y]
theorem sE (x:List Int):nX x x=0:=by
 have:=vT x x;omega
theorem uH (x y:List Int):nX x y=0↔x=y:=by
 constructor
 ·intro h
  induction x generalizing y with
  | nil=>cases y with | nil=>rfl | cons b y=>simp[nX] at h
  | cons a x ih=>cases y with
   | nil=>simp[nX] at h
   | cons b y =>
    simp only[nX] at h;by_cases h1:a<b
    ·simp[h1] at h
    ·by_cases h2:b<a
     ·simp[h1,h2] at h
     ·simp[h1,h2] at h
      rw[ih y h,show a=b by omega]
 ·rintro rfl;exact sE x
abbrev tJ (x y:List Int):Prop:=nX x y<0
theorem aoJ (x:List Int):¬ tJ x x:=by unfold tJ;rw[sE];omega
theorem uF (h:tJ x y)(k:tJ y z):tJ x z:=by
 unfold tJ at *
 induction x generalizing y z with
 | nil=>cases z with
  | nil=>cases y <;> simp[nX] at *
  | cons c z=>simp[nX]
 | cons a x ih=>cases y with
  | nil=>simp[nX] at h
  | cons b y=>cases z with
   | nil=>simp[nX] at k
   | cons c z =>
    simp only[nX] at *
    by_cases h1:a<b
    ·have:a<c:=by
      by_cases h3:b<c;· omega
      ·by_cases h4:c<b
       ·simp[h3,h4] at k
       ·omega
     simp[this]
    ·by_cases h2:b<a
     ·simp[h1,h2] at h
     ·simp[h1,h2] at h
      have:a=b:=by omega
      subst this;by_cases h3:a<c;· simp[h3]
      ·by_cases h4:c<a
       ·simp[h3,h4] at k
       ·simp[h3,h4] at k ⊢
        exact ih h k
theorem aH (h:tJ x y):x≠y:=by rintro rfl;exact aoJ _ h
theorem yT (x y:List Int):tJ x y\/x=y\/tJ y x:=by
 unfold tJ;rw[<-uH x y,vT x y];omega
def wt:List Pt->List Int->Int
 | [],_=>0
 | p::l,o=>(if p.1=o then p.2 else 0)+wt l o
@[simp] theorem b8X (o:List Int):wt [] o=0:=rfl
theorem cJ (p:Pt)(l:List Pt)(o:List Int):wt (p::l) o=(if p.1=o then p.2 else 0)+wt l o:=rfl
theorem vL (l k:List Pt)(o:List Int):wt (l++k) o=wt l o+wt k o:=by
 induction l with
 | nil=>simp
 | cons p l ih=>simp only[pA,cJ,ih];omega
theorem b8Z {l k:List Pt}(h:l.Perm k)(o:List Int):wt l o=wt k o:=by
 induction h with
 | nil=>rfl
 | cons x _ ih=>simp only[cJ,ih]
 | swap x y l=>simp only[cJ];omega
 | trans _ _ h1 h2=>exact h1.trans h2
def tot:List Pt->Int
 | []=>0
 | p::l=>p.2+tot l
@[simp] theorem apQ:tot []=0:=rfl
theorem kZ (p:Pt)(l:List Pt):tot (p::l)=p.2+tot l:=rfl
theorem aK (l k:List Pt):tot (l++k)=tot l+tot k:=by
 induction l with
 | nil=>simp
 | cons p l ih=>simp only[pA,kZ,ih];omega
def cZ (l:List Pt):Prop:=l.Pairwise fun p q=>tJ p.1 q.1
def zZ (l:List Pt):Prop:=∀ p∈l,0<p.2
theorem pP {l:List Pt}(h:∀ p∈l,p.1≠o):wt l o=0:=by
 induction l with
 | nil=>rfl
 | cons p l ih =>
  rw[cJ,xQ (h p (by simp)),ih fun q hq=>h q (by simp[hq])];omega
theorem bM {p:Pt}{l:List Pt}(h:cZ (p::l)):wt (p::l) p.1=p.2:=by
 rw[cJ,zQ rfl,pP fun q hq=>(aH ((iY.1 h).1 q hq)).symm];omega
theorem aD {p:Pt}{l:List Pt}(h:cZ (p::l)):cZ l:=(iY.1 h).2
theorem b8J {l k:List Pt}(hl:cZ l)(pl:zZ l)(hk:cZ k)(pk:zZ k)(h:∀ o,wt l o=wt k o):l=k:=by
 induction l generalizing k with
 | nil=>cases k with
  | nil=>rfl
  | cons q k=>have:=h q.1;rw[bM hk] at this;have:=pk q (by simp);simp at *;omega
 | cons p l ih=>cases k with
  | nil=>have:=h p.1;rw[bM hl] at this;have:=pl p (by simp);simp at *;omega
  | cons q k =>
   have e:p.1=q.1:=by
    rcases yT p.1 q.1 with c|c|c
    ·have:=h p.1
     rw[bM hl,pP] at this
     ·have:=pl p (by simp);omega
     ·intro r hr
      rcases eX.1 hr with rfl|hr
      ·exact(aH c).symm
      ·exact(aH (uF c ((iY.1 hk).1 r hr))).symm
    ·exact c
    ·have:=h q.1
     rw[bM hk,pP] at this
     ·have:=pk q (by simp);omega
     ·intro r hr
      rcases eX.1 hr with rfl|hr
      ·exact(aH c).symm
      ·exact(aH (uF c ((iY.1 hl).1 r hr))).symm
   have e2:p.2=q.2:=by
    have:=h p.1;rw[bM hl,e,bM hk] at this;exact this
   have epq:p=q:=zI e e2;subst epq
   rw[ih (aD hl) (fun r hr=>pl r (by simp[hr])) (aD hk) (fun r hr=>pk r (by simp[hr])) fun o=>by
    have:=h o;simp only[cJ] at this;omega]
def ins (p:Pt):List Pt->List Pt
 | []=>[p]
 | q::l=>if tJ p.1 q.1 then p::q::l else if p.1=q.1 then (q.1,q.2+p.2)::l else q::ins p l
theorem b9Q {p r:Pt}{l:List Pt}(h:r∈ins p l):r.1=p.1\/∃ q∈l,r.1=q.1:=by
 induction l with
 | nil=>simp[ins] at h;exact .inl (by rw[h])
 | cons q l ih =>
  simp only[ins] at h;split at h
  ·rcases eX.1 h with rfl|h
   ·exact .inl rfl
   ·exact .inr ⟨r,h,rfl⟩
  ·split at h
   ·rcases eX.1 h with rfl|h
    ·exact .inr ⟨q,by simp,rfl⟩
    ·exact .inr ⟨r,by simp[h],rfl⟩
   ·rcases eX.1 h with rfl|h
    ·exact .inr ⟨r,by simp,rfl⟩
    ·rcases ih h with h|⟨s,hs,e⟩
     ·exact .inl h
     ·exact .inr ⟨s,by simp[hs],e⟩
theorem b9X {p:Pt}{l:List Pt}(h:cZ l):cZ (ins p l):=by
 induction l with
 | nil=>simp[ins,cZ]
 | cons q l ih =>
  have h':=iY.1 h;simp only[ins];split
  ·rename_i c
   refine iY.2 ⟨fun r hr=>?_,h⟩;rcases eX.1 hr with rfl|hr
   ·exact c
   ·exact uF c (h'.1 r hr)
  ·split
   ·exact iY.2 ⟨fun r hr=>h'.1 r hr,h'.2⟩
   ·rename_i c1 c2
    have c3:tJ q.1 p.1:=by rcases yT p.1 q.1 with c|c|c <;> first|exact absurd c c1|exact absurd c c2|exact c
    refine iY.2 ⟨fun r hr=>?_,ih h'.2⟩;rcases b9Q hr with e|⟨s,hs,e⟩
    ·rw[e];exact c3
    ·rw[e];exact h'.1 s hs
theorem b9Z (p:Pt)(l:List Pt)(o:List Int):wt (ins p l) o=(if p.1=o then p.2 else 0)+wt l o:=by
 induction l with
 | nil=>simp[ins,cJ]
 | cons q l ih =>
  simp only[ins];split
  ·simp only[cJ]
  ·split
   ·rename_i c
    simp only[cJ,c];split <;> omega
   ·simp only[cJ,ih];omega
theorem b9J {p:Pt}{l:List Pt}(hp:0<p.2)(h:zZ l):zZ (ins p l):=by
 induction l with
 | nil=>intro r hr;simp[ins] at hr;rw[hr];exact hp
 | cons q l ih =>
  simp only[ins];have hq:=h q (by simp);have hl:zZ l:=fun r hr=>h r (by simp[hr]);split
  ·intro r hr
   rcases eX.1 hr with rfl|hr
   ·exact hp
   ·exact h r hr
  ·split
   ·intro r hr
    rcases eX.1 hr with rfl|hr
    ·show 0<q.2+p.2;omega
    ·exact hl r hr
   ·intro r hr
    rcases eX.1 hr with rfl|hr
    ·exact hq
    ·exact ih hl r hr
def gath:List Pt->List Pt
 | []=>[]
 | p::l=>if p.2=0 then gath l else ins p (gath l)
theorem rP (l:List Pt):cZ (gath l):=by
 induction l with
 | nil=>simp[gath,cZ]
 | cons p l ih=>simp only[gath];split <;> first | exact ih | exact b9X ih
theorem uT (l:List Pt)(o:List Int):wt (gath l) o=wt l o:=by
 induction l with
 | nil=>rfl
 | cons p l ih =>
  simp only[gath];split
  ·rename_i c;rw[cJ,ih,c];split <;> omega
  ·rw[b9Z,cJ,ih]
theorem sP {l:List Pt}(h:∀ p∈l,0<=p.2):zZ (gath l):=by
 induction l with
 | nil=>simp[gath,zZ]
 | cons p l ih =>
  have h1:=ih fun q hq=>h q (by simp[hq]);simp only[gath];split
  ·exact h1
  ·have:=h p (by simp)
   exact b9J (by omega) h1
theorem tE {l k:List Pt}(h:∀ p∈l,0<=p.2)(r:cZ k)(p:zZ k)(e:∀ o,wt k o=wt l o):gath l=k :=
 b8J (rP l) (sP h) r p fun o=>by rw[uT,e]
def dv:List Pt->Nat
 | []=>0
 | p::l=>Nat.gcd (dv l) p.2.natAbs
def bD (g:Nat):List Pt->Nat
 | []=>g
 | p::l=>bD (Nat.gcd g p.2.natAbs) l
theorem apX (g:Nat)(l:List Pt):bD g l=Nat.gcd g (dv l):=by
 induction l generalizing g with
 | nil=>simp[bD,dv]
 | cons p l ih =>
  simp only[bD,dv,ih];rw[Nat.gcd_assoc,Nat.gcd_comm (dv l)]
theorem apZ {l:List Pt}{p:Pt}(h:p∈l):dv l ∣ p.2.natAbs:=by
 induction l with
 | nil=>cases h
 | cons q l ih =>
  rcases eX.1 h with rfl|h
  ·exact Nat.gcd_dvd_right _ _
  ·exact Nat.dvd_trans (Nat.gcd_dvd_left _ _) (ih h)
theorem aT {l:List Pt}(h:zZ l)(hne:l≠[]):0<dv l:=by
 cases l with
 | nil=>exact absurd rfl hne
 | cons p l=>exact Nat.gcd_pos_of_pos_right _ (by have:=h p (by simp);omega)
def cut (g:Int) (l:List Pt):List Pt:=l.map fun p=>(p.1,p.2 / g)
@[simp] theorem caQ (g:Int) (l:List Pt):(cut g l).length=l.length:=by simp[cut]
def bU (l:List Pt):List Pt × Int :=
 if l=[] then ([],6) else if 1073741824<tot (cut (dv l) l)\/4096<l.length then ([],4) else (cut (dv l) l,0)
def vI (n:Int):Bool:=decide (-1073741824<=n/\n<=1073741824)
def okO (x:List Int):Bool:=decide (x.length<=16) && x.all vI
def wJ (p:Pt):Bool:=decide (0<=p.2/\p.2<=1073741824) && okO p.1
def yY (l:List Pt):List Pt × Int:=if l.all wJ then bU (gath l) else ([],3)
theorem caX {l:List Pt}(h:zZ l):0<=tot l:=by
 induction l with
 | nil=>simp
 | cons p l ih=>have:=ih fun q hq=>h q (by simp[hq]);have:=h p (by simp);rw[kZ];omega
theorem caZ {l:List Pt}(h:∀ p∈l,p.2<=M):tot l<=l.length*M:=by
 induction l with
 | nil=>simp
 | cons p l ih =>
  have h1:=ih fun q hq=>h q (by simp[hq]);have h2:=h p (by simp);rw[kZ,oJ,sS,aP];omega
theorem caJ (p:Pt)(l:List Pt):tot (ins p l)=p.2+tot l:=by
 induction l with
 | nil=>simp[ins,kZ]
 | cons q l ih =>
  simp only[ins];split
  ·simp only[kZ]
  ·split
   ·simp only[kZ];omega
   ·simp only[kZ,ih];omega
theorem qW (l:List Pt):tot (gath l)=tot l:=by
 induction l with
 | nil=>rfl
 | cons p l ih =>
  simp only[gath];split
  ·rw[kZ,ih];omega
  ·rw[caJ,kZ,ih]
theorem cbQ {l:List Pt}(h:∀ p∈l,g ∣ p.2):tot (cut g l)=tot l / g:=by
 induction l with
 | nil=>simp[cut]
 | cons p l ih =>
  have h1:=ih fun q hq=>h q (by simp[hq]);simp only[cut,fV,kZ] at *
  rw[h1,Int.add_ediv_of_dvd_left (h p (by simp))]
theorem bT {l:List Pt}{p:Pt}(h:p∈l):((dv l:Nat):Int) ∣ p.2:=Int.ofNat_dvd_left.2 (apZ h)
end Ds
end Go.Proofs.YtpmioeamdhdokaaGreat

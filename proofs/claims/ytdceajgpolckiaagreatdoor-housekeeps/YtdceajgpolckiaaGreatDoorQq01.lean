import Derived.Test.YtdceajgpolckiaaGreatDoorQq00
open Go.Proofs.Tryz
set_option linter.unusedSimpArgs false
set_option maxHeartbeats 16000000
set_option maxRecDepth 100000
namespace Go.Proofs.YtdceajgpolckiaaGreatDoor
namespace Ds
abbrev Pt:=List Int × Int
def lZ:List Int->List Int->Int
 | [],[]=>0
 | [],_::_=>-1
 | _::_,[]=>1
 | a::x,b::y=>if a<b then -1 else if b<a then 1 else lZ x y
theorem aE (x y:List Int):lZ y x = - lZ x y:=by
 induction x generalizing y with
 | nil=>cases y <;> simp[lZ]
 | cons a x ih=>cases y with
  | nil=>simp[lZ]
  | cons b y =>
   simp only[lZ];by_cases h1:a<b
   ·simp[h1,Int.not_lt.2 (zN h1)]
   ·by_cases h2:b<a
    ·simp[h1,h2]
    ·simp[h1,h2,ih y]
theorem tR (x:List Int):lZ x x=0:=by
 have:=aE x x;omega
theorem bN (x y:List Int):lZ x y=0↔x=y:=by
 constructor
 ·intro h
  induction x generalizing y with
  | nil=>cases y with | nil=>rfl | cons b y=>simp[lZ] at h
  | cons a x ih=>cases y with
   | nil=>simp[lZ] at h
   | cons b y =>
    simp only[lZ] at h;by_cases h1:a<b
    ·simp[h1] at h
    ·by_cases h2:b<a
     ·simp[h1,h2] at h
     ·simp[h1,h2] at h
      rw[ih y h,show a=b by omega]
 ·rintro rfl;exact tR x
abbrev cY (x y:List Int):Prop:=lZ x y<0
theorem a7J (x:List Int):¬ cY x x:=by unfold cY;rw[tR];omega
theorem fL {x y z:List Int}(h:cY x y)(k:cY y z):cY x z:=by
 unfold cY at *
 induction x generalizing y z with
 | nil=>cases z with
  | nil=>cases y <;> simp[lZ] at *
  | cons c z=>simp[lZ]
 | cons a x ih=>cases y with
  | nil=>simp[lZ] at h
  | cons b y=>cases z with
   | nil=>simp[lZ] at k
   | cons c z =>
    simp only[lZ] at *
    by_cases h1:a<b
    ·have:a<c:=by
      by_cases h3:b<c;· omega
      ·by_cases h4:c<b
       ·simp[h3,h4] at k
       ·omega
     simp[this]
    ·by_cases h2:b<a
     ·simp[h1,h2] at h
     ·simp[h1,h2] at h
      have:a=b:=by omega
      subst this;by_cases h3:a<c;· simp[h3]
      ·by_cases h4:c<a
       ·simp[h3,h4] at k
       ·simp[h3,h4] at k ⊢
        exact ih h k
theorem iL {x y:List Int}(h:cY x y):x≠y:=by rintro rfl;exact a7J _ h
theorem pO (x y:List Int):cY x y\/x=y\/cY y x:=by
 unfold cY;rw[<-bN x y,aE x y];omega
def wt:List Pt->List Int->Int
 | [],_=>0
 | p::l,o=>(if p.1=o then p.2 else 0)+wt l o
@[simp] theorem a8Q (o:List Int):wt [] o=0:=rfl
theorem mU (p:Pt)(l:List Pt)(o:List Int):wt (p::l) o=(if p.1=o then p.2 else 0)+wt l o:=rfl
theorem rO (l k:List Pt)(o:List Int):wt (l++k) o=wt l o+wt k o:=by
 induction l with
 | nil=>simp
 | cons p l ih=>simp only[fH,mU,ih];omega
theorem a8X {l k:List Pt}(h:l.Perm k)(o:List Int):wt l o=wt k o:=by
 induction h with
 | nil=>rfl
 | cons x _ ih=>simp only[mU,ih]
 | swap x y l=>simp only[mU];omega
 | trans _ _ h1 h2=>exact h1.trans h2
def tot:List Pt->Int
 | []=>0
 | p::l=>p.2+tot l
@[simp] theorem a8Z:tot []=0:=rfl
theorem pV (p:Pt)(l:List Pt):tot (p::l)=p.2+tot l:=rfl
theorem bK (l k:List Pt):tot (l++k)=tot l+tot k:=by
 induction l with
 | nil=>simp
 | cons p l ih=>simp only[fH,pV,ih];omega
def rY (l:List Pt):Prop:=l.Pairwise fun p q=>cY p.1 q.1
def lJ (l:List Pt):Prop:=∀ p∈l,0<p.2
theorem sO {l:List Pt}{o:List Int}(h:∀ p∈l,p.1≠o):wt l o=0:=by
 induction l with
 | nil=>rfl
 | cons p l ih =>
  rw[mU,qQ (h p (by simp)),ih fun q hq=>h q (by simp[hq])];omega
theorem cK {p:Pt}{l:List Pt}(h:rY (p::l)):wt (p::l) p.1=p.2:=by
 rw[mU,xQ rfl,sO fun q hq=>(iL ((qK.1 h).1 q hq)).symm];omega
theorem wR {p:Pt}{l:List Pt}(h:rY (p::l)):rY l:=(qK.1 h).2
theorem a8J {l k:List Pt}(hl:rY l)(pl:lJ l)(hk:rY k)(pk:lJ k)(h:∀ o,wt l o=wt k o):l=k:=by
 induction l generalizing k with
 | nil=>cases k with
  | nil=>rfl
  | cons q k=>have:=h q.1;rw[cK hk] at this;have:=pk q (by simp);simp at *;omega
 | cons p l ih=>cases k with
  | nil=>have:=h p.1;rw[cK hl] at this;have:=pl p (by simp);simp at *;omega
  | cons q k =>
   have e:p.1=q.1:=by
    rcases pO p.1 q.1 with c|c|c
    ·have:=h p.1
     rw[cK hl,sO] at this
     ·have:=pl p (by simp);omega
     ·intro r hr
      rcases yX.1 hr with rfl|hr
      ·exact(iL c).symm
      ·exact(iL (fL c ((qK.1 hk).1 r hr))).symm
    ·exact c
    ·have:=h q.1
     rw[cK hk,sO] at this
     ·have:=pk q (by simp);omega
     ·intro r hr
      rcases yX.1 hr with rfl|hr
      ·exact(iL c).symm
      ·exact(iL (fL c ((qK.1 hl).1 r hr))).symm
   have e2:p.2=q.2:=by
    have:=h p.1;rw[cK hl,e,cK hk] at this;exact this
   have epq:p=q:=Prod.ext e e2;subst epq
   rw[ih (wR hl) (fun r hr=>pl r (by simp[hr])) (wR hk) (fun r hr=>pk r (by simp[hr])) fun o=>by
    have:=h o;simp only[mU] at this;omega]
def ins (p:Pt):List Pt->List Pt
 | []=>[p]
 | q::l=>if cY p.1 q.1 then p::q::l else if p.1=q.1 then (q.1,q.2+p.2)::l else q::ins p l
theorem a9Q {p r:Pt}{l:List Pt}(h:r∈ins p l):r.1=p.1\/∃ q∈l,r.1=q.1:=by
 induction l with
 | nil=>simp[ins] at h;exact .inl (by rw[h])
 | cons q l ih =>
  simp only[ins] at h;split at h
  ·rcases yX.1 h with rfl|h
   ·exact .inl rfl
   ·exact .inr ⟨r,h,rfl⟩
  ·split at h
   ·rcases yX.1 h with rfl|h
    ·exact .inr ⟨q,by simp,rfl⟩
    ·exact .inr ⟨r,by simp[h],rfl⟩
   ·rcases yX.1 h with rfl|h
    ·exact .inr ⟨r,by simp,rfl⟩
    ·rcases ih h with h|⟨s,hs,e⟩
     ·exact .inl h
     ·exact .inr ⟨s,by simp[hs],e⟩
theorem a9X {p:Pt}{l:List Pt}(h:rY l):rY (ins p l):=by
 induction l with
 | nil=>simp[ins,rY]
 | cons q l ih =>
  have h':=qK.1 h;simp only[ins];split
  ·rename_i c
   refine qK.2 ⟨fun r hr=>?_,h⟩;rcases yX.1 hr with rfl|hr
   ·exact c
   ·exact fL c (h'.1 r hr)
  ·split
   ·exact qK.2 ⟨fun r hr=>h'.1 r hr,h'.2⟩
   ·rename_i c1 c2
    have c3:cY q.1 p.1:=by rcases pO p.1 q.1 with c|c|c <;> first|exact absurd c c1|exact absurd c c2|exact c
    refine qK.2 ⟨fun r hr=>?_,ih h'.2⟩;rcases a9Q hr with e|⟨s,hs,e⟩
    ·rw[e];exact c3
    ·rw[e];exact h'.1 s hs
theorem a9Z (p:Pt)(l:List Pt)(o:List Int):wt (ins p l) o=(if p.1=o then p.2 else 0)+wt l o:=by
 induction l with
 | nil=>simp[ins,mU]
 | cons q l ih =>
  simp only[ins];split
  ·simp only[mU]
  ·split
   ·rename_i c
    simp only[mU,c];split <;> omega
   ·simp only[mU,ih];omega
theorem a9J {p:Pt}{l:List Pt}(hp:0<p.2)(h:lJ l):lJ (ins p l):=by
 induction l with
 | nil=>intro r hr;simp[ins] at hr;rw[hr];exact hp
 | cons q l ih =>
  simp only[ins];have hq:=h q (by simp);have hl:lJ l:=fun r hr=>h r (by simp[hr]);split
  ·intro r hr
   rcases yX.1 hr with rfl|hr
   ·exact hp
   ·exact h r hr
  ·split
   ·intro r hr
    rcases yX.1 hr with rfl|hr
    ·show 0<q.2+p.2;omega
    ·exact hl r hr
   ·intro r hr
    rcases yX.1 hr with rfl|hr
    ·exact hq
    ·exact ih hl r hr
def gath:List Pt->List Pt
 | []=>[]
 | p::l=>if p.2=0 then gath l else ins p (gath l)
theorem qS (l:List Pt):rY (gath l):=by
 induction l with
 | nil=>simp[gath,rY]
 | cons p l ih=>simp only[gath];split <;> first | exact ih | exact a9X ih
theorem bE (l:List Pt)(o:List Int):wt (gath l) o=wt l o:=by
 induction l with
 | nil=>rfl
 | cons p l ih =>
  simp only[gath];split
  ·rename_i c;rw[mU,ih,c];split <;> omega
  ·rw[a9Z,mU,ih]
theorem tO {l:List Pt}(h:∀ p∈l,0<=p.2):lJ (gath l):=by
 induction l with
 | nil=>simp[gath,lJ]
 | cons p l ih =>
  have h1:=ih fun q hq=>h q (by simp[hq]);simp only[gath];split
  ·exact h1
  ·have:=h p (by simp)
   exact a9J (by omega) h1
theorem cE {l k:List Pt}(h:∀ p∈l,0<=p.2)(r:rY k)(p:lJ k)(e:∀ o,wt k o=wt l o):gath l=k :=
 a8J (qS l) (tO h) r p fun o=>by rw[bE,e]
def dv:List Pt->Nat
 | []=>0
 | p::l=>Nat.gcd (dv l) p.2.natAbs
def eG (g:Nat):List Pt->Nat
 | []=>g
 | p::l=>eG (Nat.gcd g p.2.natAbs) l
theorem dE (g:Nat)(l:List Pt):eG g l=Nat.gcd g (dv l):=by
 induction l generalizing g with
 | nil=>simp[eG,dv]
 | cons p l ih =>
  simp only[eG,dv,ih];rw[Nat.gcd_assoc,Nat.gcd_comm (dv l)]
theorem eE {l:List Pt}{p:Pt}(h:p∈l):dv l ∣ p.2.natAbs:=by
 induction l with
 | nil=>cases h
 | cons q l ih =>
  rcases yX.1 h with rfl|h
  ·exact Nat.gcd_dvd_right _ _
  ·exact Nat.dvd_trans (Nat.gcd_dvd_left _ _) (ih h)
theorem xS {l:List Pt}(h:lJ l)(hne:l≠[]):0<dv l:=by
 cases l with
 | nil=>exact absurd rfl hne
 | cons p l=>exact Nat.gcd_pos_of_pos_right _ (by have:=h p (by simp);omega)
def cut (g:Int) (l:List Pt):List Pt:=l.map fun p=>(p.1,p.2 / g)
@[simp] theorem baQ (g:Int) (l:List Pt):(cut g l).length=l.length:=by simp[cut]
def jA (l:List Pt):List Pt × Int :=
 if l=[] then ([],6) else if 1073741824<tot (cut (dv l) l)\/4096<l.length then ([],4) else (cut (dv l) l,0)
def mA (n:Int):Bool:=decide (-1073741824<=n/\n<=1073741824)
def zS (x:List Int):Bool:=decide (x.length<=16) && x.all mA
def tV (p:Pt):Bool:=decide (0<=p.2/\p.2<=1073741824) && zS p.1
def gV (l:List Pt):List Pt × Int:=if l.all tV then jA (gath l) else ([],3)
theorem baX {l:List Pt}{M:Int}(h:∀ p∈l,p.2<=M):tot l<=l.length*M:=by
 induction l with
 | nil=>simp
 | cons p l ih =>
  have h1:=ih fun q hq=>h q (by simp[hq]);have h2:=h p (by simp);rw[pV,iF,mR,Int.add_mul];omega
theorem baZ (p:Pt)(l:List Pt):tot (ins p l)=p.2+tot l:=by
 induction l with
 | nil=>simp[ins,pV]
 | cons q l ih =>
  simp only[ins];split
  ·simp only[pV]
  ·split
   ·simp only[pV];omega
   ·simp only[pV,ih];omega
theorem jS (l:List Pt):tot (gath l)=tot l:=by
 induction l with
 | nil=>rfl
 | cons p l ih =>
  simp only[gath];split
  ·rw[pV,ih];omega
  ·rw[baZ,pV,ih]
theorem baJ {l:List Pt}{g:Int}(h:∀ p∈l,g ∣ p.2):tot (cut g l)=tot l / g:=by
 induction l with
 | nil=>simp[cut]
 | cons p l ih =>
  have h1:=ih fun q hq=>h q (by simp[hq]);simp only[cut,qI,pV] at *
  rw[h1,Int.add_ediv_of_dvd_left (h p (by simp))]
theorem vS {l:List Pt}{p:Pt}(h:p∈l):((dv l:Nat):Int) ∣ p.2:=Int.ofNat_dvd_left.2 (eE h)

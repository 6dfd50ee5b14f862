import Derived.Test.YtdceajgpolckiaaGreatDoorQq00
import Derived.Test.YtdceajgpolckiaaGreatDoorRows
import Derived.WalkKit
import Derived.WalkSpells
import Derived.Deep.QuietTactic
import Derived.BigQuiet
import Derived.WalkSmall
import Derived.Laws.IdiomCopy
open Go.Proofs.Tryz
set_option linter.unusedSimpArgs false
set_option maxHeartbeats 16000000
set_option maxRecDepth 100000
namespace Go.Proofs.YtdceajgpolckiaaGreatDoor
namespace K.Ds
end K.Ds
namespace K
open Go.RowKit K.Ds
def zQ (w:World) (B nb:Nat) (v:Value) (xs:List Int):Prop :=
 ∃ a c,v=.slice a xs.length c/\xs.length<=c/\xs.length<=9223372036854775807 /\
  (xs≠[]->∃ b o,a=some ⟨b,o,none⟩/\b<B/\b≠nb/\∀ i x,xs[i]? = some x->w.cell? ⟨b,o+i,none⟩=some (.int .i64 x))
theorem zQ.keep {w w':World}{B nb:Nat}{v:Value}{xs:List Int}(h:zQ w B nb v xs)(hb:Below B w w'):zQ w' B nb v xs:=by
 obtain⟨a,c,hv,hc,hl,hx⟩:=h;refine⟨a,c,hv,hc,hl,fun hne=>?_⟩;obtain⟨b,o,ha,hB,hn,hcell⟩:=hx hne;exact⟨b,o,ha,hB,hn,fun i x hi=>(hb.cell (p:=⟨b,o+i,none⟩) hB).trans (hcell i x hi)⟩
theorem zQ.mono {w:World}{B B' nb nb':Nat}{v:Value}{xs:List Int}(h:zQ w B nb v xs)(hB:B<=B')(hn:nb' = nb\/B<=nb'):zQ w B' nb' v xs:=by
 obtain⟨a,c,hv,hc,hl,hx⟩:=h;refine⟨a,c,hv,hc,hl,fun hne=>?_⟩;obtain⟨b,o,ha,hb,hnb,hcell⟩:=hx hne;exact⟨b,o,ha,by omega,by rcases hn with h|h <;> omega,hcell⟩
theorem wX {α:Type}{l:List α}{i:Nat}(h:i<l.length):∃ x,l[i]? = some x:=⟨l[i],dZ h⟩
theorem ne_of_lt {α:Type}{l:List α}{i:Nat}(h:i<l.length):l≠[]:=by rintro rfl;simp at h
theorem oF {a b:Bool}(h:a=b):Ending.returned (.bool a)=.returned (.bool b):=by rw[h]
end K
namespace K.Ds
abbrev jQ:=ByteArray × Int
def fY (b:UInt8):Bool:=(decide (97<=b.toNat) && decide (b.toNat<=122)) || decide (b.toNat=95)
def yD:List UInt8->Nat
 | []=>0
 | b::r=>if fY b then yD r+1 else 0
def eZ (s:List UInt8):Bool:=decide (1<=s.length) && decide (s.length<=32) && s.all fY
theorem b1Q (l:List UInt8):yD l=l.length↔l.all fY=true:=by
 induction l with
 | nil=>simp[yD]
 | cons b r ih =>
  simp only[yD];by_cases h:fY b
  ·simp[h];exact(Iff.trans (by omega) ih).trans (by simp)
  ·simp[h]
def rZ:List jQ->List jQ->Int
 | _,[]=>0
 | pre,c::r=>if eZ c.1.data.toList then (if pre.any (fun d=>decide (d.1=c.1)) then 7 else if c.2<1\/4096<c.2 then 3 else rZ (pre++[c]) r) else 2
def prd:List jQ->Nat
 | []=>1
 | c::r=>c.2.toNat*prd r
def yV (l:List jQ):Int:=if l.length<1\/6<l.length then 5 else if rZ [] l=0 then (if 4096<prd l then 4 else 0) else rZ [] l
def pA (l:List jQ):Prop:=∀ c∈l,1<=c.2/\c.2<=4096
theorem b7 {pre l:List jQ}(h:rZ pre l=0):pA l:=by
 induction l generalizing pre with
 | nil=>intro c hc;cases hc
 | cons c r ih =>
  simp only[rZ] at h;split at h
  ·split at h
   ·cases h
   ·split at h
    ·cases h
    ·intro d hd
     rcases yX.1 hd with rfl|hd
     ·omega
     ·exact ih h d hd
  ·cases h
theorem b1X (l m:List jQ):prd (l++m)=prd l*prd m:=by
 induction l with
 | nil=>simp[prd]
 | cons c r ih=>simp[prd,ih,Nat.mul_assoc]
theorem iK {l:List jQ}(h:yV l=0):1<=l.length/\l.length<=6/\pA l/\prd l<=4096/\rZ [] l=0:=by
 unfold yV at h;split at h
 ·cases h
 ·split at h
  ·rename_i h1 h2
   split at h
   ·cases h
   ·exact⟨by omega,by omega,b7 h2,by omega,h2⟩
  ·rename_i h1 h2;exact absurd h h2
theorem i7 {l:List jQ}{i:Nat}{c:jQ}(h:l[i]? = some c):prd (l.take (i+1))=prd (l.take i)*c.2.toNat:=by
 rw[kZ,h,b1X];simp[prd]
theorem l7 {l:List jQ}{i:Nat}{c:jQ}(h:l[i]? = some c):rZ (l.take i) (l.drop i)=if eZ c.1.data.toList then (if (l.take i).any (fun d=>decide (d.1=c.1)) then 7 else if c.2<1\/4096<c.2 then 3 else rZ (l.take (i+1)) (l.drop (i+1))) else 2:=by
 have hi:=(lQ.1 h).1;rw[zU hi,(lQ.1 h).2];simp only[rZ];rw[kZ,h];rfl
def yA:List jQ->List Int->Int
 | c::l,v::r=>if v<0\/c.2<=v then 3 else yA l r
 | _,_=>0
def rV (l:List jQ) (r:List Int):Int:=if l.length=r.length then yA l r else 8
def pU (l:List jQ):List (List Int)->Int
 | []=>0
 | r::rs=>if rV l r=0 then pU l rs else rV l r
def fZ (l:List jQ) (rs:List (List Int)):Int:=if yV l=0 then (if 4096<rs.length then 4 else pU l rs) else yV l
theorem o7 {l:List jQ}{r:List Int}{i:Nat}{c:jQ}{v:Int}(hc:l[i]? = some c)(hv:r[i]? = some v):yA (l.drop i) (r.drop i)=if v<0\/c.2<=v then 3 else yA (l.drop (i+1)) (r.drop (i+1)):=by
 rw[zU (lQ.1 hc).1,(lQ.1 hc).2,zU (lQ.1 hv).1,(lQ.1 hv).2];rfl
theorem t7 {l:List jQ}{rs:List (List Int)}{i:Nat}{r:List Int}(h:rs[i]? = some r):pU l (rs.drop i)=if rV l r=0 then pU l (rs.drop (i+1)) else rV l r:=by
 rw[zU (lQ.1 h).1,(lQ.1 h).2];rfl
def dJ:List jQ->List Int->Prop
 | [],[]=>True
 | c::l,v::r=>0<=v/\v<c.2/\dJ l r
 | _,_=>False
theorem j8 {l:List jQ}{r:List Int}:rV l r=0↔dJ l r:=by
 induction l generalizing r with
 | nil=>cases r <;> simp[rV,yA,dJ]
 | cons c l ih =>
  cases r with
  | nil=>simp[rV,dJ]
  | cons v r =>
   have:=ih (r:=r);simp only[rV,yA,dJ,iF,Nat.add_right_cancel_iff] at *
   by_cases h1:v<0\/c.2<=v
   ·simp[h1];split <;> (simp;try omega)
   ·simp only[h1,jL]
    rw[this];constructor
    ·intro h;exact⟨by omega,by omega,h⟩
    ·intro h;exact h.2.2
theorem dJ.len {l:List jQ}{r:List Int}(h:dJ l r):r.length=l.length:=by
 induction l generalizing r with
 | nil=>cases r <;> simp_all [dJ]
 | cons c l ih=>cases r with
  | nil=>simp[dJ] at h
  | cons v r=>simp[ih h.2.2]
theorem b1Z {l:List jQ}{rs:List (List Int)}:pU l rs=0↔∀ r∈rs,dJ l r:=by
 induction rs with
 | nil=>simp[pU]
 | cons r rs ih =>
  simp only[pU];split
  ·rename_i h;rw[ih];simp[j8.1 h]
  ·rename_i h
   constructor
   ·intro h2;exact absurd h2 h
   ·intro h2;exact absurd (j8.2 (h2 r (by simp))) h
theorem gN {l:List jQ}{rs:List (List Int)}(h:fZ l rs=0):yV l=0/\rs.length<=4096/\∀ r∈rs,dJ l r:=by
 unfold fZ at h;split at h
 ·split at h
  ·cases h
  ·exact⟨by assumption,by omega,b1Z.1 h⟩
 ·rename_i h1;exact absurd h h1
end K.Ds
namespace K
open Go.RowKit K.Ds
theorem ba (w:World)(o:Obj):Below w.heap.size w (w.alloc o):=(aQ _ _).alloc (vQ _) o
theorem bt {w w1 w2:World}(h:Below w.heap.size w w1)(k:Below w1.heap.size w1 w2):Below w.heap.size w w2:=h.trans (k.mono h.size)
theorem bal {w w1:World}(h:Below w.heap.size w w1)(o:Obj):Below w.heap.size w (w1.alloc o):=h.alloc h.size o
theorem bs {w w1:World}(h:Below w.heap.size w w1){p:Addr}(hp:w.heap.size<=p.block)(u:Value):Below w.heap.size w (w1.setCell p u):=h.setCell hp u
theorem zQ.at {w w':World}{B nb:Nat}{v:Value}{xs:List Int}(h:zQ w B nb v xs)(hB:B<=w.heap.size)(hb:Below w.heap.size w w'):zQ w' B nb v xs:=h.keep (hb.mono hB)
theorem rQ {w:World}{a b:Addr}{v:Value}(h:a≠b):(w.setCell a v).cell? b=w.cell? b:=nM _ _ _ _ h
theorem jY {w:World}{a:Addr}{u v:Value}(h:w.cell? a=some u):(w.setCell a v).cell? a=some v:=World.cell?_setCell_same _ _ _ h
theorem iZ {w:World}{a b:Addr}{v:Value}:(w.setCell a v).frozen? b=w.frozen? b:=oM _ _ _ _
def eQ (w:World) (B:Nat) (v:Value) (l:List jQ):Prop :=
 ∃ a c,v=.slice a l.length c/\l.length<=c/\l.length<=9223372036854775807/\(∀ x∈l,x.1.size<=9223372036854775807) /\
  (l≠[]->∃ b o,a=some ⟨b,o,none⟩/\b<B/\∀ i x,l[i]? = some x->w.cell? ⟨b,o+i*2,none⟩=some (.string x.1)/\w.cell? ⟨b,o+i*2+1,none⟩=some (.int .i64 x.2))
theorem eQ.keep {w w':World}{B:Nat}{v:Value}{l:List jQ}(h:eQ w B v l)(hb:Below B w w'):eQ w' B v l:=by
 obtain⟨a,c,hv,hc,hl,hn,hx⟩:=h;refine⟨a,c,hv,hc,hl,hn,fun hne=>?_⟩;obtain⟨b,o,ha,hB,hcell⟩:=hx hne;exact⟨b,o,ha,hB,fun i x hi=>⟨(hb.cell (p:=⟨b,o+i*2,none⟩) hB).trans (hcell i x hi).1,(hb.cell (p:=⟨b,o+i*2+1,none⟩) hB).trans (hcell i x hi).2⟩⟩
theorem eQ.mono {w:World}{B B':Nat}{v:Value}{l:List jQ}(h:eQ w B v l)(hB:B<=B'):eQ w B' v l:=by
 obtain⟨a,c,hv,hc,hl,hn,hx⟩:=h;refine⟨a,c,hv,hc,hl,hn,fun hne=>?_⟩;obtain⟨b,o,ha,hb,hcell⟩:=hx hne;exact⟨b,o,ha,by omega,hcell⟩
theorem eQ.at {w w':World}{B:Nat}{v:Value}{l:List jQ}(h:eQ w B v l)(hB:B<=w.heap.size)(hb:Below w.heap.size w w'):eQ w' B v l:=h.keep (hb.mono hB)
theorem eQ.slice {w:World}{B:Nat}{v:Value}{l:List jQ}(h:eQ w B v l):∃ a c,v=.slice a l.length c/\l.length<=c/\l.length<=9223372036854775807:=by
 obtain⟨a,c,hv,hc,hl,_⟩:=h;exact⟨a,c,hv,hc,hl⟩
theorem eQ.get {w wr:World}{B:Nat}{a:Option Addr}{n c:Nat}{l:List jQ}(h:eQ w B (.slice a n c) l)(hB:B<=w.heap.size)(hb:Below w.heap.size w wr){i:Nat}(hi:i<l.length) :
  ∃ b o nm sz,a=some ⟨b,o,none⟩/\b<B/\l[i]? = some (nm,sz)/\wr.cell? ⟨b,o+i*2,none⟩=some (.string nm)/\wr.cell? ⟨b,o+i*2+1,none⟩=some (.int .i64 sz)/\nm.size<=9223372036854775807:=by
 obtain⟨a',c',hv,_,_,hn,hx⟩:=h.at hB hb;simp only[xV] at hv;obtain⟨rfl,rfl,rfl⟩:=hv;obtain⟨b,o,rfl,hbB,hcell⟩:=hx (ne_of_lt hi);obtain⟨⟨nm,sz⟩,hx⟩:=wX hi;exact⟨b,o,nm,sz,rfl,hbB,hx,(hcell i _ hx).1,(hcell i _ hx).2,hn _ (uX hx)⟩
theorem kK {a:Int}(h:-9223372036854775808<=a/\a<=9223372036854775807):wrap64 a=a:=by
 unfold wrap64;omega
theorem pL (x y:ByteArray):(x.toList == y.toList)=decide (x=y):=by
 rw[Bool.eq_iff_iff,ByteArray.toList_eq,ByteArray.toList_eq];simp only[beq_iff_eq,oV];constructor
 ·intro h;exact ByteArray.ext (Array.ext' h)
 ·rintro rfl;rfl
theorem b1J (p z:Nat)(hz:1<=z):min (p*z) 4097=min (min p 4097*z) 4097:=by
 rcases Nat.le_total p 4097 with h|h
 ·rw[Nat.min_eq_left h]
 ·have h1:4097*1<=4097*z:=Nat.mul_le_mul_left _ hz
  have h2:4097*z<=p*z:=Nat.mul_le_mul_right _ h;rw[Nat.min_eq_right h];omega
theorem b2Q (B:Nat)(v:Value)(l:List jQ)(w:World)(hB:B<=w.heap.size)(hp:eQ w B v l)(hs:pA l)(n:Nat)(hr:min (prd l) 4097=n) :
  Calls prog 148 #[v] w fun e w'=>e=.returned (.int .i64 (n:Int))/\Below w.heap.size w w':=by
 have HP:Hid (eQ w B v l):=hp;have HS:Hid (pA l):=hs;have HR:Hid (min (prd l) 4097=n):=hr;obtain⟨a,c,rfl,hc,hl⟩:=hp.slice;clear hr hs;go_enter func148,ntmps148;go_wp2
 go_loopw [3,8] (fun nv s wr=>∃ (i k:Nat),nv=.int .i64 (k:Int)/\s=.int .i64 (i:Int)/\i<=l.length/\k<=4097/\Hid (min (prd (l.take i)) 4097=k)/\Below w.heap.size w wr) (fun _ s _=>l.length - (intOf s).toNat)
 case atStart=>exact⟨0,1,rfl,rfl,nQ _,by omega,by simp[Hid,prd],aQ _ _⟩
 case round =>
  obtain⟨i,k,rfl,rfl,hi,hk,HI,hbl⟩:=hrel;by_cases h1:i<l.length
  ·obtain⟨b,o,nm,sz,rfl,hb,hg,c1,c2,hn⟩:=HP.out.get hB hbl h1
   have hsz:=HS.out _ (uX hg);simp only at hsz;have HG:Hid (l[i]? = some (nm,sz)):=hg;clear hg;have hm:0<=(k:Int)*sz/\(k:Int)*sz<=4097*4096:=⟨xI (by omega) (by omega),bL (by omega) (by omega) (by omega) (by omega)⟩;have hw:wrap64 ((k:Int)*sz)=(k:Int)*sz:=kK (by omega)
   have HM:Hid (min (prd (l.take (i+1))) 4097=min (k*sz.toNat) 4097):=by
    show _=_
    rw[i7 HG.out,<-HI.out];exact b1J _ _ (by omega)
   have HK:Hid ((if 4097<(k:Int)*sz then (4097:Int) else (k:Int)*sz)=((min (k*sz.toNat) 4097:Nat):Int)):=by
    have e:((k*sz.toNat:Nat):Int)=(k:Int)*sz:=by rw[Int.natCast_mul,Int.toNat_of_nonneg (by omega)]
    show _=_
    split <;> omega
   clear hm;go_wp2
   go_roundw
   case rel=>exact⟨i+1,min (k*sz.toNat) 4097,congrArg _ HK.out,by go_num,h1,by omega,HM,bal hbl _⟩
   case measure=>simp[intOf];omega
  ·have HN:Hid (k=n):=by have:=HI.out;rw[fV (by omega)] at this;exact this.symm.trans HR.out
   go_wp2;go_ret;exact⟨by rw[<-HN.out];rfl,hbl⟩
theorem b8 {l:List jQ}{i:Nat}{nm nm0:ByteArray}{sz:Int}(h:l[i]? = some (nm,sz)):(l.take (i+1)).any (fun d=>decide (d.1=nm0))=((l.take i).any (fun d=>decide (d.1=nm0)) || decide (nm=nm0)):=by
 rw[kZ,h,List.any_append];simp
theorem d8 {l:List jQ}{i:Nat}{nm nm0:ByteArray}{sz:Int}(h:l[i]? = some (nm,sz))(h2:decide (nm=nm0)=true):l.any (fun d=>decide (d.1=nm0))=true :=
 List.any_eq_true.2 ⟨_,uX h,h2⟩
theorem i8 (g:Nat)(n1 n2:ByteArray)(s1:Int)(w:World)(hg:g<w.heap.size)(hc:w.cell? ⟨g,0,none⟩=some (.string n2))(r:Bool)(hr:decide (n1=n2)=r) :
  Calls prog 147 #[.agg #[.string n1,.int .i64 s1],.pointer (some ⟨g,0,none⟩)] w fun e w'=>e=.returned (.bool r)/\Below w.heap.size w w':=by
 have hq:(n1.toList == n2.toList)=r:=(pL _ _).trans hr;clear hr;go_enter func147,ntmps147;go_wp2;go_ret;exact⟨rfl,ba _ _⟩
theorem b2X (B g:Nat)(v:Value)(l:List jQ)(nm0:ByteArray)(w:World)(hB:B<=w.heap.size)(hp:eQ w B v l)(hg:g<w.heap.size)(hc0:w.cell? ⟨g,0,none⟩=some (.string nm0))(r:Bool)(hr:l.any (fun d=>decide (d.1=nm0))=r) :
  Calls prog 102 #[v,.func (.func 147) #[] #[.pointer (some ⟨g,0,none⟩)]] w fun e w'=>∃ k:Int,e=.returned (.int .i64 k)/\decide (0<=k)=r/\Below w.heap.size w w':=by
 have HP:Hid (eQ w B v l):=hp;have HR:Hid (l.any (fun d=>decide (d.1=nm0))=r):=hr;have HC0:Hid (w.cell? ⟨g,0,none⟩=some (.string nm0)):=hc0;obtain⟨a,c,rfl,hc,hl⟩:=hp.slice;clear hr hc0;go_enter func102,ntmps102;go_wp2
 go_loopw [8] (fun s wr=>∃ (i:Nat),s=.int .i64 (i:Int)/\i<=l.length/\Hid ((l.take i).any (fun d=>decide (d.1=nm0))=false)/\Below w.heap.size w wr) (fun s _=>l.length - (intOf s).toNat)
 case atStart=>exact⟨0,rfl,nQ _,by simp[Hid],aQ _ _⟩
 case round =>
  obtain⟨i,rfl,hi,HI,hbl⟩:=hrel;by_cases h1:i<l.length
  ·obtain⟨b,o,nm,sz,rfl,hb,hgt,c1,c2,hn⟩:=HP.out.get hB hbl h1
   have HG:Hid (l[i]? = some (nm,sz)):=hgt;clear hgt;have hgr:g<wr.heap.size:=qX hg hbl.size;have HCR:Hid (wr.cell? ⟨g,0,none⟩=some (.string nm0)):=(hbl.cell (p:=⟨g,0,none⟩) hg).trans HC0.out;cases he:decide (nm=nm0) with
   | true =>
    have HE:Hid (decide (nm=nm0)=true):=he;clear he;obtain rfl:true=r:=by rw[<-HR.out];exact(d8 HG.out HE.out).symm
    go_wp2_with fail;refine(i8 g nm nm0 sz _ hgr HCR.out true HE.out).mono ?_;rintro e w1 ⟨rfl,hb1⟩;go_wp2;go_ret;exact⟨i,rfl,by simp,bt hbl hb1⟩
   | false =>
    have HE:Hid (decide (nm=nm0)=false):=he;clear he;go_wp2_with fail;refine(i8 g nm nm0 sz _ hgr HCR.out false HE.out).mono ?_;rintro e w1 ⟨rfl,hb1⟩;go_wp2
    go_roundw
    case rel=>exact⟨i+1,by go_num,h1,by show _=_;rw[b8 HG.out,HI.out,HE.out];rfl,bt hbl hb1⟩
    case measure=>simp[intOf];omega
  ·obtain rfl:false=r:=by rw[<-HR.out];have:=HI.out;rw[fV (by omega)] at this;exact this.symm
   go_wp2;go_ret;exact⟨-1,rfl,by simp,hbl⟩
theorem k8 (B g:Nat)(v:Value)(l:List jQ)(nm0:ByteArray)(w:World)(hB:B<=w.heap.size)(hp:eQ w B v l)(hg:g<w.heap.size)(hc0:w.cell? ⟨g,0,none⟩=some (.string nm0))(r:Bool)(hr:l.any (fun d=>decide (d.1=nm0))=r) :
  Calls prog 146 #[v,.func (.func 147) #[] #[.pointer (some ⟨g,0,none⟩)]] w fun e w'=>e=.returned (.bool r)/\Below w.heap.size w w':=by
 have HP:Hid (eQ w B v l):=hp;have HR:Hid (l.any (fun d=>decide (d.1=nm0))=r):=hr;have HC0:Hid (w.cell? ⟨g,0,none⟩=some (.string nm0)):=hc0;obtain⟨a,c,rfl,hc,hl⟩:=hp.slice;clear hr hc0;go_enter func146,ntmps146;go_wp2_with fail;refine(b2X B g _ l nm0 w hB HP.out hg HC0.out r HR.out).mono ?_;rintro e w1 ⟨k,rfl,hk,hb1⟩;go_wp2;go_ret;refine⟨oF ?_,hb1⟩
 first|rfl|exact hk|simp
theorem eQ.take {w:World}{B:Nat}{a:Option Addr}{n c:Nat}{l:List jQ}(h:eQ w B (.slice a n c) l)(u:Nat)(hu:u<=l.length):eQ w B (.slice a u c) (l.take u):=by
 obtain⟨a',c',hv,hc,hl,hn,hx⟩:=h;simp only[xV] at hv;obtain⟨rfl,rfl,rfl⟩:=hv;have e:(l.take u).length=u:=by rw[lU];omega
 refine⟨a,c,by rw[e],by rw[e];omega,by rw[e];omega,fun x hx=>hn x (lF hx),fun hne=>?_⟩;obtain⟨b,o,ha,hb,hcell⟩:=hx (by rintro rfl;simp at hne);refine⟨b,o,ha,hb,fun i x hi=>hcell i x ?_⟩;rw[eH] at hi;split at hi
 ·exact hi
 ·cases hi
theorem l8 {s:ByteArray}{n:Nat}(h:n<s.size):s.data.toList.drop n=s[n]::s.data.toList.drop (n+1):=by
 rw[zU (by simpa using h)];rfl
theorem b2Z {s:ByteArray}{n:Nat}(h:n<s.size):yD (s.data.toList.drop n)=if fY s[n] then yD (s.data.toList.drop (n+1))+1 else 0:=by
 rw[l8 h];rfl
theorem b2J {s:ByteArray}{n:Nat}(h:n<s.size):(s.data.toList.take (n+1)).all fY=((s.data.toList.take n).all fY && fY s[n]):=by
 rw[List.take_succ_eq_append_getElem (by simpa using h),List.all_append];simp;rfl
theorem b3Q {s:ByteArray}{n:Nat}(h:n<s.size)(h2:fY s[n]=false):s.data.toList.all fY=false:=by
 rw[<-gR n s.data.toList,List.all_append,l8 h,List.all_cons,h2];simp
theorem m8 (b:Nat)(w:World)(r:Bool)(hr:(decide (97<=b) && decide (b<=122) || decide (b=95))=r):Calls prog 208 #[.int .u8 (b:Int)] w fun e w'=>e=.returned (.bool r)/\w' = w:=by
 have HR:Hid ((decide (97<=b) && decide (b<=122) || decide (b=95))=r):=hr;clear hr;go_enter func208,ntmps208;by_cases h1:97<=b
 ·by_cases h2:b<=122
  ·obtain rfl:true=r:=by rw[<-HR.out];simp[h1,h2]
   go_wp2;go_ret;exact⟨rfl,rfl⟩
  ·have h3:b≠95:=by omega
   obtain rfl:false=r:=by rw[<-HR.out];simp[h2,h3]
   go_wp2;go_ret;exact⟨oF (by simp;omega),rfl⟩
 ·by_cases h3:b=95
  ·subst h3
   obtain rfl:true=r:=by rw[<-HR.out];simp
   go_wp2;go_ret;exact⟨rfl,rfl⟩
  ·obtain rfl:false=r:=by rw[<-HR.out];simp[h1,h3]
   go_wp2;go_ret;exact⟨oF (by simp;omega),rfl⟩
theorem b3X (s:ByteArray)(hs:s.size<=9223372036854775807)(w:World)(r:Nat)(hr:yD s.data.toList=r):Calls prog 207 #[.string s,.func (.func 208) #[] #[]] w fun e w'=>e=.returned (.int .i64 (r:Int))/\w' = w:=by
 have HR:Hid (yD s.data.toList=r):=hr;clear hr;go_enter func207,ntmps207;go_wp2
 go_loopw [5] (fun nv wr=>∃ n:Nat,nv=.int .i64 (n:Int)/\n<=s.size/\Hid (n+yD (s.data.toList.drop n)=r)/\wr=w) (fun nv _=>s.size - (intOf nv).toNat)
 case atStart=>exact⟨0,rfl,nQ _,by simpa [Hid] using HR.out,rfl⟩
 case round =>
  obtain⟨n,rfl,hn,HI,rfl⟩:=hrel;by_cases h1:n<s.size
  ·have ST:Hid (yD (s.data.toList.drop n)=if fY s[n] then yD (s.data.toList.drop (n+1))+1 else 0):=b2Z h1
   cases hb:fY s[n] with
   | true =>
    have HB:Hid (fY s[n]=true):=hb;clear hb;go_wp2_with fail;refine(m8 s[n].toNat _ true HB.out).mono ?_;rintro e w1 ⟨rfl,rfl⟩;go_wp2
    go_roundw
    case rel=>exact⟨n+1,by go_num,h1,by have h2:=HI.out;rw[ST.out,HB.out] at h2;simp only[zD] at h2;show _=r;omega,trivial⟩
    case measure=>simp[intOf];omega
   | false =>
    have HB:Hid (fY s[n]=false):=hb;clear hb;have HN:Hid (n=r):=by have h2:=HI.out;rw[ST.out,HB.out] at h2;simpa [Hid] using h2
    go_wp2_with fail;refine(m8 s[n].toNat _ false HB.out).mono ?_;rintro e w1 ⟨rfl,rfl⟩;go_wp2;go_ret;exact⟨by rw[<-HN.out];rfl,rfl⟩
  ·have HN:Hid (n=r):=by have h2:=HI.out;rw[qD (by simp;omega)] at h2;simpa [yD,Hid] using h2
   go_wp2;go_ret;exact⟨by rw[<-HN.out];rfl,rfl⟩
theorem b3Z (s:ByteArray)(hs:s.size<=9223372036854775807)(w:World)(r:Nat)(hr:yD s.data.toList=r):Calls prog 185 #[.string s] w fun e w'=>e=.returned (.int .i64 (r:Int))/\w' = w:=by
 have k:=b3X s hs w r hr;clear hr;go_enter func185,ntmps185;go_wp2_with fail;refine k.mono ?_;rintro e w1 ⟨rfl,rfl⟩;go_wp2;go_ret;exact⟨rfl,rfl⟩
theorem yP (s:ByteArray)(hs:s.size<=9223372036854775807)(w:World)(r:Bool)(hr:eZ s.data.toList=r):Calls prog 145 #[.string s] w fun e w'=>e=.returned (.bool r)/\w' = w:=by
 have HR:Hid (eZ s.data.toList=r):=hr;have hl:Hid (s.data.toList.length=s.size):=by simp[Hid]
 clear hr;go_enter func145,ntmps145;by_cases h1:1<=s.size
 ·by_cases h2:s.size<=32
  ·go_wp2_with fail
   refine(b3Z s hs _ _ rfl).mono ?_;rintro e w1 ⟨rfl,rfl⟩;go_wp2;go_ret;refine⟨oF ?_,rfl⟩;rw[<-HR.out,eZ,hl.out];have:=b1Q s.data.toList;rw[hl.out] at this;simp only[h1,h2,decide_true,Bool.true_and];rw[Bool.eq_iff_iff,<-this];simp;omega
  ·obtain rfl:false=r:=by rw[<-HR.out,eZ,hl.out];simp[h2]
   go_wp2;go_ret;exact⟨rfl,rfl⟩
 ·obtain rfl:false=r:=by rw[<-HR.out,eZ,hl.out];simp[h1]
  go_wp2;go_ret;exact⟨rfl,rfl⟩
theorem n8 (s:ByteArray)(hs:s.size<=9223372036854775807)(w:World)(r:Bool)(hr:eZ s.data.toList=r):Calls prog 43 #[.string s] w fun e w'=>e=.returned (.bool r)/\w' = w:=by
 have HR:Hid (eZ s.data.toList=r):=hr;have hl:Hid (s.data.toList.length=s.size):=by simp[Hid]
 clear hr;go_enter func43,ntmps43;go_wp2
 go_loopw [3] (fun nv wr=>∃ n:Nat,nv=.int .i64 (n:Int)/\n<=s.size/\Hid ((s.data.toList.take n).all fY=true)/\wr=w) (fun nv _=>s.size - (intOf nv).toNat)
 case atStart=>exact⟨0,rfl,nQ _,by simp[Hid],rfl⟩
 case round =>
  obtain⟨n,rfl,hn,HI,rfl⟩:=hrel;by_cases h1:n<s.size
  ·have ST:Hid ((s.data.toList.take (n+1)).all fY=((s.data.toList.take n).all fY && fY s[n])):=b2J h1
   have ST2:Hid (fY s[n]=false->s.data.toList.all fY=false):=b3Q h1;have HV:Hid (fY s[n]=(decide (97<=s[n].toNat) && decide (s[n].toNat<=122) || decide (s[n].toNat=95))):=rfl;by_cases g1:97<=s[n].toNat
   ·by_cases g2:s[n].toNat<=122
    ·go_wp2
     go_roundw
     case rel=>exact⟨n+1,by go_num,h1,by show _=true;rw[ST.out,HI.out,HV.out];simp[g1,g2],trivial⟩
     case measure=>simp[intOf];omega
    ·have g4:(((s[n].toNat:Nat):Int) == 95)=false:=by simp;omega
     have g5:decide (((s[n].toNat:Nat):Int)<=122)=false:=by simp;omega
     obtain rfl:false=r:=by
      rw[<-HR.out,eZ,ST2.out (by rw[HV.out];simp;omega)];simp
     go_wp2;go_ret;exact⟨rfl,rfl⟩
   ·by_cases g3:s[n].toNat=95
    ·have g4:(((s[n].toNat:Nat):Int) == 95)=true:=by simp;omega
     go_wp2
     go_roundw
     case rel=>exact⟨n+1,by go_num,h1,by show _=true;rw[ST.out,HI.out,HV.out];simp[g3],trivial⟩
     case measure=>simp[intOf];omega
    ·have g4:(((s[n].toNat:Nat):Int) == 95)=false:=by simp;omega
     obtain rfl:false=r:=by
      rw[<-HR.out,eZ,ST2.out (by rw[HV.out];simp;omega)];simp
     go_wp2;go_ret;exact⟨rfl,rfl⟩
  ·have HN:Hid (s.data.toList.all fY=true):=by have h2:=HI.out;rwa [fV (by simp;omega)] at h2
   by_cases k1:0<s.size
   ·by_cases k2:s.size<=32
    ·obtain rfl:true=r:=by rw[<-HR.out,eZ,hl.out,HN.out];simp;omega
     go_wp2;go_ret;exact⟨oF (by simp;omega),rfl⟩
    ·obtain rfl:false=r:=by rw[<-HR.out,eZ,hl.out];simp[k2]
     go_wp2;go_ret;exact⟨oF (by simp;omega),rfl⟩
   ·obtain rfl:false=r:=by rw[<-HR.out,eZ,hl.out];simp;omega
    go_wp2;go_ret;exact⟨rfl,rfl⟩
theorem nc {w:World}{N:Nat}(cs:Array Value)(t:TypeId)(k:Nat)(x:Value)(hN:N=w.heap.size)(hx:cs[k]? = some x):(w.alloc (.cells cs t)).cell? ⟨N,k,none⟩=some x:=by
 rw[yK _ _ _ _ hN];exact hx
theorem nf {w:World}{N:Nat}(cs:Array Value)(t:TypeId)(k:Nat)(hN:N=w.heap.size):(w.alloc (.cells cs t)).frozen? ⟨N,k,none⟩=false:=pR _ _ _ _ hN
theorem uP (B:Nat)(v:Value)(l:List jQ)(w:World)(hB:B<=w.heap.size)(hp:eQ w B v l)(er:Int)(hr:yV l=er) :
  Calls prog 87 #[v] w fun e w'=>e=.returned (.int .i64 er)/\Below w.heap.size w w':=by
 have HP:Hid (eQ w B v l):=hp;have HR:Hid (yV l=er):=hr;obtain⟨a,c,rfl,hc,hl⟩:=hp.slice;clear hr;go_enter func87,ntmps87;by_cases h0:l.length=0
 ·have hq:((l.length:Int) == 0)=true:=by simp[h0]
  obtain rfl:5=er:=by rw[<-HR.out,yV,xQ (by omega)]
  go_wp2;go_ret;exact⟨rfl,aQ _ _⟩
 have hq:((l.length:Int) == 0)=false:=by rw[qA];omega
 have HQ0:Hid (l.length≠0):=h0;clear h0;by_cases h6:6<l.length
 ·obtain rfl:5=er:=by rw[<-HR.out,yV,xQ (by omega)]
  go_wp2;go_ret;exact⟨rfl,aQ _ _⟩
 have HE:Hid (yV l=if rZ [] l=0 then (if 4096<prd l then 4 else 0) else rZ [] l):=by show _=_;rw[yV,qQ (by have:=HQ0.out;omega)]
 go_wp2
 go_loopw [15] (fun s wr=>∃ (i:Nat),s=.int .i64 (i:Int)/\i<=l.length/\Hid (rZ (l.take i) (l.drop i)=rZ [] l)/\Below w.heap.size w wr) (fun s _=>l.length - (intOf s).toNat)
 case atStart=>exact⟨0,rfl,nQ _,by simp[Hid],aQ _ _⟩
 case round =>
  obtain⟨i,rfl,hi,HI,hbl⟩:=hrel;by_cases h1:i<l.length
  ·obtain⟨b,o,nm,sz,rfl,hb,hgt,c1,c2,hn⟩:=HP.out.get hB hbl h1
   have ST:Hid (rZ [] l=if eZ nm.data.toList then (if (l.take i).any (fun d=>decide (d.1=nm)) then 7 else if sz<1\/4096<sz then 3 else rZ (l.take (i+1)) (l.drop (i+1))) else 2):=HI.out.symm.trans (l7 hgt);clear hgt HI;have hsz:=hbl.size;cases hnm:eZ nm.data.toList with
   | false =>
    have HN:Hid (eZ nm.data.toList=false):=hnm;clear hnm;obtain rfl:2=er:=by rw[<-HR.out,HE.out,ST.out,HN.out];simp
    go_wp2_with fail;refine(yP nm hn _ false HN.out).mono ?_;rintro e w1 ⟨rfl,rfl⟩;go_wp2;go_ret;exact⟨rfl,bal hbl _⟩
   | true =>
    have HN:Hid (eZ nm.data.toList=true):=hnm;clear hnm;cases han:(l.take i).any (fun d=>decide (d.1=nm)) with
    | true =>
     have HA:Hid ((l.take i).any (fun d=>decide (d.1=nm))=true):=han;clear han;obtain rfl:7=er:=by rw[<-HR.out,HE.out,ST.out,HN.out,HA.out];simp
     have kc:=k8 B wr.heap.size (.slice (some ⟨b,o,none⟩) i c) (l.take i) nm (wr.alloc (.cells #[.string nm,.int .i64 sz] 82)) (by simp;omega) (((HP.out.take i hi).at hB hbl).at (by omega) (ba _ _)) (by simp) (nc _ _ 0 _ rfl rfl) true HA.out;go_wp2_with fail;refine(yP nm hn _ true HN.out).mono ?_;rintro e w1 ⟨rfl,rfl⟩;go_wp2_with fail;refine kc.mono ?_;rintro e w1 ⟨rfl,hb1⟩;have hb2:Below w.heap.size w w1:=bt (bal hbl _) hb1;clear hb1 kc;go_wp2;go_ret;exact⟨rfl,hb2⟩
    | false =>
     have HA:Hid ((l.take i).any (fun d=>decide (d.1=nm))=false):=han;clear han;have kc:=k8 B wr.heap.size (.slice (some ⟨b,o,none⟩) i c) (l.take i) nm (wr.alloc (.cells #[.string nm,.int .i64 sz] 82)) (by simp;omega) (((HP.out.take i hi).at hB hbl).at (by omega) (ba _ _)) (by simp) (nc _ _ 0 _ rfl rfl) false HA.out;have hcell:(wr.alloc (.cells #[.string nm,.int .i64 sz] 82)).cell? ⟨wr.heap.size,1,none⟩=some (.int .i64 sz):=nc _ _ 1 _ rfl rfl;by_cases hz:sz<1\/4096<sz
     ·obtain rfl:3=er:=by rw[<-HR.out,HE.out,ST.out,HN.out,HA.out];simp[hz]
      go_wp2_with fail;refine(yP nm hn _ true HN.out).mono ?_;rintro e w1 ⟨rfl,rfl⟩;go_wp2_with fail;refine kc.mono ?_;rintro e w1 ⟨rfl,hb1⟩;have hb2:Below w.heap.size w w1:=bt (bal hbl _) hb1;have hc1:w1.cell? ⟨wr.heap.size,1,none⟩=some (.int .i64 sz):=(hb1.cell (p:=⟨wr.heap.size,1,none⟩) (by simp)).trans hcell;clear hb1 kc hcell;by_cases hz1:sz<1
      ·clear hz
       go_wp2;go_ret;exact⟨rfl,hb2⟩
      ·have hz2:4096<sz:=by omega
       clear hz;go_wp2;go_ret;exact⟨rfl,hb2⟩
     ·have HI2:Hid (rZ (l.take (i+1)) (l.drop (i+1))=rZ [] l):=by show _=_;rw[ST.out,HN.out,HA.out];simp[hz]
      have hz1:¬ sz<1:=by omega
      have hz2:¬ 4096<sz:=by omega
      clear hz;go_wp2_with fail;refine(yP nm hn _ true HN.out).mono ?_;rintro e w1 ⟨rfl,rfl⟩;go_wp2_with fail;refine kc.mono ?_;rintro e w1 ⟨rfl,hb1⟩;have hb2:Below w.heap.size w w1:=bt (bal hbl _) hb1;have hc1:w1.cell? ⟨wr.heap.size,1,none⟩=some (.int .i64 sz):=(hb1.cell (p:=⟨wr.heap.size,1,none⟩) (by simp)).trans hcell;clear hb1 kc hcell;go_wp2
      go_roundw
      case rel=>exact⟨i+1,by go_num,h1,HI2,hb2⟩
      case measure=>simp[intOf];omega
  ·have HN:Hid (rZ [] l=0):=by have:=HI.out;rw[qD (by omega)] at this;exact this.symm.trans rfl
   have HS:Hid (pA l):=b7 HN.out;have kc:=b2Q B _ l wr (uQ hB hbl.size) (HP.out.at hB hbl) HS.out _ rfl;by_cases hpz:4096<prd l
   ·obtain rfl:4=er:=by rw[<-HR.out,HE.out,HN.out];simp[hpz]
    have hm:min (prd l) 4097=4097:=by omega
    rw[hm] at kc;go_wp2_with fail;refine kc.mono ?_;rintro e w1 ⟨rfl,hb1⟩;go_wp2;go_ret;exact⟨rfl,bt hbl hb1⟩
   ·obtain rfl:0=er:=by rw[<-HR.out,HE.out,HN.out];simp[hpz]
    have hm:min (prd l) 4097=prd l:=by omega
    rw[hm] at kc;go_wp2_with fail;refine kc.mono ?_;rintro e w1 ⟨rfl,hb1⟩;go_wp2;go_ret;exact⟨rfl,bt hbl hb1⟩
end K
namespace K.Ds
abbrev oX:=ByteArray × Int × Int
abbrev rX:=Int × Int × Int
inductive Qu where
 | none
 | node (k:Int) (c:ByteArray) (lo hi:Int) (wh:List oX) (n:Nat) (x y:Qu)
def fnd:List jQ->ByteArray->Option Nat
 | [],_=>none
 | c::l,s=>if c.1=s then some 0 else (fnd l s).map (· + 1)
theorem mI {l:List jQ}{s:ByteArray}{i:Nat}(h:fnd l s=some i):i<l.length:=by
 induction l generalizing i with
 | nil=>simp[fnd] at h
 | cons c l ih =>
  simp only[fnd] at h;split at h
  ·simp only[vX] at h;subst h;simp
  ·obtain⟨j,hj,rfl⟩:=gO.1 h
   have:=ih hj;simp;omega
def rL (l:List jQ) (s:ByteArray) (i:Nat):Prop:=∀ j c,j<i->l[j]? = some c->c.1≠s
theorem b3J {l:List jQ}{s:ByteArray}{i:Nat}{c:jQ}(h:rL l s i)(hc:l[i]? = some c)(he:c.1=s):fnd l s=some i:=by
 induction l generalizing i with
 | nil=>simp at hc
 | cons d l ih =>
  simp only[fnd];cases i with
  | zero=>simp at hc;subst hc;rw[xQ he]
  | succ i =>
   have h0:=h 0 d (by omega) rfl;rw[qQ h0,ih (i:=i) (fun j c hj hjc=>h (j+1) c (by omega) (by simpa using hjc)) (by simpa using hc)];rfl
theorem b4Q {l:List jQ}{s:ByteArray}(h:rL l s l.length):fnd l s=none:=by
 induction l with
 | nil=>rfl
 | cons d l ih =>
  simp only[fnd];rw[qQ (h 0 d (by simp) rfl),ih (fun j c hj hjc=>h (j+1) c (by simp;omega) (by simpa using hjc))];rfl
theorem rL.next {l:List jQ}{s:ByteArray}{i:Nat}{c:jQ}(h:rL l s i)(hc:l[i]? = some c)(hne:c.1≠s):rL l s (i+1):=by
 intro j d hj hd;rcases Nat.lt_or_eq_of_le (Nat.le_of_lt_succ hj) with hlt|rfl
 ·exact h j d hlt hd
 ·rw[hc] at hd;cases hd;exact hne
def wY (d:Int):Bool:=decide (1<=d/\d<=6)
def uD (l:List jQ):List oX->Int
 | []=>0
 | t::r=>if (fnd l t.1).isSome then (if wY t.2.1 then uD l r else 1) else 7
def iJ (l:List jQ) (wh:List oX):Int:=if 64<wh.length then 4 else uD l wh
theorem b4X {l:List jQ}{wh:List oX}{i:Nat}{t:oX}(h:wh[i]? = some t):uD l (wh.drop i)=if (fnd l t.1).isSome then (if wY t.2.1 then uD l (wh.drop (i+1)) else 1) else 7:=by
 rw[zU (lQ.1 h).1,(lQ.1 h).2];rfl
theorem b4Z {l:List jQ}{wh:List oX}(h:uD l wh=0):∀ t∈wh,(fnd l t.1).isSome=true/\wY t.2.1=true:=by
 induction wh with
 | nil=>intro t ht;cases ht
 | cons d r ih =>
  simp only[uD] at h;split at h
  ·split at h
   ·intro t ht
    rcases yX.1 ht with rfl|ht
    ·exact⟨by assumption,by assumption⟩
    ·exact ih h t ht
   ·cases h
  ·cases h
def cX (k:Int):Int:=if k=1\/k=2\/k=3 then 0 else if k=6\/k=8\/k=9\/k=10 then 1 else if k=4\/k=5\/k=7 then 2 else -1
def yY (lo hi:Int):Bool:=decide (-1048576<=lo/\lo<=hi/\hi<=1048576)
def spn (lo hi:Int):Int:=if -lo<=hi then hi else -lo
theorem nI {lo hi:Int}(h:yY lo hi=true):0<=spn lo hi/\spn lo hi<=1048576:=by
 simp only[yY,oV] at h;unfold spn;split <;> omega
def mx (a b:Int):Int:=if a<=b then b else a
def qU (l:List jQ) (i:Nat):Int:=(l[i]?.map (·.2)).getD 0
def vU (e:Int) (b:rX):Except Int rX:=if e=0 then .ok b else .error e
def rec (l:List jQ) (k:Int) (c:ByteArray) (lo hi:Int) (wh:List oX) (x y:rX):Except Int rX :=
 if k=1 then vU (iJ l wh) (1,1,4096)
 else if k=2 then (if (fnd l c).isSome then (if yY lo hi then vU (iJ l wh) (1,spn lo hi,4096*spn lo hi) else .error 3) else .error 7)
 else if k=3 then (match fnd l c with|some i=>vU (iJ l wh) (qU l i,1,4096)|none=>.error 7)
 else if k=6 then (if yY lo lo then .ok (x.1,spn lo lo*x.2.1,spn lo lo*x.2.2) else .error 3)
 else if k=7 then .ok (x.1+y.1,x.2.1+y.2.1,mx x.2.2 y.2.2)
 else if k=8 then .ok (1,x.2.1,x.1*x.2.2)
 else if k=9 then (if 0<=lo/\lo<x.1 then .ok (1,x.2.1,x.2.2) else .error 3)
 else if k=10 then (if yY lo hi then .ok (x.1,x.2.1,spn lo hi) else .error 3)
 else (if x.1=y.1 then .ok (x.1,x.2.1+y.2.1,x.2.2+y.2.2) else .error 8)
def lK (b:rX):Bool:=decide (b.1<=4096/\b.2.1<=1099511627776/\b.2.2<=1099511627776)
def lim (b:rX):Except Int rX:=if lK b then .ok b else .error 4
def nJ (p:Prop) [Decidable p] (r:Except Int rX):Except Int rX:=if p then r else .ok (0,0,0)
def bnd (l:List jQ):Nat->Qu->Except Int rX
 | _,.none=>.ok (0,0,0)
 | lv,.node k c lo hi wh n x y =>
  if 64<lv then .error 4 else if cX k<0 then .error 1 else if (n:Int)=cX k then
   (match nJ (1<=n) (bnd l (lv+1) x) with
    | .error e=>.error e
    | .ok bx=>match nJ (2<=n) (bnd l (lv+1) y) with
     | .error e=>.error e
     | .ok b'=>match rec l k c lo hi wh bx b' with
      | .error e=>.error e
      | .ok b=>lim b)
  else .error 5
def oZ (b:rX):Prop:=0<=b.1/\b.1<=4096/\0<=b.2.1/\b.2.1<=1099511627776/\0<=b.2.2/\b.2.2<=1099511627776
theorem aP {l:List jQ}(hs:pA l){i:Nat}{s:ByteArray}(h:fnd l s=some i):1<=qU l i/\qU l i<=4096:=by
 obtain⟨c,hc⟩:∃ c,l[i]? = some c:=⟨l[i]'(mI h),dZ (mI h)⟩;have:=hs c (uX hc);simp[qU,hc];exact this
theorem wZ {a b M N:Int}(h1:0<=a)(h2:a<=M)(h3:0<=b)(h4:b<=N):0<=a*b/\a*b<=M*N :=
 ⟨xI h1 h3,bL h2 h4 h3 (by omega)⟩
theorem b4J {l:List jQ}(hs:pA l){k:Int}{c:ByteArray}{lo hi:Int}{wh:List oX}{x y b:rX}(hx:oZ x)(hy:oZ y)(h:rec l k c lo hi wh x y=.ok b):0<=b.1/\0<=b.2.1/\0<=b.2.2:=by
 obtain⟨x1,x2,x3⟩:=x;obtain⟨y1,y2,y3⟩:=y;obtain⟨p1,p2,p3,p4,p5,p6⟩:=hx;obtain⟨q1,q2,q3,q4,q5,q6⟩:=hy;simp only at p1 p2 p3 p4 p5 p6 q1 q2 q3 q4 q5 q6;unfold rec vU at h
 repeat' split at h
 all_goals first
  | cases h;done
  | (cases h;simp only;omega)
  | (rename_i h1 _;cases h;have:=nI h1;simp only;omega)
  | skip
 ·rename_i hf _;cases h;have:=aP hs hf;simp only;omega
 ·rename_i h1;cases h;have h0:=nI h1
  have e1:=wZ h0.1 h0.2 p3 p4;have e2:=wZ h0.1 h0.2 p5 p6;simp only;omega
 ·cases h;simp only[mx];split <;> omega
 ·cases h;have e2:=wZ p1 p2 p5 p6;simp only;omega
 ·rename_i h1;cases h;have h0:=nI h1;simp only;omega
theorem o8 {b b':rX}(h:lim b=.ok b'):b' = b/\lK b=true:=by
 unfold lim at h;split at h
 ·cases h;exact⟨rfl,by assumption⟩
 ·cases h
theorem sL {l:List jQ}(hs:pA l)(q:Qu):∀ (lv:Nat) (b:rX),bnd l lv q=.ok b->oZ b:=by
 have z:oZ (0,0,0):=⟨by decide,by decide,by decide,by decide,by decide,by decide⟩
 induction q with
 | none=>intro lv b h;simp only[bnd] at h;cases h;exact z
 | node k c lo hi wh n x y ihx ihy =>
  intro lv b h;simp only[bnd] at h;split at h
  ·cases h
  ·split at h
   ·cases h
   ·split at h
    ·split at h
     ·cases h
     ·rename_i bx hbx
      split at h
      ·cases h
      ·rename_i b' hby
       split at h
       ·cases h
       ·rename_i b0 hr
        obtain⟨rfl,hl⟩:=o8 h
        have kx:oZ bx:=by
         unfold nJ at hbx;split at hbx
         ·exact ihx _ _ hbx
         ·cases hbx;exact z
        have ky:oZ b':=by
         unfold nJ at hby;split at hby
         ·exact ihy _ _ hby
         ·cases hby;exact z
        have:=b4J hs kx ky hr;simp only[lK,oV] at hl;exact⟨this.1,hl.1,this.2.1,hl.2.1,this.2.2,hl.2.2⟩
    ·cases h

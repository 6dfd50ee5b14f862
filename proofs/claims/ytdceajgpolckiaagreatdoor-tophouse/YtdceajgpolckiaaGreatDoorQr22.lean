import Derived.Test.YtdceajgpolckiaaGreatDoorQr00
import Derived.Test.YtdceajgpolckiaaGreatDoorRows
import Derived.WalkKit
import Derived.WalkSpells
import Derived.Deep.QuietTactic
import Derived.BigQuiet
import Derived.WalkSmall
import Derived.Laws.IdiomCopy
open Go.Proofs.Tryz
set_option linter.unusedSimpArgs false
set_option maxHeartbeats 16000000
set_option maxRecDepth 100000
namespace Go.Proofs.YtdceajgpolckiaaGreatDoor
variable {w w' w1 wr:World} {B B' N i n nb:Nat} {u v:Value} {r xs:List Int} {a:Option Addr} {b p:Addr} {rs:List (List Int)} {c nm0 s:ByteArray} {k sz:Int}
namespace K.Ds
end K.Ds
namespace K
open Go.RowKit K.Ds
def jQ (w:World) (B nb:Nat) (v:Value) (xs:List Int):Prop :=
 ∃ a c,v=.slice a xs.length c/\xs.length<=c/\xs.length<=9223372036854775807 /\
  (xs≠[]->∃ b o,a=some ⟨b,o,none⟩/\b<B/\b≠nb/\∀ i x,xs[i]? = some x->w.cell? ⟨b,o+i,none⟩=some (.int .i64 x))
theorem jQ.keep (h:jQ w B nb v xs)(hb:Below B w w'):jQ w' B nb v xs:=by
 obtain⟨a,c,hv,hc,hl,hx⟩:=h;refine⟨a,c,hv,hc,hl,fun hne=>?_⟩;obtain⟨b,o,ha,hB,hn,hcell⟩:=hx hne;exact⟨b,o,ha,hB,hn,fun i x hi=>(hb.cell (p:=⟨b,o+i,none⟩) hB).trans (hcell i x hi)⟩
theorem jQ.mono {nb':Nat}(h:jQ w B nb v xs)(hB:B<=B')(hn:nb' = nb\/B<=nb'):jQ w B' nb' v xs:=by
 obtain⟨a,c,hv,hc,hl,hx⟩:=h;refine⟨a,c,hv,hc,hl,fun hne=>?_⟩;obtain⟨b,o,ha,hb,hnb,hcell⟩:=hx hne;exact⟨b,o,ha,by omega,by rcases hn with h|h <;> omega,hcell⟩
theorem cX {α:Type}{l:List α}(h:i<l.length):∃ x,l[i]? = some x:=⟨l[i],zJ h⟩
theorem ne_of_lt {α:Type}{l:List α}(h:i<l.length):l≠[]:=by rintro rfl;simp at h
theorem bI {a b:Bool}(h:a=b):Ending.returned (.bool a)=.returned (.bool b):=by rw[h]
theorem dr2 (w:World)(a b c:Nat):∃ q,((w.drewN a).drewN b).drewN c=w.drewN q:=by simp only[World.drewN_drewN];exact⟨_,rfl⟩
end K
namespace K.Ds
abbrev yQ:=ByteArray × Int
def dA (b:UInt8):Bool:=(decide (97<=b.toNat) && decide (b.toNat<=122)) || decide (b.toNat=95)
def iF:List UInt8->Nat
 | []=>0
 | b::r=>if dA b then iF r+1 else 0
def aV (s:List UInt8):Bool:=decide (1<=s.length) && decide (s.length<=32) && s.all dA
theorem c4X (l:List UInt8):iF l=l.length↔l.all dA=true:=by
 induction l with
 | nil=>simp[iF]
 | cons b r ih =>
  simp only[iF];by_cases h:dA b
  ·simp[h];exact(Iff.trans (by omega) ih).trans (by simp)
  ·simp[h]
def lV:List yQ->List yQ->Int
 | _,[]=>0
 | pre,c::r=>if aV c.1.data.toList then (if pre.any (fun d=>decide (d.1=c.1)) then 7 else if c.2<1\/4096<c.2 then 3 else lV (pre++[c]) r) else 2
def prd:List yQ->Nat
 | []=>1
 | c::r=>c.2.toNat*prd r
def mY (l:List yQ):Int:=if l.length<1\/6<l.length then 5 else if lV [] l=0 then (if 4096<prd l then 4 else 0) else lV [] l
def nD (l:List yQ):Prop:=∀ c∈l,1<=c.2/\c.2<=4096
theorem a0Z {pre l:List yQ}(h:lV pre l=0):nD l:=by
 induction l generalizing pre with
 | nil=>intro c hc;cases hc
 | cons c r ih =>
  simp only[lV] at h;split at h
  ·split at h
   ·cases h
   ·split at h
    ·cases h
    ·intro d hd
     rcases fX.1 hd with rfl|hd
     ·omega
     ·exact ih h d hd
  ·cases h
theorem c4Z (l m:List yQ):prd (l++m)=prd l*prd m:=by
 induction l with
 | nil=>simp[prd]
 | cons c r ih=>simp[prd,ih,Nat.mul_assoc]
theorem oK {l:List yQ}(h:mY l=0):1<=l.length/\l.length<=6/\nD l/\prd l<=4096/\lV [] l=0:=by
 unfold mY at h;split at h
 ·cases h
 ·split at h
  ·rename_i h1 h2
   split at h
   ·cases h
   ·exact⟨by omega,by omega,a0Z h2,by omega,h2⟩
  ·rename_i h1 h2;exact absurd h h2
theorem a0J {l:List yQ}{c:yQ}(h:l[i]? = some c):prd (l.take (i+1))=prd (l.take i)*c.2.toNat:=by
 rw[fZ,h,c4Z];simp[prd]
theorem a1Q {l:List yQ}{c:yQ}(h:l[i]? = some c):lV (l.take i) (l.drop i)=if aV c.1.data.toList then (if (l.take i).any (fun d=>decide (d.1=c.1)) then 7 else if c.2<1\/4096<c.2 then 3 else lV (l.take (i+1)) (l.drop (i+1))) else 2:=by
 have hi:=(cQ.1 h).1;rw[lJ hi,(cQ.1 h).2];simp only[lV];rw[fZ,h];rfl
def kF:List yQ->List Int->Int
 | c::l,v::r=>if v<0\/c.2<=v then 3 else kF l r
 | _,_=>0
def eA (l:List yQ) (r:List Int):Int:=if l.length=r.length then kF l r else 8
def oD (l:List yQ):List (List Int)->Int
 | []=>0
 | r::rs=>if eA l r=0 then oD l rs else eA l r
def iJ (l:List yQ) (rs:List (List Int)):Int:=if mY l=0 then (if 4096<rs.length then 4 else oD l rs) else mY l
theorem a1X {l:List yQ}{c:yQ}{v:Int}(hc:l[i]? = some c)(hv:r[i]? = some v):kF (l.drop i) (r.drop i)=if v<0\/c.2<=v then 3 else kF (l.drop (i+1)) (r.drop (i+1)):=by
 rw[lJ (cQ.1 hc).1,(cQ.1 hc).2,lJ (cQ.1 hv).1,(cQ.1 hv).2];rfl
theorem a1Z {l:List yQ}(h:rs[i]? = some r):oD l (rs.drop i)=if eA l r=0 then oD l (rs.drop (i+1)) else eA l r:=by
 rw[lJ (cQ.1 h).1,(cQ.1 h).2];rfl
def cY:List yQ->List Int->Prop
 | [],[]=>True
 | c::l,v::r=>0<=v/\v<c.2/\cY l r
 | _,_=>False
theorem a1J {l:List yQ}:eA l r=0↔cY l r:=by
 induction l generalizing r with
 | nil=>cases r <;> simp[eA,kF,cY]
 | cons c l ih =>
  cases r with
  | nil=>simp[eA,cY]
  | cons v r =>
   have:=ih (r:=r);simp only[eA,kF,cY,pJ,Nat.add_right_cancel_iff] at *
   by_cases h1:v<0\/c.2<=v
   ·simp[h1];split <;> (simp;try omega)
   ·simp only[h1,jK]
    rw[this];constructor
    ·intro h;exact⟨by omega,by omega,h⟩
    ·intro h;exact h.2.2
theorem cY.len {l:List yQ}(h:cY l r):r.length=l.length:=by
 induction l generalizing r with
 | nil=>cases r <;> simp_all [cY]
 | cons c l ih=>cases r with
  | nil=>simp[cY] at h
  | cons v r=>simp[ih h.2.2]
theorem c4J {l:List yQ}:oD l rs=0↔∀ r∈rs,cY l r:=by
 induction rs with
 | nil=>simp[oD]
 | cons r rs ih =>
  simp only[oD];split
  ·rename_i h;rw[ih];simp[a1J.1 h]
  ·rename_i h
   constructor
   ·intro h2;exact absurd h2 h
   ·intro h2;exact absurd (a1J.2 (h2 r (by simp))) h
theorem eO {l:List yQ}(h:iJ l rs=0):mY l=0/\rs.length<=4096/\∀ r∈rs,cY l r:=by
 unfold iJ at h;split at h
 ·split at h
  ·cases h
  ·exact⟨by assumption,by omega,c4J.1 h⟩
 ·rename_i h1;exact absurd h h1
end K.Ds
namespace K
open Go.RowKit K.Ds
theorem ba (w:World)(o:Obj):Below w.heap.size w (w.alloc o):=(aQ _ _).alloc (vQ _) o
theorem bt {w2:World}(h:Below w.heap.size w w1)(k:Below w1.heap.size w1 w2):Below w.heap.size w w2:=h.trans (k.mono h.size)
theorem bal (h:Below w.heap.size w w1)(o:Obj):Below w.heap.size w (w1.alloc o):=h.alloc h.size o
theorem bs (h:Below w.heap.size w w1)(hp:w.heap.size<=p.block)(u:Value):Below w.heap.size w (w1.setCell p u):=h.setCell hp u
theorem jQ.at (h:jQ w B nb v xs)(hB:B<=w.heap.size)(hb:Below w.heap.size w w'):jQ w' B nb v xs:=h.keep (hb.mono hB)
theorem gQ {a:Addr}(h:a≠b):(w.setCell a v).cell? b=w.cell? b:=tS _ _ _ _ h
theorem tZ {a:Addr}(h:w.cell? a=some u):(w.setCell a v).cell? a=some v:=World.cell?_setCell_same _ _ _ h
theorem zZ {a:Addr}:(w.setCell a v).frozen? b=w.frozen? b:=wS _ _ _ _
def rQ (w:World) (B:Nat) (v:Value) (l:List yQ):Prop :=
 ∃ a c,v=.slice a l.length c/\l.length<=c/\l.length<=9223372036854775807/\(∀ x∈l,x.1.size<=9223372036854775807) /\
  (l≠[]->∃ b o,a=some ⟨b,o,none⟩/\b<B/\∀ i x,l[i]? = some x->w.cell? ⟨b,o+i*2,none⟩=some (.string x.1)/\w.cell? ⟨b,o+i*2+1,none⟩=some (.int .i64 x.2))
theorem rQ.keep {l:List yQ}(h:rQ w B v l)(hb:Below B w w'):rQ w' B v l:=by
 obtain⟨a,c,hv,hc,hl,hn,hx⟩:=h;refine⟨a,c,hv,hc,hl,hn,fun hne=>?_⟩;obtain⟨b,o,ha,hB,hcell⟩:=hx hne;exact⟨b,o,ha,hB,fun i x hi=>⟨(hb.cell (p:=⟨b,o+i*2,none⟩) hB).trans (hcell i x hi).1,(hb.cell (p:=⟨b,o+i*2+1,none⟩) hB).trans (hcell i x hi).2⟩⟩
theorem rQ.mono {l:List yQ}(h:rQ w B v l)(hB:B<=B'):rQ w B' v l:=by
 obtain⟨a,c,hv,hc,hl,hn,hx⟩:=h;refine⟨a,c,hv,hc,hl,hn,fun hne=>?_⟩;obtain⟨b,o,ha,hb,hcell⟩:=hx hne;exact⟨b,o,ha,by omega,hcell⟩
theorem rQ.at {l:List yQ}(h:rQ w B v l)(hB:B<=w.heap.size)(hb:Below w.heap.size w w'):rQ w' B v l:=h.keep (hb.mono hB)
theorem rQ.slice {l:List yQ}(h:rQ w B v l):∃ a c,v=.slice a l.length c/\l.length<=c/\l.length<=9223372036854775807:=by
 obtain⟨a,c,hv,hc,hl,_⟩:=h;exact⟨a,c,hv,hc,hl⟩
theorem rQ.get {c:Nat}{l:List yQ}(h:rQ w B (.slice a n c) l)(hB:B<=w.heap.size)(hb:Below w.heap.size w wr)(hi:i<l.length) :
  ∃ b o nm sz,a=some ⟨b,o,none⟩/\b<B/\l[i]? = some (nm,sz)/\wr.cell? ⟨b,o+i*2,none⟩=some (.string nm)/\wr.cell? ⟨b,o+i*2+1,none⟩=some (.int .i64 sz)/\nm.size<=9223372036854775807:=by
 obtain⟨a',c',hv,_,_,hn,hx⟩:=h.at hB hb;simp only[gZ] at hv;obtain⟨rfl,rfl,rfl⟩:=hv;obtain⟨b,o,rfl,hbB,hcell⟩:=hx (ne_of_lt hi);obtain⟨⟨nm,sz⟩,hx⟩:=cX hi;exact⟨b,o,nm,sz,rfl,hbB,hx,(hcell i _ hx).1,(hcell i _ hx).2,hn _ (qX hx)⟩
theorem wM {a:Int}(h:-9223372036854775808<=a/\a<=9223372036854775807):wrap64 a=a:=by
 unfold wrap64;omega
theorem nR (x y:ByteArray):(x.toList == y.toList)=decide (x=y):=by
 rw[Bool.eq_iff_iff,ByteArray.toList_eq,ByteArray.toList_eq];simp only[beq_iff_eq,qY];constructor
 ·intro h;exact ByteArray.ext (Array.ext' h)
 ·rintro rfl;rfl
theorem c5Q (p z:Nat)(hz:1<=z):min (p*z) 4097=min (min p 4097*z) 4097:=by
 rcases Nat.le_total p 4097 with h|h
 ·rw[Nat.min_eq_left h]
 ·have h1:4097*1<=4097*z:=Nat.mul_le_mul_left _ hz
  have h2:4097*z<=p*z:=Nat.mul_le_mul_right _ h;rw[Nat.min_eq_right h];omega
theorem c5X (B:Nat)(v:Value)(l:List yQ)(w:World)(hB:B<=w.heap.size)(hp:rQ w B v l)(hs:nD l)(n:Nat)(hr:min (prd l) 4097=n) :
  Calls prog 148 #[v] w fun e w'=>e=.returned (.int .i64 (n:Int))/\Below w.heap.size w w':=by
 have HP:=qQ hp;have HS:=qQ hs;have HR:=qQ hr;obtain⟨a,c,rfl,hc,hl⟩:=hp.slice;clear hr hs;go_enter func148,ntmps148;go_wp2
 go_loopw [3,8] (fun nv s wr=>∃ (i k:Nat),nv=.int .i64 (k:Int)/\s=.int .i64 (i:Int)/\i<=l.length/\k<=4097/\Hid (min (prd (l.take i)) 4097=k)/\Below w.heap.size w wr) (fun _ s _=>l.length - (intOf s).toNat)
 case atStart=>exact⟨0,1,rfl,rfl,kQ _,by omega,by simp[Hid,prd],aQ _ _⟩
 case round =>
  obtain⟨i,k,rfl,rfl,hi,hk,HI,hbl⟩:=hrel;by_cases h1:i<l.length
  ·obtain⟨b,o,nm,sz,rfl,hb,hg,c1,c2,hn⟩:=HP.out.get hB hbl h1
   have hsz:=HS.out _ (qX hg);simp only at hsz;have HG:=qQ hg;clear hg;have hm:0<=(k:Int)*sz/\(k:Int)*sz<=4097*4096:=⟨iA (by omega) (by omega),qO (by omega) (by omega) (by omega) (by omega)⟩;have hw:wrap64 ((k:Int)*sz)=(k:Int)*sz:=wM (by omega)
   have HM:Hid (min (prd (l.take (i+1))) 4097=min (k*sz.toNat) 4097):=by
    show _=_
    rw[a0J HG.out,<-HI.out];exact c5Q _ _ (by omega)
   have HK:Hid ((if 4097<(k:Int)*sz then (4097:Int) else (k:Int)*sz)=((min (k*sz.toNat) 4097:Nat):Int)):=by
    have e:((k*sz.toNat:Nat):Int)=(k:Int)*sz:=by rw[cE,Int.toNat_of_nonneg (by omega)]
    show _=_
    split <;> omega
   clear hm;go_wp2
   go_roundw
   case rel=>exact⟨i+1,min (k*sz.toNat) 4097,congrArg _ HK.out,by go_num,h1,by omega,HM,bal hbl _⟩
   case measure=>simp[intOf];omega
  ·have HN:Hid (k=n):=by have:=HI.out;rw[rJ (by omega)] at this;exact this.symm.trans HR.out
   go_wp2;go_ret;exact⟨by rw[<-HN.out];rfl,hbl⟩
theorem a2Q {l:List yQ}{nm:ByteArray}(h:l[i]? = some (nm,sz)):(l.take (i+1)).any (fun d=>decide (d.1=nm0))=((l.take i).any (fun d=>decide (d.1=nm0)) || decide (nm=nm0)):=by
 rw[fZ,h,List.any_append];simp
theorem a2X {l:List yQ}{nm:ByteArray}(h:l[i]? = some (nm,sz))(h2:decide (nm=nm0)=true):l.any (fun d=>decide (d.1=nm0))=true :=
 List.any_eq_true.2 ⟨_,qX h,h2⟩
theorem a2Z (g:Nat)(n1 n2:ByteArray)(s1:Int)(w:World)(hg:g<w.heap.size)(hc:w.cell? ⟨g,0,none⟩=some (.string n2))(r:Bool)(hr:decide (n1=n2)=r) :
  Calls prog 147 #[.agg #[.string n1,.int .i64 s1],.pointer (some ⟨g,0,none⟩)] w fun e w'=>e=.returned (.bool r)/\Below w.heap.size w w':=by
 have hq:(n1.toList == n2.toList)=r:=(nR _ _).trans hr;clear hr;go_enter func147,ntmps147;go_wp2;go_ret;exact⟨rfl,ba _ _⟩
theorem c5Z (B g:Nat)(v:Value)(l:List yQ)(nm0:ByteArray)(w:World)(hB:B<=w.heap.size)(hp:rQ w B v l)(hg:g<w.heap.size)(hc0:w.cell? ⟨g,0,none⟩=some (.string nm0))(r:Bool)(hr:l.any (fun d=>decide (d.1=nm0))=r) :
  Calls prog 102 #[v,.func (.func 147) #[] #[.pointer (some ⟨g,0,none⟩)]] w fun e w'=>∃ k:Int,e=.returned (.int .i64 k)/\decide (0<=k)=r/\Below w.heap.size w w':=by
 have HP:=qQ hp;have HR:=qQ hr;have HC0:=qQ hc0;obtain⟨a,c,rfl,hc,hl⟩:=hp.slice;clear hr hc0;go_enter func102,ntmps102;go_wp2
 go_loopw [8] (fun s wr=>∃ (i:Nat),s=.int .i64 (i:Int)/\i<=l.length/\Hid ((l.take i).any (fun d=>decide (d.1=nm0))=false)/\Below w.heap.size w wr) (fun s _=>l.length - (intOf s).toNat)
 case atStart=>exact⟨0,rfl,kQ _,by simp[Hid],aQ _ _⟩
 case round =>
  obtain⟨i,rfl,hi,HI,hbl⟩:=hrel;by_cases h1:i<l.length
  ·obtain⟨b,o,nm,sz,rfl,hb,hgt,c1,c2,hn⟩:=HP.out.get hB hbl h1
   have HG:=qQ hgt;clear hgt;have hgr:g<wr.heap.size:=uX hg hbl.size;have HCR:=qQ ((hbl.cell (p:=⟨g,0,none⟩) hg).trans HC0.out);cases he:decide (nm=nm0) with
   | true =>
    have HE:=qQ he;clear he;obtain rfl:true=r:=by rw[<-HR.out];exact(a2X HG.out HE.out).symm
    go_wp2_with fail;refine(a2Z g nm nm0 sz _ hgr HCR.out true HE.out).mono ?_;rintro e w1 ⟨rfl,hb1⟩;go_wp2;go_ret;exact⟨i,rfl,by simp,bt hbl hb1⟩
   | false =>
    have HE:=qQ he;clear he;go_wp2_with fail;refine(a2Z g nm nm0 sz _ hgr HCR.out false HE.out).mono ?_;rintro e w1 ⟨rfl,hb1⟩;go_wp2
    go_roundw
    case rel=>exact⟨i+1,by go_num,h1,by show _=_;rw[a2Q HG.out,HI.out,HE.out];rfl,bt hbl hb1⟩
    case measure=>simp[intOf];omega
  ·obtain rfl:false=r:=by rw[<-HR.out];have:=HI.out;rw[rJ (by omega)] at this;exact this.symm
   go_wp2;go_ret;exact⟨-1,rfl,by simp,hbl⟩
theorem a2J (B g:Nat)(v:Value)(l:List yQ)(nm0:ByteArray)(w:World)(hB:B<=w.heap.size)(hp:rQ w B v l)(hg:g<w.heap.size)(hc0:w.cell? ⟨g,0,none⟩=some (.string nm0))(r:Bool)(hr:l.any (fun d=>decide (d.1=nm0))=r) :
  Calls prog 146 #[v,.func (.func 147) #[] #[.pointer (some ⟨g,0,none⟩)]] w fun e w'=>e=.returned (.bool r)/\Below w.heap.size w w':=by
 have HP:=qQ hp;have HR:=qQ hr;have HC0:=qQ hc0;obtain⟨a,c,rfl,hc,hl⟩:=hp.slice;clear hr hc0;go_enter func146,ntmps146;go_wp2_with fail;refine(c5Z B g _ l nm0 w hB HP.out hg HC0.out r HR.out).mono ?_;rintro e w1 ⟨k,rfl,hk,hb1⟩;go_wp2;go_ret;refine⟨bI ?_,hb1⟩
 first|rfl|exact hk|simp
theorem rQ.take {c:Nat}{l:List yQ}(h:rQ w B (.slice a n c) l)(u:Nat)(hu:u<=l.length):rQ w B (.slice a u c) (l.take u):=by
 obtain⟨a',c',hv,hc,hl,hn,hx⟩:=h;simp only[gZ] at hv;obtain⟨rfl,rfl,rfl⟩:=hv;have e:(l.take u).length=u:=by rw[lA];omega
 refine⟨a,c,by rw[e],by rw[e];omega,by rw[e];omega,fun x hx=>hn x (aH hx),fun hne=>?_⟩;obtain⟨b,o,ha,hb,hcell⟩:=hx (by rintro rfl;simp at hne);refine⟨b,o,ha,hb,fun i x hi=>hcell i x ?_⟩;rw[aL] at hi;split at hi
 ·exact hi
 ·cases hi
theorem a3Q (h:n<s.size):s.data.toList.drop n=s[n]::s.data.toList.drop (n+1):=by
 rw[lJ (by simpa using h)];rfl
theorem c5J (h:n<s.size):iF (s.data.toList.drop n)=if dA s[n] then iF (s.data.toList.drop (n+1))+1 else 0:=by
 rw[a3Q h];rfl
theorem c6Q (h:n<s.size):(s.data.toList.take (n+1)).all dA=((s.data.toList.take n).all dA && dA s[n]):=by
 rw[List.take_succ_eq_append_getElem (by simpa using h),List.all_append];simp;rfl
theorem c6X (h:n<s.size)(h2:dA s[n]=false):s.data.toList.all dA=false:=by
 rw[<-fP n s.data.toList,List.all_append,a3Q h,List.all_cons,h2];simp
theorem a3X (b:Nat)(w:World)(r:Bool)(hr:(decide (97<=b) && decide (b<=122) || decide (b=95))=r):Calls prog 208 #[.int .u8 (b:Int)] w fun e w'=>e=.returned (.bool r)/\w' = w:=by
 have HR:=qQ hr;clear hr;go_enter func208,ntmps208;by_cases h1:97<=b
 ·by_cases h2:b<=122
  ·obtain rfl:true=r:=by rw[<-HR.out];simp[h1,h2]
   go_wp2;go_ret;exact⟨rfl,rfl⟩
  ·have h3:b≠95:=by omega
   obtain rfl:false=r:=by rw[<-HR.out];simp[h2,h3]
   go_wp2;go_ret;exact⟨bI (by simp;omega),rfl⟩
 ·by_cases h3:b=95
  ·subst h3
   obtain rfl:true=r:=by rw[<-HR.out];simp
   go_wp2;go_ret;exact⟨rfl,rfl⟩
  ·obtain rfl:false=r:=by rw[<-HR.out];simp[h1,h3]
   go_wp2;go_ret;exact⟨bI (by simp;omega),rfl⟩
theorem c6Z (s:ByteArray)(hs:s.size<=9223372036854775807)(w:World)(r:Nat)(hr:iF s.data.toList=r):Calls prog 207 #[.string s,.func (.func 208) #[] #[]] w fun e w'=>e=.returned (.int .i64 (r:Int))/\w' = w:=by
 have HR:=qQ hr;clear hr;go_enter func207,ntmps207;go_wp2
 go_loopw [5] (fun nv wr=>∃ n:Nat,nv=.int .i64 (n:Int)/\n<=s.size/\Hid (n+iF (s.data.toList.drop n)=r)/\wr=w) (fun nv _=>s.size - (intOf nv).toNat)
 case atStart=>exact⟨0,rfl,kQ _,by simpa [Hid] using HR.out,rfl⟩
 case round =>
  obtain⟨n,rfl,hn,HI,rfl⟩:=hrel;by_cases h1:n<s.size
  ·have ST:Hid (iF (s.data.toList.drop n)=if dA s[n] then iF (s.data.toList.drop (n+1))+1 else 0):=c5J h1
   cases hb:dA s[n] with
   | true =>
    have HB:=qQ hb;clear hb;go_wp2_with fail;refine(a3X s[n].toNat _ true HB.out).mono ?_;rintro e w1 ⟨rfl,rfl⟩;go_wp2
    go_roundw
    case rel=>exact⟨n+1,by go_num,h1,by have h2:=HI.out;rw[ST.out,HB.out] at h2;simp only[aU] at h2;show _=r;omega,trivial⟩
    case measure=>simp[intOf];omega
   | false =>
    have HB:=qQ hb;clear hb;have HN:Hid (n=r):=by have h2:=HI.out;rw[ST.out,HB.out] at h2;simpa [Hid] using h2
    go_wp2_with fail;refine(a3X s[n].toNat _ false HB.out).mono ?_;rintro e w1 ⟨rfl,rfl⟩;go_wp2;go_ret;exact⟨by rw[<-HN.out];rfl,rfl⟩
  ·have HN:Hid (n=r):=by have h2:=HI.out;rw[fY (by simp;omega)] at h2;simpa [iF,Hid] using h2
   go_wp2;go_ret;exact⟨by rw[<-HN.out];rfl,rfl⟩
theorem c6J (s:ByteArray)(hs:s.size<=9223372036854775807)(w:World)(r:Nat)(hr:iF s.data.toList=r):Calls prog 185 #[.string s] w fun e w'=>e=.returned (.int .i64 (r:Int))/\w' = w:=by
 have k:=c6Z s hs w r hr;clear hr;go_enter func185,ntmps185;go_wp2_with fail;refine k.mono ?_;rintro e w1 ⟨rfl,rfl⟩;go_wp2;go_ret;exact⟨rfl,rfl⟩
theorem vB (s:ByteArray)(hs:s.size<=9223372036854775807)(w:World)(r:Bool)(hr:aV s.data.toList=r):Calls prog 145 #[.string s] w fun e w'=>e=.returned (.bool r)/\w' = w:=by
 have HR:=qQ hr;have hl:Hid (s.data.toList.length=s.size):=by simp[Hid]
 clear hr;go_enter func145,ntmps145;by_cases h1:1<=s.size
 ·by_cases h2:s.size<=32
  ·go_wp2_with fail
   refine(c6J s hs _ _ rfl).mono ?_;rintro e w1 ⟨rfl,rfl⟩;go_wp2;go_ret;refine⟨bI ?_,rfl⟩;rw[<-HR.out,aV,hl.out];have:=c4X s.data.toList;rw[hl.out] at this;simp only[h1,h2,decide_true,Bool.true_and];rw[Bool.eq_iff_iff,<-this];simp;omega
  ·obtain rfl:false=r:=by rw[<-HR.out,aV,hl.out];simp[h2]
   go_wp2;go_ret;exact⟨rfl,rfl⟩
 ·obtain rfl:false=r:=by rw[<-HR.out,aV,hl.out];simp[h1]
  go_wp2;go_ret;exact⟨rfl,rfl⟩
theorem a3Z (s:ByteArray)(hs:s.size<=9223372036854775807)(w:World)(r:Bool)(hr:aV s.data.toList=r):Calls prog 43 #[.string s] w fun e w'=>e=.returned (.bool r)/\w' = w:=by
 have HR:=qQ hr;have hl:Hid (s.data.toList.length=s.size):=by simp[Hid]
 clear hr;go_enter func43,ntmps43;go_wp2
 go_loopw [3] (fun nv wr=>∃ n:Nat,nv=.int .i64 (n:Int)/\n<=s.size/\Hid ((s.data.toList.take n).all dA=true)/\wr=w) (fun nv _=>s.size - (intOf nv).toNat)
 case atStart=>exact⟨0,rfl,kQ _,by simp[Hid],rfl⟩
 case round =>
  obtain⟨n,rfl,hn,HI,rfl⟩:=hrel;by_cases h1:n<s.size
  ·have ST:Hid ((s.data.toList.take (n+1)).all dA=((s.data.toList.take n).all dA && dA s[n])):=c6Q h1
   have ST2:=qQ (c6X h1);have HV:Hid (dA s[n]=(decide (97<=s[n].toNat) && decide (s[n].toNat<=122) || decide (s[n].toNat=95))):=rfl;by_cases g1:97<=s[n].toNat
   ·by_cases g2:s[n].toNat<=122
    ·go_wp2
     go_roundw
     case rel=>exact⟨n+1,by go_num,h1,by show _=true;rw[ST.out,HI.out,HV.out];simp[g1,g2],trivial⟩
     case measure=>simp[intOf];omega
    ·have g4:(((s[n].toNat:Nat):Int) == 95)=false:=by simp;omega
     have g5:decide (((s[n].toNat:Nat):Int)<=122)=false:=by simp;omega
     obtain rfl:false=r:=by
      rw[<-HR.out,aV,ST2.out (by rw[HV.out];simp;omega)];simp
     go_wp2;go_ret;exact⟨rfl,rfl⟩
   ·by_cases g3:s[n].toNat=95
    ·have g4:(((s[n].toNat:Nat):Int) == 95)=true:=by simp;omega
     go_wp2
     go_roundw
     case rel=>exact⟨n+1,by go_num,h1,by show _=true;rw[ST.out,HI.out,HV.out];simp[g3],trivial⟩
     case measure=>simp[intOf];omega
    ·have g4:(((s[n].toNat:Nat):Int) == 95)=false:=by simp;omega
     obtain rfl:false=r:=by
      rw[<-HR.out,aV,ST2.out (by rw[HV.out];simp;omega)];simp
     go_wp2;go_ret;exact⟨rfl,rfl⟩
  ·have HN:Hid (s.data.toList.all dA=true):=by have h2:=HI.out;rwa [rJ (by simp;omega)] at h2
   by_cases k1:0<s.size
   ·by_cases k2:s.size<=32
    ·obtain rfl:true=r:=by rw[<-HR.out,aV,hl.out,HN.out];simp;omega
     go_wp2;go_ret;exact⟨bI (by simp;omega),rfl⟩
    ·obtain rfl:false=r:=by rw[<-HR.out,aV,hl.out];simp[k2]
     go_wp2;go_ret;exact⟨bI (by simp;omega),rfl⟩
   ·obtain rfl:false=r:=by rw[<-HR.out,aV,hl.out];simp;omega
    go_wp2;go_ret;exact⟨rfl,rfl⟩
theorem nc (cs:Array Value)(t:TypeId)(k:Nat)(x:Value)(hN:N=w.heap.size)(hx:cs[k]? = some x):(w.alloc (.cells cs t)).cell? ⟨N,k,none⟩=some x:=by
 rw[sN _ _ _ _ hN];exact hx
theorem nf (cs:Array Value)(t:TypeId)(k:Nat)(hN:N=w.heap.size):(w.alloc (.cells cs t)).frozen? ⟨N,k,none⟩=false:=lE _ _ _ _ hN
theorem yB (B:Nat)(v:Value)(l:List yQ)(w:World)(hB:B<=w.heap.size)(hp:rQ w B v l)(er:Int)(hr:mY l=er) :
  Calls prog 87 #[v] w fun e w'=>e=.returned (.int .i64 er)/\Below w.heap.size w w':=by
 have HP:=qQ hp;have HR:=qQ hr;obtain⟨a,c,rfl,hc,hl⟩:=hp.slice;clear hr;go_enter func87,ntmps87;by_cases h0:l.length=0
 ·have hq:((l.length:Int) == 0)=true:=by simp[h0]
  obtain rfl:5=er:=by rw[<-HR.out,mY,zQ (by omega)]
  go_wp2;go_ret;exact⟨rfl,aQ _ _⟩
 have hq:((l.length:Int) == 0)=false:=by rw[rA];omega
 have HQ0:=qQ h0;clear h0;by_cases h6:6<l.length
 ·obtain rfl:5=er:=by rw[<-HR.out,mY,zQ (by omega)]
  go_wp2;go_ret;exact⟨rfl,aQ _ _⟩
 have HE:Hid (mY l=if lV [] l=0 then (if 4096<prd l then 4 else 0) else lV [] l):=by show _=_;rw[mY,xQ (by have:=HQ0.out;omega)]
 go_wp2
 go_loopw [15] (fun s wr=>∃ (i:Nat),s=.int .i64 (i:Int)/\i<=l.length/\Hid (lV (l.take i) (l.drop i)=lV [] l)/\Below w.heap.size w wr) (fun s _=>l.length - (intOf s).toNat)
 case atStart=>exact⟨0,rfl,kQ _,by simp[Hid],aQ _ _⟩
 case round =>
  obtain⟨i,rfl,hi,HI,hbl⟩:=hrel;by_cases h1:i<l.length
  ·obtain⟨b,o,nm,sz,rfl,hb,hgt,c1,c2,hn⟩:=HP.out.get hB hbl h1
   have ST:=qQ (HI.out.symm.trans (a1Q hgt));clear hgt HI;have hsz:=hbl.size;cases hnm:aV nm.data.toList with
   | false =>
    have HN:=qQ hnm;clear hnm;obtain rfl:2=er:=by rw[<-HR.out,HE.out,ST.out,HN.out];simp
    go_wp2_with fail;refine(vB nm hn _ false HN.out).mono ?_;rintro e w1 ⟨rfl,rfl⟩;go_wp2;go_ret;exact⟨rfl,bal hbl _⟩
   | true =>
    have HN:=qQ hnm;clear hnm;cases han:(l.take i).any (fun d=>decide (d.1=nm)) with
    | true =>
     have HA:=qQ han;clear han;obtain rfl:7=er:=by rw[<-HR.out,HE.out,ST.out,HN.out,HA.out];simp
     have kc:=a2J B wr.heap.size (.slice (some ⟨b,o,none⟩) i c) (l.take i) nm (wr.alloc (.cells #[.string nm,.int .i64 sz] 82)) (by simp;omega) (((HP.out.take i hi).at hB hbl).at (by omega) (ba _ _)) (by simp) (nc _ _ 0 _ rfl rfl) true HA.out;go_wp2_with fail;refine(vB nm hn _ true HN.out).mono ?_;rintro e w1 ⟨rfl,rfl⟩;go_wp2_with fail;refine kc.mono ?_;rintro e w1 ⟨rfl,hb1⟩;have hb2:Below w.heap.size w w1:=bt (bal hbl _) hb1;clear hb1 kc;go_wp2;go_ret;exact⟨rfl,hb2⟩
    | false =>
     have HA:=qQ han;clear han;have kc:=a2J B wr.heap.size (.slice (some ⟨b,o,none⟩) i c) (l.take i) nm (wr.alloc (.cells #[.string nm,.int .i64 sz] 82)) (by simp;omega) (((HP.out.take i hi).at hB hbl).at (by omega) (ba _ _)) (by simp) (nc _ _ 0 _ rfl rfl) false HA.out;have hcell:(wr.alloc (.cells #[.string nm,.int .i64 sz] 82)).cell? ⟨wr.heap.size,1,none⟩=some (.int .i64 sz):=nc _ _ 1 _ rfl rfl;by_cases hz:sz<1\/4096<sz
     ·obtain rfl:3=er:=by rw[<-HR.out,HE.out,ST.out,HN.out,HA.out];simp[hz]
      go_wp2_with fail;refine(vB nm hn _ true HN.out).mono ?_;rintro e w1 ⟨rfl,rfl⟩;go_wp2_with fail;refine kc.mono ?_;rintro e w1 ⟨rfl,hb1⟩;have hb2:Below w.heap.size w w1:=bt (bal hbl _) hb1;have hc1:w1.cell? ⟨wr.heap.size,1,none⟩=some (.int .i64 sz):=(hb1.cell (p:=⟨wr.heap.size,1,none⟩) (by simp)).trans hcell;clear hb1 kc hcell;by_cases hz1:sz<1
      ·clear hz
       go_wp2;go_ret;exact⟨rfl,hb2⟩
      ·have hz2:4096<sz:=by omega
       clear hz;go_wp2;go_ret;exact⟨rfl,hb2⟩
     ·have HI2:Hid (lV (l.take (i+1)) (l.drop (i+1))=lV [] l):=by show _=_;rw[ST.out,HN.out,HA.out];simp[hz]
      have hz1:¬ sz<1:=by omega
      have hz2:¬ 4096<sz:=by omega
      clear hz;go_wp2_with fail;refine(vB nm hn _ true HN.out).mono ?_;rintro e w1 ⟨rfl,rfl⟩;go_wp2_with fail;refine kc.mono ?_;rintro e w1 ⟨rfl,hb1⟩;have hb2:Below w.heap.size w w1:=bt (bal hbl _) hb1;have hc1:w1.cell? ⟨wr.heap.size,1,none⟩=some (.int .i64 sz):=(hb1.cell (p:=⟨wr.heap.size,1,none⟩) (by simp)).trans hcell;clear hb1 kc hcell;go_wp2
      go_roundw
      case rel=>exact⟨i+1,by go_num,h1,HI2,hb2⟩
      case measure=>simp[intOf];omega
  ·have HN:Hid (lV [] l=0):=by have:=HI.out;rw[fY (by omega)] at this;exact this.symm.trans rfl
   have HS:=qQ (a0Z HN.out);have kc:=c5X B _ l wr (bQ hB hbl.size) (HP.out.at hB hbl) HS.out _ rfl;by_cases hpz:4096<prd l
   ·obtain rfl:4=er:=by rw[<-HR.out,HE.out,HN.out];simp[hpz]
    have hm:min (prd l) 4097=4097:=by omega
    rw[hm] at kc;go_wp2_with fail;refine kc.mono ?_;rintro e w1 ⟨rfl,hb1⟩;go_wp2;go_ret;exact⟨rfl,bt hbl hb1⟩
   ·obtain rfl:0=er:=by rw[<-HR.out,HE.out,HN.out];simp[hpz]
    have hm:min (prd l) 4097=prd l:=by omega
    rw[hm] at kc;go_wp2_with fail;refine kc.mono ?_;rintro e w1 ⟨rfl,hb1⟩;go_wp2;go_ret;exact⟨rfl,bt hbl hb1⟩
end K
namespace K.Ds
abbrev aZ:=ByteArray × Int × Int
abbrev uZ:=Int × Int × Int
inductive Qu where
 | none
 | node (k:Int) (c:ByteArray) (lo hi:Int) (wh:List aZ) (n:Nat) (x y:Qu)
def fnd:List yQ->ByteArray->Option Nat
 | [],_=>none
 | c::l,s=>if c.1=s then some 0 else (fnd l s).map (· + 1)
theorem pK {l:List yQ}(h:fnd l s=some i):i<l.length:=by
 induction l generalizing i with
 | nil=>simp[fnd] at h
 | cons c l ih =>
  simp only[fnd] at h;split at h
  ·simp only[zX] at h;subst h;simp
  ·obtain⟨j,hj,rfl⟩:=rP.1 h
   have:=ih hj;simp;omega
def fO (l:List yQ) (s:ByteArray) (i:Nat):Prop:=∀ j c,j<i->l[j]? = some c->c.1≠s
theorem c7Q {l:List yQ}{c:yQ}(h:fO l s i)(hc:l[i]? = some c)(he:c.1=s):fnd l s=some i:=by
 induction l generalizing i with
 | nil=>simp at hc
 | cons d l ih =>
  simp only[fnd];cases i with
  | zero=>simp at hc;subst hc;rw[zQ he]
  | succ i =>
   have h0:=h 0 d (by omega) rfl;rw[xQ h0,ih (i:=i) (fun j c hj hjc=>h (j+1) c (by omega) (by simpa using hjc)) (by simpa using hc)];rfl
theorem c7X {l:List yQ}(h:fO l s l.length):fnd l s=none:=by
 induction l with
 | nil=>rfl
 | cons d l ih =>
  simp only[fnd];rw[xQ (h 0 d (by simp) rfl),ih (fun j c hj hjc=>h (j+1) c (by simp;omega) (by simpa using hjc))];rfl
theorem fO.next {l:List yQ}{c:yQ}(h:fO l s i)(hc:l[i]? = some c)(hne:c.1≠s):fO l s (i+1):=by
 intro j d hj hd;rcases Nat.lt_or_eq_of_le (Nat.le_of_lt_succ hj) with hlt|rfl
 ·exact h j d hlt hd
 ·rw[hc] at hd;cases hd;exact hne
def lU (d:Int):Bool:=decide (1<=d/\d<=6)
def mH (l:List yQ):List aZ->Int
 | []=>0
 | t::r=>if (fnd l t.1).isSome then (if lU t.2.1 then mH l r else 1) else 7
def qU (l:List yQ) (wh:List aZ):Int:=if 64<wh.length then 4 else mH l wh
theorem c7Z {l:List yQ}{wh:List aZ}{t:aZ}(h:wh[i]? = some t):mH l (wh.drop i)=if (fnd l t.1).isSome then (if lU t.2.1 then mH l (wh.drop (i+1)) else 1) else 7:=by
 rw[lJ (cQ.1 h).1,(cQ.1 h).2];rfl
theorem c7J {l:List yQ}{wh:List aZ}(h:mH l wh=0):∀ t∈wh,(fnd l t.1).isSome=true/\lU t.2.1=true:=by
 induction wh with
 | nil=>intro t ht;cases ht
 | cons d r ih =>
  simp only[mH] at h;split at h
  ·split at h
   ·intro t ht
    rcases fX.1 ht with rfl|ht
    ·exact⟨by assumption,by assumption⟩
    ·exact ih h t ht
   ·cases h
  ·cases h
def rX (k:Int):Int:=if k=1\/k=2\/k=3 then 0 else if k=6\/k=8\/k=9\/k=10 then 1 else if k=4\/k=5\/k=7 then 2 else -1
def nY (lo hi:Int):Bool:=decide (-1048576<=lo/\lo<=hi/\hi<=1048576)
def spn (lo hi:Int):Int:=if -lo<=hi then hi else -lo
theorem sL {lo hi:Int}(h:nY lo hi=true):0<=spn lo hi/\spn lo hi<=1048576:=by
 simp only[nY,qY] at h;unfold spn;split <;> omega
def mx (a b:Int):Int:=if a<=b then b else a
def dU (l:List yQ) (i:Nat):Int:=(l[i]?.map (·.2)).getD 0
def jG (e:Int) (b:uZ):Except Int uZ:=if e=0 then .ok b else .error e
def rec (l:List yQ) (k:Int) (c:ByteArray) (lo hi:Int) (wh:List aZ) (x y:uZ):Except Int uZ :=
 if k=1 then jG (qU l wh) (1,1,4096)
 else if k=2 then (if (fnd l c).isSome then (if nY lo hi then jG (qU l wh) (1,spn lo hi,4096*spn lo hi) else .error 3) else .error 7)
 else if k=3 then (match fnd l c with|some i=>jG (qU l wh) (dU l i,1,4096)|none=>.error 7)
 else if k=6 then (if nY lo lo then .ok (x.1,spn lo lo*x.2.1,spn lo lo*x.2.2) else .error 3)
 else if k=7 then .ok (x.1+y.1,x.2.1+y.2.1,mx x.2.2 y.2.2)
 else if k=8 then .ok (1,x.2.1,x.1*x.2.2)
 else if k=9 then (if 0<=lo/\lo<x.1 then .ok (1,x.2.1,x.2.2) else .error 3)
 else if k=10 then (if nY lo hi then .ok (x.1,x.2.1,spn lo hi) else .error 3)
 else (if x.1=y.1 then .ok (x.1,x.2.1+y.2.1,x.2.2+y.2.2) else .error 8)
def qN (b:uZ):Bool:=decide (b.1<=4096/\b.2.1<=1099511627776/\b.2.2<=1099511627776)
def lim (b:uZ):Except Int uZ:=if qN b then .ok b else .error 4
def wV (p:Prop) [Decidable p] (r:Except Int uZ):Except Int uZ:=if p then r else .ok (0,0,0)
def bnd (l:List yQ):Nat->Qu->Except Int uZ
 | _,.none=>.ok (0,0,0)
 | lv,.node k c lo hi wh n x y =>
  if 64<lv then .error 4 else if rX k<0 then .error 1 else if (n:Int)=rX k then
   (match wV (1<=n) (bnd l (lv+1) x) with
    | .error e=>.error e
    | .ok bx=>match wV (2<=n) (bnd l (lv+1) y) with
     | .error e=>.error e
     | .ok b'=>match rec l k c lo hi wh bx b' with
      | .error e=>.error e
      | .ok b=>lim b)
  else .error 5
def uJ (b:uZ):Prop:=0<=b.1/\b.1<=4096/\0<=b.2.1/\b.2.1<=1099511627776/\0<=b.2.2/\b.2.2<=1099511627776
theorem uB {l:List yQ}(hs:nD l)(h:fnd l s=some i):1<=dU l i/\dU l i<=4096:=by
 obtain⟨c,hc⟩:∃ c,l[i]? = some c:=⟨l[i]'(pK h),zJ (pK h)⟩;have:=hs c (qX hc);simp[dU,hc];exact this
theorem fJ {a b M N:Int}(h1:0<=a)(h2:a<=M)(h3:0<=b)(h4:b<=N):0<=a*b/\a*b<=M*N :=
 ⟨iA h1 h3,qO h2 h4 h3 (by omega)⟩
theorem c8Q {l:List yQ}(hs:nD l){lo hi:Int}{wh:List aZ}{x y b:uZ}(hx:uJ x)(hy:uJ y)(h:rec l k c lo hi wh x y=.ok b):0<=b.1/\0<=b.2.1/\0<=b.2.2:=by
 obtain⟨x1,x2,x3⟩:=x;obtain⟨y1,y2,y3⟩:=y;obtain⟨p1,p2,p3,p4,p5,p6⟩:=hx;obtain⟨q1,q2,q3,q4,q5,q6⟩:=hy;simp only at p1 p2 p3 p4 p5 p6 q1 q2 q3 q4 q5 q6;unfold rec jG at h
 repeat' split at h
 all_goals first
  | cases h;done
  | (cases h;simp only;omega)
  | (rename_i h1 _;cases h;have:=sL h1;simp only;omega)
  | skip
 ·rename_i hf _;cases h;have:=uB hs hf;simp only;omega
 ·rename_i h1;cases h;have h0:=sL h1
  have e1:=fJ h0.1 h0.2 p3 p4;have e2:=fJ h0.1 h0.2 p5 p6;simp only;omega
 ·cases h;simp only[mx];split <;> omega
 ·cases h;have e2:=fJ p1 p2 p5 p6;simp only;omega
 ·rename_i h1;cases h;have h0:=sL h1;simp only;omega
theorem a3J {b b':uZ}(h:lim b=.ok b'):b' = b/\qN b=true:=by
 unfold lim at h;split at h
 ·cases h;exact⟨rfl,by assumption⟩
 ·cases h
theorem gO {l:List yQ}(hs:nD l)(q:Qu):∀ (lv:Nat) (b:uZ),bnd l lv q=.ok b->uJ b:=by
 have z:uJ (0,0,0):=⟨by decide,by decide,by decide,by decide,by decide,by decide⟩
 induction q with
 | none=>intro lv b h;simp only[bnd] at h;cases h;exact z
 | node k c lo hi wh n x y ihx ihy =>
  intro lv b h;simp only[bnd] at h;split at h
  ·cases h
  ·split at h
   ·cases h
   ·split at h
    ·split at h
     ·cases h
     ·rename_i bx hbx
      split at h
      ·cases h
      ·rename_i b' hby
       split at h
       ·cases h
       ·rename_i b0 hr
        obtain⟨rfl,hl⟩:=a3J h
        have kx:uJ bx:=by
         unfold wV at hbx;split at hbx
         ·exact ihx _ _ hbx
         ·cases hbx;exact z
        have ky:uJ b':=by
         unfold wV at hby;split at hby
         ·exact ihy _ _ hby
         ·cases hby;exact z
        have:=c8Q hs kx ky hr;simp only[qN,qY] at hl;exact⟨this.1,hl.1,this.2.1,hl.2.1,this.2.2,hl.2.2⟩
    ·cases h

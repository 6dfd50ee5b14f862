import Derived.Test.YtcaplmodgbpchaaGreatDoorQq00
import Derived.Test.YtcaplmodgbpchaaGreatDoorRows
import Derived.WalkKit
import Derived.WalkSpells
import Derived.Deep.QuietTactic
import Derived.BigQuiet
import Derived.WalkSmall
import Derived.Laws.IdiomCopy
import Derived.Deep.RegionHeld3
import Derived.BigRegion
import Derived.Laws.MakeOwn
import Derived.Laws.OwnMore
open Go.Proofs.Tryz
open Go.Value(int)
open Go.IntKind(i64)
set_option linter.unusedSimpArgs false
set_option maxHeartbeats 16000000
set_option maxRecDepth 100000
namespace Go.Proofs.YtcaplmodgbpchaaGreatDoor
variable {w w' w1 wr:World} {B B' N base c g i j k n nb size z:Nat} {u v:Value} {r xs:List Int} {a:Option Addr} {b p:Addr} {rs:List (List Int)} {nm nm0 s:ByteArray} {sz:Int} {cur:Array Value} {e:TypeId}
namespace K.Ds
end K.Ds
namespace K
open Go.RowKit K.Ds
def yQ (w:World) (B nb:Nat) (v:Value) (xs:List Int):Prop :=
 ∃ a c,v=.slice a xs.length c/\xs.length<=c/\xs.length<=9223372036854775807 /\
  (xs≠[]->∃ b o,a=some ⟨b,o,none⟩/\b<B/\b≠nb/\∀ i x,xs[i]? = some x->w.cell? ⟨b,o+i,none⟩=some (int i64 x))
theorem yQ.keep (h:yQ w B nb v xs)(j:Below B w w'):yQ w' B nb v xs:=by
 obtain⟨a,c,m,hc,k,y⟩:=h;refine⟨a,c,m,hc,k,fun hne=>?_⟩;obtain⟨b,o,ha,hB,l,g⟩:=y hne;exact⟨b,o,ha,hB,l,fun i x hi=>(j.cell (p:=⟨b,o+i,none⟩) hB).trans (g i x hi)⟩
theorem yQ.mono {nb':Nat}(h:yQ w B nb v xs)(hB:B<=B')(j:nb' = nb\/B<=nb'):yQ w B' nb' v xs:=by
 obtain⟨a,c,l,hc,i,m⟩:=h;refine⟨a,c,l,hc,i,fun hne=>?_⟩;obtain⟨b,o,ha,p,k,g⟩:=m hne;exact⟨b,o,ha,by omega,by rcases j with h|h <;> omega,g⟩
theorem fX {α:Type}{l:List α}(h:i<l.length):∃ x,l[i]? = some x:=⟨l[i],nZ h⟩
theorem ne_of_lt {α:Type}{l:List α}(h:i<l.length):l≠[]:=by rintro rfl;simp at h
theorem qH {a b:Bool}(h:a=b):Ending.returned (.bool a)=.returned (.bool b):=by rw[h]
end K
namespace K.Ds
abbrev aQ:=ByteArray × Int
def aA (b:UInt8):Bool:=(decide (97<=b.toNat) && decide (b.toNat<=122)) || decide (b.toNat=95)
def zF:List UInt8->Nat
 | []=>0
 | b::r=>if aA b then zF r+1 else 0
def mJ (s:List UInt8):Bool:=decide (1<=s.length) && decide (s.length<=32) && s.all aA
theorem b9J (l:List UInt8):zF l=l.length↔l.all aA=true:=by
 induction l with
 | nil=>simp[zF]
 | cons b r ih =>
  simp only[zF];by_cases h:aA b
  ·simp[h];exact(Iff.trans (by omega) ih).trans (by simp)
  ·simp[h]
def tV:List aQ->List aQ->Int
 | _,[]=>0
 | pre,c::r=>if mJ c.1.data.toList then (if pre.any (fun d=>decide (d.1=c.1)) then 7 else if c.2<1\/4096<c.2 then 3 else tV (pre++[c]) r) else 2
def prd:List aQ->Nat
 | []=>1
 | c::r=>c.2.toNat*prd r
def oY (l:List aQ):Int:=if l.length<1\/6<l.length then 5 else if tV [] l=0 then (if 4096<prd l then 4 else 0) else tV [] l
def cG (l:List aQ):Prop:=∀ c∈l,1<=c.2/\c.2<=4096
theorem aoJ {pre l:List aQ}(h:tV pre l=0):cG l:=by
 induction l generalizing pre with
 | nil=>intro c hc;cases hc
 | cons c r ih =>
  simp only[tV] at h;split at h
  ·split at h
   ·cases h
   ·split at h
    ·cases h
    ·intro d a
     rcases kJ.1 a with rfl|a
     ·omega
     ·exact ih h d a
  ·cases h
theorem caQ (l m:List aQ):prd (l++m)=prd l*prd m:=by
 induction l with
 | nil=>simp[prd]
 | cons c r ih=>simp[prd,ih,Nat.mul_assoc]
theorem nI {l:List aQ}(h:oY l=0):1<=l.length/\l.length<=6/\cG l/\prd l<=4096/\tV [] l=0:=by
 unfold oY at h;split at h
 ·cases h
 ·split at h
  ·rename_i h1 h2
   split at h
   ·cases h
   ·exact⟨by omega,by omega,aoJ h2,by omega,h2⟩
  ·rename_i h1 h2;exact absurd h h2
theorem apQ {l:List aQ}{c:aQ}(h:l[i]? = some c):prd (l.take (i+1))=prd (l.take i)*c.2.toNat:=by
 rw[rX,h,caQ];simp[prd]
theorem apX {l:List aQ}{c:aQ}(h:l[i]? = some c):tV (l.take i) (l.drop i)=if mJ c.1.data.toList then (if (l.take i).any (fun d=>decide (d.1=c.1)) then 7 else if c.2<1\/4096<c.2 then 3 else tV (l.take (i+1)) (l.drop (i+1))) else 2:=by
 have hi:=(fQ.1 h).1;rw[eV hi,(fQ.1 h).2];simp only[tV];rw[rX,h];rfl
def jF:List aQ->List Int->Int
 | c::l,v::r=>if v<0\/c.2<=v then 3 else jF l r
 | _,_=>0
def bA (l:List aQ) (r:List Int):Int:=if l.length=r.length then jF l r else 8
def eD (l:List aQ):List (List Int)->Int
 | []=>0
 | r::rs=>if bA l r=0 then eD l rs else bA l r
def fV (l:List aQ) (rs:List (List Int)):Int:=if oY l=0 then (if 4096<rs.length then 4 else eD l rs) else oY l
theorem apZ {l:List aQ}{c:aQ}{v:Int}(hc:l[i]? = some c)(a:r[i]? = some v):jF (l.drop i) (r.drop i)=if v<0\/c.2<=v then 3 else jF (l.drop (i+1)) (r.drop (i+1)):=by
 rw[eV (fQ.1 hc).1,(fQ.1 hc).2,eV (fQ.1 a).1,(fQ.1 a).2];rfl
theorem apJ {l:List aQ}(h:rs[i]? = some r):eD l (rs.drop i)=if bA l r=0 then eD l (rs.drop (i+1)) else bA l r:=by
 rw[eV (fQ.1 h).1,(fQ.1 h).2];rfl
def zV:List aQ->List Int->Prop
 | [],[]=>True
 | c::l,v::r=>0<=v/\v<c.2/\zV l r
 | _,_=>False
theorem aqQ {l:List aQ}:bA l r=0↔zV l r:=by
 induction l generalizing r with
 | nil=>cases r <;> simp[bA,jF,zV]
 | cons c l ih =>
  cases r with
  | nil=>simp[bA,zV]
  | cons v r =>
   have:=ih (r:=r);simp only[bA,jF,zV,cD,Nat.add_right_cancel_iff] at *
   by_cases a:v<0\/c.2<=v
   ·simp[a];split <;> (simp;try omega)
   ·simp only[a,gK]
    rw[this];constructor
    ·intro h;exact⟨by omega,by omega,h⟩
    ·intro h;exact h.2.2
theorem zV.len {l:List aQ}(h:zV l r):r.length=l.length:=by
 induction l generalizing r with
 | nil=>cases r <;> simp_all [zV]
 | cons c l ih=>cases r with
  | nil=>simp[zV] at h
  | cons v r=>simp[ih h.2.2]
theorem caX {l:List aQ}:eD l rs=0↔∀ r∈rs,zV l r:=by
 induction rs with
 | nil=>simp[eD]
 | cons r rs ih =>
  simp only[eD];split
  ·rename_i h;rw[ih];simp[aqQ.1 h]
  ·rename_i h
   constructor
   ·intro a;exact absurd a h
   ·intro a;exact absurd (aqQ.2 (a r (by simp))) h
theorem xM {l:List aQ}(h:fV l rs=0):oY l=0/\rs.length<=4096/\∀ r∈rs,zV l r:=by
 unfold fV at h;split at h
 ·split at h
  ·cases h
  ·exact⟨by assumption,by omega,caX.1 h⟩
 ·rename_i h1;exact absurd h h1
end K.Ds
namespace K
open Go.RowKit K.Ds
theorem ba (w:World)(o:Obj):xQ w (w.alloc o):=(uQ _ _).alloc (vQ _) o
theorem bt {w2:World}(h:xQ w w1)(k:xQ w1 w2):xQ w w2:=h.trans (k.mono h.size)
theorem bal (h:xQ w w1)(o:Obj):xQ w (w1.alloc o):=h.alloc h.size o
theorem bs (h:xQ w w1)(a:w.heap.size<=p.block)(u:Value):xQ w (w1.setCell p u):=h.setCell a u
theorem yQ.at (h:yQ w B nb v xs)(hB:B<=w.heap.size)(a:xQ w w'):yQ w' B nb v xs:=h.keep (a.mono hB)
theorem jX {a:Addr}(h:a≠b):(w.setCell a v).cell? b=w.cell? b:=oR _ _ _ _ h
theorem uU {a:Addr}(h:w.cell? a=some u):(w.setCell a v).cell? a=some v:=World.cell?_setCell_same _ _ _ h
theorem eJ {a:Addr}:(w.setCell a v).frozen? b=w.frozen? b:=pR _ _ _ _
def kQ (w:World) (B:Nat) (v:Value) (l:List aQ):Prop :=
 ∃ a c,v=.slice a l.length c/\l.length<=c/\l.length<=9223372036854775807/\(∀ x∈l,x.1.size<=9223372036854775807) /\
  (l≠[]->∃ b o,a=some ⟨b,o,none⟩/\b<B/\∀ i x,l[i]? = some x->w.cell? ⟨b,o+i*2,none⟩=some (.string x.1)/\w.cell? ⟨b,o+i*2+1,none⟩=some (int i64 x.2))
theorem kQ.keep {l:List aQ}(h:kQ w B v l)(j:Below B w w'):kQ w' B v l:=by
 obtain⟨a,c,y,hc,k,m,z⟩:=h;refine⟨a,c,y,hc,k,m,fun hne=>?_⟩;obtain⟨b,o,ha,hB,g⟩:=z hne;exact⟨b,o,ha,hB,fun i x hi=>⟨(j.cell (p:=⟨b,o+i*2,none⟩) hB).trans (g i x hi).1,(j.cell (p:=⟨b,o+i*2+1,none⟩) hB).trans (g i x hi).2⟩⟩
theorem kQ.mono {l:List aQ}(h:kQ w B v l)(hB:B<=B'):kQ w B' v l:=by
 obtain⟨a,c,k,hc,i,j,m⟩:=h;refine⟨a,c,k,hc,i,j,fun hne=>?_⟩;obtain⟨b,o,ha,p,g⟩:=m hne;exact⟨b,o,ha,by omega,g⟩
theorem kQ.at {l:List aQ}(h:kQ w B v l)(hB:B<=w.heap.size)(a:xQ w w'):kQ w' B v l:=h.keep (a.mono hB)
theorem kQ.slice {l:List aQ}(h:kQ w B v l):∃ a c,v=.slice a l.length c/\l.length<=c/\l.length<=9223372036854775807:=by
 obtain⟨a,c,i,hc,g,_⟩:=h;exact⟨a,c,i,hc,g⟩
theorem kQ.get {l:List aQ}(h:kQ w B (.slice a n c) l)(hB:B<=w.heap.size)(p:xQ w wr)(hi:i<l.length) :
  ∃ b o nm sz,a=some ⟨b,o,none⟩/\b<B/\l[i]? = some (nm,sz)/\wr.cell? ⟨b,o+i*2,none⟩=some (.string nm)/\wr.cell? ⟨b,o+i*2+1,none⟩=some (int i64 sz)/\nm.size<=9223372036854775807:=by
 obtain⟨y,z,m,_,_,v,j⟩:=h.at hB p;simp only[yZ] at m;obtain⟨rfl,rfl,rfl⟩:=m;obtain⟨b,o,rfl,k,g⟩:=j (ne_of_lt hi);obtain⟨⟨nm,sz⟩,j⟩:=fX hi;exact⟨b,o,nm,sz,rfl,k,j,(g i _ j).1,(g i _ j).2,v _ (qX j)⟩
theorem lA {a:Int}(h:-9223372036854775808<=a/\a<=9223372036854775807):wrap64 a=a:=by
 unfold wrap64;omega
theorem wG (x y:ByteArray):(x.toList == y.toList)=decide (x=y):=by
 rw[Bool.eq_iff_iff,ByteArray.toList_eq,ByteArray.toList_eq];simp only[beq_iff_eq,dJ];constructor
 ·intro h;exact ByteArray.ext (Array.ext' h)
 ·rintro rfl;rfl
theorem caZ (p z:Nat)(a:1<=z):min (p*z) 4097=min (min p 4097*z) 4097:=by
 rcases Nat.le_total p 4097 with h|h
 ·rw[Nat.min_eq_left h]
 ·have g:4097*1<=4097*z:=Nat.mul_le_mul_left _ a
  have i:4097*z<=p*z:=Nat.mul_le_mul_right _ h;rw[Nat.min_eq_right h];omega
theorem caJ (B:Nat)(v:Value)(l:List aQ)(w:World)(hB:B<=w.heap.size)(y:kQ w B v l)(A:cG l)(n:Nat)(z:min (prd l) 4097=n) :
  Calls prog 78 #[v] w (iQ w (int i64 (n:Int))):=by
 have G:=qQ y;have I:=qQ A;have H:=qQ z;obtain⟨a,c,rfl,hc,N⟩:=y.slice;clear z A;go_enter func78,ntmps78;go_wp2
 go_loopw [3,8] (fun nv s wr=>∃ (i k:Nat),nv=int i64 (k:Int)/\s=int i64 (i:Int)/\i<=l.length/\k<=4097/\Hid (min (prd (l.take i)) 4097=k)/\xQ w wr) (fun _ s _=>l.length - (intOf s).toNat)
 case atStart=>exact⟨0,1,rfl,rfl,dQ _,by omega,by simp[Hid,prd],uQ _ _⟩
 case round =>
  obtain⟨i,k,rfl,rfl,hi,M,m,g⟩:=hrel;by_cases p:i<l.length
  ·obtain⟨b,o,nm,sz,rfl,L,h,c1,c2,O⟩:=G.out.get hB g p
   have j:=I.out _ (qX h);simp only at j;have C:=qQ h;clear h;have J:0<=(k:Int)*sz/\(k:Int)*sz<=4097*4096:=⟨sD (by omega) (by omega),nH (by omega) (by omega) (by omega) (by omega)⟩;have P:wrap64 ((k:Int)*sz)=(k:Int)*sz:=lA (by omega)
   have E:Hid (min (prd (l.take (i+1))) 4097=min (k*sz.toNat) 4097):=by
    show _=_
    rw[apQ C.out,<-m.out];exact caZ _ _ (by omega)
   have D:Hid ((if 4097<(k:Int)*sz then (4097:Int) else (k:Int)*sz)=((min (k*sz.toNat) 4097:Nat):Int)):=by
    have e:((k*sz.toNat:Nat):Int)=(k:Int)*sz:=by rw[gI,Int.toNat_of_nonneg (by omega)]
    show _=_
    split <;> omega
   clear J;go_wp2
   go_roundw
   case rel=>exact⟨i+1,min (k*sz.toNat) 4097,congrArg _ D.out,by go_num,p,by omega,E,bal g _⟩
   case measure=>simp[intOf];omega
  ·have F:Hid (k=n):=by have:=m.out;rw[gJ (by omega)] at this;exact this.symm.trans H.out
   go_wp2;go_ret;exact⟨by rw[<-F.out];rfl,g⟩
theorem aqX {l:List aQ}(h:l[i]? = some (nm,sz)):(l.take (i+1)).any (fun d=>decide (d.1=nm0))=((l.take i).any (fun d=>decide (d.1=nm0)) || decide (nm=nm0)):=by
 rw[rX,h,List.any_append];simp
theorem aqZ {l:List aQ}(h:l[i]? = some (nm,sz))(a:decide (nm=nm0)=true):l.any (fun d=>decide (d.1=nm0))=true :=
 List.any_eq_true.2 ⟨_,qX h,a⟩
theorem aqJ (g:Nat)(a h:ByteArray)(s1:Int)(w:World)(j:g<w.heap.size)(hc:w.cell? ⟨g,0,none⟩=some (.string h))(r:Bool)(i:decide (a=h)=r) :
  Calls prog 77 #[.agg #[.string a,int i64 s1],.pointer (some ⟨g,0,none⟩)] w (iQ w (.bool r)):=by
 have k:(a.toList == h.toList)=r:=(wG _ _).trans i;clear i;go_enter func77,ntmps77;go_wp2;go_ret;exact⟨rfl,ba _ _⟩
theorem cbQ (B g:Nat)(v:Value)(l:List aQ)(nm0:ByteArray)(w:World)(hB:B<=w.heap.size)(J:kQ w B v l)(I:g<w.heap.size)(z:w.cell? ⟨g,0,none⟩=some (.string nm0))(r:Bool)(L:l.any (fun d=>decide (d.1=nm0))=r) :
  Calls prog 128 #[v,.func (.func 77) #[] #[.pointer (some ⟨g,0,none⟩)]] w fun e w'=>∃ k:Int,e=.returned (int i64 k)/\decide (0<=k)=r/\xQ w w':=by
 have M:=qQ J;have G:=qQ L;have D:=qQ z;obtain⟨a,c,rfl,hc,P⟩:=J.slice;clear L z;go_enter func128,ntmps128;go_wp2
 go_loopw [8] (fun s wr=>∃ (i:Nat),s=int i64 (i:Int)/\i<=l.length/\Hid ((l.take i).any (fun d=>decide (d.1=nm0))=false)/\xQ w wr) (fun s _=>l.length - (intOf s).toNat)
 case atStart=>exact⟨0,rfl,dQ _,by simp[Hid],uQ _ _⟩
 case round =>
  obtain⟨i,rfl,hi,F,h⟩:=hrel;by_cases H:i<l.length
  ·obtain⟨b,o,nm,sz,rfl,O,C,c1,c2,Q⟩:=M.out.get hB h H
   have E:=qQ C;clear C;have A:g<wr.heap.size:=lQ I h.size;have m:=qQ ((h.cell (p:=⟨g,0,none⟩) I).trans D.out);cases he:decide (nm=nm0) with
   | true =>
    have y:=qQ he;clear he;obtain rfl:true=r:=by rw[<-G.out];exact(aqZ E.out y.out).symm
    go_wp2_with fail;refine(aqJ g nm nm0 sz _ A m.out true y.out).mono ?_;rintro e N ⟨rfl,j⟩;go_wp2;go_ret;exact⟨i,rfl,by simp,bt h j⟩
   | false =>
    have y:=qQ he;clear he;go_wp2_with fail;refine(aqJ g nm nm0 sz _ A m.out false y.out).mono ?_;rintro e N ⟨rfl,j⟩;go_wp2
    go_roundw
    case rel=>exact⟨i+1,by go_num,H,by show _=_;rw[aqX E.out,F.out,y.out];rfl,bt h j⟩
    case measure=>simp[intOf];omega
  ·obtain rfl:false=r:=by rw[<-G.out];have:=F.out;rw[gJ (by omega)] at this;exact this.symm
   go_wp2;go_ret;exact⟨-1,rfl,by simp,h⟩
theorem arQ (B g:Nat)(v:Value)(l:List aQ)(nm0:ByteArray)(w:World)(hB:B<=w.heap.size)(m:kQ w B v l)(z:g<w.heap.size)(h:w.cell? ⟨g,0,none⟩=some (.string nm0))(r:Bool)(o:l.any (fun d=>decide (d.1=nm0))=r) :
  Calls prog 76 #[v,.func (.func 77) #[] #[.pointer (some ⟨g,0,none⟩)]] w (iQ w (.bool r)):=by
 have p:=qQ m;have y:=qQ o;have i:=qQ h;obtain⟨a,c,rfl,hc,C⟩:=m.slice;clear o h;go_enter func76,ntmps76;go_wp2_with fail;refine(cbQ B g _ l nm0 w hB p.out z i.out r y.out).mono ?_;rintro e D ⟨k,rfl,A,j⟩;go_wp2;go_ret;refine⟨qH ?_,j⟩
 first|rfl|exact A|simp
theorem kQ.take {l:List aQ}(h:kQ w B (.slice a n c) l)(u:Nat)(A:u<=l.length):kQ w B (.slice a u c) (l.take u):=by
 obtain⟨v,y,k,hc,z,p,j⟩:=h;simp only[yZ] at k;obtain⟨rfl,rfl,rfl⟩:=k;have e:(l.take u).length=u:=by rw[lU];omega
 refine⟨a,c,by rw[e],by rw[e];omega,by rw[e];omega,fun x j=>p x (pG j),fun hne=>?_⟩;obtain⟨b,o,ha,m,g⟩:=j (by rintro rfl;simp at hne);refine⟨b,o,ha,m,fun i x hi=>g i x ?_⟩;rw[vN] at hi;split at hi
 ·exact hi
 ·cases hi
theorem arX (h:n<s.size):s.data.toList.drop n=s[n]::s.data.toList.drop (n+1):=by
 rw[eV (by simpa using h)];rfl
theorem cbX (h:n<s.size):zF (s.data.toList.drop n)=if aA s[n] then zF (s.data.toList.drop (n+1))+1 else 0:=by
 rw[arX h];rfl
theorem cbZ (h:n<s.size):(s.data.toList.take (n+1)).all aA=((s.data.toList.take n).all aA && aA s[n]):=by
 rw[List.take_succ_eq_append_getElem (by simpa using h),List.all_append];simp;rfl
theorem cbJ (h:n<s.size)(a:aA s[n]=false):s.data.toList.all aA=false:=by
 rw[<-xN n s.data.toList,List.all_append,arX h,List.all_cons,a];simp
theorem arZ (b:Nat)(w:World)(r:Bool)(j:(decide (97<=b) && decide (b<=122) || decide (b=95))=r):Calls prog 173 #[.int .u8 (b:Int)] w fun e w'=>e=.returned (.bool r)/\w' = w:=by
 have a:=qQ j;clear j;go_enter func173,ntmps173;by_cases h:97<=b
 ·by_cases i:b<=122
  ·obtain rfl:true=r:=by rw[<-a.out];simp[h,i]
   go_wp2;go_ret;exact⟨rfl,rfl⟩
  ·have g:b≠95:=by omega
   obtain rfl:false=r:=by rw[<-a.out];simp[i,g]
   go_wp2;go_ret;exact⟨qH (by simp;omega),rfl⟩
 ·by_cases g:b=95
  ·subst g
   obtain rfl:true=r:=by rw[<-a.out];simp
   go_wp2;go_ret;exact⟨rfl,rfl⟩
  ·obtain rfl:false=r:=by rw[<-a.out];simp[h,g]
   go_wp2;go_ret;exact⟨qH (by simp;omega),rfl⟩
theorem ccQ (s:ByteArray)(v:s.size<=9223372036854775807)(w:World)(r:Nat)(l:zF s.data.toList=r):Calls prog 172 #[.string s,.func (.func 173) #[] #[]] w fun e w'=>e=.returned (int i64 (r:Int))/\w' = w:=by
 have m:=qQ l;clear l;go_enter func172,ntmps172;go_wp2
 go_loopw [5] (fun nv wr=>∃ n:Nat,nv=int i64 (n:Int)/\n<=s.size/\Hid (n+zF (s.data.toList.drop n)=r)/\wr=w) (fun nv _=>s.size - (intOf nv).toNat)
 case atStart=>exact⟨0,rfl,dQ _,by simpa [Hid] using m.out,rfl⟩
 case round =>
  obtain⟨n,rfl,p,h,rfl⟩:=hrel;by_cases k:n<s.size
  ·have j:Hid (zF (s.data.toList.drop n)=if aA s[n] then zF (s.data.toList.drop (n+1))+1 else 0):=cbX k
   cases hb:aA s[n] with
   | true =>
    have g:=qQ hb;clear hb;go_wp2_with fail;refine(arZ s[n].toNat _ true g.out).mono ?_;rintro e o ⟨rfl,rfl⟩;go_wp2
    go_roundw
    case rel=>exact⟨n+1,by go_num,k,by have a:=h.out;rw[j.out,g.out] at a;simp only[uA] at a;show _=r;omega,trivial⟩
    case measure=>simp[intOf];omega
   | false =>
    have g:=qQ hb;clear hb;have i:Hid (n=r):=by have a:=h.out;rw[j.out,g.out] at a;simpa [Hid] using a
    go_wp2_with fail;refine(arZ s[n].toNat _ false g.out).mono ?_;rintro e o ⟨rfl,rfl⟩;go_wp2;go_ret;exact⟨by rw[<-i.out];rfl,rfl⟩
  ·have i:Hid (n=r):=by have a:=h.out;rw[gA (by simp;omega)] at a;simpa [zF,Hid] using a
   go_wp2;go_ret;exact⟨by rw[<-i.out];rfl,rfl⟩
theorem ccX (s:ByteArray)(g:s.size<=9223372036854775807)(w:World)(r:Nat)(a:zF s.data.toList=r):Calls prog 127 #[.string s] w fun e w'=>e=.returned (int i64 (r:Int))/\w' = w:=by
 have k:=ccQ s g w r a;clear a;go_enter func127,ntmps127;go_wp2_with fail;refine k.mono ?_;rintro e h ⟨rfl,rfl⟩;go_wp2;go_ret;exact⟨rfl,rfl⟩
theorem aS (s:ByteArray)(k:s.size<=9223372036854775807)(w:World)(r:Bool)(j:mJ s.data.toList=r):Calls prog 75 #[.string s] w fun e w'=>e=.returned (.bool r)/\w' = w:=by
 have g:=qQ j;have a:Hid (s.data.toList.length=s.size):=by simp[Hid]
 clear j;go_enter func75,ntmps75;by_cases h:1<=s.size
 ·by_cases i:s.size<=32
  ·go_wp2_with fail
   refine(ccX s k _ _ rfl).mono ?_;rintro e l ⟨rfl,rfl⟩;go_wp2;go_ret;refine⟨qH ?_,rfl⟩;rw[<-g.out,mJ,a.out];have:=b9J s.data.toList;rw[a.out] at this;simp only[h,i,decide_true,Bool.true_and];rw[Bool.eq_iff_iff,<-this];simp;omega
  ·obtain rfl:false=r:=by rw[<-g.out,mJ,a.out];simp[i]
   go_wp2;go_ret;exact⟨rfl,rfl⟩
 ·obtain rfl:false=r:=by rw[<-g.out,mJ,a.out];simp[h]
  go_wp2;go_ret;exact⟨rfl,rfl⟩
theorem dS (s:ByteArray)(D:s.size<=9223372036854775807)(w:World)(r:Bool)(o:mJ s.data.toList=r):Calls prog 58 #[.string s] w fun e w'=>e=.returned (.bool r)/\w' = w:=by
 have a:=qQ o;have k:Hid (s.data.toList.length=s.size):=by simp[Hid]
 clear o;go_enter func58,ntmps58;go_wp2
 go_loopw [3] (fun nv wr=>∃ n:Nat,nv=int i64 (n:Int)/\n<=s.size/\Hid ((s.data.toList.take n).all aA=true)/\wr=w) (fun nv _=>s.size - (intOf nv).toNat)
 case atStart=>exact⟨0,rfl,dQ _,by simp[Hid],rfl⟩
 case round =>
  obtain⟨n,rfl,C,j,rfl⟩:=hrel;by_cases i:n<s.size
  ·have l:Hid ((s.data.toList.take (n+1)).all aA=((s.data.toList.take n).all aA && aA s[n])):=cbZ i
   have g:=qQ (cbJ i);have h:Hid (aA s[n]=(decide (97<=s[n].toNat) && decide (s[n].toNat<=122) || decide (s[n].toNat=95))):=rfl;by_cases v:97<=s[n].toNat
   ·by_cases g2:s[n].toNat<=122
    ·go_wp2
     go_roundw
     case rel=>exact⟨n+1,by go_num,i,by show _=true;rw[l.out,j.out,h.out];simp[v,g2],trivial⟩
     case measure=>simp[intOf];omega
    ·have m:(((s[n].toNat:Nat):Int) == 95)=false:=by simp;omega
     have B:decide (((s[n].toNat:Nat):Int)<=122)=false:=by simp;omega
     obtain rfl:false=r:=by
      rw[<-a.out,mJ,g.out (by rw[h.out];simp;omega)];simp
     go_wp2;go_ret;exact⟨rfl,rfl⟩
   ·by_cases y:s[n].toNat=95
    ·have m:(((s[n].toNat:Nat):Int) == 95)=true:=by simp;omega
     go_wp2
     go_roundw
     case rel=>exact⟨n+1,by go_num,i,by show _=true;rw[l.out,j.out,h.out];simp[y],trivial⟩
     case measure=>simp[intOf];omega
    ·have m:(((s[n].toNat:Nat):Int) == 95)=false:=by simp;omega
     obtain rfl:false=r:=by
      rw[<-a.out,mJ,g.out (by rw[h.out];simp;omega)];simp
     go_wp2;go_ret;exact⟨rfl,rfl⟩
  ·have p:Hid (s.data.toList.all aA=true):=by have z:=j.out;rwa [gJ (by simp;omega)] at z
   by_cases E:0<s.size
   ·by_cases A:s.size<=32
    ·obtain rfl:true=r:=by rw[<-a.out,mJ,k.out,p.out];simp;omega
     go_wp2;go_ret;exact⟨qH (by simp;omega),rfl⟩
    ·obtain rfl:false=r:=by rw[<-a.out,mJ,k.out];simp[A]
     go_wp2;go_ret;exact⟨qH (by simp;omega),rfl⟩
   ·obtain rfl:false=r:=by rw[<-a.out,mJ,k.out];simp;omega
    go_wp2;go_ret;exact⟨rfl,rfl⟩
theorem nc (cs:Array Value)(t:TypeId)(k:Nat)(x:Value)(a:N=w.heap.size)(g:cs[k]? = some x):(w.alloc (.cells cs t)).cell? ⟨N,k,none⟩=some x:=by
 rw[pO _ _ _ _ a];exact g
theorem nf (cs:Array Value)(t:TypeId)(k:Nat)(a:N=w.heap.size):(w.alloc (.cells cs t)).frozen? ⟨N,k,none⟩=false:=nC _ _ _ _ a
theorem eS (B:Nat)(v:Value)(l:List aQ)(w:World)(hB:B<=w.heap.size)(U:kQ w B v l)(er:Int)(V:oY l=er) :
  Calls prog 38 #[v] w (iQ w (int i64 er)):=by
 have H:=qQ U;have A:=qQ V;obtain⟨a,c,rfl,hc,hl⟩:=U.slice;clear V;go_enter func38,ntmps38;by_cases O:l.length=0
 ·have Y:((l.length:Int) == 0)=true:=by simp[O]
  obtain rfl:5=er:=by rw[<-A.out,oY,jQ (by omega)]
  go_wp2;go_ret;exact⟨rfl,uQ _ _⟩
 have Y:((l.length:Int) == 0)=false:=by rw[yU];omega
 have N:=qQ O;clear O;by_cases h6:6<l.length
 ·obtain rfl:5=er:=by rw[<-A.out,oY,jQ (by omega)]
  go_wp2;go_ret;exact⟨rfl,uQ _ _⟩
 have D:Hid (oY l=if tV [] l=0 then (if 4096<prd l then 4 else 0) else tV [] l):=by show _=_;rw[oY,zQ (by have:=N.out;omega)]
 go_wp2
 go_loopw [15] (fun s wr=>∃ (i:Nat),s=int i64 (i:Int)/\i<=l.length/\Hid (tV (l.take i) (l.drop i)=tV [] l)/\xQ w wr) (fun s _=>l.length - (intOf s).toNat)
 case atStart=>exact⟨0,rfl,dQ _,by simp[Hid],uQ _ _⟩
 case round =>
  obtain⟨i,rfl,hi,L,h⟩:=hrel;by_cases T:i<l.length
  ·obtain⟨b,o,nm,sz,rfl,hb,E,c1,c2,J⟩:=H.out.get hB h T
   have I:=qQ (L.out.symm.trans (apX E));clear E L;have Z:=h.size;cases hnm:mJ nm.data.toList with
   | false =>
    have k:=qQ hnm;clear hnm;obtain rfl:2=er:=by rw[<-A.out,D.out,I.out,k.out];simp
    go_wp2_with fail;refine(aS nm J _ false k.out).mono ?_;rintro e y ⟨rfl,rfl⟩;go_wp2;go_ret;exact⟨rfl,bal h _⟩
   | true =>
    have k:=qQ hnm;clear hnm;cases han:(l.take i).any (fun d=>decide (d.1=nm)) with
    | true =>
     have C:=qQ han;clear han;obtain rfl:7=er:=by rw[<-A.out,D.out,I.out,k.out,C.out];simp
     have z:=arQ B wr.heap.size (.slice (some ⟨b,o,none⟩) i c) (l.take i) nm (wr.alloc (.cells #[.string nm,int i64 sz] 108)) (by simp;omega) (((H.out.take i hi).at hB h).at (by omega) (ba _ _)) (by simp) (nc _ _ 0 _ rfl rfl) true C.out;go_wp2_with fail;refine(aS nm J _ true k.out).mono ?_;rintro e y ⟨rfl,rfl⟩;go_wp2_with fail;refine z.mono ?_;rintro e y ⟨rfl,g⟩;have m:xQ w y:=bt (bal h _) g;clear g z;go_wp2;go_ret;exact⟨rfl,m⟩
    | false =>
     have C:=qQ han;clear han;have z:=arQ B wr.heap.size (.slice (some ⟨b,o,none⟩) i c) (l.take i) nm (wr.alloc (.cells #[.string nm,int i64 sz] 108)) (by simp;omega) (((H.out.take i hi).at hB h).at (by omega) (ba _ _)) (by simp) (nc _ _ 0 _ rfl rfl) false C.out;have j:(wr.alloc (.cells #[.string nm,int i64 sz] 108)).cell? ⟨wr.heap.size,1,none⟩=some (int i64 sz):=nc _ _ 1 _ rfl rfl;by_cases G:sz<1\/4096<sz
     ·obtain rfl:3=er:=by rw[<-A.out,D.out,I.out,k.out,C.out];simp[G]
      go_wp2_with fail;refine(aS nm J _ true k.out).mono ?_;rintro e y ⟨rfl,rfl⟩;go_wp2_with fail;refine z.mono ?_;rintro e y ⟨rfl,g⟩;have m:xQ w y:=bt (bal h _) g;have P:y.cell? ⟨wr.heap.size,1,none⟩=some (int i64 sz):=(g.cell (p:=⟨wr.heap.size,1,none⟩) (by simp)).trans j;clear g z j;by_cases R:sz<1
      ·clear G
       go_wp2;go_ret;exact⟨rfl,m⟩
      ·have S:4096<sz:=by omega
       clear G;go_wp2;go_ret;exact⟨rfl,m⟩
     ·have M:Hid (tV (l.take (i+1)) (l.drop (i+1))=tV [] l):=by show _=_;rw[I.out,k.out,C.out];simp[G]
      have R:¬ sz<1:=by omega
      have S:¬ 4096<sz:=by omega
      clear G;go_wp2_with fail;refine(aS nm J _ true k.out).mono ?_;rintro e y ⟨rfl,rfl⟩;go_wp2_with fail;refine z.mono ?_;rintro e y ⟨rfl,g⟩;have m:xQ w y:=bt (bal h _) g;have P:y.cell? ⟨wr.heap.size,1,none⟩=some (int i64 sz):=(g.cell (p:=⟨wr.heap.size,1,none⟩) (by simp)).trans j;clear g z j;go_wp2
      go_roundw
      case rel=>exact⟨i+1,by go_num,T,M,m⟩
      case measure=>simp[intOf];omega
  ·have k:Hid (tV [] l=0):=by have:=L.out;rw[gA (by omega)] at this;exact this.symm.trans rfl
   have X:=qQ (aoJ k.out);have z:=caJ B _ l wr (bQ hB h.size) (H.out.at hB h) X.out _ rfl;by_cases F:4096<prd l
   ·obtain rfl:4=er:=by rw[<-A.out,D.out,k.out];simp[F]
    have Q:min (prd l) 4097=4097:=by omega
    rw[Q] at z;go_wp2_with fail;refine z.mono ?_;rintro e y ⟨rfl,g⟩;go_wp2;go_ret;exact⟨rfl,bt h g⟩
   ·obtain rfl:0=er:=by rw[<-A.out,D.out,k.out];simp[F]
    have Q:min (prd l) 4097=prd l:=by omega
    rw[Q] at z;go_wp2_with fail;refine z.mono ?_;rintro e y ⟨rfl,g⟩;go_wp2;go_ret;exact⟨rfl,bt h g⟩
theorem yQ.slice (h:yQ w B nb v xs):∃ a c,v=.slice a xs.length c/\xs.length<=c/\xs.length<=9223372036854775807:=by
 obtain⟨a,c,i,hc,g,_⟩:=h;exact⟨a,c,i,hc,g⟩
theorem yQ.get (h:yQ w B nb (.slice a n c) xs)(hB:B<=w.heap.size)(m:xQ w wr)(hi:i<xs.length) :
  ∃ b o x,a=some ⟨b,o,none⟩/\b<B/\b≠nb/\xs[i]? = some x/\wr.cell? ⟨b,o+i,none⟩=some (int i64 x):=by
 obtain⟨v,y,l,_,_,j⟩:=h.at hB m;simp only[yZ] at l;obtain⟨rfl,rfl,rfl⟩:=l;obtain⟨b,o,rfl,k,p,g⟩:=j (ne_of_lt hi);obtain⟨x,j⟩:=fX hi;exact⟨b,o,x,rfl,k,p,j,g i _ j⟩
theorem ccZ (B D nb:Nat)(v u:Value)(l:List aQ)(r:List Int)(w:World)(hB:B<=w.heap.size)(H:kQ w B v l)(y:D<=w.heap.size)(I:yQ w D nb u r)(er:Int)(J:bA l r=er) :
  Calls prog 39 #[v,u] w fun e w'=>e=.returned (int i64 er)/\w' = w:=by
 have M:=qQ H;have N:=qQ I;have E:=qQ J;obtain⟨a,c,rfl,hc,S⟩:=H.slice;obtain⟨a2,c2,rfl,P,Q⟩:=I.slice;clear J;go_enter func39,ntmps39;by_cases g:l.length=r.length
 ·have z:(((r.length:Int)) != (l.length:Int))=false:=by simp[g]
  have h:=qQ g;have L:Hid (bA l r=jF l r):=by show _=_;rw[bA,jQ g]
  clear g;go_wp2
  go_loopw [14] (fun s wr=>∃ (i:Nat),s=int i64 (i:Int)/\i<=r.length/\Hid (jF (l.drop i) (r.drop i)=er)/\wr=w) (fun s _=>r.length - (intOf s).toNat)
  case atStart=>exact⟨0,rfl,dQ _,by show _=_;simpa using L.out.symm.trans E.out,rfl⟩
  case round =>
   obtain⟨i,rfl,hi,k,rfl⟩:=hrel;by_cases F:i<r.length
   ·obtain⟨b,o,nm,sz,rfl,R,G,c1,c2,T⟩:=M.out.get hB (uQ _ _) (i:=i) (by have:=h.out;omega)
    obtain⟨b2,U,x,rfl,O,_,j,e1⟩:=N.out.get y (uQ _ _) F;have z1:(i:Int)<(l.length:Int):=by have:=h.out;omega
    have p:=qQ (k.out.symm.trans (apZ G j));clear G j k;by_cases A:x<0
    ·obtain rfl:er=3:=by rw[p.out,jQ (.inl A)]
     go_wp2;go_ret;exact⟨rfl,rfl⟩
    ·by_cases C:sz<=x
     ·obtain rfl:er=3:=by rw[p.out,jQ (.inr C)]
      go_wp2;go_ret;exact⟨rfl,rfl⟩
     ·have m:Hid (jF (l.drop (i+1)) (r.drop (i+1))=er):=by show _=_;rw[p.out,zQ (by omega)]
      go_wp2
      go_roundw
      case rel=>exact⟨i+1,by go_num,F,m,trivial⟩
      case measure=>simp[intOf];omega
   ·obtain rfl:0=er:=by have:=k.out;rw[show r.drop i=[] from gA (by omega)] at this;rw[<-this];cases l.drop i <;> rfl
    go_wp2;go_ret;exact⟨rfl,rfl⟩
 ·have z:(((r.length:Int)) != (l.length:Int))=true:=by simp;omega
  obtain rfl:8=er:=by rw[<-E.out,bA,zQ g]
  go_wp2;go_ret;exact⟨rfl,rfl⟩
theorem ccJ (B D nb:Nat)(v u:Value)(l:List aQ)(r:List Int)(w:World)(hB:B<=w.heap.size)(H:kQ w B v l)(y:D<=w.heap.size)(I:yQ w D nb u r)(er:Int)(J:bA l r=er) :
  Calls prog 29 #[v,u] w fun e w'=>e=.returned (int i64 er)/\w' = w:=by
 have M:=qQ H;have N:=qQ I;have E:=qQ J;obtain⟨a,c,rfl,hc,S⟩:=H.slice;obtain⟨a2,c2,rfl,P,Q⟩:=I.slice;clear J;go_enter func29,ntmps29;by_cases g:l.length=r.length
 ·have z:(((l.length:Int)) != (r.length:Int))=false:=by simp[g]
  have h:=qQ g;have L:Hid (bA l r=jF l r):=by show _=_;rw[bA,jQ g]
  clear g;go_wp2
  go_loopw [14] (fun s wr=>∃ (i:Nat),s=int i64 (i:Int)/\i<=r.length/\Hid (jF (l.drop i) (r.drop i)=er)/\wr=w) (fun s _=>r.length - (intOf s).toNat)
  case atStart=>exact⟨0,rfl,dQ _,by show _=_;simpa using L.out.symm.trans E.out,rfl⟩
  case round =>
   obtain⟨i,rfl,hi,k,rfl⟩:=hrel;by_cases F:i<r.length
   ·obtain⟨b,o,nm,sz,rfl,R,G,c1,c2,T⟩:=M.out.get hB (uQ _ _) (i:=i) (by have:=h.out;omega)
    obtain⟨b2,U,x,rfl,O,_,j,e1⟩:=N.out.get y (uQ _ _) F;have z1:(i:Int)<(l.length:Int):=by have:=h.out;omega
    have p:=qQ (k.out.symm.trans (apZ G j));clear G j k;by_cases A:x<0
    ·obtain rfl:er=3:=by rw[p.out,jQ (.inl A)]
     go_wp2;go_ret;exact⟨rfl,rfl⟩
    ·by_cases C:sz<=x
     ·obtain rfl:er=3:=by rw[p.out,jQ (.inr C)]
      go_wp2;go_ret;exact⟨rfl,rfl⟩
     ·have m:Hid (jF (l.drop (i+1)) (r.drop (i+1))=er):=by show _=_;rw[p.out,zQ (by omega)]
      go_wp2
      go_roundw
      case rel=>exact⟨i+1,by go_num,F,m,trivial⟩
      case measure=>simp[intOf];omega
   ·obtain rfl:0=er:=by have:=k.out;rw[show r.drop i=[] from gA (by omega)] at this;rw[<-this];cases l.drop i <;> rfl
    go_wp2;go_ret;exact⟨rfl,rfl⟩
 ·have z:(((l.length:Int)) != (r.length:Int))=true:=by simp;omega
  obtain rfl:8=er:=by rw[<-E.out,bA,zQ g]
  go_wp2;go_ret;exact⟨rfl,rfl⟩
def KP (p k:Nat):Prop:=k<=16777216/\(p<=4096->k=p)/\(4096<p->4096<k)
theorem KP.lo {p:Nat}(h:KP p k)(g:k<=4096)(i:z<=4096):KP (p*z) (k*z):=by
 obtain⟨_,a,j⟩:=h;have e:k=p:=a (by omega);subst e;refine⟨?_,fun _=>rfl,fun h=>h⟩;exact Nat.mul_le_mul g i
theorem KP.hi {p:Nat}(h:KP p k)(g:4096<k)(i:1<=z):KP (p*z) k:=by
 obtain⟨a,j,l⟩:=h;have m:4096<p:=by omega
 have:p*1<=p*z:=Nat.mul_le_mul_left _ i;exact⟨a,fun h=>by omega,fun _=>g⟩
theorem arJ (B:Nat)(v:Value)(l:List aQ)(w:World)(hB:B<=w.heap.size)(hp:kQ w B v l)(er:Int)(hr:oY l=er) :
  Calls prog 28 #[v] w (iQ w (int i64 er)):=by
 have HP:=qQ hp;have L:=qQ hr;obtain⟨a,c,rfl,hc,hl⟩:=hp.slice;clear hr;go_enter func28,ntmps28;by_cases h0:l.length<1
 ·obtain rfl:5=er:=by rw[<-L.out,oY,jQ (by omega)]
  go_wp2;go_ret;exact⟨rfl,uQ _ _⟩
 by_cases h6:6<l.length
 ·obtain rfl:5=er:=by rw[<-L.out,oY,jQ (by omega)]
  go_wp2;go_ret;exact⟨rfl,uQ _ _⟩
 have O:Hid (oY l=if tV [] l=0 then (if 4096<prd l then 4 else 0) else tV [] l):=by show _=_;rw[oY,zQ (by omega)]
 go_wp2
 go_loopw [3,18] (fun nv s wr=>∃ (i k:Nat),nv=int i64 (k:Int)/\s=int i64 (i:Int)/\i<=l.length/\Hid (tV (l.take i) (l.drop i)=tV [] l)/\Hid (KP (prd (l.take i)) k)/\xQ w wr) (fun _ s _=>l.length - (intOf s).toNat)
 case atStart=>exact⟨0,1,rfl,rfl,dQ _,by simp[Hid],⟨by omega,fun _=>rfl,fun h=>by simp[prd] at h⟩,uQ _ _⟩
 case round =>
  obtain⟨i,k,rfl,rfl,hi,HI,R,m⟩:=hrel;by_cases h1:i<l.length
  ·obtain⟨b,o,nm,sz,rfl,hb,M,c1,c2,hn⟩:=HP.out.get hB m h1
   have Z:=qQ (HI.out.symm.trans (apX M));have S:=qQ (apQ M);have V:k<=16777216:=R.out.1;clear M HI;have au:=m.size;cases hnm:mJ nm.data.toList with
   | false =>
    have D:=qQ hnm;clear hnm;obtain rfl:2=er:=by rw[<-L.out,O.out,Z.out,D.out];simp
    go_wp2_with fail;refine(dS nm hn _ false D.out).mono ?_;rintro e w1 ⟨rfl,rfl⟩;go_wp2;go_ret;exact⟨rfl,bal m _⟩
   | true =>
    have D:=qQ hnm;clear hnm;go_wp2_with fail;refine(dS nm hn _ true D.out).mono ?_;rintro e w1 ⟨rfl,rfl⟩;obtain⟨A,aa⟩:∃ A:World,A=wr:=⟨_,rfl⟩;subst aa;obtain⟨H,z⟩:∃ H:World,H=A.alloc (.cells #[.string nm,int i64 sz] 108):=⟨_,rfl⟩;have F:xQ w H:=by rw[z];exact bal m _
    have d0:H.cell? ⟨A.heap.size,0,none⟩=some (.string nm):=by rw[z];exact pO _ _ _ _ rfl
    have d1:H.cell? ⟨A.heap.size,1,none⟩=some (int i64 sz):=by rw[z];exact pO _ _ _ _ rfl
    have N:A.heap.size<H.heap.size:=by rw[z];simp
    rw[<-z];have HT:=qQ ((HP.out.take i hi).at hB F);have X:Hid ((l.take i).length=i):=by show _=_;rw[lU];omega
    have a8:B<=H.heap.size:=by omega
    clear z m c1 c2;go_wp2
    go_loopw [31] (fun s wi=>∃ (j:Nat),s=int i64 (j:Int)/\j<=i/\Hid (((l.take i).take j).any (fun d=>decide (d.1=nm))=false)/\xQ H wi) (fun s _=>i - (intOf s).toNat)
    case atStart=>exact⟨0,rfl,dQ _,by simp[Hid],uQ _ _⟩
    case round =>
     obtain⟨j,rfl,hj,HJ,y⟩:=hrel;have d2:wr.cell? ⟨A.heap.size,0,none⟩=some (.string nm):=(y.cell (p:=⟨A.heap.size,0,none⟩) N).trans d0;have d3:wr.cell? ⟨A.heap.size,1,none⟩=some (int i64 sz):=(y.cell (p:=⟨A.heap.size,1,none⟩) N).trans d1;have C:xQ w wr:=bt F y;have af:=y.size;clear d0 d1;by_cases U:j<i
     ·obtain⟨b',o',E,ag,T,_,G,e1,e2,_⟩:=HT.out.get a8 y (i:=j) (by rw[X.out];exact U)
      simp only[aZ,dD] at T;obtain⟨rfl,rfl,_⟩:=T;have P:=qQ G;clear G;have d4:(wr.alloc (.cells #[.string E,int i64 ag] 108)).cell? ⟨A.heap.size,0,none⟩=some (.string nm):=((ba wr _).cell (p:=⟨A.heap.size,0,none⟩) (lQ N af)).trans d2;cases heq:decide (E=nm) with
      | true =>
       have I:=qQ heq;have hq:(E.toList == nm.toList)=true:=(wG _ _).trans heq;clear heq
       obtain rfl:7=er:=by
        rw[<-L.out,O.out,Z.out,D.out,aqZ P.out I.out];simp
       go_wp2;go_ret;exact⟨rfl,bal C _⟩
      | false =>
       have I:=qQ heq;have hq:(E.toList == nm.toList)=false:=(wG _ _).trans heq;clear heq;go_wp2
       go_roundw
       case rel=>exact⟨j+1,by go_num,U,by show _=_;rw[aqX P.out,HJ.out,I.out];rfl,bal y _⟩
       case measure=>simp[intOf];omega
     ·have HA:Hid ((l.take i).any (fun d=>decide (d.1=nm))=false):=by
       have:=HJ.out;rwa [gJ (by rw[X.out];omega)] at this
      by_cases Y:sz<1\/4096<sz
      ·obtain rfl:3=er:=by rw[<-L.out,O.out,Z.out,D.out,HA.out];simp[Y]
       by_cases ac:sz<1
       ·clear Y
        go_wp2;go_ret;exact⟨rfl,C⟩
       ·have ae:4096<sz:=by omega
        clear Y;go_wp2;go_ret;exact⟨rfl,C⟩
      ·have Q:Hid (tV (l.take (i+1)) (l.drop (i+1))=tV [] l):=by show _=_;rw[Z.out,D.out,HA.out];simp[Y]
       have ac:¬ sz<1:=by omega
       have ae:¬ 4096<sz:=by omega
       clear Y;by_cases a9:k<=4096
       ·have g:Hid (KP (prd (l.take (i+1))) (k*sz.toNat)):=by show KP _ _;rw[S.out];exact R.out.lo a9 (by omega)
        have J:Hid ((k:Int)*sz=((k*sz.toNat:Nat):Int)):=by
         show _=_
         rw[gI,Int.toNat_of_nonneg (by omega)]
        have hw:wrap64 ((k:Int)*sz)=(k:Int)*sz:=lA (by have:=J.out;have:=g.out.1;omega);go_wp2
        go_roundw
        case rel=>exact⟨i+1,k*sz.toNat,by first|exact congrArg _ J.out|(rw[hw];exact congrArg _ J.out),by go_num,h1,Q,g,C⟩
        case measure=>simp[intOf];omega
       ·have g:Hid (KP (prd (l.take (i+1))) k):=by show KP _ _;rw[S.out];exact R.out.hi (by omega) (by omega)
        go_wp2
        go_roundw
        case rel=>exact⟨i+1,k,rfl,by go_num,h1,Q,g,C⟩
        case measure=>simp[intOf];omega
  ·have D:Hid (tV [] l=0):=by have:=HI.out;rw[gA (by omega)] at this;exact this.symm.trans rfl
   have g:Hid (KP (prd l) k):=by have:=R.out;rwa [gJ (by omega)] at this
   have V:k<=16777216:=R.out.1;by_cases ao:4096<k
   ·obtain rfl:4=er:=by rw[<-L.out,O.out,D.out,jQ rfl,jQ (by have:=g.out.2.1;omega)]
    go_wp2;go_ret;exact⟨rfl,m⟩
   ·obtain rfl:0=er:=by rw[<-L.out,O.out,D.out,jQ rfl,zQ (by have:=g.out.2.2;omega)]
    go_wp2;go_ret;exact⟨rfl,m⟩
abbrev Rw:=Value × List Int
def nQ (w:World) (B:Nat) (v:Value) (ts:List Rw):Prop :=
 ∃ a c,v=.slice a ts.length c/\ts.length<=c/\ts.length<=9223372036854775807/\(∀ t∈ts,yQ w B B t.1 t.2) /\
  (ts≠[]->∃ b o,a=some ⟨b,o,none⟩/\b<B/\∀ i t,ts[i]? = some t->w.cell? ⟨b,o+i,none⟩=some t.1)
def rr (ts:List Rw):List (List Int):=ts.map (·.2)
theorem sA (ts:List Rw):(rr ts).length=ts.length:=by simp[rr]
theorem oI {ts:List Rw}{t:Rw}(h:ts[i]? = some t):(rr ts)[i]? = some t.2:=by simp[rr,h]
theorem nQ.keep {ts:List Rw}(h:nQ w B v ts)(j:Below B w w'):nQ w' B v ts:=by
 obtain⟨a,c,l,hc,k,hi,m⟩:=h;refine⟨a,c,l,hc,k,fun t ht=>(hi t ht).keep j,fun hne=>?_⟩;obtain⟨b,o,ha,hB,g⟩:=m hne;exact⟨b,o,ha,hB,fun i t ht=>(j.cell (p:=⟨b,o+i,none⟩) hB).trans (g i t ht)⟩
theorem nQ.at {ts:List Rw}(h:nQ w B v ts)(hB:B<=w.heap.size)(a:xQ w w'):nQ w' B v ts:=h.keep (a.mono hB)
theorem nQ.mono {ts:List Rw}(h:nQ w B v ts)(hB:B<=B'):nQ w B' v ts:=by
 obtain⟨a,c,j,hc,i,hi,k⟩:=h;refine⟨a,c,j,hc,i,fun t ht=>(hi t ht).mono hB (.inr hB),fun hne=>?_⟩;obtain⟨b,o,ha,l,g⟩:=k hne;exact⟨b,o,ha,by omega,g⟩
theorem nQ.slice {ts:List Rw}(h:nQ w B v ts):∃ a c,v=.slice a ts.length c/\ts.length<=c/\ts.length<=9223372036854775807:=by
 obtain⟨a,c,i,hc,g,_⟩:=h;exact⟨a,c,i,hc,g⟩
theorem nQ.get {ts:List Rw}(h:nQ w B (.slice a n c) ts)(hB:B<=w.heap.size)(z:xQ w wr)(hi:i<ts.length) :
  ∃ b o j k xs,a=some ⟨b,o,none⟩/\b<B/\ts[i]? = some (.slice j xs.length k,xs)/\wr.cell? ⟨b,o+i,none⟩=some (.slice j xs.length k)/\yQ wr B B (.slice j xs.length k) xs:=by
 obtain⟨C,D,y,_,_,m,A⟩:=h.at hB z;simp only[yZ] at y;obtain⟨rfl,rfl,rfl⟩:=y;obtain⟨b,o,rfl,l,g⟩:=A (ne_of_lt hi);obtain⟨⟨E,xs⟩,p⟩:=fX hi;have v:=m _ (qX p);obtain⟨j,k,e,_⟩:=v.slice;simp only at e;subst e;exact⟨b,o,j,k,xs,rfl,l,p,g i _ p,v⟩
theorem rK (B:Nat)(cv rv:Value)(l:List aQ)(ts:List Rw)(w:World)(hB:B<=w.heap.size)(R:kQ w B cv l)(S:nQ w B rv ts)(er:Int)(T:fV l (rr ts)=er) :
  Calls prog 18 #[.agg #[cv,rv]] w (iQ w (int i64 er)):=by
 have L:=qQ R;have V:=qQ S;have H:=qQ T;obtain⟨a,c,rfl,hc,hl⟩:=R.slice;obtain⟨a2,c2,rfl,X,Y⟩:=S.slice;clear T;obtain⟨y,k⟩:∃ y,Hid (oY l=y):=⟨_,rfl⟩;have C:=eS B _ l (w.alloc (.cells #[.slice a l.length c,.slice a2 ts.length c2] 25)) (by simp;omega) (L.out.at hB (ba _ _)) y k.out;have d0:(w.alloc (.cells #[.slice a l.length c,.slice a2 ts.length c2] 25)).cell? ⟨w.heap.size,0,none⟩=some (.slice a l.length c):=nc _ _ 0 _ rfl rfl;have d1:(w.alloc (.cells #[.slice a l.length c,.slice a2 ts.length c2] 25)).cell? ⟨w.heap.size,1,none⟩=some (.slice a2 ts.length c2):=nc _ _ 1 _ rfl rfl;go_enter func18,ntmps18;go_wp2_with fail;refine C.mono ?_;rintro e D ⟨rfl,h⟩;have g:xQ w D:=bt (ba _ _) h;have f0:D.cell? ⟨w.heap.size,0,none⟩=some (.slice a l.length c):=(h.cell (p:=⟨w.heap.size,0,none⟩) (by simp)).trans d0;have f1:D.cell? ⟨w.heap.size,1,none⟩=some (.slice a2 ts.length c2):=(h.cell (p:=⟨w.heap.size,1,none⟩) (by simp)).trans d1;have Z:w.heap.size<D.heap.size:=by have:=h.size;simp at this;omega
 clear C d0 d1 h;by_cases j:y=0
 ·subst j
  have J:Hid (fV l (rr ts)=if 4096<ts.length then 4 else eD l (rr ts)):=by show _=_;rw[fV,jQ k.out,sA]
  by_cases O:4096<ts.length
  ·obtain rfl:4=er:=by rw[<-H.out,J.out,jQ O]
   go_wp2;go_ret;exact⟨rfl,g⟩
  ·go_wp2
   go_loopw [20] (fun s wr=>∃ (i:Nat),s=int i64 (i:Int)/\i<=ts.length/\Hid (eD l ((rr ts).drop i)=er)/\wr=D) (fun s _=>ts.length - (intOf s).toNat)
   case atStart=>exact⟨0,rfl,dQ _,by show _=_;rw[nL,<-H.out,J.out,zQ O],rfl⟩
   case round =>
    obtain⟨i,rfl,hi,E,rfl⟩:=hrel;by_cases N:i<ts.length
    ·obtain⟨b,o,sa,sc,U,rfl,hb,Q,e1,P⟩:=V.out.get hB g N
     have G:=qQ P;have M:=qQ (E.out.symm.trans (apJ (oI Q)));clear Q P E;obtain⟨z,m⟩:∃ z,Hid (bA l U=z):=⟨_,rfl⟩;have A:B<=wr.heap.size:=by omega
     have C:=ccZ B B B _ _ l U wr A (L.out.at hB g) A G.out z m.out;by_cases v:z=0
     ·subst v
      have F:Hid (eD l ((rr ts).drop (i+1))=er):=by show _=_;rw[M.out,jQ m.out]
      go_wp2_with fail;refine C.mono ?_;rintro e w2 ⟨rfl,rfl⟩;go_wp2
      go_roundw
      case rel=>exact⟨i+1,by go_num,N,F,trivial⟩
      case measure=>simp[intOf];omega
     ·have I:(z != 0)=true:=by simpa using v
      obtain rfl:z=er:=by rw[M.out,m.out,zQ v]
      go_wp2_with fail;refine C.mono ?_;rintro e w2 ⟨rfl,rfl⟩;go_wp2;go_ret;exact⟨rfl,g⟩
    ·obtain rfl:0=er:=by have:=E.out;rw[gA (by rw[sA];omega)] at this;exact this
     go_wp2;go_ret;exact⟨rfl,g⟩
 ·have I:(y != 0)=true:=by simpa using j
  obtain rfl:y=er:=by rw[<-H.out,fV,k.out,zQ j]
  go_wp2;go_ret;exact⟨rfl,g⟩
theorem asQ (B:Nat)(cv rv:Value)(l:List aQ)(ts:List Rw)(w:World)(hB:B<=w.heap.size)(R:kQ w B cv l)(S:nQ w B rv ts)(er:Int)(T:fV l (rr ts)=er) :
  Calls prog 13 #[.agg #[cv,rv]] w (iQ w (int i64 er)):=by
 have L:=qQ R;have V:=qQ S;have H:=qQ T;obtain⟨a,c,rfl,hc,hl⟩:=R.slice;obtain⟨a2,c2,rfl,X,Y⟩:=S.slice;clear T;obtain⟨y,k⟩:∃ y,Hid (oY l=y):=⟨_,rfl⟩;have C:=arJ B _ l (w.alloc (.cells #[.slice a l.length c,.slice a2 ts.length c2] 25)) (by simp;omega) (L.out.at hB (ba _ _)) y k.out;have d0:(w.alloc (.cells #[.slice a l.length c,.slice a2 ts.length c2] 25)).cell? ⟨w.heap.size,0,none⟩=some (.slice a l.length c):=nc _ _ 0 _ rfl rfl;have d1:(w.alloc (.cells #[.slice a l.length c,.slice a2 ts.length c2] 25)).cell? ⟨w.heap.size,1,none⟩=some (.slice a2 ts.length c2):=nc _ _ 1 _ rfl rfl;go_enter func13,ntmps13;go_wp2_with fail;refine C.mono ?_;rintro e D ⟨rfl,h⟩;have g:xQ w D:=bt (ba _ _) h;have f0:D.cell? ⟨w.heap.size,0,none⟩=some (.slice a l.length c):=(h.cell (p:=⟨w.heap.size,0,none⟩) (by simp)).trans d0;have f1:D.cell? ⟨w.heap.size,1,none⟩=some (.slice a2 ts.length c2):=(h.cell (p:=⟨w.heap.size,1,none⟩) (by simp)).trans d1;have Z:w.heap.size<D.heap.size:=by have:=h.size;simp at this;omega
 clear C d0 d1 h;by_cases j:y=0
 ·subst j
  have J:Hid (fV l (rr ts)=if 4096<ts.length then 4 else eD l (rr ts)):=by show _=_;rw[fV,jQ k.out,sA]
  by_cases O:4096<ts.length
  ·obtain rfl:4=er:=by rw[<-H.out,J.out,jQ O]
   go_wp2;go_ret;exact⟨rfl,g⟩
  ·go_wp2
   go_loopw [20] (fun s wr=>∃ (i:Nat),s=int i64 (i:Int)/\i<=ts.length/\Hid (eD l ((rr ts).drop i)=er)/\wr=D) (fun s _=>ts.length - (intOf s).toNat)
   case atStart=>exact⟨0,rfl,dQ _,by show _=_;rw[nL,<-H.out,J.out,zQ O],rfl⟩
   case round =>
    obtain⟨i,rfl,hi,E,rfl⟩:=hrel;by_cases N:i<ts.length
    ·obtain⟨b,o,sa,sc,U,rfl,hb,Q,e1,P⟩:=V.out.get hB g N
     have G:=qQ P;have M:=qQ (E.out.symm.trans (apJ (oI Q)));clear Q P E;obtain⟨z,m⟩:∃ z,Hid (bA l U=z):=⟨_,rfl⟩;have A:B<=wr.heap.size:=by omega
     have C:=ccJ B B B _ _ l U wr A (L.out.at hB g) A G.out z m.out;by_cases v:z=0
     ·subst v
      have F:Hid (eD l ((rr ts).drop (i+1))=er):=by show _=_;rw[M.out,jQ m.out]
      go_wp2_with fail;refine C.mono ?_;rintro e w2 ⟨rfl,rfl⟩;go_wp2
      go_roundw
      case rel=>exact⟨i+1,by go_num,N,F,trivial⟩
      case measure=>simp[intOf];omega
     ·have I:(z != 0)=true:=by simpa using v
      obtain rfl:z=er:=by rw[M.out,m.out,zQ v]
      go_wp2_with fail;refine C.mono ?_;rintro e w2 ⟨rfl,rfl⟩;go_wp2;go_ret;exact⟨rfl,g⟩
    ·obtain rfl:0=er:=by have:=E.out;rw[gA (by rw[sA];omega)] at this;exact this
     go_wp2;go_ret;exact⟨rfl,g⟩
 ·have I:(y != 0)=true:=by simpa using j
  obtain rfl:y=er:=by rw[<-H.out,fV,k.out,zQ j]
  go_wp2;go_ret;exact⟨rfl,g⟩
theorem rH:(prog.info? 3).map (fun i=>(i.zero,i.size,i.bytes))=some (some (int i64 0),1,8):=by kernel_rfl
structure RowI (w:World) (g:Nat) (xs:List Int):Prop where
 cells:∀ i x,xs[i]? = some x->w.cell? ⟨g,i,none⟩=some (int i64 x)
 thaw:∀ i,i<xs.length->w.frozen? ⟨g,i,none⟩=false
 lt:g<w.heap.size
theorem RowI.keep (h:RowI w g xs)(a:Below N w w')(j:g<N):RowI w' g xs :=
 ⟨fun i x hi=>(a.cell (p:=⟨g,i,none⟩) j).trans (h.cells i x hi),fun i hi=>(a.frozen (p:=⟨g,i,none⟩) j).trans (h.thaw i hi),lQ h.lt a.size⟩
theorem RowI.set (h:RowI w g xs)(i:Nat)(k:Int):RowI (w.setCell ⟨g,i,none⟩ (int i64 k)) g (xs.set i k):=by
 refine⟨fun j x hj=>?_,fun j hj=>by rw[eJ];exact h.thaw j (by simpa using hj),by simpa using h.lt⟩;by_cases e:i=j
 ·subst e
  have hi:i<xs.length:=by have:=(fQ.1 hj).1;simpa using this
  rw[wD hi] at hj;obtain rfl:k=x:=by simpa using hj
  obtain⟨y,a⟩:=fX hi;exact uU (h.cells i y a)
 ·rw[sF e] at hj
  rw[jX (fun h=>e (congrArg Addr.off h))];exact h.cells j x hj
theorem RowI.made (w:World)(n:Nat):RowI (w.alloc (.cells (madeCells #[int i64 0] n) 3)) w.heap.size (List.replicate n 0):=by
 refine⟨fun i x hi=>?_,fun i _=>nC _ _ _ _ rfl,by simp⟩;have a:i<n:=by have:=(fQ.1 hi).1;simpa using this
 obtain rfl:x=0:=by
  have:=(fQ.1 hi).2;simp at this;exact this.symm
 rw[pO _ _ _ _ rfl];simp[madeCells,a,Nat.mod_one]
theorem zM (n:Nat)(k:n<=1073741824)(u:World):(Instr.makeSlice 35 (int i64 (n:Int)) (int i64 (n:Int))).run prog u =
  .ok (.slice (some ⟨u.heap.size,0,none⟩) n n) (u.alloc (.cells (madeCells #[int i64 0] n) 3)):=by
 obtain⟨j,hi,a,g,i⟩:=pZ rH;have h:=run_make (P:=prog) u 35 3 j (int i64 0) underlying35 hi a .i64 .i64 (n:Int) (n:Int) (by omega) (iK _) (by rw[i];omega) (by omega);rw[tF] at h;simpa [g,Value.cells] using h
theorem xP (h:w.heap[g]? = some (.cells cur e (0,0))):w.frozen? ⟨g,j,none⟩=false:=by
 simp[World.frozen?,h]
theorem dG {xs:List Value}(h:w.ownsRow base e size v n xs)(l:xQ w w'):w'.ownsRow base e size v n xs:=by
 obtain⟨j,i⟩:=h;refine⟨j,?_⟩;rcases i with i|⟨g,cap,cur,o,m,a,k⟩
 ·exact .inl i
 ·exact .inr ⟨g,cap,cur,o,m,by rw[l.block g (mY.1 a).1];exact a,k⟩
theorem pI {xs:List Value}(h:w.ownsRow base e size v n xs):∃ a c,v=.slice a n c:=by
 obtain⟨_,⟨rfl,rfl⟩|⟨g,cap,cur,rfl,_⟩⟩:=h
 ·exact⟨_,_,rfl⟩
 ·exact⟨_,_,rfl⟩
theorem cdQ {xs:List Value}(h:w.ownsRow base e size v n xs)(i:v≠.slice none 0 0):∃ g c,v=.slice (some ⟨g,0,none⟩) n c/\base<=g/\g<w.heap.size:=by
 obtain⟨_,⟨rfl,rfl⟩|⟨g,cap,cur,rfl,j,a,_⟩⟩:=h
 ·exact absurd rfl i
 ·exact⟨g,cap,rfl,j,(mY.1 a).1⟩
theorem cdX (w:World)(B:Nat):nQ w B (.slice none 0 0) []:=⟨none,0,rfl,vQ _,by simp,by simp,fun h=>absurd rfl h⟩

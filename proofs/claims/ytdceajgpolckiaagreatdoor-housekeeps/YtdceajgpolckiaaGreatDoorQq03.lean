import Derived.Test.YtdceajgpolckiaaGreatDoorQq02
import Derived.Test.YtdceajgpolckiaaGreatDoorQq01
import Derived.Test.YtdceajgpolckiaaGreatDoorRows
import Derived.WalkKit
import Derived.WalkSpells
import Derived.Deep.QuietTactic
import Derived.BigQuiet
import Derived.WalkSmall
import Derived.Sort.Grow
import Derived.Laws.IdiomCopy
open Go.Proofs.Tryz
set_option linter.unusedSimpArgs false
set_option maxHeartbeats 16000000
set_option maxRecDepth 100000
namespace Go.Proofs.YtdceajgpolckiaaGreatDoor
section
open Go.RowKit
theorem bbZ {k:IntKind}{a b:Int}(h:a=b):Ending.returned (.int k a)=.returned (.int k b):=by rw[h]
theorem bbJ (x y:Int):Int.gcd y (x.tmod y)=Int.gcd x y:=by
 have h:(x.tmod y).natAbs=x.natAbs % y.natAbs:=Int.natAbs_tmod x y;rw[Int.gcd,h,Int.gcd,Nat.gcd_comm x.natAbs,Nat.gcd_rec y.natAbs x.natAbs,Nat.gcd_comm]
theorem bcQ (a b:Int)(ha0:-9223372036854775807<=a)(ha:a<=9223372036854775807)(hb0:-9223372036854775807<=b)(hb:b<=9223372036854775807)(w:World) :
  Calls prog 59 #[.int .i64 a,.int .i64 b] w fun e w'=>e=.returned (.int .i64 (Int.gcd a b:Nat))/\Below w.heap.size w w':=by
 go_enter func59,ntmps59;go_wp2
 go_loopw [0,1] (fun s t wr=>∃ x y:Int,s=.int .i64 x/\t=.int .i64 y/\-9223372036854775807<=x/\x<=9223372036854775807/\-9223372036854775807<=y/\y<=9223372036854775807/\Int.gcd x y=Int.gcd a b/\Below w.heap.size w wr) (fun _ t _=>(intOf t).natAbs)
 case atStart=>exact⟨a,b,rfl,rfl,ha0,ha,hb0,hb,rfl,aQ _ _⟩
 case round =>
  obtain⟨x,y,rfl,rfl,hx0,hx,hy0,hy,hg,hbl⟩:=hrel;have HG:Hid (Int.gcd x y=Int.gcd a b):=hg;clear hg;by_cases hz:y=0
  ·subst hz
   go_wp2
   all_goals
    go_ret;refine⟨bbZ ?_,hbl⟩;rw[<-HG.out,Int.gcd_zero_right];omega
  ·have hz':(y == 0)=false:=by simp;omega
   have hm:(x.tmod y).natAbs<y.natAbs:=by rw[Int.natAbs_tmod];exact Nat.mod_lt _ (by omega)
   have hm1:-9223372036854775807<=x.tmod y:=by omega
   have hm2:x.tmod y<=9223372036854775807:=by omega
   have HM:Hid ((x.tmod y).natAbs<y.natAbs):=hm;clear hm;go_wp2;go_quiet (fail);go_wp2
   go_roundw
   case rel=>exact⟨y,x.tmod y,rfl,by go_num,hy0,hy,hm1,hm2,by rw[bbJ];exact HG.out,below_drewN hbl nq⟩
   case measure=>exact HM.out
theorem dK (a b:Nat)(ha:(a:Int)<=9223372036854775807)(hb:(b:Int)<=9223372036854775807)(w:World) :
  Calls prog 59 #[.int .i64 a,.int .i64 b] w fun e w'=>e=.returned (.int .i64 (Nat.gcd a b:Nat))/\Below w.heap.size w w' :=
 bcQ a b (by omega) ha (by omega) hb w
end
section
open Go.RowKit Ds
abbrev Tr:=Value × List Int × Int
def zQ (w:World) (B nb:Nat) (v:Value) (xs:List Int):Prop :=
 ∃ a c,v=.slice a xs.length c/\xs.length<=c/\xs.length<=1073741824 /\
  (xs≠[]->∃ b o,a=some ⟨b,o,none⟩/\b<B/\b≠nb/\∀ i x,xs[i]? = some x->w.cell? ⟨b,o+i,none⟩=some (.int .i64 x))
theorem zQ.keep {w w':World}{B nb:Nat}{v:Value}{xs:List Int}(h:zQ w B nb v xs)(hb:Below B w w'):zQ w' B nb v xs:=by
 obtain⟨a,c,hv,hc,hl,hx⟩:=h;refine⟨a,c,hv,hc,hl,fun hne=>?_⟩;obtain⟨b,o,ha,hB,hn,hcell⟩:=hx hne;exact⟨b,o,ha,hB,hn,fun i x hi=>(hb.cell (p:=⟨b,o+i,none⟩) hB).trans (hcell i x hi)⟩
theorem zQ.mono {w:World}{B B' nb nb':Nat}{v:Value}{xs:List Int}(h:zQ w B nb v xs)(hB:B<=B')(hn:nb' = nb\/B<=nb'):zQ w B' nb' v xs:=by
 obtain⟨a,c,hv,hc,hl,hx⟩:=h;refine⟨a,c,hv,hc,hl,fun hne=>?_⟩;obtain⟨b,o,ha,hb,hnb,hcell⟩:=hx hne;exact⟨b,o,ha,by omega,by rcases hn with h|h <;> omega,hcell⟩
def jD (w:World) (b o:Nat) (ts:List Tr):Prop :=
 ∀ i t,ts[i]? = some t->w.cell? ⟨b,o+i*2,none⟩=some t.1/\w.cell? ⟨b,o+i*2+1,none⟩=some (.int .i64 t.2.2)
def xX (w:World) (B:Nat) (v:Value) (ts:List Tr):Prop :=
 ∃ a c,v=.slice a ts.length c/\ts.length<=c/\ts.length<=1073741824/\(∀ t∈ts,zQ w B B t.1 t.2.1) /\
  (ts≠[]->∃ b o,a=some ⟨b,o,none⟩/\b<B/\jD w b o ts)
def rd (ts:List Tr):List Pt:=ts.map (·.2)
theorem jD.keep {w w':World}{B b o:Nat}{ts:List Tr}(h:jD w b o ts)(hb:Below B w w')(hB:b<B):jD w' b o ts :=
 fun i t hi=>⟨(hb.cell (p:=⟨b,o+i*2,none⟩) hB).trans (h i t hi).1,(hb.cell (p:=⟨b,o+i*2+1,none⟩) hB).trans (h i t hi).2⟩
theorem xX.keep {w w':World}{B:Nat}{v:Value}{ts:List Tr}(h:xX w B v ts)(hb:Below B w w'):xX w' B v ts:=by
 obtain⟨a,c,hv,hc,hl,hi,hx⟩:=h;refine⟨a,c,hv,hc,hl,fun t ht=>(hi t ht).keep hb,fun hne=>?_⟩;obtain⟨b,o,ha,hB,hcell⟩:=hx hne;exact⟨b,o,ha,hB,hcell.keep hb hB⟩
theorem xX.mono {w:World}{B B':Nat}{v:Value}{ts:List Tr}(h:xX w B v ts)(hB:B<=B'):xX w B' v ts:=by
 obtain⟨a,c,hv,hc,hl,hi,hx⟩:=h;refine⟨a,c,hv,hc,hl,fun t ht=>(hi t ht).mono hB (.inr hB),fun hne=>?_⟩;obtain⟨b,o,ha,hb,hcell⟩:=hx hne;exact⟨b,o,ha,by omega,hcell⟩
theorem wX {α:Type}{l:List α}{i:Nat}(h:i<l.length):∃ x,l[i]? = some x:=⟨l[i],dZ h⟩
theorem ne_of_lt {α:Type}{l:List α}{i:Nat}(h:i<l.length):l≠[]:=by rintro rfl;simp at h
theorem oF {a b:Bool}(h:a=b):Ending.returned (.bool a)=.returned (.bool b):=by rw[h]
theorem bcX {x y:List Int}{i:Nat}{a b:Int}(hx:x[i]? = some a)(hy:y[i]? = some b) :
  lZ (x.drop i) (y.drop i)=if a<b then -1 else if b<a then 1 else lZ (x.drop (i+1)) (y.drop (i+1)):=by
 rw[zU (lQ.1 hx).1,zU (lQ.1 hy).1,(lQ.1 hx).2,(lQ.1 hy).2];rfl
theorem bS (x:Int)(w:World):Calls prog 179 #[.int .i64 x] w fun e w'=>e=.returned (.bool false)/\w' = w:=by
 go_enter func179,ntmps179;go_wp2;go_ret;exact⟨rfl,rfl⟩
theorem dS (a b r:Int)(hr:(if a<b then -1 else if b<a then 1 else 0)=r)(w:World) :
  Calls prog 122 #[.int .i64 a,.int .i64 b] w fun e w'=>e=.returned (.int .i64 r)/\w' = w:=by
 subst hr;by_cases h1:a<b
 ·simp only[h1,zD]
  go_enter func122,ntmps122;go_wp2_with (go_at_call 179;refine(bS _ _).mono ?_;rintro e w' ⟨rfl,rfl⟩);go_ret;exact⟨rfl,rfl⟩
 ·by_cases h2:b<a
  ·simp only[h1,h2,zD,jL]
   go_enter func122,ntmps122;go_wp2_with (go_at_call 179;refine(bS _ _).mono ?_;rintro e w' ⟨rfl,rfl⟩);go_ret;exact⟨rfl,rfl⟩
  ·simp only[h1,h2,jL]
   go_enter func122,ntmps122;go_wp2_with (go_at_call 179;refine(bS _ _).mono ?_;rintro e w' ⟨rfl,rfl⟩);go_ret;exact⟨rfl,rfl⟩
theorem eS (B n1 n2:Nat)(u v:Value)(x y:List Int)(w:World)(hx:zQ w B n1 u x)(hy:zQ w B n2 v y)(r:Int)(hr:lZ x y=r) :
  Calls prog 74 #[u,v] w fun e w'=>e=.returned (.int .i64 r)/\w' = w:=by
 obtain⟨ax,cx,rfl,hcx,hlx,hxx⟩:=hx;obtain⟨ay,cy,rfl,hcy,hly,hyy⟩:=hy;have HX:Hid (x≠[]->∃ b o,ax=some ⟨b,o,none⟩/\b<B/\b≠n1/\∀ i z,x[i]? = some z->w.cell? ⟨b,o+i,none⟩=some (.int .i64 z)):=hxx;have HY:Hid (y≠[]->∃ b o,ay=some ⟨b,o,none⟩/\b<B/\b≠n2/\∀ i z,y[i]? = some z->w.cell? ⟨b,o+i,none⟩=some (.int .i64 z)):=hyy;have HR:Hid (lZ x y=r):=hr;clear hxx hyy hr;go_enter func74,ntmps74;go_wp2
 go_loop [11] (fun s=>∃ i:Nat,s=.int .i64 (i:Int)/\i<=x.length/\i<=y.length/\lZ (x.drop i) (y.drop i)=r) (fun s=>x.length - (intOf s).toNat)
 case atStart=>exact⟨0,rfl,nQ _,nQ _,HR.out⟩
 case round =>
  obtain⟨i,rfl,hix,hiy,hc⟩:=hrel;have HC:Hid (lZ (x.drop i) (y.drop i)=r):=hc;clear hc;by_cases h1:i<x.length
  ·obtain⟨bx,ox,rfl,hbx,hnx,hcx⟩:=HX.out (ne_of_lt h1)
   obtain⟨zx,hzx⟩:=wX h1;have cx1:=hcx i zx hzx;by_cases h2:i<y.length
   ·obtain⟨by',oy,rfl,hby,hny,hcy⟩:=HY.out (ne_of_lt h2)
    obtain⟨zy,hzy⟩:=wX h2;have cy1:=hcy i zy hzy;have st:=bcX hzx hzy;have ST:Hid (lZ (x.drop i) (y.drop i)=if zx<zy then -1 else if zy<zx then 1 else lZ (x.drop (i+1)) (y.drop (i+1))):=st;clear st hcx hcy HX HY hzx hzy;by_cases c1:zx=zy
    ·subst c1
     have kc:=dS zx zx 0 (by simp) w;go_wp2_with (go_at_call 122;refine kc.mono ?_;rintro e w' ⟨rfl,rfl⟩)
     go_round
     case rel=>exact⟨i+1,by go_num,h1,h2,by rw[<-HC.out,ST.out];simp⟩
     case measure=>simp[intOf];omega
    ·by_cases c2:zx<zy
     ·have hr1:r = -1:=by rw[<-HC.out,ST.out];simp[c2]
      subst hr1;have kc:=dS zx zy (-1) (by simp[c2]) w;go_wp2_with (go_at_call 122;refine kc.mono ?_;rintro e w' ⟨rfl,rfl⟩);go_ret;exact⟨rfl,rfl⟩
     ·have c3:zy<zx:=by omega
      have hr1:r=1:=by rw[<-HC.out,ST.out];simp[c2,c3]
      subst hr1;have kc:=dS zx zy 1 (by rw[qQ c2,xQ c3]) w;go_wp2_with (go_at_call 122;refine kc.mono ?_;rintro e w' ⟨rfl,rfl⟩);go_ret;exact⟨rfl,rfl⟩
   ·have hr1:r=1:=by
     rw[<-HC.out,zU h1,qD (show y.length<=i by omega)];rfl
    subst hr1;clear hcx HX HY;go_wp2;go_ret;exact⟨rfl,rfl⟩
  ·by_cases h2:i<y.length
   ·have hr1:r = -1:=by
     rw[<-HC.out,qD (show x.length<=i by omega),zU h2];rfl
    subst hr1;have h3:x.length<y.length:=by omega
    clear HX HY;go_wp2;go_ret;exact⟨rfl,rfl⟩
   ·have hr1:r=0:=by
     rw[<-HC.out,qD (show x.length<=i by omega),qD (show y.length<=i by omega)];rfl
    subst hr1;have h3:¬ x.length<y.length:=by omega
    clear HX HY;go_wp2;go_ret;exact⟨rfl,rfl⟩
theorem ba (w:World)(o:Obj):Below w.heap.size w (w.alloc o):=(aQ _ _).alloc (vQ _) o
theorem bt {w w1 w2:World}(h:Below w.heap.size w w1)(k:Below w1.heap.size w1 w2):Below w.heap.size w w2:=h.trans (k.mono h.size)
theorem bal {w w1:World}(h:Below w.heap.size w w1)(o:Obj):Below w.heap.size w (w1.alloc o):=h.alloc h.size o
theorem bs {w w1:World}(h:Below w.heap.size w w1){p:Addr}(hp:w.heap.size<=p.block)(u:Value):Below w.heap.size w (w1.setCell p u):=h.setCell hp u
theorem bcell {W w1:World}(hb:Below W.heap.size W w1):(∀ b o,b<W.heap.size->w1.cell? ⟨b,o,none⟩=W.cell? ⟨b,o,none⟩)/\(∀ b o,b<W.heap.size->w1.frozen? ⟨b,o,none⟩=W.frozen? ⟨b,o,none⟩) :=
 ⟨fun b o h=>hb.cell (p:=⟨b,o,none⟩) h,fun b o h=>hb.frozen (p:=⟨b,o,none⟩) h⟩
theorem zQ.at {w w':World}{B nb:Nat}{v:Value}{xs:List Int}(h:zQ w B nb v xs)(hB:B<=w.heap.size)(hb:Below w.heap.size w w'):zQ w' B nb v xs:=h.keep (hb.mono hB)
theorem xX.at {w w':World}{B:Nat}{v:Value}{ts:List Tr}(h:xX w B v ts)(hB:B<=w.heap.size)(hb:Below w.heap.size w w'):xX w' B v ts:=h.keep (hb.mono hB)
theorem kL (B n1 n2:Nat)(u v:Value)(k l:Int)(x y:List Int)(w:World)(hB:B<=w.heap.size)(hx:zQ w B n1 u x)(hy:zQ w B n2 v y)(r:Int)(hr:lZ x y=r) :
  Calls prog 37 #[.agg #[u,.int .i64 k],.agg #[v,.int .i64 l]] w fun e w'=>e=.returned (.int .i64 r)/\∃ o1 o2,w' = (w.alloc o1).alloc o2:=by
 have HX:Hid (zQ w B n1 u x):=hx;have HY:Hid (zQ w B n2 v y):=hy;have HR:Hid (lZ x y=r):=hr;obtain⟨au,cu,rfl,_⟩:=hx;obtain⟨av,cv,rfl,_⟩:=hy;clear hr;go_enter func37,ntmps37;go_wp2_with (go_at_call 74;refine(eS B n1 n2 _ _ x y _ ?_ ?_ r HR.out).mono ?_;exact HX.out.at hB (bal (ba _ _) _);exact HY.out.at hB (bal (ba _ _) _);rintro e w' ⟨rfl,rfl⟩);go_ret;exact⟨rfl,_,_,rfl⟩
theorem kE (B n1 n2:Nat)(u v:Value)(k l:Int)(x y:List Int)(w:World)(hB:B<=w.heap.size)(hx:zQ w B n1 u x)(hy:zQ w B n2 v y)(r:Bool)(hr:decide (k=l/\x=y)=r) :
  Calls prog 73 #[.agg #[u,.int .i64 k],.agg #[v,.int .i64 l]] w fun e w'=>e=.returned (.bool r)/\Below w.heap.size w w':=by
 subst hr;have HX:Hid (zQ w B n1 u x):=hx;have HY:Hid (zQ w B n2 v y):=hy;obtain⟨au,cu,rfl,_⟩:=hx;obtain⟨av,cv,rfl,_⟩:=hy;by_cases h:k=l
 ·subst h
  by_cases h2:x=y
  ·have hc:Hid (lZ x y=0):=(bN x y).2 h2
   rw[vG (show k=k/\x=y from ⟨rfl,h2⟩)];clear h2;go_enter func73,ntmps73;go_wp2_with (go_at_call 37;refine(kL B n1 n2 _ _ _ _ x y _ ?_ ?_ ?_ _ hc.out).mono ?_;(simp;omega);exact HX.out.at hB (bal (ba _ _) _);exact HY.out.at hB (bal (ba _ _) _);rintro e w' ⟨rfl,o1,o2,rfl⟩);go_ret;exact⟨rfl,bal (bal (bal (ba _ _) _) _) _⟩
  ·have hc:¬ (lZ x y=0):=fun h=>h2 ((bN x y).1 h)
   rw[nV (show ¬ (k=k/\x=y) from fun h=>h2 h.2)];obtain⟨r,hr⟩:∃ r,Hid (lZ x y=r):=⟨_,rfl⟩;have hr0:(r == 0)=false:=by rw[<-hr.out];simpa using hc
   clear h2 hc;go_enter func73,ntmps73;go_wp2_with (go_at_call 37;refine(kL B n1 n2 _ _ _ _ x y _ ?_ ?_ ?_ _ hr.out).mono ?_;(simp;omega);exact HX.out.at hB (bal (ba _ _) _);exact HY.out.at hB (bal (ba _ _) _);rintro e w' ⟨rfl,o1,o2,rfl⟩);go_ret;exact⟨rfl,bal (bal (bal (ba _ _) _) _) _⟩
 ·rw[nV (show ¬ (k=l/\x=y) from fun h'=>h h'.1)]
  have h':(k == l)=false:=by simpa using h
  go_enter func73,ntmps73;go_wp2;go_ret;exact⟨rfl,bal (ba _ _) _⟩
theorem lE (n:Int)(w:World):Calls prog 174 #[.int .i64 n] w fun e w'=>e=.returned (.bool (!mA n))/\w' = w:=by
 unfold mA;by_cases h1:n < -1073741824
 ·rw[nV (by omega)]
  go_enter func174,ntmps174;go_wp2;go_ret;exact⟨rfl,rfl⟩
 ·by_cases h2:1073741824<n
  ·rw[nV (by omega)]
   go_enter func174,ntmps174;go_wp2;go_ret;exact⟨rfl,rfl⟩
  ·rw[vG (by omega)]
   go_enter func174,ntmps174;go_wp2;go_ret;exact⟨rfl,rfl⟩
theorem iS {α:Type}{l:List α}{f:α->Bool}{i:Nat}{x:α}(h:l[i]? = some x):(l.take (i+1)).all f=((l.take i).all f && f x):=by
 rw[kZ,h];simp
theorem lS {α:Type}{l:List α}{f:α->Bool}{i:Nat}{x:α}(h:l[i]? = some x)(hf:f x=false):l.all f=false:=by
 rw[List.all_eq_false];exact⟨x,uX h,by simp[hf]⟩
theorem bcZ (B nb:Nat)(v:Value)(x:List Int)(w:World)(hx:zQ w B nb v x) :
  Calls prog 190 #[v,.func (.func 174) #[] #[]] w fun e w'=>∃ r:Int,e=.returned (.int .i64 r)/\(decide (0<=r) = !x.all mA)/\w' = w:=by
 obtain⟨a,c,rfl,hc,hl,hxx⟩:=hx;have HX:Hid (x≠[]->∃ b o,a=some ⟨b,o,none⟩/\b<B/\b≠nb/\∀ i z,x[i]? = some z->w.cell? ⟨b,o+i,none⟩=some (.int .i64 z)):=hxx;clear hxx;go_enter func190,ntmps190;go_wp2
 go_loop [8] (fun s=>∃ i:Nat,s=.int .i64 (i:Int)/\i<=x.length/\(x.take i).all mA=true) (fun s=>x.length - (intOf s).toNat)
 case atStart=>exact⟨0,rfl,nQ _,by simp⟩
 case round =>
  obtain⟨i,rfl,hix,hall⟩:=hrel;have HA:Hid ((x.take i).all mA=true):=hall;clear hall;by_cases h1:i<x.length
  ·obtain⟨b,o,rfl,hb,hn,hcell⟩:=HX.out (ne_of_lt h1)
   obtain⟨z,hz⟩:=wX h1;have cx1:=hcell i z hz;have HZ:Hid (x[i]? = some z):=hz;clear hcell HX hz;cases hk:mA z with
   | true =>
    have hk':Hid (mA z=true):=hk;clear hk;have kc:=lE z w;rw[hk'.out] at kc;go_wp2_with (go_at_call 174;refine kc.mono ?_;rintro e w' ⟨rfl,rfl⟩)
    go_round
    case rel=>exact⟨i+1,by go_num,h1,by rw[iS HZ.out,HA.out,hk'.out];rfl⟩
    case measure=>simp[intOf];omega
   | false =>
    have hk':Hid (mA z=false):=hk;clear hk;have kc:=lE z w;rw[hk'.out] at kc;go_wp2_with (go_at_call 174;refine kc.mono ?_;rintro e w' ⟨rfl,rfl⟩);go_ret;exact⟨_,rfl,by rw[lS HZ.out hk'.out];simp,rfl⟩
  ·have hi:i=x.length:=by omega
   have hA:x.all mA=true:=by have:=HA.out;rw[hi,wH] at this;exact this
   have HA2:Hid (x.all mA=true):=hA;clear hA HX;go_wp2;go_ret;exact⟨_,rfl,by rw[HA2.out];simp,rfl⟩
theorem bcJ (B nb:Nat)(v:Value)(x:List Int)(w:World)(hx:zQ w B nb v x)(r:Bool)(hr:x.all mA=r) :
  Calls prog 156 #[v,.func (.func 174) #[] #[]] w fun e w'=>e=.returned (.bool (!r))/\w' = w:=by
 subst hr;have HX:Hid (zQ w B nb v x):=hx;obtain⟨a,c,rfl,_⟩:=hx;go_enter func156,ntmps156;go_wp2_with (go_at_call 190;refine(bcZ B nb _ x _ HX.out).mono ?_;rintro e w' ⟨r,rfl,hr,rfl⟩);go_ret;exact⟨oF (by rw[<-hr]),rfl⟩
theorem mE (B nb:Nat)(v:Value)(k:Int)(x:List Int)(w:World)(hB:B<=w.heap.size)(hx:zQ w B nb v x)(r:Bool)(hr:tV (x,k)=r) :
  Calls prog 116 #[.agg #[v,.int .i64 k]] w fun e w'=>e=.returned (.bool (!r))/\Below w.heap.size w w':=by
 subst hr;have HX:Hid (zQ w B nb v x):=hx;obtain⟨a,c,rfl,hc,hl,_⟩:=hx;by_cases h1:k<0
 ·have e:tV (x,k)=false:=by unfold tV;rw[nV (by simp;omega)];rfl
  rw[e];clear e;go_enter func116,ntmps116;go_wp2;go_ret;exact⟨rfl,ba _ _⟩
 by_cases h2:1073741824<k
 ·have e:tV (x,k)=false:=by unfold tV;rw[nV (by simp;omega)];rfl
  rw[e];clear e;go_enter func116,ntmps116;go_wp2;go_ret;exact⟨rfl,ba _ _⟩
 by_cases h3:16<x.length
 ·have e:tV (x,k)=false:=by unfold tV zS;rw[show decide (x.length<=16)=false from nV (by omega)];simp
  rw[e];clear e;go_enter func116,ntmps116;go_wp2;go_ret;exact⟨rfl,ba _ _⟩
 ·have e:tV (x,k)=x.all mA:=by unfold tV zS;rw[show decide (x.length<=16)=true from vG (by omega),vG (by simp;omega)];rfl
  rw[e];clear e;generalize hr:x.all mA=r;have HR:Hid (x.all mA=r):=hr;clear hr;go_enter func116,ntmps116;go_wp2_with (go_at_call 156;refine(bcJ B nb _ x _ ?_ r HR.out).mono ?_;exact HX.out.at hB (ba _ _);rintro e w' ⟨rfl,rfl⟩);go_ret;exact⟨rfl,ba _ _⟩
def Nn (l:List Pt):Prop:=∀ p∈l,0<=p.2
theorem mS {l:List Pt}{i:Nat}{p:Pt}(h:l[i]? = some p):tot (l.take (i+1))=tot (l.take i)+p.2:=by
 rw[kZ,h,bK];simp[pV]
theorem Nn.tot_nn {l:List Pt}(h:Nn l):0<=tot l:=by
 induction l with
 | nil=>simp
 | cons p l ih=>have:=ih fun q hq=>h q (by simp[hq]);have:=h p (by simp);rw[pV];omega
theorem Nn.take {l:List Pt}(h:Nn l)(i:Nat):Nn (l.take i):=fun p hp=>h p (lF hp)
theorem Nn.drop {l:List Pt}(h:Nn l)(i:Nat):Nn (l.drop i):=fun p hp=>h p (tC hp)
theorem Nn.tot_take_le {l:List Pt}(h:Nn l)(i:Nat):0<=tot (l.take i)/\tot (l.take i)<=tot l:=by
 have h1:=(h.take i).tot_nn;have h2:=(h.drop i).tot_nn;have h3:tot l=tot (l.take i)+tot (l.drop i):=by rw[<-bK,gR]
 omega
theorem Nn.of_pos {l:List Pt}(h:lJ l):Nn l:=fun p hp=>zN (h p hp)
theorem aU {ts:List Tr}{i:Nat}{t:Tr}(h:ts[i]? = some t):(rd ts)[i]? = some t.2:=by
 simp[rd,h]
theorem jD.get {w w':World}{b o:Nat}{ts:List Tr}(h:jD w b o ts)(hb:Below w.heap.size w w')(hB:b<w.heap.size){i:Nat}{t:Tr}(ht:ts[i]? = some t) :
  w'.cell? ⟨b,o+i*2,none⟩=some t.1/\w'.cell? ⟨b,o+i*2+1,none⟩=some (.int .i64 t.2.2):=h.keep hb hB i t ht
theorem xX.get {w wr:World}{B:Nat}{a:Option Addr}{n c:Nat}{ts:List Tr}(hp:xX w B (.slice a n c) ts)(hB:B<=w.heap.size)(hbl:Below w.heap.size w wr){i:Nat}(h:i<ts.length) :
  ∃ b o sa sc xs k,a=some ⟨b,o,none⟩/\b<w.heap.size/\ts[i]? = some (.slice sa xs.length sc,xs,k)/\wr.cell? ⟨b,o+i*2,none⟩=some (.slice sa xs.length sc)/\wr.cell? ⟨b,o+i*2+1,none⟩=some (.int .i64 k)/\zQ wr B B (.slice sa xs.length sc) xs:=by
 obtain⟨a',c',hv,hc,hl,hi,hx⟩:=hp;simp only[xV] at hv;obtain⟨rfl,rfl,rfl⟩:=hv;obtain⟨b,o,ha,hb,hcell⟩:=hx (ne_of_lt h);obtain⟨⟨s,xs,k⟩,hs⟩:=wX h;have hI:=hi _ (uX hs);have hI2:=hI.at hB hbl;obtain⟨sa,sc,he,_⟩:=hI;simp only at he;subst he;obtain⟨c1,c2⟩:=hcell.get hbl (by omega) hs;exact⟨b,o,sa,sc,xs,k,ha,by omega,hs,c1,c2,hI2⟩
theorem fG (ts:List Tr):(rd ts).length=ts.length:=by simp[rd]
theorem cI {ts:List Tr}{i:Nat}(h:i=ts.length):(rd ts).take i=rd ts:=by rw[h,<-fG,wH]
theorem nS (B:Nat)(v:Value)(ts:List Tr)(w:World)(hB:B<=w.heap.size)(hp:xX w B v ts)(hn:Nn (rd ts))(ht:tot (rd ts)<=4611686018427387904)(r:Int)(hr:tot (rd ts)=r) :
  Calls prog 38 #[v] w fun e w'=>e=.returned (.int .i64 r)/\Below w.heap.size w w':=by
 have HP:Hid (xX w B v ts):=hp;obtain⟨a,c,rfl,hc,hl,_⟩:=hp;have HT:Hid (tot (rd ts)<=4611686018427387904/\tot (rd ts)=r/\Nn (rd ts)):=⟨ht,hr,hn⟩;clear hn ht hr;go_enter func38,ntmps38;go_wp2
 go_loopw [3,8] (fun s u wr=>∃ (i:Nat) (z:Int),s=.int .i64 z/\u=.int .i64 (i:Int)/\i<=ts.length/\tot ((rd ts).take i)=z/\Below w.heap.size w wr) (fun _ u _=>ts.length - (intOf u).toNat)
 case atStart=>exact⟨0,0,rfl,rfl,nQ _,by simp,aQ _ _⟩
 case round =>
  obtain⟨i,z,rfl,rfl,hit,hz,hbl⟩:=hrel;by_cases h1:i<ts.length
  ·obtain⟨b,o,sa,sc,xs,k,rfl,hb,hs,c1,c2,_⟩:=HP.out.get hB hbl h1
   have e1:=mS (aU hs);have e2:=HT.out.2.2.tot_take_le (i+1);have e3:=HT.out.1;have hz2:-4611686018427387904<=z+k/\z+k<=4611686018427387904:=by simp only at e1;omega
   have HZ:Hid (tot ((rd ts).take (i+1))=z+k):=by rw[Hid,e1,hz]
   clear e1 e2 e3 hz hs;have hs1:=hbl.size;go_wp2
   go_roundw
   case rel=>exact⟨i+1,z+k,by go_num,by go_num,h1,HZ.out,bal hbl _⟩
   case measure=>simp[intOf];omega
  ·have hz2:z=r:=by rw[<-hz,<-HT.out.2.1,cI (by omega)]
   subst hz2;clear hz HT;go_wp2;go_ret;exact⟨rfl,hbl⟩
theorem bdQ (B:Nat)(v:Value)(ts:List Tr)(w:World)(hB:B<=w.heap.size)(hp:xX w B v ts) :
  Calls prog 175 #[v,.func (.func 116) #[] #[]] w fun e w'=>∃ r:Int,e=.returned (.int .i64 r)/\(decide (0<=r) = !(rd ts).all tV)/\Below w.heap.size w w':=by
 have HP:Hid (xX w B v ts):=hp;obtain⟨a,c,rfl,hc,hl,_⟩:=hp;go_enter func175,ntmps175;go_wp2
 go_loopw [8] (fun s wr=>∃ i:Nat,s=.int .i64 (i:Int)/\i<=ts.length/\((rd ts).take i).all tV=true/\Below w.heap.size w wr) (fun s _=>ts.length - (intOf s).toNat)
 case atStart=>exact⟨0,rfl,nQ _,by simp,aQ _ _⟩
 case round =>
  obtain⟨i,rfl,hix,hall,hbl⟩:=hrel;have HA:Hid (((rd ts).take i).all tV=true):=hall;clear hall;by_cases h1:i<ts.length
  ·obtain⟨b,o,sa,sc,xs,k,rfl,hb,hs,c1,c2,hI⟩:=HP.out.get hB hbl h1
   have HZ:Hid ((rd ts)[i]? = some (xs,k)):=aU hs;have hs1:=hbl.size;clear hs;cases hk:tV (xs,k) with
   | true =>
    have hk':Hid (tV (xs,k)=true):=hk;have kc:=mE B B _ k xs wr (by omega) hI _ hk;clear hk hI;go_wp2_with (go_at_call 116;refine kc.mono ?_;rintro e w1 ⟨rfl,hb1⟩)
    go_roundw
    case rel=>exact⟨i+1,by go_num,h1,by rw[iS HZ.out,HA.out,hk'.out];rfl,bt hbl hb1⟩
    case measure=>simp[intOf];omega
   | false =>
    have hk':Hid (tV (xs,k)=false):=hk;have kc:=mE B B _ k xs wr (by omega) hI _ hk;clear hk hI;go_wp2_with (go_at_call 116;refine kc.mono ?_;rintro e w1 ⟨rfl,hb1⟩);go_ret;exact⟨_,rfl,by rw[lS HZ.out hk'.out];simp,bt hbl hb1⟩
  ·have HA2:Hid ((rd ts).all tV=true):=by have:=HA.out;rwa [cI (by omega)] at this
   go_wp2;go_ret;exact⟨_,rfl,by rw[HA2.out];simp,hbl⟩
theorem oE (B:Nat)(v:Value)(ts:List Tr)(w:World)(hB:B<=w.heap.size)(hp:xX w B v ts)(r:Bool)(hr:(rd ts).all tV=r) :
  Calls prog 120 #[v,.func (.func 116) #[] #[]] w fun e w'=>e=.returned (.bool (!r))/\Below w.heap.size w w':=by
 subst hr;have HP:Hid (xX w B v ts):=hp;obtain⟨a,c,rfl,_⟩:=hp;go_enter func120,ntmps120;go_wp2_with (go_at_call 175;refine(bdQ B _ ts _ hB HP.out).mono ?_;rintro e w' ⟨r,rfl,hr,hb⟩);go_ret;exact⟨rfl,hb⟩
theorem rQ {w:World}{a b:Addr}{v:Value}(h:a≠b):(w.setCell a v).cell? b=w.cell? b:=nM _ _ _ _ h
theorem jY {w:World}{a:Addr}{u v:Value}(h:w.cell? a=some u):(w.setCell a v).cell? a=some v:=World.cell?_setCell_same _ _ _ h
theorem iZ {w:World}{a b:Addr}{v:Value}:(w.setCell a v).frozen? b=w.frozen? b:=oM _ _ _ _
structure Row (w:World) (b o:Nat) (us:List Tr):Prop where
 cells:jD w b o us
 thaw:∀ j,j<us.length*2->w.frozen? ⟨b,o+j,none⟩=false
 lt:b<w.heap.size
theorem Row.keep {w w':World}{b o:Nat}{us:List Tr}(h:Row w b o us)(hb:Below w.heap.size w w'):Row w' b o us :=
 ⟨h.cells.keep hb h.lt,fun j hj=>(hb.frozen (p:=⟨b,o+j,none⟩) h.lt).trans (h.thaw j hj),qX h.lt hb.size⟩
theorem jD.len_cell {w:World}{b o:Nat}{us:List Tr}(h:jD w b o us){i:Nat}(hi:i<us.length):(w.cell? ⟨b,o+i*2,none⟩).isSome=true/\(w.cell? ⟨b,o+i*2+1,none⟩).isSome=true:=by
 obtain⟨t,ht⟩:=wX hi;obtain⟨h1,h2⟩:=h i t ht;exact⟨by rw[h1];rfl,by rw[h2];rfl⟩
theorem Row.setW {w:World}{b o:Nat}{us:List Tr}(h:Row w b o us){i:Nat}{t:Tr}(ht:us[i]? = some t)(k:Int) :
  Row (w.setCell ⟨b,o+i*2+1,none⟩ (.int .i64 k)) b o (us.set i (t.1,t.2.1,k)):=by
 have hi:=(lQ.1 ht).1;refine⟨fun j u hu=>?_,fun j hj=>by rw[iZ];exact h.thaw j (by simpa using hj),by simpa using h.lt⟩;by_cases hj:i=j
 ·subst hj
  rw[lA hi] at hu;obtain rfl:(t.1,t.2.1,k)=u:=by simpa using hu
  have c:=h.cells i t ht;exact⟨by rw[rQ (by simp)];exact c.1,jY c.2⟩
 ·rw[yG hj] at hu
  have c:=h.cells j u hu;exact⟨by rw[rQ (by simp <;> omega)];exact c.1,by rw[rQ (by simp <;> omega)];exact c.2⟩
theorem Row.setP {w:World}{b o:Nat}{us:List Tr}(h:Row w b o us){i:Nat}(hi:i<us.length)(t:Tr) :
  Row (w.setCells b (o+i*2) [t.1,.int .i64 t.2.2]) b o (us.set i t):=by
 have hs:=h.cells.len_cell hi;have e1:∀ a:Addr,(w.setCells b (o+i*2) [t.1,.int .i64 t.2.2]).cell? a=((w.setCell ⟨b,o+i*2,none⟩ t.1).setCell ⟨b,o+i*2+1,none⟩ (.int .i64 t.2.2)).cell? a:=fun a=>rfl;refine⟨fun j u hu=>?_,fun j hj=>by rw[World.frozen?_setCells];exact h.thaw j (by simpa using hj),?_⟩
 ·rw[e1,e1]
  by_cases hj:i=j
  ·subst hj
   rw[lA hi] at hu;obtain rfl:t=u:=by simpa using hu
   refine⟨?_,?_⟩
   ·rw[rQ (by simp)]
    exact World.cell?_setCell_same' _ _ _ hs.1
   ·refine World.cell?_setCell_same' _ _ _ ?_
    rw[rQ (by simp)];exact hs.2
  ·rw[yG hj] at hu
   have c:=h.cells j u hu;exact⟨by rw[rQ (by simp <;> omega),rQ (by simp <;> omega)];exact c.1,by rw[rQ (by simp <;> omega),rQ (by simp <;> omega)];exact c.2⟩
 ·show b<(((w.setCell ⟨b,o+i*2,none⟩ t.1).setCell ⟨b,o+i*2+1,none⟩ (.int .i64 t.2.2))).heap.size
  simpa using h.lt
def Own (w:World) (lo:Nat) (v:Value) (ts:List Tr):Prop :=
 ∃ b o c,v=.slice (some ⟨b,o,none⟩) ts.length c/\ts.length<=c/\ts.length<=1073741824/\lo<=b/\Row w b o ts/\∀ t∈ts,zQ w w.heap.size b t.1 t.2.1
theorem Own.parts {w:World}{lo:Nat}{v:Value}{ts:List Tr}(h:Own w lo v ts):xX w w.heap.size v ts:=by
 obtain⟨b,o,c,hv,hc,hl,_,hr,hi⟩:=h;refine⟨_,c,hv,hc,hl,fun t ht=>?_,fun _=>⟨b,o,rfl,hr.lt,hr.cells⟩⟩;exact(hi t ht).mono (vQ _) (.inr (vQ _))
theorem Own.keep {w w':World}{lo:Nat}{v:Value}{ts:List Tr}(h:Own w lo v ts)(hb:Below w.heap.size w w'):Own w' lo v ts:=by
 obtain⟨b,o,c,hv,hc,hl,hlo,hr,hi⟩:=h;exact⟨b,o,c,hv,hc,hl,hlo,hr.keep hb,fun t ht=>((hi t ht).keep hb).mono hb.size (.inl rfl)⟩
theorem Own.mono {w:World}{lo lo':Nat}{v:Value}{ts:List Tr}(h:Own w lo v ts)(hl:lo'<=lo):Own w lo' v ts:=by
 obtain⟨b,o,c,hv,hc,hl',hlo,hr,hi⟩:=h;exact⟨b,o,c,hv,hc,hl',by omega,hr,hi⟩
def nX (lo:Nat) (ts:List Tr):Prop:=∀ t∈ts,t.2.1≠[]->∀ b o sp n c,t.1=.slice (some ⟨b,o,sp⟩) n c->lo<=b
theorem nX.mono {lo lo':Nat}{ts:List Tr}(h:nX lo ts)(hl:lo'<=lo):nX lo' ts:=fun t ht hne b o sp n c e=>uQ hl (h t ht hne b o sp n c e)
theorem nX.of {lo:Nat}{ts us:List Tr}(h:nX lo ts)(hu:∀ t∈us,∃ u∈ts,t.1=u.1/\t.2.1=u.2.1):nX lo us:=by
 intro t ht hne b o sp n c e;obtain⟨u,hu1,e1,e2⟩:=hu t ht;exact h u hu1 (e2▸hne) b o sp n c (e1▸e)
theorem nX.nil (lo:Nat):nX lo []:=fun t ht=>by cases ht
theorem oS {w:World}{B lo:Nat}{s:Value}{xs:List Int}(h:∀ m,m<lo->zQ w B m s xs):xs≠[]->∀ b o sp n c,s=.slice (some ⟨b,o,sp⟩) n c->lo<=b:=by
 intro hne b o sp n c e;rcases Nat.lt_or_ge b lo with hb|hb
 ·obtain⟨a,c',hv,_,_,hx⟩:=h b hb
  obtain⟨b',o',ha,_,hn,_⟩:=hx hne;rw[hv,ha] at e;simp only[xV,vX,mF] at e;exact absurd e.1.1 hn
 ·exact hb
theorem lH (w:World)(B:Nat):xX w B (.slice none 0 0) []:=⟨none,0,rfl,vQ _,by simp,by simp,fun h=>absurd rfl h⟩

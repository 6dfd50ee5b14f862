import Derived.Test.YtdceajgpolckiaaGreatDoorQq00
open Go.Proofs.Tryz
set_option linter.unusedSimpArgs false
set_option maxHeartbeats 16000000
set_option maxRecDepth 100000
namespace Go.Proofs.Rt
def mx:Int:=1073741824
def tell (q:Rat):Int × Int × Int :=
 if q.num<0 then (0,0,3) else if mx<q.num\/mx<(q.den:Int) then (0,0,4) else (q.num,(q.den:Int),0)
def wV (u d:Int):Int × Int × Int:=if u<0\/d<1 then (0,0,3) else tell (Rat.divInt u d)
def fQ (u d:Int):Bool:=decide (0<=u/\u<=mx/\1<=d/\d<=mx/\Int.gcd u d=1)
theorem yS (u d:Int)(hu:0<=u)(hd:1<=d):(Rat.divInt u d).num=u / (Int.gcd u d:Int):=by
 obtain⟨m,rfl⟩:=Int.eq_ofNat_of_zero_le hu;obtain⟨n,rfl⟩:=Int.eq_ofNat_of_zero_le (show 0<=d by omega);rw[Rat.num_divInt];rw[Int.sign_eq_one_of_pos (by omega)];simp[Int.gcd_comm]
theorem uS (u d:Int)(hu:0<=u)(hd:1<=d):((Rat.divInt u d).den:Int)=d / (Int.gcd u d:Int):=by
 obtain⟨m,rfl⟩:=Int.eq_ofNat_of_zero_le hu;obtain⟨n,rfl⟩:=Int.eq_ofNat_of_zero_le (show 0<=d by omega);rw[Rat.den_divInt];rw[if_neg (by omega)];simp[Int.gcd_comm]
theorem aS (u d n m e:Int)(hu:0<=u)(hd:1<=d)(h:wV u d=(n,m,e)) :
  ((1073741824<u / (Int.gcd u d:Int)\/1073741824<d / (Int.gcd u d:Int))/\0=n/\0=m/\4=e) \/
  (u / (Int.gcd u d:Int)<=1073741824/\d / (Int.gcd u d:Int)<=1073741824/\u / (Int.gcd u d:Int)=n/\d / (Int.gcd u d:Int)=m/\0=e):=by
 unfold wV at h;rw[if_neg (by omega)] at h;unfold tell at h;rw[yS u d hu hd,uS u d hu hd] at h;have h0:0<=u / (Int.gcd u d:Int):=Int.ediv_nonneg hu (by omega);rw[if_neg (by omega)] at h;unfold mx at h;by_cases c:1073741824<u / (Int.gcd u d:Int)\/1073741824<d / (Int.gcd u d:Int)
 ·rw[if_pos c] at h
  simp only[Prod.mk.injEq] at h;exact .inl ⟨c,h⟩
 ·rw[if_neg c] at h
  simp only[Prod.mk.injEq] at h;exact .inr ⟨by omega,by omega,h⟩
def sY (a b c d:Int):Int × Int × Int:=if fQ a b=true/\fQ c d=true then wV (a*c) (b*d) else (0,0,2)
def bI (a b c d:Int):Int × Int:=if fQ a b=true/\fQ c d=true then (if a*d<c*b then -1 else if c*b<a*d then 1 else 0,0) else (0,2)
theorem nF {u d:Int}(h:fQ u d=true):0<=u/\u<=1073741824/\1<=d/\d<=1073741824:=by
 unfold fQ mx at h;have:=of_decide_eq_true h;exact⟨this.1,this.2.1,this.2.2.1,this.2.2.2.1⟩
theorem wZ {a b:Int}(ha:0<=a)(ha':a<=1073741824)(hb:0<=b)(hb':b<=1073741824):0<=a*b/\a*b<=1152921504606846976 :=
 ⟨Int.mul_nonneg ha hb,by have:=Int.mul_le_mul ha' hb' hb (by decide);exact this⟩
def iH (u d n:Int):Int × Int × Int :=
 if fQ u d=true then (if n<0\/4096<n then (0,0,3) else if mx<u ^ n.toNat\/mx<d ^ n.toNat then (0,0,4) else (u ^ n.toNat,d ^ n.toNat,0)) else (0,0,2)
theorem fE (x y:Nat):fQ (x:Int) (y:Int)=true↔(x<=1073741824/\1<=y/\y<=1073741824/\Nat.gcd x y=1):=by
 unfold fQ mx;rw[decide_eq_true_iff,show Int.gcd (x:Int) (y:Int)=Nat.gcd x y from rfl];omega
theorem bbQ (x y:Nat)(hy:1<=y)(h:Nat.gcd x y=1):wV (x:Int) (y:Int)=if x<=1073741824/\y<=1073741824 then ((x:Int),(y:Int),0) else (0,0,4):=by
 obtain⟨n,m,e,hm⟩:∃ n m e,wV (x:Int) (y:Int)=(n,m,e):=⟨_,_,_,rfl⟩;rw[hm];have:=aS x y n m e (by omega) (by omega) hm;rw[show Int.gcd (x:Int) (y:Int)=Nat.gcd x y from rfl,h] at this;simp only[Int.natCast_one,Int.ediv_one] at this;rcases this with⟨hc,rfl,rfl,rfl⟩|⟨h1,h2,rfl,rfl,rfl⟩
 ·rw[if_neg (by omega)]
 ·rw[if_pos (by omega)]
theorem bbX (x y i:Nat)(h:fQ (x:Int) (y:Int)=true)(hi:x ^ i<=1073741824)(hj:y ^ i<=1073741824) :
  sY ((x ^ i:Nat):Int) ((y ^ i:Nat):Int) (x:Int) (y:Int)=if x ^ (i+1)<=1073741824/\y ^ (i+1)<=1073741824 then (((x ^ (i+1):Nat):Int),((y ^ (i+1):Nat):Int),0) else (0,0,4):=by
 have h':=(fE x y).1 h;obtain⟨h1,h2,h3,h4⟩:=h';have hr:fQ ((x ^ i:Nat):Int) ((y ^ i:Nat):Int)=true:=(fE _ _).2 ⟨hi,Nat.pow_pos h2,hj,Nat.Coprime.pow i i h4⟩;unfold sY;rw[if_pos ⟨hr,h⟩,<-Int.natCast_mul,<-Int.natCast_mul,<-Nat.pow_succ,<-Nat.pow_succ];exact bbQ _ _ (Nat.pow_pos h2) (Nat.Coprime.pow _ _ h4)
theorem gE (x i n:Nat)(hi:i<=n)(h:1073741824<x ^ i):1073741824<x ^ n:=by
 have hx:0<x:=by
  cases x with
  | zero=>cases i with
   | zero=>simp at h
   | succ k=>rw[Nat.zero_pow (by omega)] at h;omega
  | succ k=>omega
 exact Nat.lt_of_lt_of_le h (Nat.pow_le_pow_right hx hi)
theorem iE (x y n:Nat)(h:fQ (x:Int) (y:Int)=true)(hn:n<=4096)(a b e:Int)(hp:iH x y n=(a,b,e)) :
  ((1073741824<x ^ n\/1073741824<y ^ n)/\0=a/\0=b/\4=e)\/(x ^ n<=1073741824/\y ^ n<=1073741824/\((x ^ n:Nat):Int)=a/\((y ^ n:Nat):Int)=b/\0=e):=by
 unfold iH mx at hp;rw[if_pos h,if_neg (by omega),Int.toNat_natCast,<-Int.natCast_pow,<-Int.natCast_pow] at hp;generalize x ^ n=p at *
 generalize y ^ n=q at *
 by_cases c:(1073741824:Int)<p\/(1073741824:Int)<q
 ·rw[if_pos c] at hp
  simp only[Prod.mk.injEq] at hp;exact .inl ⟨by omega,hp⟩
 ·rw[if_neg c] at hp
  simp only[Prod.mk.injEq] at hp;exact .inr ⟨by omega,by omega,hp⟩

import Derived.Test.YtcaplmodgbpchaaGreatDoorQq00
open Go.Proofs.Tryz
open Go.Value(int)
open Go.IntKind(i64)
set_option linter.unusedSimpArgs false
set_option maxHeartbeats 16000000
set_option maxRecDepth 100000
namespace Go.Proofs.Rt
def mx:Int:=1073741824
def tell (q:Rat):Int × Int × Int :=
 if q.num<0 then (0,0,3) else if mx<q.num\/mx<(q.den:Int) then (0,0,4) else (q.num,(q.den:Int),0)
def qG (u d:Int):Int × Int × Int:=if u<0\/d<1 then (0,0,3) else tell (Rat.divInt u d)
def rQ (u d:Int):Bool:=decide (0<=u/\u<=mx/\1<=d/\d<=mx/\Int.gcd u d=1)
theorem rC (u d:Int)(a:0<=u)(g:1<=d):(Rat.divInt u d).num=u / (Int.gcd u d:Int):=by
 obtain⟨m,rfl⟩:=Int.eq_ofNat_of_zero_le a;obtain⟨n,rfl⟩:=Int.eq_ofNat_of_zero_le (show 0<=d by omega);rw[Rat.num_divInt];rw[Int.sign_eq_one_of_pos (by omega)];simp[Int.gcd_comm]
theorem sC (u d:Int)(a:0<=u)(g:1<=d):((Rat.divInt u d).den:Int)=d / (Int.gcd u d:Int):=by
 obtain⟨m,rfl⟩:=Int.eq_ofNat_of_zero_le a;obtain⟨n,rfl⟩:=Int.eq_ofNat_of_zero_le (show 0<=d by omega);rw[Rat.den_divInt];rw[if_neg (by omega)];simp[Int.gcd_comm]
theorem tC (u d n m e:Int)(a:0<=u)(g:1<=d)(h:qG u d=(n,m,e)) :
  ((1073741824<u / (Int.gcd u d:Int)\/1073741824<d / (Int.gcd u d:Int))/\0=n/\0=m/\4=e) \/
  (u / (Int.gcd u d:Int)<=1073741824/\d / (Int.gcd u d:Int)<=1073741824/\u / (Int.gcd u d:Int)=n/\d / (Int.gcd u d:Int)=m/\0=e):=by
 unfold qG at h;rw[if_neg (by omega)] at h;unfold tell at h;rw[rC u d a g,sC u d a g] at h;have i:0<=u / (Int.gcd u d:Int):=Int.ediv_nonneg a (by omega);rw[if_neg (by omega)] at h;unfold mx at h;by_cases c:1073741824<u / (Int.gcd u d:Int)\/1073741824<d / (Int.gcd u d:Int)
 ·rw[if_pos c] at h
  simp only[Prod.mk.injEq] at h;exact .inl ⟨c,h⟩
 ·rw[if_neg c] at h
  simp only[Prod.mk.injEq] at h;exact .inr ⟨by omega,by omega,h⟩
def eG (a b c d:Int):Int × Int × Int:=if rQ a b=true/\rQ c d=true then qG (a*c) (b*d) else (0,0,2)
def jM (a b c d:Int):Int × Int:=if rQ a b=true/\rQ c d=true then (if a*d<c*b then -1 else if c*b<a*d then 1 else 0,0) else (0,2)
theorem vF {u d:Int}(h:rQ u d=true):0<=u/\u<=1073741824/\1<=d/\d<=1073741824:=by
 unfold rQ mx at h;have:=of_decide_eq_true h;exact⟨this.1,this.2.1,this.2.2.1,this.2.2.2.1⟩
theorem nJ {a b:Int}(ha:0<=a)(g:a<=1073741824)(i:0<=b)(h:b<=1073741824):0<=a*b/\a*b<=1152921504606846976 :=
 ⟨Int.mul_nonneg ha i,by have:=Int.mul_le_mul g h i (by decide);exact this⟩
def xH (u d n:Int):Int × Int × Int :=
 if rQ u d=true then (if n<0\/4096<n then (0,0,3) else if mx<u ^ n.toNat\/mx<d ^ n.toNat then (0,0,4) else (u ^ n.toNat,d ^ n.toNat,0)) else (0,0,2)
theorem qE (x y:Nat):rQ (x:Int) (y:Int)=true↔(x<=1073741824/\1<=y/\y<=1073741824/\Nat.gcd x y=1):=by
 unfold rQ mx;rw[decide_eq_true_iff,show Int.gcd (x:Int) (y:Int)=Nat.gcd x y from rfl];omega
theorem cdZ (x y:Nat)(j:1<=y)(h:Nat.gcd x y=1):qG (x:Int) (y:Int)=if x<=1073741824/\y<=1073741824 then ((x:Int),(y:Int),0) else (0,0,4):=by
 obtain⟨n,m,e,a⟩:∃ n m e,qG (x:Int) (y:Int)=(n,m,e):=⟨_,_,_,rfl⟩;rw[a];have:=tC x y n m e (by omega) (by omega) a;rw[show Int.gcd (x:Int) (y:Int)=Nat.gcd x y from rfl,h] at this;simp only[Int.natCast_one,Int.ediv_one] at this;rcases this with⟨hc,rfl,rfl,rfl⟩|⟨g,i,rfl,rfl,rfl⟩
 ·rw[if_neg (by omega)]
 ·rw[if_pos (by omega)]
theorem cdJ (x y i:Nat)(h:rQ (x:Int) (y:Int)=true)(hi:x ^ i<=1073741824)(k:y ^ i<=1073741824) :
  eG ((x ^ i:Nat):Int) ((y ^ i:Nat):Int) (x:Int) (y:Int)=if x ^ (i+1)<=1073741824/\y ^ (i+1)<=1073741824 then (((x ^ (i+1):Nat):Int),((y ^ (i+1):Nat):Int),0) else (0,0,4):=by
 have j:=(qE x y).1 h;obtain⟨m,a,o,g⟩:=j;have l:rQ ((x ^ i:Nat):Int) ((y ^ i:Nat):Int)=true:=(qE _ _).2 ⟨hi,Nat.pow_pos a,k,Nat.Coprime.pow i i g⟩;unfold eG;rw[if_pos ⟨l,h⟩,<-Int.natCast_mul,<-Int.natCast_mul,<-Nat.pow_succ,<-Nat.pow_succ];exact cdZ _ _ (Nat.pow_pos a) (Nat.Coprime.pow _ _ g)
theorem gS (x i n:Nat)(hi:i<=n)(h:1073741824<x ^ i):1073741824<x ^ n:=by
 have a:0<x:=by
  cases x with
  | zero=>cases i with
   | zero=>simp at h
   | succ k=>rw[Nat.zero_pow (by omega)] at h;omega
  | succ k=>omega
 exact Nat.lt_of_lt_of_le h (Nat.pow_le_pow_right a hi)
theorem iS (x y n:Nat)(h:rQ (x:Int) (y:Int)=true)(i:n<=4096)(a b e:Int)(g:xH x y n=(a,b,e)) :
  ((1073741824<x ^ n\/1073741824<y ^ n)/\0=a/\0=b/\4=e)\/(x ^ n<=1073741824/\y ^ n<=1073741824/\((x ^ n:Nat):Int)=a/\((y ^ n:Nat):Int)=b/\0=e):=by
 unfold xH mx at g;rw[if_pos h,if_neg (by omega),Int.toNat_natCast,<-Int.natCast_pow,<-Int.natCast_pow] at g;generalize x ^ n=p at *
 generalize y ^ n=q at *
 by_cases c:(1073741824:Int)<p\/(1073741824:Int)<q
 ·rw[if_pos c] at g
  simp only[Prod.mk.injEq] at g;exact .inl ⟨by omega,g⟩
 ·rw[if_neg c] at g
  simp only[Prod.mk.injEq] at g;exact .inr ⟨by omega,by omega,g⟩

import Derived.Test.YtdceajgpolckiaaGreatDoorQr02
open Go.Proofs.Tryz
set_option linter.unusedSimpArgs false
set_option maxHeartbeats 16000000
set_option maxRecDepth 100000
namespace Go.Proofs.Rt
def Ok (q:Rat):Prop:=0<=q.num/\q.num<=mx/\(q.den:Int)<=mx
theorem ctJ {u d:Int}(h:pQ u d=true):∃ q:Rat,q.num=u/\(q.den:Int)=d/\Ok q:=by
 unfold pQ at h;obtain⟨h1,h2,h3,h4,h5⟩:=of_decide_eq_true h;refine⟨Rat.divInt u d,?_,?_,?_⟩
 ·rw[xW u d h1 h3,h5];simp
 ·rw[zW u d h1 h3,h5];simp
 ·unfold Ok
  rw[xW u d h1 h3,zW u d h1 h3,h5];simp;exact⟨h1,h2,h4⟩
theorem iR (q:Rat):(1:Int)<=q.den:=by have:=q.den_pos;omega
theorem jB (q:Rat)(h:Ok q):pQ q.num q.den=true:=by
 unfold pQ;obtain⟨h1,h2,h3⟩:=h;refine decide_eq_true ⟨h1,h2,iR q,h3,?_⟩;exact q.reduced
theorem cuQ (q:Rat)(h:Ok q):tell q=(q.num,(q.den:Int),0):=by
 unfold tell;obtain⟨h1,h2,h3⟩:=h;rw[if_neg (by omega),if_neg (by omega)]
theorem cuX {q:Rat}{n m:Int}(h:tell q=(n,m,0)):Ok q/\q.num=n/\(q.den:Int)=m:=by
 unfold tell at h;by_cases c:q.num<0
 ·rw[if_pos c] at h;simp at h
 ·rw[if_neg c] at h
  by_cases c2:mx<q.num\/mx<(q.den:Int)
  ·rw[if_pos c2] at h;simp at h
  ·rw[if_neg c2] at h
   simp only[Prod.mk.injEq] at h;exact⟨⟨by omega,by omega,by omega⟩,h.1,h.2.1⟩
theorem ayZ (u d:Int)(hd:1<=d):kY u d=tell (Rat.divInt u d):=by
 unfold kY;by_cases c:u<0
 ·rw[if_pos (.inl c)]
  unfold tell
  have:¬ 0<=Rat.divInt u d:=by
   rw[Rat.divInt_nonneg_iff_of_pos_right (by omega)];omega
  have:¬ 0<=(Rat.divInt u d).num:=fun h=>this (Rat.num_nonneg.1 h);rw[if_pos (by omega)]
 ·rw[if_neg (by omega)]
theorem j0 (q:Rat):Rat.divInt q.num q.den=q:=Rat.num_divInt_den q
theorem cuZ (x y:Rat)(hx:Ok x)(hy:Ok y):cG x.num x.den y.num y.den=tell (x*y):=by
 unfold cG;rw[if_pos ⟨jB x hx,jB y hy⟩,ayZ _ _ (by have:=Int.mul_le_mul (iR x) (iR y) (by omega) (by have:=iR x;omega);omega),<-Rat.divInt_mul_divInt,j0,j0]

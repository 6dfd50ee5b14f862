import Derived.Test.YtdceajgpolckiaaGreatDoorQq02
open Go.Proofs.Tryz
set_option linter.unusedSimpArgs false
set_option maxHeartbeats 16000000
set_option maxRecDepth 100000
namespace Go.Proofs.Rt
def Ok (q:Rat):Prop:=0<=q.num/\q.num<=mx/\(q.den:Int)<=mx
theorem brX {u d:Int}(h:fQ u d=true):∃ q:Rat,q.num=u/\(q.den:Int)=d/\Ok q:=by
 unfold fQ at h;obtain⟨h1,h2,h3,h4,h5⟩:=of_decide_eq_true h;refine⟨Rat.divInt u d,?_,?_,?_⟩
 ·rw[yS u d h1 h3,h5];simp
 ·rw[uS u d h1 h3,h5];simp
 ·unfold Ok
  rw[yS u d h1 h3,uS u d h1 h3,h5];simp;exact⟨h1,h2,h4⟩
theorem vP (q:Rat):(1:Int)<=q.den:=by have:=q.den_pos;omega
theorem bT (q:Rat)(h:Ok q):fQ q.num q.den=true:=by
 unfold fQ;obtain⟨h1,h2,h3⟩:=h;refine decide_eq_true ⟨h1,h2,vP q,h3,?_⟩;exact q.reduced
theorem brZ (q:Rat)(h:Ok q):tell q=(q.num,(q.den:Int),0):=by
 unfold tell;obtain⟨h1,h2,h3⟩:=h;rw[if_neg (by omega),if_neg (by omega)]
theorem brJ (u d:Int)(hd:1<=d):wV u d=tell (Rat.divInt u d):=by
 unfold wV;by_cases c:u<0
 ·rw[if_pos (.inl c)]
  unfold tell
  have:¬ 0<=Rat.divInt u d:=by
   rw[Rat.divInt_nonneg_iff_of_pos_right (by omega)];omega
  have:¬ 0<=(Rat.divInt u d).num:=fun h=>this (Rat.num_nonneg.1 h);rw[if_pos (by omega)]
 ·rw[if_neg (by omega)]
theorem tW (q:Rat):Rat.divInt q.num q.den=q:=Rat.num_divInt_den q
theorem bsQ (x y:Rat)(hx:Ok x)(hy:Ok y):sY x.num x.den y.num y.den=tell (x*y):=by
 unfold sY;rw[if_pos ⟨bT x hx,bT y hy⟩,brJ _ _ (by have:=Int.mul_le_mul (vP x) (vP y) (by omega) (by have:=vP x;omega);omega),<-Rat.divInt_mul_divInt,tW,tW]

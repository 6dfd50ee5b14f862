import Derived.Test.YtdceajgpolckiaaGreatDoorQs02
open Go.Proofs.Tryz
set_option linter.unusedSimpArgs false
set_option maxHeartbeats 16000000
set_option maxRecDepth 100000
namespace Go.Proofs.Rt
def Ok (q:Rat):Prop:=0<=q.num/\q.num<=mx/\(q.den:Int)<=mx
theorem bnQ {u d:Int}(h:bQ u d=true):∃ q:Rat,q.num=u/\(q.den:Int)=d/\Ok q:=by
 unfold bQ at h;obtain⟨h1,h2,h3,h4,h5⟩:=of_decide_eq_true h;refine⟨Rat.divInt u d,?_,?_,?_⟩
 ·rw[tR u d h1 h3,h5];simp
 ·rw[wR u d h1 h3,h5];simp
 ·unfold Ok
  rw[tR u d h1 h3,wR u d h1 h3,h5];simp;exact⟨h1,h2,h4⟩
theorem gO (q:Rat):(1:Int)<=q.den:=by have:=q.den_pos;omega
theorem wS (q:Rat)(h:Ok q):bQ q.num q.den=true:=by
 unfold bQ;obtain⟨h1,h2,h3⟩:=h;refine decide_eq_true ⟨h1,h2,gO q,h3,?_⟩;exact q.reduced
theorem bnX (q:Rat)(h:Ok q):tell q=(q.num,(q.den:Int),0):=by
 unfold tell;obtain⟨h1,h2,h3⟩:=h;rw[if_neg (by omega),if_neg (by omega)]
theorem bnZ (u d:Int)(hd:1<=d):vV u d=tell (Rat.divInt u d):=by
 unfold vV;by_cases c:u<0
 ·rw[if_pos (.inl c)]
  unfold tell
  have:¬ 0<=Rat.divInt u d:=by
   rw[Rat.divInt_nonneg_iff_of_pos_right (by omega)];omega
  have:¬ 0<=(Rat.divInt u d).num:=fun h=>this (Rat.num_nonneg.1 h);rw[if_pos (by omega)]
 ·rw[if_neg (by omega)]
theorem mW (q:Rat):Rat.divInt q.num q.den=q:=Rat.num_divInt_den q
theorem bnJ (x y:Rat)(hx:Ok x)(hy:Ok y):bY x.num x.den y.num y.den=tell (x*y):=by
 unfold bY;rw[if_pos ⟨wS x hx,wS y hy⟩,bnZ _ _ (by have:=Int.mul_le_mul (gO x) (gO y) (by omega) (by have:=gO x;omega);omega),<-Rat.divInt_mul_divInt,mW,mW]

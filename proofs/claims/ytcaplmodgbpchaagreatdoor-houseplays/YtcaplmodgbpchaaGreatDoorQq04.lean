import Derived.Test.YtcaplmodgbpchaaGreatDoorQq03
open Go.Proofs.Tryz
open Go.Value(int)
open Go.IntKind(i64)
set_option linter.unusedSimpArgs false
set_option maxHeartbeats 16000000
set_option maxRecDepth 100000
namespace Go.Proofs.Rt
def Ok (q:Rat):Prop:=0<=q.num/\q.num<=mx/\(q.den:Int)<=mx
theorem ceQ {u d:Int}(h:rQ u d=true):∃ q:Rat,q.num=u/\(q.den:Int)=d/\Ok q:=by
 unfold rQ at h;obtain⟨a,j,g,k,i⟩:=of_decide_eq_true h;refine⟨Rat.divInt u d,?_,?_,?_⟩
 ·rw[rC u d a g,i];simp
 ·rw[sC u d a g,i];simp
 ·unfold Ok
  rw[rC u d a g,sC u d a g,i];simp;exact⟨a,j,k⟩
theorem mS (q:Rat):(1:Int)<=q.den:=by have:=q.den_pos;omega
theorem xE (q:Rat)(h:Ok q):rQ q.num q.den=true:=by
 unfold rQ;obtain⟨a,g,i⟩:=h;refine decide_eq_true ⟨a,g,mS q,i,?_⟩;exact q.reduced
theorem ceX (q:Rat)(h:Ok q):tell q=(q.num,(q.den:Int),0):=by
 unfold tell;obtain⟨a,g,i⟩:=h;rw[if_neg (by omega),if_neg (by omega)]
theorem ceZ (u d:Int)(a:1<=d):qG u d=tell (Rat.divInt u d):=by
 unfold qG;by_cases c:u<0
 ·rw[if_pos (.inl c)]
  unfold tell
  have:¬ 0<=Rat.divInt u d:=by
   rw[Rat.divInt_nonneg_iff_of_pos_right (by omega)];omega
  have:¬ 0<=(Rat.divInt u d).num:=fun h=>this (Rat.num_nonneg.1 h);rw[if_pos (by omega)]
 ·rw[if_neg (by omega)]
theorem asX (q:Rat):Rat.divInt q.num q.den=q:=Rat.num_divInt_den q
theorem ceJ (x y:Rat)(a:Ok x)(g:Ok y):eG x.num x.den y.num y.den=tell (x*y):=by
 unfold eG;rw[if_pos ⟨xE x a,xE y g⟩,ceZ _ _ (by have:=Int.mul_le_mul (mS x) (mS y) (by omega) (by have:=mS x;omega);omega),<-Rat.divInt_mul_divInt,asX,asX]

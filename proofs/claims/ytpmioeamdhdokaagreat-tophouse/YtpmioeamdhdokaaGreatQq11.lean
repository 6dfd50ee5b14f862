import Derived.Test.YtpmioeamdhdokaaGreatQq10
import Derived.Sort.BigQuietIn
open Go.Proofs.Tryz
set_option linter.unusedSimpArgs false
set_option maxHeartbeats 16000000
set_option maxRecDepth 100000
namespace Go.Proofs.YtpmioeamdhdokaaGreat
variable {W W' w:World} {B:Nat} {M:Int} {row:Option Nat}
section
open Go.RowKit Go.Shelf Ds
attribute [local go_sem] Oper.semAt_some
def mM {w:World} {B:Nat} {M:Int} (W:World) (Bx:Nat) (x:PP w B M):Prop :=
 W.heap[Bx]? = some (.cells #[x.1.1.1,.int .i64 x.1.1.2.2] 82 (0,0))/\W.heap[Bx+1]? = some (.cells #[x.1.2.1,.int .i64 x.1.2.2.2] 82 (0,0))
theorem mM.own {Bx:Nat}{x:PP w B M}(h:mM W Bx x)(hg:W.grownBy W' row)(hr:∀ r,row=some r->∃ o:Obj,W.heap[r]? = some o/\o.isCells=false):mM W' Bx x:=by
 have key:∀ (k:Nat) (o:Obj),W.heap[k]? = some o->o.isCells=true->W'.heap[k]? = some o:=by
  intro k o hk ho;rw[hg.block k (zJ.1 hk).1 ?_,hk];intro e;obtain⟨o',h1,h2⟩:=hr k e.symm;rw[hk] at h1;simp only[xX] at h1;subst h1;rw[ho] at h2;cases h2
 exact⟨key _ _ h.1 rfl,key _ _ h.2 rfl⟩
theorem mM.cells {Bx:Nat}{x:PP w B M}(h:mM W Bx x) :
  W.cell? ⟨Bx,0,none⟩=some x.1.1.1/\W.cell? ⟨Bx,1,none⟩=some (.int .i64 x.1.1.2.2)/\W.cell? ⟨Bx+1,0,none⟩=some x.1.2.1/\W.cell? ⟨Bx+1,1,none⟩=some (.int .i64 x.1.2.2.2):=by
 obtain⟨h1,h2⟩:=h;simp[World.cell?,h1,h2]
theorem crX (W:World)(x:PP w B M):mM ((W.alloc (.cells #[x.1.1.1,.int .i64 x.1.1.2.2] 82)).alloc (.cells #[x.1.2.1,.int .i64 x.1.2.2.2] 82)) W.heap.size x:=by
 refine⟨?_,?_⟩
 ·rw[wL _ _ _ (by simp)];exact qM W _
 ·have:=qM (W.alloc (.cells #[x.1.1.1,.int .i64 x.1.1.2.2] 82)) (.cells #[x.1.2.1,.int .i64 x.1.2.2.2] 82)
  rwa [vP] at this
end
section
open Go.RowKit Go.Shelf
section
variable {F:Fence} {n:Nat} {P:Program} {ops:Array Oper} {C:World->Prop}
end
end
section
open Go.RowKit Go.Shelf Ds
attribute [local go_sem] Oper.semAt_some
end
section
open Go.RowKit Ds
theorem crZ {l:List Pt}(hr:cZ l){p:Pt}(hp:p∈l):wt l p.1=p.2:=by
 obtain⟨i,hi,h⟩:=List.getElem_of_mem hp;exact atX hr (by rw[iJ hi,h])
theorem crJ {p q:Pt}{l:List Pt}(h:cZ (p::l))(hq:q∈l):p.1≠q.1:=aH ((iY.1 h).1 q hq)
end
end Go.Proofs.YtpmioeamdhdokaaGreat

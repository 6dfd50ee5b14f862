import Derived.Test.YtdceajgpolckiaaGreatDoorQr09
import Derived.Sort.BigQuietIn
open Go.Proofs.Tryz
set_option linter.unusedSimpArgs false
set_option maxHeartbeats 16000000
set_option maxRecDepth 100000
namespace Go.Proofs.YtdceajgpolckiaaGreatDoor
variable {W W' w:World} {B:Nat} {M:Int} {row:Option Nat}
section
open Go.RowKit Go.Shelf Ds
attribute [local go_sem] Oper.semAt_some
def yV:List Pt->List Pt->List (Pt × Pt)
 | [],[]=>[]
 | [],b::bs=>(([],0),b)::yV [] bs
 | a::az,[]=>(a,([],0))::yV az []
 | a::az,b::bs=>if nX a.1 b.1<0 then (a,([],0))::yV az (b::bs) else if 0<nX a.1 b.1 then (([],0),b)::yV (a::az) bs else (a,b)::yV az bs
termination_by az bs=>az.length+bs.length
def bare (p:Tr × Tr):Pt × Pt:=(p.1.2,p.2.2)
theorem csJ (az bz:List Tr):(mrg az bz).map bare=yV (rd az) (rd bz):=by
 induction az,bz using mrg.induct with
 | case1=>simp[mrg,yV,rd]
 | case2 b bs ih=>rw[mrg];simp only[rd,xV,nP] at *;rw[yV,ih];rfl
 | case3 a az ih=>rw[mrg];simp only[rd,xV,nP] at *;rw[yV,ih];rfl
 | case4 a az b bs h ih=>rw[wT h];simp only[rd,xV] at *;rw[yV,zQ h,ih];rfl
 | case5 a az b bs h1 h2 ih=>rw[qB h2];simp only[rd,xV] at *;rw[yV,xQ h1,zQ h2,ih];rfl
 | case6 a az b bs h1 h2 ih=>rw[xB (by omega)];simp only[rd,xV] at *;rw[yV,xQ h1,xQ h2,ih];rfl
attribute [local go_sem] Oper.semAt_some
def tM {w:World} {B:Nat} {M:Int} (W:World) (Bx:Nat) (x:PP w B M):Prop :=
 W.heap[Bx]? = some (.cells #[x.1.1.1,.int .i64 x.1.1.2.2] 77 (0,0))/\W.heap[Bx+1]? = some (.cells #[x.1.2.1,.int .i64 x.1.2.2.2] 77 (0,0))
theorem tM.own {Bx:Nat}{x:PP w B M}(h:tM W Bx x)(hg:W.grownBy W' row)(hr:∀ r,row=some r->∃ o:Obj,W.heap[r]? = some o/\o.isCells=false):tM W' Bx x:=by
 have key:∀ (k:Nat) (o:Obj),W.heap[k]? = some o->o.isCells=true->W'.heap[k]? = some o:=by
  intro k o hk ho;rw[hg.block k (yJ.1 hk).1 ?_,hk];intro e;obtain⟨o',h1,h2⟩:=hr k e.symm;rw[hk] at h1;simp only[zX] at h1;subst h1;rw[ho] at h2;cases h2
 exact⟨key _ _ h.1 rfl,key _ _ h.2 rfl⟩
theorem tM.cells {Bx:Nat}{x:PP w B M}(h:tM W Bx x) :
  W.cell? ⟨Bx,0,none⟩=some x.1.1.1/\W.cell? ⟨Bx,1,none⟩=some (.int .i64 x.1.1.2.2)/\W.cell? ⟨Bx+1,0,none⟩=some x.1.2.1/\W.cell? ⟨Bx+1,1,none⟩=some (.int .i64 x.1.2.2.2):=by
 obtain⟨h1,h2⟩:=h;simp[World.cell?,h1,h2]
theorem ctQ (W:World)(x:PP w B M):tM ((W.alloc (.cells #[x.1.1.1,.int .i64 x.1.1.2.2] 77)).alloc (.cells #[x.1.2.1,.int .i64 x.1.2.2.2] 77)) W.heap.size x:=by
 refine⟨?_,?_⟩
 ·rw[vM _ _ _ (by simp)];exact uM W _
 ·have:=uM (W.alloc (.cells #[x.1.1.1,.int .i64 x.1.1.2.2] 77)) (.cells #[x.1.2.1,.int .i64 x.1.2.2.2] 77)
  rwa [cP] at this
end
section
open Go.RowKit Go.Shelf
section
variable {F:Fence} {n:Nat} {P:Program} {ops:Array Oper} {C:World->Prop}
end
end
section
open Go.RowKit Go.Shelf Ds
attribute [local go_sem] Oper.semAt_some
end
section
open Go.RowKit Ds
theorem ctX {l:List Pt}(hr:cZ l){p:Pt}(hp:p∈l):wt l p.1=p.2:=by
 obtain⟨i,hi,h⟩:=List.getElem_of_mem hp;exact auX hr (by rw[zJ hi,h])
theorem ctZ {p q:Pt}{l:List Pt}(h:cZ (p::l))(hq:q∈l):p.1≠q.1:=eH ((iY.1 h).1 q hq)

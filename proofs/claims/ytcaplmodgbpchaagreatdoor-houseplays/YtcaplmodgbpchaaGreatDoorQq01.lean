import Derived.Test.YtcaplmodgbpchaaGreatDoorQq00
import Derived.Test.YtcaplmodgbpchaaGreatDoorRows
import Derived.WalkKit
import Derived.Laws.AppendOwnNone
open Go.Proofs.Tryz
open Go.Value(int)
open Go.IntKind(i64)
set_option linter.unusedSimpArgs false
set_option maxHeartbeats 16000000
set_option maxRecDepth 100000
namespace Go.Proofs.YtcaplmodgbpchaaGreatDoor
variable {P:Program} {w:World} {ops:Array Oper} {o:Oper} {a:Act} {Q:Exit->Act->World->Prop}
section
open Go.RowKit
theorem uS {rest:List Oper}(C:o.guard=none)(s x:Operand)(t:TypeId)
  (ho:o.op=.call { callee:=.builtin .append,args:=#[s,x],argTypes:=#[t,t] })
  (base:Nat) (e:TypeId) (i:TypeInfo) (z:Value) (size k:Nat) (M:P.underlying t=some (.slice e)) (hi:P.info? e=some i) (T:i.zero=some z)
  (B:i.size=size) (H:i.bytes=k) (J:z.cells.size=size) (I:0<size)
  (v:Value) (n:Nat) (F:List Value) (L:a.eval s=v) (l:w.ownsRow base e size v n F)
  (E:Option Addr) (m c:Nat) (g:List Value) (N:a.eval x=.slice E m c) (O:E=none->m=0/\c=0) (S:g.length=m*size) (A:∀ ad,E=some ad->∀ j u,g[j]? = some u->w.cell? (ad.add j)=some u) (R:∀ u∈g,u.oneCell' = true)
  (G:n+m<=maxLen) (p:(n+m)*k<=140737488355328) (y:base<=w.heap.size) (D:v≠.slice none 0 0)
  (h:∀ v' w',w'.ownsRow base e size v' (n+m) (F++g)->w.grownBy w' v.ownBlock->v'≠.slice none 0 0->wpList P ops Q rest (a.put o.dst v') w'):wpList P ops Q (o::rest) a w:=by
 cases E with
 | none =>
  obtain⟨rfl,rfl⟩:=O rfl;obtain rfl:g=[]:=oL.1 (by omega);exact wpList_append_own_none C s x t ho base e i size M hi v n F L l N (h v w (by simpa using l) ⟨rfl,rfl,rfl,vQ _,fun _ _ _=>rfl⟩ D)
 | some ad=>exact qF w C s x t ho base e i z size k M hi T B H J I v n F L l ad m c g N S (A ad rfl) R G p y fun v' w' h2 h3 h4=>h v' w' h2 h3 (fun c=>D (h4.1 c).1)

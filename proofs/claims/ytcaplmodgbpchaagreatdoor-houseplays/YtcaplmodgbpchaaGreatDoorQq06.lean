import Derived.Test.YtcaplmodgbpchaaGreatDoorQq00
import Derived.Orders
import Derived.Laws.Tables
open Go.Proofs.Tryz
open Go.Value(int)
open Go.IntKind(i64)
set_option linter.unusedSimpArgs false
set_option maxHeartbeats 16000000
set_option maxRecDepth 100000
namespace Go.Proofs.YtcaplmodgbpchaaGreatDoor
variable {ops:Array Oper} {L:Array Bool} {d i id j k n:Nat} {o:Oper} {P:Program} {Q:Exit->Act->World->Prop} {a a0:Act} {w w':World} {D:List Nat} {u:Nat->Value} {R:(Nat->Value)->World->Prop} {v:Value} {T:List (Nat × Nat × Value)} {t:Nat × Nat × Value} {X:(Nat->Bool)->(Nat->Value)->World->Prop} {K:Act->World->Prop} {args:Array Value}
section
open Go
def left (L:Array Bool) (n:Nat):Nat:=((List.range n).filter fun j=>!L.getD j true).length
def deps (o:Oper):List Nat:=(o.after.toList.filter (Region.binds .any)).map (·.on)
theorem a5X (h:i∈Region.ready .any ops L):i<ops.size/\L.getD i true=false/\∃ o,ops[i]? = some o/\∀ j∈deps o,L.getD j false=true:=by
 simp only[Region.ready,bI,lK,eI,Bool.not_eq_true'] at h;obtain⟨a,k,g⟩:=h;refine⟨a,k,ops[i],by simp[a],fun j hj=>?_⟩;rw[Array.getElem?_eq_getElem a] at g;simp only[Option.map_some,Option.getD_some,Array.all_eq_true'] at g;simp only[deps,iJ,bI] at hj;obtain⟨e,⟨m,l⟩,rfl⟩:=hj;have:=g e (by simpa using m);simpa [l] using this
theorem c8J (g:ops[i]? = some o)(h:L.getD i true=false)(k:∀ j∈deps o,L.getD j false=true):i∈Region.ready .any ops L:=by
 have a:=(mY.1 g).1;simp only[Region.ready,bI,lK,eI,Bool.not_eq_true',g,Option.map_some,Option.getD_some,Array.all_eq_true'];refine⟨a,h,fun e he=>?_⟩;cases hb:Region.binds .any e with
 | false=>rfl
 | true=>simpa using k e.on (by simp only[deps,iJ,bI];exact⟨e,⟨by simpa using he,hb⟩,rfl⟩)
theorem c9Q (h:i<L.size):(L.setIfInBounds i true).getD j false=(decide (i=j) || L.getD j false):=by
 simp only[Array.getD_eq_getD_getElem?,Array.getElem?_setIfInBounds];by_cases e:i=j
 ·subst e;simp[h]
 ·simp[e]
theorem a5Z (h:j<L.size):L.getD j true=L.getD j false:=by
 simp[Array.getD_eq_getD_getElem?,Array.getElem?_eq_getElem h]
theorem a5J (_hn:L.size=n)(hi:i<n)(h:L.getD i true=false):left (L.setIfInBounds i true) n+1=left L n:=by
 unfold left
 have m:∀ l:List Nat,l.Nodup->i∈l->(∀ j∈l,j<n)->(l.filter fun j=>!(L.setIfInBounds i true).getD j true).length+1=(l.filter fun j=>!L.getD j true).length:=by
  intro l
  induction l with
  | nil=>intro _ h;cases h
  | cons x l ih =>
   intro a g p;rw[List.nodup_cons] at a
   have e:∀ j,j≠i->(L.setIfInBounds i true).getD j true=L.getD j true:=fun j hj=>by
    simp only[Array.getD_eq_getD_getElem?,Array.getElem?_setIfInBounds];simp[Ne.symm hj]
   rcases kJ.1 g with rfl|g
   ·have o:(L.setIfInBounds i true).getD i true=true:=by
     simp only[Array.getD_eq_getD_getElem?,Array.getElem?_setIfInBounds,↓reduceIte];split <;> rfl
    rw[List.filter_cons,List.filter_cons,o,h]
    have:(l.filter fun j=>!(L.setIfInBounds i true).getD j true)=l.filter fun j=>!L.getD j true :=
     List.filter_congr fun j hj=>by rw[e j (fun c=>a.1 (c▸hj))]
    rw[this];rfl
   ·have k:x≠i:=fun c=>a.1 (c▸g)
    have:=ih a.2 g (fun j hj=>p j (qM _ hj));rw[List.filter_cons,List.filter_cons,e x k];split
    ·rw[cD,cD];omega
    ·exact this
 exact m _ List.nodup_range (lK.2 hi) (fun j hj=>lK.1 hj)
def eM (ops:Array Oper):List Nat->List Nat->Bool
 | _,[]=>true
 | l,i::r=>(match ops[i]? with | some o=>(deps o).all fun j=>l.contains j | none=>false) && eM ops (i::l) r
theorem dW {ops:Array Oper}{L:Array Bool}(k:L.size=ops.size)(g:Region.ready .any ops L=[]):∀ (r l:List Nat),eM ops l r=true->(∀ j∈l,L.getD j false=true)->∀ j∈r,L.getD j false=true
 | [],_,_,_=>fun j h=>by cases h
 | i::r,l,h,hl=>by
  simp only[eM,eI] at h
  have hi:L.getD i false=true:=by
   cases ho:ops[i]? with
   | none=>rw[ho] at h;exact absurd h.1 (by simp)
   | some o =>
    rw[ho] at h;have m:=(mY.1 ho).1;cases hc:L.getD i false with
    | true=>rfl
    | false =>
     have:=c8J ho (by rw[a5Z (by omega)];exact hc) (fun j a=>hl j (by have:=aN.1 h.1 j a;simpa using this));rw[g] at this;cases this
  intro j a;rcases kJ.1 a with rfl|a
  ·exact hi
  ·exact dW k g r (i::l) h.2 (fun j a=>by rcases kJ.1 a with rfl|a;exact hi;exact hl j a) j a
def a6Q (P:Program) (ops:Array Oper) (Q:Exit->Act->World->Prop) (I:(Nat->Bool)->Act->World->Prop) (i:Nat) (o:Oper):Prop :=
 ∀ L a w,L i=false->(∀ j∈deps o,L j=true)->I L a w ->
  if Region.wanted o (yielded ops a.tmps) then o.wp P a w (I fun j=>decide (i=j) || L j) Q else I (fun j=>decide (i=j) || L j) (a.put o.dst undef) w
def gP (P:Program) (ops:Array Oper) (Q:Exit->Act->World->Prop) (I:(Nat->Bool)->Act->World->Prop):Nat->List Oper->Prop
 | _,[]=>True
 | i,o::r=>a6Q P ops Q I i o/\gP P ops Q I (i+1) r
theorem a6X {P:Program}{ops:Array Oper}{Q:Exit->Act->World->Prop}{I:(Nat->Bool)->Act->World->Prop}:∀ (l:List Oper) (k i:Nat) (o:Oper),gP P ops Q I k l->l[i]? = some o->a6Q P ops Q I (k+i) o
 | [],_,_,_,_,h=>by simp at h
 | x::l,k,0,o,h,e=>by simp at e;subst e;exact h.1
 | x::l,k,i+1,o,h,e=>by
  have:=a6X l (k+1) i o h.2 (by simpa using e);rwa [show k+1+i=k+(i+1) by omega] at this
theorem c9X (I:(Nat->Bool)->Act->World->Prop)(top:List Nat)(F:gP P ops Q I 0 ops.toList)(C:eM ops [] top=true)(z:∀ L a w,(∀ j∈top,L j=true)->I L a w->Q .normal a w) :
  ∀ (g:Nat) (L:Array Bool) (a:Act) (w:World),L.size=ops.size->left L ops.size<=g->I (fun j=>L.getD j false) a w->wpAny P .any ops Q g L a w:=by
 intro g
 induction g with
 | zero =>
  intro L a w k E p
  have v:Region.ready .any ops L=[]:=by
   cases h:Region.ready .any ops L with
   | nil=>rfl
   | cons i r =>
    obtain⟨y,m,_⟩:=a5X (i:=i) (by rw[h];simp);have:=a5J k y m;omega
  exact⟨v,z _ a w (dW k v top [] C (fun j h=>by cases h)) p⟩
 | succ g ih =>
  intro L a w k E p;refine⟨fun v=>z _ a w (dW k v top [] C (fun j h=>by cases h)) p,fun i hi=>?_⟩;obtain⟨y,m,o,B,D⟩:=a5X hi;have l:=a6X _ 0 i o F (by simpa using B) (fun j=>L.getD j false) a w (by rw[vX];rw[<-a5Z (by omega)];exact m) D p;simp only[vX] at l
  have A:∀ a' w',I (fun j=>decide (i=j) || L.getD j false) a' w'->wpAny P .any ops Q g (L.setIfInBounds i true) a' w':=fun a' w' h=>by
   refine ih _ a' w' (by simpa using k) (by have:=a5J k y m;omega) ?_;have e:(fun j=>(L.setIfInBounds i true).getD j false)=fun j=>decide (i=j) || L.getD j false:=funext fun j=>c9Q (by omega);rw[e];exact h
  unfold wpOp;rw[B];simp only;split
  ·rename_i hw
   rw[jQ hw] at l;exact .inl (Oper.wp_mono A l)
  ·rename_i hw
   rw[zQ hw] at l;exact A _ _ l
theorem a6Z (I:(Nat->Bool)->Act->World->Prop)(top:List Nat)(h:P.follows .mixedOrders=true)(i:gP P ops Q I 0 ops.toList)(k:eM ops [] top=true)(g:∀ L a w,(∀ j∈top,L j=true)->I L a w->Q .normal a w)
  (h0:I (fun _=>false) a { w with drawn:=w.drawn+1 }):(Code.region id ops true).wp P Q a w :=
 wp_region_any h (c9X I top i k g _ _ _ _ (by simp) (bQ (List.length_filter_le _ _) (by simp)) (by
  have e:(fun j=>(Array.replicate ops.size false).getD j false)=fun _=>false:=funext fun j=>by
   simp only[Array.getD_eq_getD_getElem?,Array.getElem?_replicate];split <;> rfl
  rw[e];exact h0))
def ov (a:Act) (D:List Nat) (u:Nat->Value):Act:={ a with tmps:=D.foldl (fun t d=>t.setIfInBounds d (u d)) a.tmps }
def upd (u:Nat->Value) (d:Nat) (v:Value):Nat->Value:=fun k=>if k=d then v else u k
theorem iP (u:Nat->Value)(k:Nat):∀ (D:List Nat) (t:Array Value),(D.foldl (fun t d=>t.setIfInBounds d (u d)) t)[k]? = if k∈D/\k<t.size then some (u k) else t[k]?
 | [],t=>by simp
 | d::D,t=>by
  rw[List.foldl_cons,iP u k D];simp only[Array.size_setIfInBounds,Array.getElem?_setIfInBounds,kJ];by_cases g:k∈D <;> by_cases h:k<t.size <;> by_cases a:k=d
  all_goals first|(subst a;simp_all)|(have i:¬ d=k:=fun e=>a e.symm;simp_all)
theorem vY (h:k∈D)(g:k<a.tmps.size):(ov a D u).eval (.tmp k)=u k:=by
 simp only[Act.eval,ov,Array.getD_eq_getD_getElem?,iP,h,g,and_self,↓reduceIte,Option.getD_some]
theorem c9Z (h:d∈D)(v:Value):(ov a D u).put (some d) v=ov a D (upd u d v):=by
 show({ a with tmps:=(D.foldl (fun t d=>t.setIfInBounds d (u d)) a.tmps).setIfInBounds d v }:Act)={ a with tmps:=D.foldl (fun t k=>t.setIfInBounds k (upd u d v k)) a.tmps };refine congrArg (fun t=>({ a with tmps:=t }:Act)) (Array.ext_getElem? fun k=>?_);simp only[Array.getElem?_setIfInBounds,iP,upd]
 have l:∀ (D:List Nat) (t:Array Value),(D.foldl (fun t d=>t.setIfInBounds d (u d)) t).size=t.size:=by
  intro D
  induction D with
  | nil=>intro t;rfl
  | cons d D ih=>intro t;rw[List.foldl_cons,ih];simp
 rw[l];by_cases g:d=k
 ·subst g;by_cases i:d<a.tmps.size <;> simp[h,i]
 ·have j:¬ k=d:=fun e=>g e.symm
  simp[g,j]
theorem a6J (a:Act)(D:List Nat):a=ov a D (fun k=>a.tmps.getD k undef):=by
 unfold ov
 have e:(D.foldl (fun t d=>t.setIfInBounds d (a.tmps.getD d undef)) a.tmps)=a.tmps:=by
  refine Array.ext_getElem? fun k=>?_;rw[iP];split
  ·rename_i h;simp[Array.getD_eq_getD_getElem?,Array.getElem?_eq_getElem h.2]
  ·rfl
 rw[e]
def aL (P:Program) (Q:Exit->Act->World->Prop) (a0:Act) (D:List Nat) (R:(Nat->Bool)->(Nat->Value)->World->Prop) (i:Nat) (o:Oper):Prop :=
 o.guard=none/\∀ L u w,L i=false->(∀ j∈deps o,L j=true)->R L u w->o.wp P (ov a0 D u) w (fun a' w'=>∃ u',a' = ov a0 D u'/\R (fun j=>decide (i=j) || L j) u' w') Q
def eW (P:Program) (Q:Exit->Act->World->Prop) (a0:Act) (D:List Nat) (R:(Nat->Bool)->(Nat->Value)->World->Prop):Nat->List Oper->Prop
 | _,[]=>True
 | i,o::r=>aL P Q a0 D R i o/\eW P Q a0 D R (i+1) r
theorem fW {P:Program}{ops:Array Oper}{Q:Exit->Act->World->Prop}{a0:Act}{D:List Nat}{R:(Nat->Bool)->(Nat->Value)->World->Prop}:∀ (l:List Oper) (i:Nat),eW P Q a0 D R i l->gP P ops Q (fun L a w=>∃ u,a=ov a0 D u/\R L u w) i l
 | [],_,_=>trivial
 | o::l,i,h=>⟨fun L a w h1 h2 ⟨u,e,hR⟩=>by
   subst e;have g:Region.wanted o (yielded ops (ov a0 D u).tmps)=true:=by simp[Region.wanted,h.1.1]
   rw[jQ g];exact h.1.2 L u w h1 h2 hR,fW l (i+1) h.2⟩
def iT (P:Program) (Q:Exit->Act->World->Prop) (a0:Act) (D:List Nat) (R:(Nat->Bool)->(Nat->Value)->World->Prop):List Nat->List Oper->Prop
 | i::is,o::r=>aL P Q a0 D R i o/\iT P Q a0 D R is r
 | [],[]=>True
 | _,_=>False
theorem gW {P:Program}{Q:Exit->Act->World->Prop}{a0:Act}{D:List Nat}{R:(Nat->Bool)->(Nat->Value)->World->Prop}:∀ (l:List Oper) (k:Nat),iT P Q a0 D R (List.range' k l.length) l->eW P Q a0 D R k l
 | [],_,_=>trivial
 | o::l,k,h=>by
  rw[cD,List.range'_succ] at h;exact⟨h.1,gW l (k+1) h.2⟩
theorem zO (D:List Nat)(R:(Nat->Bool)->(Nat->Value)->World->Prop)(top:List Nat)(i:P.follows .mixedOrders=true)(k:iT P Q a D R top ops.toList)(g:(eM ops [] top && top == List.range' 0 ops.toList.length)=true)
  (h:∀ L u w,(∀ j∈top,L j=true)->R L u w->Q .normal (ov a D u) w) (h0:∀ u,R (fun _=>false) u { w with drawn:=w.drawn+1 }):(Code.region id ops true).wp P Q a w:=by
 rw[eI,beq_iff_eq] at g;exact a6Z _ top i (fW _ 0 (gW _ 0 (g.2▸k))) g.1 (fun L a' w' hL ⟨u,e,hR⟩=>by subst e;exact h L u w' hL hR) ⟨_,a6J a D,h0 _⟩
theorem lT (a:d∈D)(h:R (upd u d v) w):∃ u',(ov a0 D u).put (some d) v=ov a0 D u'/\R u' w:=⟨_,c9Z a v,h⟩
def vV (T:List (Nat × Nat × Value)) (L:Nat->Bool) (u:Nat->Value):Prop:=∀ t∈T,L t.1=true->u t.2.1=t.2.2
theorem vV.get {L:Nat->Bool}(h:vV T L u)(n:Nat)(g:T[n]? = some t)(a:L t.1=true):u t.2.1=t.2.2:=h t (qX g) a
theorem vV.put {L:Nat->Bool}(h:vV T L u)(hc:(T.all fun t=>(t.1 == i) == (t.2.1 == d))=true)(m:∀ t∈T,t.1=i->t.2.2=v):vV T (fun j=>decide (i=j) || L j) (upd u d v):=by
 intro t g k;have a:=aN.1 hc t g;unfold upd;by_cases e:t.1=i
 ·have:t.2.1=d:=by simpa [e] using a
  rw[jQ this];exact(m t g e).symm
 ·have l:¬ t.2.1=d:=fun c=>by rw[c] at a;simp[e] at a
  rw[zQ l];exact h t g (by simpa [Ne.symm e] using k)
theorem a7Q (l:o.guard=none)(k:o.dst=some d)(a:d∈D)(m:T.filter (fun t=>t.1 == i)=[(i,d,v)])(hc:(T.all fun t=>(t.1 == i) == (t.2.1 == d))=true)
  (g:∀ L u w,X L u w->X (fun j=>decide (i=j) || L j) (upd u d v) w) (h:∀ L u w,(∀ j∈deps o,L j=true)->vV T L u->X L u w->(execOp (ov a0 D u).eval o).run P w=.ok (.value v) w):aL P Q a0 D (fun L u w=>vV T L u/\X L u w) i o :=
 ⟨l,fun L u w _ h2 ⟨hT,hx⟩=>by
  unfold Oper.wp;rw[h L u w h2 hT hx,Oper.upon_value,k];exact lT (R:=fun u w=>vV T _ u/\X _ u w) a ⟨hT.put hc (fun t ht e=>by have:t∈T.filter (fun t=>t.1 == i):=bI.2 ⟨ht,by simp[e]⟩;rw[m] at this;simp at this;rw[this]),g L u w hx⟩⟩
theorem bL :(ov a D u).tmps[k]? = if k∈D/\k<a.tmps.size then some (u k) else a.tmps[k]?:=iP u k D a.tmps
theorem mT (l:o.guard=none)(k:o.dst=some d)(a:d∈D)(m:T.filter (fun t=>t.1 == i)=[(i,d,v)])(hc:(T.all fun t=>(t.1 == i) == (t.2.1 == d))=true)
  (g:∀ L u w,X L u w->X (fun j=>decide (i=j) || L j) (upd u d v) w) (h:∀ L u w,L i=false->(∀ j∈deps o,L j=true)->vV T L u->X L u w->(execOp (ov a0 D u).eval o).run P w=.ok (.value v) w):aL P Q a0 D (fun L u w=>vV T L u/\X L u w) i o :=
 ⟨l,fun L u w h1 h2 ⟨hT,hx⟩=>by
  unfold Oper.wp;rw[h L u w h1 h2 hT hx,Oper.upon_value,k];exact lT (R:=fun u w=>vV T _ u/\X _ u w) a ⟨hT.put hc (fun t ht e=>by have:t∈T.filter (fun t=>t.1 == i):=bI.2 ⟨ht,by simp[e]⟩;rw[m] at this;simp at this;rw[this]),g L u w hx⟩⟩
def updo (u:Nat->Value) (d:Option Nat) (v:Value):Nat->Value:=match d with
 | some d=>upd u d v
 | none=>u
theorem bV (p:o.guard=none)(k:(o.dst.all fun d=>D.contains d)=true)(hc:(T.all fun t=>t.1 != i && some t.2.1 != o.dst)=true)
  (h:∀ L u w,L i=false->(∀ j∈deps o,L j=true)->vV T L u->X L u w->∀ K:Act->World->Prop,(∀ v w',X (fun j=>decide (i=j) || L j) (updo u o.dst v) w'->K ((ov a0 D u).put o.dst v) w')->o.wp P (ov a0 D u) w K Q):aL P Q a0 D (fun L u w=>vV T L u/\X L u w) i o :=
 ⟨p,fun L u w h1 h2 ⟨hT,hx⟩=>h L u w h1 h2 hT hx _ fun v w' g=>by
  have a:∀ t∈T,t.1≠i/\some t.2.1≠o.dst:=fun t ht=>by have:=aN.1 hc t ht;simpa using this
  revert g k a;cases o.dst with
  | none =>
   intro _ g a;exact⟨u,rfl,fun t ht hL=>hT t ht (by simpa [Ne.symm (a t ht).1] using hL),g⟩
  | some d =>
   intro k g a;refine lT (R:=fun u w=>vV T _ u/\X _ u w) (by simpa using k) ⟨fun t ht hL=>?_,g⟩;have l:=a t ht;have m:¬ t.2.1=d:=fun e=>l.2 (by rw[e]);unfold upd;rw[zQ m];exact hT t ht (by simpa [Ne.symm l.1] using hL)⟩
theorem gG (h:(execOp a.eval o).run P w=.ok (.value v) w')(g:K (a.put o.dst v) w'):o.wp P a w K Q:=by unfold Oper.wp;rw[h];exact g
theorem nT {f:FuncId}{R:Ending->World->Prop}(h:(execOp a.eval o).run P w=.ok (.enter f args) w)(hc:Calls P f args w R)(hR:∀ e w',R e w'->∃ v,e=.returned v/\K (a.put o.dst v) w'):o.wp P a w K Q:=by
 unfold Oper.wp;rw[h,Oper.upon_enter];exact hc.mono fun e w' he=>by obtain⟨v,rfl,g⟩:=hR e w' he;exact g
theorem vV.skip {L:Nat->Bool}(h:vV T L u)(hc:((T.map (·.1)).all fun k=>k != i)=true):vV T (fun j=>decide (i=j) || L j) u:=fun t ht hL=>h t ht (by
 have:=aN.1 hc t.1 (anX ht);have e:¬ i=t.1:=fun e=>by simp[e] at this
 simpa [e] using hL)
theorem a7X (p:TypeId)(l m n:Nat)(G:o.guard=none)(F:o.dst=none)(H:o.op=.store p (.tmp l) (.tmp m))(y:l∈D/\l<a0.tmps.size)(z:m∈D/\m<a0.tmps.size)(hc:((T.map (·.1)).all fun k=>k != i)=true)(hi:(P.info? p).map (·.size)=some n)
  (h:∀ L u w,L i=false->(∀ j∈deps o,L j=true)->vV T L u->X L u w->∃ g cells t a,u l=.pointer (some ⟨g,0,none⟩)/\u m=.agg cells/\w.heap[g]? = some (.cells a t (0,0))/\a.size=n/\cells.size=n/\cells.all (·.oneCell')=true/\X (fun j=>decide (i=j) || L j) u (w.setRow g cells)):aL P Q a0 D (fun L u w=>vV T L u/\X L u w) i o :=
 ⟨G,fun L u w h1 h2 ⟨hT,hX⟩=>by
  obtain⟨g,cells,t,a,e1,e2,A,B,v,C,E⟩:=h L u w h1 h2 hT hX;refine wp_store_row p (.tmp l) (.tmp m) H g cells ((vY y.1 y.2).trans e1) ((vY z.1 z.2).trans e2) t a A (by rw[v];exact hi) (by rw[B,v]) C ?_;rw[F];exact⟨u,rfl,hT.skip hc,E⟩⟩
theorem c9J (g:TypeId)(x y:Operand)(p:o.op=.store g x y)(b k:Nat)(v j:Value)(B:a.eval x=.pointer (some ⟨b,k,none⟩))(C:a.eval y=v)(l:v.oneCell' = true)
  (hc:w.cell? ⟨b,k,none⟩=some j) (m:w.frozen? ⟨b,k,none⟩=false) (hi:(P.info? g).map (·.size)=some 1) (h:K (a.put o.dst undef) (w.setCell ⟨b,k,none⟩ v)):o.wp P a w K Q:=by
 have A:v.cells = #[v]:=by cases v <;> first|rfl|(simp[Value.oneCell'] at l;done)
 have e:(storeVar g ⟨b,k,none⟩ v).run P w=.ok () (w.setCell ⟨b,k,none⟩ v):=by
  have z:(store (Addr.add ⟨b,k,none⟩ 0) v).run P w=.ok () (w.setCell ⟨b,k,none⟩ v):=by
   rw[show Addr.add ⟨b,k,none⟩ 0=(⟨b,k,none⟩:Addr) from rfl,run_store P w _ v _ l,hc];simp[m]
  cases hq:P.info? g with
  | none=>simp[hq] at hi
  | some i =>
   have D:i.size=1:=by simpa [hq] using hi
   simp[storeVar,sizeOf,typeInfo,hq,A,D,storeCells,z]
 unfold Oper.wp execOp;simp only[p,B,C,Instr.storeAt,Instr.sureAddr,Sem.run_bind,jN,oH,e];exact h
theorem a7Z (m:TypeId)(l g:Nat)(C:o.guard=none)(B:o.dst=none)(E:o.op=.store m (.tmp l) (.tmp g))(p:l∈D/\l<a0.tmps.size)(v:g∈D/\g<a0.tmps.size)(hc:((T.map (·.1)).all fun k=>k != i)=true)(hi:(P.info? m).map (·.size)=some 1)
  (h:∀ L u w,L i=false->(∀ j∈deps o,L j=true)->vV T L u->X L u w->∃ b k a,u l=.pointer (some ⟨b,k,none⟩)/\(u g).oneCell' = true/\w.cell? ⟨b,k,none⟩=some a/\w.frozen? ⟨b,k,none⟩=false/\X (fun j=>decide (i=j) || L j) u (w.setCell ⟨b,k,none⟩ (u g))):aL P Q a0 D (fun L u w=>vV T L u/\X L u w) i o :=
 ⟨C,fun L u w h1 h2 ⟨hT,hX⟩=>by
  obtain⟨b,k,a,e1,e2,y,z,A⟩:=h L u w h1 h2 hT hX;refine c9J m (.tmp l) (.tmp g) E b k (u g) a ((vY p.1 p.2).trans e1) (vY v.1 v.2) e2 y z hi ?_;rw[B];exact⟨u,rfl,hT.skip hc,A⟩⟩

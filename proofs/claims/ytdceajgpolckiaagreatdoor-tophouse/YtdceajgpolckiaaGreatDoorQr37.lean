import Derived.Test.YtdceajgpolckiaaGreatDoorQr36
import Derived.OrdersHeld
import Derived.OrdersIn
import Derived.Laws.StructEq
open Go.Proofs.Tryz
set_option linter.unusedSimpArgs false
set_option maxHeartbeats 16000000
set_option maxRecDepth 100000
namespace Go.Proofs.YtdceajgpolckiaaGreatDoor
variable {A C W W' W7 Wc w w' w5 wr:World} {B B' P R b1 base cap fuel g i id k l m n sz z:Nat} {a b bv bv' c d e en er f nv sv sv' v:Value} {xs:List Value} {K:Nat->Prop} {ops:Array Oper} {Q:Exit->Act->World->Prop} {o oi:Oper} {listed:Array Bool} {rs:List Nat} {r:Option Nat} {t:TypeId} {o2:Obj} {x:List UInt8} {ns:List (List UInt8)} {J:Nat->Bool} {S:World->Prop}
namespace K.P
open Go.RowKit Go.Shelf K.Ds
attribute [local go_sem] Oper.semAt_some
structure NamF (w:World) (g b:Nat) (a:Option Addr) (c:Nat) (xs:List (List UInt8)):Prop where
 cc:w.cell? ⟨g,0,none⟩=some (.slice a xs.length c)
 ax:xs≠[]->a=some ⟨b,0,none⟩
 cx:∀ i x,xs[i]? = some x->w.cell? ⟨b,i,none⟩=some (encStr x)
theorem NamF.kpt {b:Nat}{a:Option Addr}{c:Nat}{xs:List (List UInt8)}(h:NamF w g b a c xs)(k:Kpt K w w')(h1:K g)(h2:K b):NamF w' g b a c xs :=
 ⟨(rZ (w:=w) (a:=⟨g,0,none⟩) (k.same _ h1)).trans h.cc,h.ax,fun i x hi=>(rZ (w:=w) (a:=⟨b,i,none⟩) (k.same _ h2)).trans (h.cx i x hi)⟩
def HdN (x:List UInt8) (Wc W1:World) (args:Array Value):Prop:=W1=Wc/\args = #[encStr x]
theorem nseq (n:Nat)(hn:1<=n)(g b:Nat)(a:Option Addr)(c:Nat)(xs:List (List UInt8))(K:Nat->Prop)(W0:World)(hsm:xs.length<=4096)(hf:NamF W0 g b a c xs)(kg:K g)(kb:K b) :
  blX n 110 #[.pointer (some ⟨g,0,none⟩)] HdN K xs W0:=by
 intro y J Jx hJ hJx hst hY;have HF0:=qQ hf;have c0:=hf.cc;have HJ0:Hid (J W0.heap.size [] W0):=hst W0 (jX _ _);obtain⟨m,hm⟩:∃ m,W0.heap.size=m:=⟨_,rfl⟩;have HM0:Hid (m<=W0.heap.size):=by rw[Hid,hm];exact vQ _
 rw[hm] at HJ0;have hm0:W0.heap.size<=m:=by omega
 clear hf hm;refine callsIn_of_wp func110 rfl trivial ?_ rfl;simp only[ntmps110,eE,pJ,yG,Nat.reduceAdd,Nat.reduceSub,fE,gE,iE,kE,tN,qG];gi_wp2;gi_loopw [7] (fun s wr=>∃ (k:Nat),s=.int .i64 (k:Int)/\k<=xs.length/\Hid (J m (xs.take k) wr)/\Hid (NamF wr g b a c xs)/\Hid (m<=wr.heap.size)) (fun s _=>xs.length - (intOf s).toNat)
 case atStart=>exact⟨0,rfl,kQ _,HJ0,HF0,HM0⟩
 case round =>
  obtain⟨k,rfl,hk,HJ,HF,HM⟩:=hrel;by_cases hk1:k<xs.length
  ·obtain⟨x,hx⟩:=cX hk1
   obtain rfl:=HF.out.ax (ne_of_lt hk1);have e1:=HF.out.cx k x hx;have e0:=HF.out.cc;have z1:(k:Int)<(xs.length:Int):=by omega
   have htk:xs.take (k+1)=xs.take k++[x]:=by rw[fZ,hx];rfl
   have HTK:=qQ htk;have hpx:xs.take k++[x] <+: xs:=by rw[<-htk];exact List.take_prefix _ _
   obtain⟨fn,tmps,assign,body,hy,hR⟩:=hY m (xs.take k) x wr wr #[encStr x] hm0 HM.out hpx HJ.out (aQ _ _) ⟨rfl,rfl⟩;clear hx htk hpx;gi_wp2;refine hR.mono ?_;rintro e W5 (⟨rfl,hJ5,hk5⟩|⟨rfl,hJx5,hk5⟩)
   ·have HF5:Hid (NamF W5 g b (some ⟨b,0,none⟩) c xs):=HF.out.kpt hk5 (.inl kg) (.inl kb)
    have HM5:=qQ (bQ HM.out hk5.size);have HJ5:Hid (J m (xs.take (k+1)) W5):=by rw[Hid,HTK.out];exact hJ5
    clear hJ5;gi_wp2
    go_roundw
    case rel=>exact⟨k+1,by go_num,by omega,HJ5,HF5,HM5⟩
    case measure=>simp[intOf];omega
   ·gi_wp2
    refine uQ (fD rfl _ _ _) rfl ?_;exact⟨⟨_,rfl⟩,m,hm0,.inr ⟨_,hJx5⟩⟩
  ·have hk2:k=xs.length:=by omega
   subst hk2;have e0:=HF.out.cc;gi_wp2;go_end0;exact⟨⟨_,rfl⟩,m,hm0,.inl (by have:=HJ.out;rwa [zF] at this)⟩
theorem nfun (n:Nat)(hn:1<=n)(g b:Nat)(a:Option Addr)(c:Nat)(xs:List (List UInt8))(K:Nat->Prop)(W0:World)(hsm:xs.length<=4096)(hf:NamF W0 g b a c xs)(kg:K g)(kb:K b)(lb:Array Value)(J Jx:Nat->List (List UInt8)->World->Prop)(hst:∀ W',W0.grownBy W' none->J W'.heap.size [] W')
  (hY:∀ m pre x Wc,W0.heap.size<=m->m<=Wc.heap.size->pre++[x] <+: xs->J m pre Wc ->
   Calls prog 63 (#[encStr x]++lb) Wc fun e W' =>
    (e=.returned (.bool true)/\J m (pre++[x]) W'/\Kpt (fun b=>K b\/(W0.heap.size<=b/\b<m)) Wc W') \/
    (e=.returned (.bool false)/\Jx m (pre++[x]) W'/\Kpt (fun b=>K b\/(W0.heap.size<=b/\b<m)) Wc W')) :
  CallsIn Fence.wide n prog 110 #[.func (.func 63) #[] lb,.pointer (some ⟨g,0,none⟩)] W0 fun e W'=>(∃ v,e=.returned v)/\∃ m,W0.heap.size<=m/\(J m xs W'\/∃ pre,Jx m pre W'):=by
 have HF0:=qQ hf;have c0:=hf.cc;have HJ0:Hid (J W0.heap.size [] W0):=hst W0 (jX _ _);obtain⟨m,hm⟩:∃ m,W0.heap.size=m:=⟨_,rfl⟩;have HM0:Hid (m<=W0.heap.size):=by rw[Hid,hm];exact vQ _
 rw[hm] at HJ0;have hm0:W0.heap.size<=m:=by omega
 clear hf hm;refine callsIn_of_wp func110 rfl trivial ?_ rfl;simp only[ntmps110,eE,pJ,yG,Nat.reduceAdd,Nat.reduceSub,fE,gE,iE,kE,tN,qG];gi_wp2;gi_loopw [7] (fun s wr=>∃ (k:Nat),s=.int .i64 (k:Int)/\k<=xs.length/\Hid (J m (xs.take k) wr)/\Hid (NamF wr g b a c xs)/\Hid (m<=wr.heap.size)) (fun s _=>xs.length - (intOf s).toNat)
 case atStart=>exact⟨0,rfl,kQ _,HJ0,HF0,HM0⟩
 case round =>
  obtain⟨k,rfl,hk,HJ,HF,HM⟩:=hrel;by_cases hk1:k<xs.length
  ·obtain⟨x,hx⟩:=cX hk1
   obtain rfl:=HF.out.ax (ne_of_lt hk1);have e1:=HF.out.cx k x hx;have e0:=HF.out.cc;have z1:(k:Int)<(xs.length:Int):=by omega
   have htk:xs.take (k+1)=xs.take k++[x]:=by rw[fZ,hx];rfl
   have HTK:=qQ htk;have hpx:xs.take k++[x] <+: xs:=by rw[<-htk];exact List.take_prefix _ _
   have hR:=hY m (xs.take k) x wr hm0 HM.out hpx HJ.out;clear hx htk hpx;gi_wp2_with fail;refine⟨trivial,?_⟩;refine(aA.2 hR).mono ?_;rintro e W5 (⟨rfl,hJ5,hk5⟩|⟨rfl,hJx5,hk5⟩)
   ·have HF5:Hid (NamF W5 g b (some ⟨b,0,none⟩) c xs):=HF.out.kpt hk5 (.inl kg) (.inl kb)
    have HM5:=qQ (bQ HM.out hk5.size);have HJ5:Hid (J m (xs.take (k+1)) W5):=by rw[Hid,HTK.out];exact hJ5
    clear hJ5;gi_wp2
    go_roundw
    case rel=>exact⟨k+1,by go_num,by omega,HJ5,HF5,HM5⟩
    case measure=>simp[intOf];omega
   ·gi_wp2
    refine uQ (fD rfl _ _ _) rfl ?_;exact⟨⟨_,rfl⟩,m,hm0,.inr ⟨_,hJx5⟩⟩
  ·have hk2:k=xs.length:=by omega
   subst hk2;have e0:=HF.out.cc;gi_wp2;go_end0;exact⟨⟨_,rfl⟩,m,hm0,.inl (by have:=HJ.out;rwa [zF] at this)⟩
theorem efZ (E Bn Bk nb nc i:Nat)(xs:List (List UInt8))(x:List UInt8)(w:World)(hi:i<xs.length)(hsm:xs.length<=4096)
  (h5:w.cell? ⟨E,5,none⟩=some (.bool true)) (f5:w.frozen? ⟨E,5,none⟩=false) (h2:w.cell? ⟨E,2,none⟩=some (.slice (some ⟨nb,0,none⟩) xs.length nc)) (hx:w.cell? ⟨nb,i,none⟩=some (encStr x))
  (hn:w.cell? ⟨Bn,0,none⟩=some (.bool false)) (fn:w.frozen? ⟨Bn,0,none⟩=false) (hk:w.cell? ⟨Bk,0,none⟩=some (.int .i64 (i:Int))) (fk:w.frozen? ⟨Bk,0,none⟩=false)
  (d1:E≠Bn) (d2:E≠Bk) (d3:Bn≠Bk) (r:Bool) (hr:decide (xs.length / 2<i+1) = !r) :
  Calls prog 63 #[encStr x,.pointer (some ⟨E,0,none⟩),.pointer (some ⟨Bn,0,none⟩),.pointer (some ⟨Bk,0,none⟩)] w fun e w' =>
   e=.returned (.bool r)/\w' = ((w.setCell ⟨E,5,none⟩ (.bool true)).setCell ⟨Bk,0,none⟩ (.int .i64 ((i:Int)+1))).setCell ⟨Bn,0,none⟩ (.bool (!r)):=by
 have ht:(xs.length:Int).tdiv 2=((xs.length / 2:Nat):Int):=by rw[Int.tdiv_eq_ediv_of_nonneg (by omega)];rfl
 have hw:IntKind.i64.wrap ((i:Int)+1)=(i:Int)+1:=by rw[sU];omega
 have hil:(i:Int)<(xs.length:Int):=by omega
 have hd1:Bn≠E:=fun e=>d1 e.symm;have hd2:Bk≠E:=fun e=>d2 e.symm;have hd3:Bk≠Bn:=fun e=>d3 e.symm;obtain⟨hf,hhf⟩:∃ hf,xs.length / 2=hf:=⟨_,rfl⟩;rw[hhf] at ht hr;have hhb:hf<=4096:=by omega
 clear hhf;cases r with
 | true =>
  have hq:decide ((hf:Int)<(i:Int)+1)=false:=rV (by have:=eM (by simpa using hr:decide (hf<i+1)=false);omega);clear hr;go_enter func63,ntmps63;go_wp2;go_ret;exact⟨rfl,rfl⟩
 | false =>
  have hq:decide ((hf:Int)<(i:Int)+1)=true:=uG (by have:=yH (by simpa using hr:decide (hf<i+1)=true);omega);clear hr;go_enter func63,ntmps63;go_wp2;go_ret;exact⟨rfl,rfl⟩
end K.P
namespace K.P
open Go.RowKit
theorem efJ {P:Program}(hd:∀ (j:Nat) (o:Oper),ops[j]? = some o->∀ c,o.op≠.defer c)(hQ:¬ LetsOut Q){K:Act->World->Prop}{a:Act}(h:wpOp P ops Q i K a w) :
  wpOpIn (Fence.wide.inRound l) n P ops Q i K a w:=by
 unfold wpOp at h;unfold wpOpIn;cases ho:ops[i]? with
 | none=>simpa [ho] using h
 | some o =>
  simp only[ho] at h ⊢;by_cases hw:Region.wanted o (yielded ops a.tmps)=true
  ·rw[zQ hw] at h ⊢
   rcases h with h|h
   ·refine⟨fun _ _=>trivial,?_⟩
    rw[Oper.semAt_eq _ _ _ (hd i o ho)];unfold Oper.wp at h;generalize (execOp a.eval o).run P w=r at h ⊢;cases r with
    | ok x w' =>
     cases x
     case value v=>exact h
     case skip=>exact h
     case defer d=>exact h
     case enter f args=>exact⟨(fun c=>by cases c),(aA (n:=n - 1)).2 h⟩
     case row row args=>exact⟨(fun c=>by cases c),(fun c cs _=>let ⟨v,w'',r,st⟩:=h c cs;⟨v,w'',r,stepsIn_wide.2 st⟩)⟩
     all_goals exact h.elim
    | halt x w'=>cases x <;> exact h
   ·exact absurd h.2 hQ
  ·rw[xQ hw] at h ⊢
   exact⟨fun _ _=>trivial,h⟩
theorem blJ {l n:Nat}{P:Program}{ops:Array Oper}{md:Region.Mode}{Q:Exit->Act->World->Prop}(hd:∀ (j:Nat) (o:Oper),ops[j]? = some o->∀ c,o.op≠.defer c)(hQ:¬ LetsOut Q) :
  ∀ (fuel:Nat) (listed:Array Bool) (a:Act) (w:World),wpAny P md ops Q fuel listed a w->wpAnyIn (Fence.wide.inRound l) n P md ops Q fuel listed a w
 | 0,_,_,_,h=>h
 | fuel+1,_,_,_,h=>⟨h.1,fun i hi=>wpOpIn_mono (fun a' w' h'=>blJ hd hQ fuel _ a' w' h') (efJ hd hQ (h.2 i hi))⟩
section
variable {P:Program} {ops:Array Oper} {Q:Exit->Act->World->Prop} {md:Region.Mode} {S:World->Prop} {J:Nat->Bool}
def gG (P:Program) (md:Region.Mode) (ops:Array Oper) (Q:Exit->Act->World->Prop) (S:World->Prop) (J:Nat->Bool):Nat->Array Bool->Act->World->Prop
 | 0,listed,a,w=>Region.ready md ops listed=[]/\Q .normal a w
 | fuel+1,listed,a,w=>(Region.ready md ops listed=[]->Q .normal a w) /\
  ∀ i∈Region.ready md ops listed,wpOp P ops Q i (fun a' w'=>(J i=true->S w')/\gG P md ops Q S J fuel (listed.setIfInBounds i true) a' w') a w
theorem yS:∀ (fuel:Nat) (listed:Array Bool) (a:Act) (w:World),gG P md ops Q S J fuel listed a w->wpAny P md ops Q fuel listed a w
 | 0,_,_,_,h=>h
 | fuel+1,_,_,_,h=>⟨h.1,fun i hi=>wpOp_mono (fun a' w' h'=>yS fuel _ a' w' h'.2) (h.2 i hi)⟩
def afQ (md:Region.Mode) (ops:Array Oper) (J:Nat->Bool) (i:Nat):Prop:=∀ j oj,ops[j]? = some oj->J j=false->∃ e∈oj.after,Region.binds md e=true/\e.on=i
theorem egQ (hi:ops[i]? = some oi)(hJi:J i=true)(hW:afQ md ops J i)(hsel:∀ (j:Nat) (o:Oper) cs b,ops[j]? = some o->o.op≠.select cs b)
  (hQ:∀ c a w,Q (.panic c) (a.put oi.dst v) w->Q (.panic c) a w) :
  ∀ (fuel:Nat) (listed:Array Bool) (a:Act) (w:World),
   (∀ j oj,ops[j]? = some oj->j≠i->listed.getD j true=false->(∀ e∈oj.after,Region.binds md e=true->e.on≠i)->oi.apart ops oj=true) ->
   i∈Region.ready md ops listed->YieldsIf P ops S oi v a->S w ->
   gG P md ops Q S J fuel (listed.setIfInBounds i true) (a.put oi.dst v) w->gG P md ops Q S J (fuel+1) listed a w:=by
 intro fuel
 induction fuel with
 | zero =>
  intro listed a w _ hr hy hS H;refine⟨fun h=>(by rw[h] at hr;cases hr),fun j hj=>?_⟩;by_cases hji:j=i
  ·subst hji;exact hy.wpOp hi hS ⟨fun _=>hS,H⟩
  ·have h0:=ready_mono hj hji
   rw[H.1] at h0;cases h0
 | succ fuel ih =>
  intro listed a w hfree hr hy hS H;refine⟨fun h=>(by rw[h] at hr;cases hr),fun j hj=>?_⟩;by_cases hji:j=i
  ·subst hji;exact hy.wpOp hi hS ⟨fun _=>hS,H⟩
  ·obtain⟨hjun,oj,hoj,hall⟩:=mem_ready.1 hj
   have hun:=(mem_ready.1 hr).1
   have hnot:∀ e∈oj.after,Region.binds md e=true->e.on≠i:=fun e he hb heq=>by
    have h1:=hall e he hb;rw[heq] at h1;rcases Nat.lt_or_ge i listed.size with h' | h'
    ·simp[h'] at hun h1;rw[hun] at h1;cases h1
    ·simp[Array.getElem?_eq_none h'] at h1
   have hJj:J j=true:=by
    cases hc:J j with
    | true=>rfl
    | false=>obtain⟨e,he,hb,heq⟩:=hW j oj hoj hc;exact absurd heq (hnot e he hb)
   have h2:=wpOp_putIf hoj (hfree j oj hoj hji hjun hnot) (fun cs b=>hsel i oi cs b hi) (fun cs b=>hsel j oj cs b hoj) hQ hy (H.2 j (ready_mono hj hji))
   have hfree':∀ k ok,ops[k]? = some ok->k≠i->(listed.setIfInBounds j true).getD k true=false ->
     (∀ e∈ok.after,Region.binds md e=true->e.on≠i)->oi.apart ops ok=true:=fun k ok hk hki hun' hno=>by
    refine hfree k ok hk hki ?_ hno;by_cases hjk:j=k
    ·subst hjk;exact hjun
    ·rwa [getD_set_ne true hjk] at hun'
   refine wpOp_mono (fun a' w' h3=>⟨fun _=>h3.2.1 hJj,ih (listed.setIfInBounds j true) a' w' hfree' (ready_mono hr (Ne.symm hji)) h3.1 (h3.2.1 hJj) ?_⟩) h2;rw[Array.setIfInBounds_comm _ _ hji];exact h3.2.2
theorem egX {a:Act}(hi:ops[i]? = some oi)(hJi:J i=true)(hW:afQ md ops J i)
  (hs:Region.noSelect ops=true) (hf:Region.free md ops listed i=true) (hr:(Region.ready md ops listed).contains i=true)
  (hQ:∀ c a w,Q (.panic c) (a.put oi.dst v) w->Q (.panic c) a w) (hy:YieldsIf P ops S oi v a) (hS:S w)
  (h:gG P md ops Q S J fuel (listed.setIfInBounds i true) (a.put oi.dst v) w):gG P md ops Q S J (fuel+1) listed a w :=
 egQ hi hJi hW (Region.noSelect_spec hs) hQ fuel listed a w (Region.free_spec hi hf) (by simpa using hr) hy hS h
theorem sH {a:Act}(hr:Region.ready md ops listed=[])(h:Q .normal a w):∀ fuel,gG P md ops Q S J fuel listed a w
 | 0=>⟨hr,h⟩
 | _+1=>⟨fun _=>h,by rw[hr];simp⟩
def kX (P:Program) (md:Region.Mode) (ops:Array Oper) (Q:Exit->Act->World->Prop) (S:World->Prop) (J:Nat->Bool) (fuel:Nat) (listed:Array Bool) (a:Act) (w:World) (rs:List Nat):Prop :=
 ∀ i∈rs,wpOp P ops Q i (fun a' w'=>(J i=true->S w')/\gG P md ops Q S J fuel (listed.setIfInBounds i true) a' w') a w
theorem kX.nil {a:Act}:kX P md ops Q S J fuel listed a w []:=fun _ h=>by cases h
theorem kX.cons {a:Act}(ho:ops[i]? = some o)
  (h:∀ K':Act->World->Prop,Shut (∀ a w,(J i=true->S w)->gG P md ops Q S J fuel (listed.setIfInBounds i true) a w->K' a w)->if Region.wanted o (yielded ops a.tmps)=true then Oper.wp P o a w K' Q else K' (a.put o.dst undef) w)
  (hs:kX P md ops Q S J fuel listed a w rs):kX P md ops Q S J fuel listed a w (i::rs):=fun j hj=>by
 rcases fX.1 hj with rfl|hj
 ·exact wpOp_step ho (fun K' hK=>h K' (fun a w hS hW=>hK a w ⟨hS,hW⟩))
 ·exact hs j hj
theorem zU {a:Act}(hr:Region.ready md ops listed=rs)(hne:rs≠[])(h:kX P md ops Q S J fuel listed a w rs):gG P md ops Q S J (fuel+1) listed a w :=
 ⟨fun h0=>absurd (hr▸h0) hne,hr▸h⟩
theorem egZ {a:Act}(hm:P.follows .mixedOrders=true)(hd:∀ (j:Nat) (o:Oper),ops[j]? = some o->∀ c,o.op≠.defer c)(hQ:¬ LetsOut Q)
  (h:gG P .any ops Q S J ops.size (Array.replicate ops.size false) a w.drew):(Code.region id ops true).wpIn (Fence.wide.inRound l) n P Q a w :=
 wpIn_region_any hm (blJ hd hQ _ _ _ _ (yS _ _ _ _ h))
end
theorem zA:type_of% @List.setIfInBounds_toArray:=@List.setIfInBounds_toArray
theorem zB:type_of% @List.set_cons_zero:=@List.set_cons_zero
theorem zC:type_of% @List.set_cons_succ:=@List.set_cons_succ
end K.P
namespace K.P
open Go.RowKit K.Ds
def kJ (w:World) (B:Nat) (v:Value) (l:List En):Prop :=
 ∃ a c,v=.slice a l.length c/\l.length<=c/\l.length<=9223372036854775807/\(∀ x∈l,x.2.1.size<=9223372036854775807) /\
  (l≠[]->∃ b o,a=some ⟨b,o,none⟩/\b<B/\∀ i x,l[i]? = some x->w.cell? ⟨b,o+i*5,none⟩=some (.int .i64 x.1)/\w.cell? ⟨b,o+i*5+1,none⟩=some (.string x.2.1)/\w.cell? ⟨b,o+i*5+2,none⟩=some (.int .i64 x.2.2.1)/\w.cell? ⟨b,o+i*5+3,none⟩=some (.int .i64 x.2.2.2.1)/\w.cell? ⟨b,o+i*5+4,none⟩=some (.int .i64 x.2.2.2.2))
theorem kJ.keep {l:List En}(h:kJ w B v l)(hb:Below B w w'):kJ w' B v l:=by
 obtain⟨a,c,hv,hc,hl,hn,hx⟩:=h;refine⟨a,c,hv,hc,hl,hn,fun hne=>?_⟩;obtain⟨b,o,ha,hB,hcell⟩:=hx hne;refine⟨b,o,ha,hB,fun i x hi=>?_⟩;obtain⟨h0,h1,h2,h3,h4⟩:=hcell i x hi;exact⟨(hb.cell (p:=⟨b,o+i*5,none⟩) hB).trans h0,(hb.cell (p:=⟨b,o+i*5+1,none⟩) hB).trans h1,(hb.cell (p:=⟨b,o+i*5+2,none⟩) hB).trans h2,(hb.cell (p:=⟨b,o+i*5+3,none⟩) hB).trans h3,(hb.cell (p:=⟨b,o+i*5+4,none⟩) hB).trans h4⟩
theorem kJ.mono {l:List En}(h:kJ w B v l)(hB:B<=B'):kJ w B' v l:=by
 obtain⟨a,c,hv,hc,hl,hn,hx⟩:=h;refine⟨a,c,hv,hc,hl,hn,fun hne=>?_⟩;obtain⟨b,o,ha,hb,hcell⟩:=hx hne;exact⟨b,o,ha,by omega,hcell⟩
theorem kJ.at {l:List En}(h:kJ w B v l)(hB:B<=w.heap.size)(hb:Below w.heap.size w w'):kJ w' B v l:=h.keep (hb.mono hB)
theorem kJ.slice {l:List En}(h:kJ w B v l):∃ a c,v=.slice a l.length c/\l.length<=c/\l.length<=9223372036854775807:=by
 obtain⟨a,c,hv,hc,hl,_⟩:=h;exact⟨a,c,hv,hc,hl⟩
theorem kJ.get {a:Option Addr}{c:Nat}{l:List En}(h:kJ w B (.slice a n c) l)(hB:B<=w.heap.size)(hb:Below w.heap.size w wr)(hi:i<l.length) :
  ∃ b o d nm p u v,a=some ⟨b,o,none⟩/\b<B/\l[i]? = some (d,nm,p,u,v)/\wr.cell? ⟨b,o+i*5,none⟩=some (.int .i64 d)/\wr.cell? ⟨b,o+i*5+1,none⟩=some (.string nm)/\wr.cell? ⟨b,o+i*5+2,none⟩=some (.int .i64 p)/\wr.cell? ⟨b,o+i*5+3,none⟩=some (.int .i64 u)/\wr.cell? ⟨b,o+i*5+4,none⟩=some (.int .i64 v)/\nm.size<=9223372036854775807:=by
 obtain⟨a',c',hv,_,_,hn,hx⟩:=h.at hB hb;simp only[gZ] at hv;obtain⟨rfl,rfl,rfl⟩:=hv;obtain⟨b,o,rfl,hbB,hcell⟩:=hx (ne_of_lt hi);obtain⟨⟨d,nm,p,u,v⟩,hx⟩:=cX hi;obtain⟨h0,h1,h2,h3,h4⟩:=hcell i _ hx;exact⟨b,o,d,nm,p,u,v,rfl,hbB,hx,h0,h1,h2,h3,h4,hn _ (qX hx)⟩
end K.P
namespace K.P
open Go.RowKit Go.Shelf K.Ds
structure SixB (w:World) (R:Nat) (a b c d e f:Value):Prop where
 is:w.heap[R]? = some (.cells #[a,b,c,d,e,f] 103 (0,0))
theorem SixB.c0 (h:SixB w R a b c d e f):w.cell? ⟨R,0,none⟩=some a:=by simp[World.cell?,h.is]
theorem SixB.f0 (h:SixB w R a b c d e f):w.frozen? ⟨R,0,none⟩=false:=by simp[World.frozen?,h.is]
theorem SixB.c1 (h:SixB w R a b c d e f):w.cell? ⟨R,1,none⟩=some b:=by simp[World.cell?,h.is]
theorem SixB.f1 (h:SixB w R a b c d e f):w.frozen? ⟨R,1,none⟩=false:=by simp[World.frozen?,h.is]
theorem SixB.c2 (h:SixB w R a b c d e f):w.cell? ⟨R,2,none⟩=some c:=by simp[World.cell?,h.is]
theorem SixB.f2 (h:SixB w R a b c d e f):w.frozen? ⟨R,2,none⟩=false:=by simp[World.frozen?,h.is]
theorem SixB.c3 (h:SixB w R a b c d e f):w.cell? ⟨R,3,none⟩=some d:=by simp[World.cell?,h.is]
theorem SixB.f3 (h:SixB w R a b c d e f):w.frozen? ⟨R,3,none⟩=false:=by simp[World.frozen?,h.is]
theorem SixB.c4 (h:SixB w R a b c d e f):w.cell? ⟨R,4,none⟩=some e:=by simp[World.cell?,h.is]
theorem SixB.f4 (h:SixB w R a b c d e f):w.frozen? ⟨R,4,none⟩=false:=by simp[World.frozen?,h.is]
theorem SixB.c5 (h:SixB w R a b c d e f):w.cell? ⟨R,5,none⟩=some f:=by simp[World.cell?,h.is]
theorem SixB.f5 (h:SixB w R a b c d e f):w.frozen? ⟨R,5,none⟩=false:=by simp[World.frozen?,h.is]
theorem SixB.lt (h:SixB w R a b c d e f):R<w.heap.size:=(yJ.1 h.is).1
theorem SixB.new (w:World)(a b c d e f:Value)(R:Nat)(hR:R=w.heap.size):SixB (w.alloc (.cells #[a,b,c,d,e,f] 103)) R a b c d e f:=⟨by rw[hR];exact uM w _⟩
theorem SixB.gb (h:SixB w R a b c d e f)(hg:w.grownBy w' r)(hne:some R≠r):SixB w' R a b c d e f:=⟨(hg.block R h.lt hne).trans h.is⟩
theorem SixB.same (h:SixB w R a b c d e f)(hk:w'.heap[R]? = w.heap[R]?):SixB w' R a b c d e f:=⟨hk.trans h.is⟩
theorem SixB.below (h:SixB w R a b c d e f)(hb:Below w.heap.size w w'):SixB w' R a b c d e f:=⟨(hb.block R h.lt).trans h.is⟩
theorem jP (w:World)(R i:Nat)(x:Value)(cs:Array Value)(t:TypeId)(fr:Nat × Nat)(h:w.heap[R]? = some (.cells cs t fr)):(w.setCell ⟨R,i,none⟩ x).heap[R]? = some (.cells (cs.setIfInBounds i x) t fr):=by
 obtain⟨hlt,hk⟩:=yJ.1 h;show(w.heap.modify R _)[R]? = _;rw[Array.getElem?_eq_getElem (by rw[Array.size_modify];exact hlt),Array.getElem_modify_self,hk];rfl
theorem SixB.put0 (h:SixB w R a b c d e f)(x:Value):SixB (w.setCell ⟨R,0,none⟩ x) R x b c d e f:=⟨by rw[jP w R 0 x _ _ _ h.is];rfl⟩
theorem SixB.put1 (h:SixB w R a b c d e f)(x:Value):SixB (w.setCell ⟨R,1,none⟩ x) R a x c d e f:=⟨by rw[jP w R 1 x _ _ _ h.is];rfl⟩
theorem SixB.put2 (h:SixB w R a b c d e f)(x:Value):SixB (w.setCell ⟨R,2,none⟩ x) R a b x d e f:=⟨by rw[jP w R 2 x _ _ _ h.is];rfl⟩
theorem SixB.put3 (h:SixB w R a b c d e f)(x:Value):SixB (w.setCell ⟨R,3,none⟩ x) R a b c x e f:=⟨by rw[jP w R 3 x _ _ _ h.is];rfl⟩
theorem SixB.put4 (h:SixB w R a b c d e f)(x:Value):SixB (w.setCell ⟨R,4,none⟩ x) R a b c d x f:=⟨by rw[jP w R 4 x _ _ _ h.is];rfl⟩
theorem SixB.put5 (h:SixB w R a b c d e f)(x:Value):SixB (w.setCell ⟨R,5,none⟩ x) R a b c d e x:=⟨by rw[jP w R 5 x _ _ _ h.is];rfl⟩
abbrev nilv:Value:=.slice none 0 0
def tD (l:List Int):List Value:=l.map (.int .i64)
theorem egJ (l:List Int)(x:Int):tD (l++[x])=tD l++[.int .i64 x]:=by simp[tD]
theorem ehQ:(prog.info? 28).map (fun i=>(i.zero,i.size,i.bytes))=some (some (.int .i64 0),1,8):=by kernel_rfl
theorem vD (h:w.ownsRow base t sz v n xs)(hk:∀ g,v.ownBlock=some g->w'.heap[g]? = w.heap[g]?):w'.ownsRow base t sz v n xs:=by
 refine⟨h.1,?_⟩;rcases h.2 with h0|⟨g,cap,cur,hv,hb,hc,h1,h2,h3,h4⟩
 ·exact .inl h0
 ·exact .inr ⟨g,cap,cur,hv,hb,(hk g (by rw[hv];rfl)).trans hc,h1,h2,h3,h4⟩
theorem yX (h:w.ownsRow base t sz v n xs)(hg:v.ownBlock=some g):base<=g/\g<w.heap.size:=by
 rcases h.2 with⟨rfl,_⟩|⟨g',cap,cur,rfl,hb,hc,_⟩
 ·cases hg
 ·simp only[Value.ownBlock,zX] at hg
  subst hg;exact⟨hb,(yJ.1 hc).1⟩
theorem wZ (h:w.ownsRow base t sz v n xs):∃ a c,v=.slice a n c:=by
 rcases h.2 with⟨rfl,rfl⟩|⟨g',cap,cur,rfl,_⟩
 ·exact⟨_,_,rfl⟩
 ·exact⟨_,_,rfl⟩
def yD (s:Nat) (er:Value) (k:Nat):Prop:=s+1<=k/\k≠s+3/\k≠s+4/\er.ownBlock≠some k
structure BkL (w wr:World) (l:List En) (k:Nat) (er:Value):Prop where
 bk:∃ n v D,BookM wr (yD w.heap.size er) (w.heap.size+2) (w.heap.size+1) n v D (mX [] (l.take k)).2
 px:Boxed wr (w.heap.size+3) 133 (.pointer (some ⟨w.heap.size+2,0,none⟩))
 out:SixB wr (w.heap.size+4) er nilv nilv nilv nilv (.bool false)
 res:SixB wr w.heap.size nilv nilv nilv nilv nilv (.bool false)
 row:wr.ownsRow (w.heap.size+5) 28 1 er k (tD (mX [] (l.take k)).1)
 low:Below w.heap.size w wr
 sz:w.heap.size+5<=wr.heap.size
theorem BkL.next {w6:World}{l:List En}{e:En}{o:Obj}(h:BkL w wr l k er)(he:l[k]? = some e)
  (hK:Keeps (wr.alloc o).drew w5 (yD w.heap.size er)) (hB:∃ n v D,BookM w5 (yD w.heap.size er) (w.heap.size+2) (w.heap.size+1) n v D (sY (mX [] (l.take k)).2 e))
  (hown:w6.ownsRow (w.heap.size+5) 28 1 (.slice (some ⟨g,0,none⟩) (k+1) cap) (k+1) (tD (mX [] (l.take k)).1++[.int .i64 (eX (mX [] (l.take k)).2 (nrm e))]))
  (hgr:(w5.alloc o2).grownBy w6 er.ownBlock) (hat:er.ownBlock=some g\/g=w5.heap.size+1) :
  BkL w (w6.setCell ⟨w.heap.size+4,0,none⟩ (.slice (some ⟨g,0,none⟩) (k+1) cap)) l (k+1) (.slice (some ⟨g,0,none⟩) (k+1) cap):=by
 have hsn:mX [] (l.take (k+1))=((mX [] (l.take k)).1++[eX (mX [] (l.take k)).2 (nrm e)],sY (mX [] (l.take k)).2 e):=by
  rw[fZ,he];exact pB _ _ _
 have hs1:wr.heap.size+1<=w5.heap.size:=by have h1:=hK.size;have h2:(wr.alloc o).drew.heap.size=wr.heap.size+1:=(by simp[World.drew]);omega
 have hs0:=h.sz;have hrl:=fun g (hg:er.ownBlock=some g)=>yX h.row hg
 have hgg:w.heap.size+5<=g:=by
  rcases hat with h1|h1
  ·exact(hrl g h1).1
  ·omega
 have hsame:∀ b,b<wr.heap.size->¬ yD w.heap.size er b->er.ownBlock≠some b->b≠w.heap.size+4->(w6.setCell ⟨w.heap.size+4,0,none⟩ (.slice (some ⟨g,0,none⟩) (k+1) cap)).heap[b]? = wr.heap[b]?:=fun b hb hn hne hn4=>by
  rw[show(w6.setCell ⟨w.heap.size+4,0,none⟩ (.slice (some ⟨g,0,none⟩) (k+1) cap)).heap[b]? = w6.heap[b]? from jM _ _ _ _ (by exact fun e=>hn4 e)];rw[hgr.block b (by simp;omega) (fun e=>hne e.symm)];rw[show(w5.alloc o2).heap[b]? = w5.heap[b]? from vM _ _ _ (by omega)];rw[hK.block b (by show b<(wr.alloc o).heap.size;simp;omega) hn];exact vM _ _ _ hb
 have h4:¬ yD w.heap.size er (w.heap.size+4):=fun c=>c.2.2.1 rfl;have h3:¬ yD w.heap.size er (w.heap.size+3):=fun c=>c.2.1 rfl;have hno:∀ b,b<w.heap.size+5->er.ownBlock≠some b:=fun b hb c=>by have:=(hrl b c).1;omega
 have hg2:w6.grownBy (w6.setCell ⟨w.heap.size+4,0,none⟩ (.slice (some ⟨g,0,none⟩) (k+1) cap)) (some (w.heap.size+4)):=nQ (jX _ _) 0 _;have hs6:=hgr.size;simp only[cP] at hs6;constructor
 ·obtain⟨n,v,D,hb⟩:=hB
  refine⟨n,v,D,?_⟩;rw[hsn]
  have b1:BookM w5 (fun x=>yD w.heap.size er x/\x≠g) (w.heap.size+2) (w.heap.size+1) n v D (sY (mX [] (l.take k)).2 e):=hb.mono (fun x hx hn=>⟨hn,fun c=>by
   rcases hat with h1|h1
   ·exact hn.2.2.2 (by rw[h1,c])
   ·omega⟩)
  have b2:=b1.gb (bY (eN w5 o2 _) hgr) (fun x hx c=>c.1.2.2.2 hx);have b3:=b2.gb hg2 (fun x hx c=>by simp only[zX] at hx;exact c.1.2.2.1 hx.symm);exact b3.mono (fun x _ hn=>⟨hn.1.1,hn.1.2.1,hn.1.2.2.1,by simp[Value.ownBlock];exact fun c=>hn.2 c.symm⟩)
 ·exact(hsame _ h.px.lt h3 (hno _ (by omega)) (by omega)).trans h.px
 ·have o6:SixB w6 (w.heap.size+4) er nilv nilv nilv nilv (.bool false):=by
   refine h.out.same ?_;rw[hgr.block (w.heap.size+4) (by simp;omega) (fun e=>hno (w.heap.size+4) (by omega) e.symm),show(w5.alloc o2).heap[w.heap.size+4]? = w5.heap[w.heap.size+4]? from vM _ _ _ (by omega),hK.block (w.heap.size+4) (by show _<(wr.alloc o).heap.size;simp;omega) h4];exact vM _ _ _ (by omega)
  exact o6.put0 _
 ·exact h.res.same (hsame _ h.res.lt (fun c=>by have:=c.1;omega) (hno _ (by omega)) (by omega))
 ·rw[hsn]
  simp only[egJ];exact hown.kept hg2 (.inr (by simp[Value.ownBlock];omega))
 ·refine⟨?_,?_,?_,?_,fun b hb=>?_⟩
  ·exact hgr.os.trans (hK.os.trans h.low.os)
  ·exact hgr.tape.trans (hK.tape.trans h.low.tape)
  ·exact hgr.output.trans (hK.output.trans h.low.output)
  ·have:=h.low.size;simp[World.setCell];omega
  ·exact(hsame b (by omega) (fun c=>by have:=c.1;omega) (hno b (by omega)) (by omega)).trans (h.low.block b hb)
 ·simp[World.setCell];omega
theorem BkL.row5 {X:World}{l:List En}(h:BkL w wr l k er)(hX:Below wr.heap.size wr X)(hK:Keeps X.drew w5 (yD w.heap.size er))(o:Obj):(w5.alloc o).ownsRow (w.heap.size+5) 28 1 er k (tD (mX [] (l.take k)).1):=by
 have h5:w5.ownsRow (w.heap.size+5) 28 1 er k (tD (mX [] (l.take k)).1):=vD h.row fun g hg=>by
  have hlt:=(yX h.row hg).2;exact(hK.block g (uX hlt hX.size) (fun c=>c.2.2.2 hg)).trans (hX.block g hlt)
 refine vD h5 fun g hg=>?_;have:=(yX h5 hg).2;exact vM _ _ _ this
theorem bmQ (w:World)(a:Value)(t:TypeId)(N:Nat)(hN:N=w.heap.size):∀ j u,[a][j]? = some u->(w.alloc (.cells #[a] t)).cell? ((⟨N,0,none⟩:Addr).add j)=some u:=by
 subst hN;exact fun j u hu=>World.news_of_block (w:=w.alloc (.cells #[a] t)) (B:=w.heap.size) (cs:=#[a]) (t:=t) (fr:=(0,0)) (dP w _) j u (by simpa using hu)
structure Stay (P m:Nat) (A B:World):Prop where
 os:B.os=A.os
 tape:B.tape=A.tape
 output:B.output=A.output
 size:A.heap.size<=B.heap.size
 block:∀ b,b<m->b≠P->B.heap[b]? = A.heap[b]?
theorem Stay.refl (P m:Nat)(A:World):Stay P m A A:=⟨rfl,rfl,rfl,vQ _,fun _ _ _=>rfl⟩
theorem Stay.trans {B:World}(h:Stay P m A B)(k:Stay P m B C):Stay P m A C :=
 ⟨k.os.trans h.os,k.tape.trans h.tape,k.output.trans h.output,bQ h.size k.size,fun b hb hn=>(k.block b hb hn).trans (h.block b hb hn)⟩
theorem Stay.mono {m':Nat}{B:World}(h:Stay P m A B)(hm:m'<=m):Stay P m' A B:=⟨h.os,h.tape,h.output,h.size,fun b hb hn=>h.block b (by omega) hn⟩
theorem Stay.gb {B:World}(h:Stay P m A B)(k:B.grownBy C r)(hm:m<=B.heap.size)(hr:∀ x,r=some x->m<=x\/x=P):Stay P m A C :=
 h.trans ⟨k.os,k.tape,k.output,k.size,fun b hb hn=>k.block b (by omega) (fun e=>by rcases hr b e.symm with h|h;omega;exact hn h)⟩
theorem Stay.below {B:World}(h:Stay P m A B)(k:Below B.heap.size B C)(hm:m<=B.heap.size):Stay P m A C:=h.gb (wX k) hm (by simp)
theorem Stay.grown {B:World}(h:Stay P A.heap.size A B):A.grownBy B (some P):=⟨h.os,h.tape,h.output,h.size,fun b hb hn=>h.block b hb (fun e=>hn (by rw[e]))⟩
theorem Stay.kpt {B:World}(h:Stay P m A B)(hK:∀ b,K b->b<m/\b≠P):Kpt K A B:=⟨h.size,fun b hb=>h.block b (hK b hb).1 (hK b hb).2⟩
def oF (l:List Rq):List Value:=l.flatMap fun r=>[.int .i64 r.1,.int .i64 r.2]
theorem bmX (l:List Rq)(r:Rq):oF (l++[r])=oF l++[.int .i64 r.1,.int .i64 r.2]:=by simp[oF]
def wL (dn:List En) (x:List UInt8):Rq:=(mJ dn ⟨x.toArray⟩).1
def sI (dn:List En) (x:List UInt8):Rq:=(sX dn ⟨x.toArray⟩).getD (0,0)
theorem ehX {dn:List En}(h:Inv dn)(hx:x∈dX dn):sX dn ⟨x.toArray⟩=some (sI dn x)/\x.length<=32:=by
 obtain⟨y,hy,rfl⟩:=(eeX dn x).1 hx;have he:(⟨y.data.toList.toArray⟩:ByteArray)=y:=by cases y;simp
 refine⟨?_,?_⟩
 ·unfold sI
  rw[he];cases hb:sX dn y with
  | some b=>rfl
  | none=>exact absurd hy ((tR dn y).1 hb)
 ·unfold dY at hy
  obtain⟨e,he2,rfl⟩:=tX.1 hy;have h1:=(pH (h.bad e (List.mem_filter.1 he2).1).1).2.2.1;unfold aV at h1;simp only[uK,qY] at h1;exact h1.1.2
structure Trio (W:World) (m:Nat) (nv sv bv:Value) (ns:List (List UInt8)) (ss bs:List Rq):Prop where
 n:W.ownsRow m 9 1 nv ns.length (ns.map encStr)
 s:W.ownsRow m 32 2 sv ss.length (oF ss)
 b:W.ownsRow m 32 2 bv bs.length (oF bs)
 ds:∀ g,nv.ownBlock=some g->sv.ownBlock≠some g
 db:∀ g,nv.ownBlock=some g->bv.ownBlock≠some g
 dd:∀ g,sv.ownBlock=some g->bv.ownBlock≠some g
theorem oZ (h:W.ownsRow m t z v n xs)(hg:W.grownBy W' r)(hr:∀ g,v.ownBlock=some g->r≠some g):W'.ownsRow m t z v n xs :=
 vD h fun g hg2=>hg.block g (yX h hg2).2 (fun e=>hr g hg2 e.symm)
theorem uS (h:W.ownsRow m t z v n xs)(hg:W.grownBy W' (some P))(hP:P<m):W'.ownsRow m t z v n xs :=
 oZ h hg fun g hg2 e=>by have:=(yX h hg2).1;simp only[zX] at e;omega
theorem Trio.none {ss bs:List Rq}(h:Trio W m nv sv bv ns ss bs)(hg:W.grownBy W' none):Trio W' m nv sv bv ns ss bs :=
 ⟨oZ h.n hg (by simp),oZ h.s hg (by simp),oZ h.b hg (by simp),h.ds,h.db,h.dd⟩
theorem Trio.low {ss bs:List Rq}(h:Trio W m nv sv bv ns ss bs)(hg:W.grownBy W' (some P))(hP:P<m):Trio W' m nv sv bv ns ss bs :=
 ⟨uS h.n hg hP,uS h.s hg hP,uS h.b hg hP,h.ds,h.db,h.dd⟩
theorem Trio.nil (W:World)(m:Nat):Trio W m nilv nilv nilv [] [] [] :=
 ⟨⟨rfl,.inl ⟨rfl,rfl⟩⟩,⟨rfl,.inl ⟨rfl,rfl⟩⟩,⟨rfl,.inl ⟨rfl,rfl⟩⟩,fun g hg=>(by cases hg),fun g hg=>(by cases hg),fun g hg=>(by cases hg)⟩
theorem Trio.name {nv':Value}{ss bs:List Rq}(h:Trio W m nv sv bv ns ss bs)(hg:W.grownBy W' nv.ownBlock)
  (hown:W'.ownsRow m 9 1 nv' (ns.length+1) (ns.map encStr++[encStr x])) (hat:nv'.ownBlock=nv.ownBlock\/nv'.ownBlock=some W.heap.size):Trio W' m nv' sv bv (ns++[x]) ss bs:=by
 refine⟨by simpa using hown,oZ h.s hg (fun g h1 e=>h.ds g e h1),oZ h.b hg (fun g h1 e=>h.db g e h1),fun g h1 h2=>?_,fun g h1 h2=>?_,h.dd⟩
 ·rcases hat with e|e
  ·rw[e] at h1;exact h.ds g h1 h2
  ·rw[e] at h1;have:=(yX h.s h2).2;simp only[zX] at h1;omega
 ·rcases hat with e|e
  ·rw[e] at h1;exact h.db g h1 h2
  ·rw[e] at h1;have:=(yX h.b h2).2;simp only[zX] at h1;omega
theorem Trio.spent {ss bs:List Rq}{x:Rq}(h:Trio W m nv sv bv ns ss bs)(hg:W.grownBy W' sv.ownBlock)
  (hown:W'.ownsRow m 32 2 sv' (ss.length+1) (oF ss++[.int .i64 x.1,.int .i64 x.2])) (hat:sv.ownBlock=sv'.ownBlock\/sv'.ownBlock=some W.heap.size):Trio W' m nv sv' bv ns (ss++[x]) bs:=by
 refine⟨oZ h.n hg (fun g h1 e=>h.ds g h1 e),by simpa [bmX] using hown,oZ h.b hg (fun g h1 e=>h.dd g e h1),fun g h1 h2=>?_,h.db,fun g h1 h2=>?_⟩
 ·rcases hat with e|e
  ·rw[<-e] at h2;exact h.ds g h1 h2
  ·rw[e] at h2;have:=(yX h.n h1).2;simp only[zX] at h2;omega
 ·rcases hat with e|e
  ·rw[<-e] at h1;exact h.dd g h1 h2
  ·rw[e] at h1;have:=(yX h.b h2).2;simp only[zX] at h1;omega
theorem Trio.bud {ss bs:List Rq}{x:Rq}(h:Trio W m nv sv bv ns ss bs)(hg:W.grownBy W' bv.ownBlock)
  (hown:W'.ownsRow m 32 2 bv' (bs.length+1) (oF bs++[.int .i64 x.1,.int .i64 x.2])) (hat:bv.ownBlock=bv'.ownBlock\/bv'.ownBlock=some W.heap.size):Trio W' m nv sv bv' ns ss (bs++[x]):=by
 refine⟨oZ h.n hg (fun g h1 e=>h.db g h1 e),oZ h.s hg (fun g h1 e=>h.dd g h1 e),by simpa [bmX] using hown,h.ds,fun g h1 h2=>?_,fun g h1 h2=>?_⟩
 ·rcases hat with e|e
  ·rw[<-e] at h2;exact h.db g h1 h2
  ·rw[e] at h2;have:=(yX h.n h1).2;simp only[zX] at h2;omega
 ·rcases hat with e|e
  ·rw[<-e] at h2;exact h.dd g h1 h2
  ·rw[e] at h2;have:=(yX h.s h1).2;simp only[zX] at h2;omega
structure BkR (W7:World) (P:Nat) (er en:Value) (dn:List En) (m:Nat) (pre:List (List UInt8)) (W:World):Prop where
 st:Stay P W7.heap.size W7 W
 ex:∃ nv sv bv,SixB W P er en nv sv bv (.bool true)/\Trio W m nv sv bv pre (pre.map (wL dn)) (pre.map (sI dn))
theorem bmZ {dn:List En}(hP:P<W7.heap.size):bN W7.heap.size (BkR W7 P er en dn):=by
 rintro m pre A B row hm ⟨h1,nv,sv,bv,h2,h3⟩ hg hr;refine⟨h1.gb hg h1.size (fun x e=>.inl (hr x e).1),nv,sv,bv,h2.gb hg (fun e=>by have:=hr P e.symm;omega),?_⟩;have hno:∀ v:Value,∀ z t n xs,A.ownsRow m t z v n xs->∀ g,v.ownBlock=some g->row≠some g:=fun v z t n xs hw g hv e=>by have h4:=(yX hw hv).1;have h5:=hr g e;omega
 exact⟨oZ h3.n hg (hno _ _ _ _ _ h3.n),oZ h3.s hg (hno _ _ _ _ _ h3.s),oZ h3.b hg (hno _ _ _ _ _ h3.b),h3.ds,h3.db,h3.dd⟩
theorem ehZ {dn:List En}(h:SixB W7 P er en nilv nilv nilv (.bool true))(hg:W7.grownBy W' none):BkR W7 P er en dn m [] W' :=
 ⟨(Stay.refl P _ W7).gb hg (vQ _) (by simp),nilv,nilv,nilv,h.gb hg (by simp),Trio.nil _ _⟩
theorem ehJ {r:Value}{xs:List (List UInt8)}(hg:W.cell? ⟨g,0,none⟩=some r)(hgl:g<W.heap.size)(hrow:W.ownsRow base 9 1 r xs.length (xs.map encStr)) :
  ∃ b a c,r=.slice a xs.length c/\NamF W g b a c xs/\b<W.heap.size/\(b=g\/base<=b):=by
 rcases hrow.2 with⟨rfl,h0⟩|⟨b,cap,cur,rfl,hb,hc,h1,h2,h3,h4⟩
 ·obtain rfl:xs=[]:=aoZ h0
  exact⟨g,none,0,rfl,⟨hg,fun h=>absurd rfl h,fun i x hi=>by simp at hi⟩,hgl,.inl rfl⟩
 ·refine⟨b,_,_,rfl,⟨hg,fun _=>rfl,fun i x hi=>?_⟩,(yJ.1 hc).1,.inr hb⟩
  have hi2:i<xs.length:=(cQ.1 hi).1;have h5:(xs.map encStr)[i]? = some (encStr x):=by simp[hi]
  rw[<-h4,vF (by omega)] at h5;simp[World.cell?,hc];simpa using h5
theorem eiQ:(prog.info? 9).map (fun i=>(i.zero,i.size,i.bytes))=some (some (.string ⟨#[]⟩),1,16):=by kernel_rfl
theorem bmJ:(prog.info? 32).map (fun i=>(i.zero,i.size,i.bytes))=some (some (.agg #[.int .i64 0,.int .i64 0]),2,16):=by kernel_rfl
structure Mid (Wc:World) (P m b1:Nat) (er en nv sv bv:Value) (sp bu:Rq) (W:World):Prop where
 six:SixB W P er en nv sv bv (.bool true)
 t1:TwoB W b1 (.int .i64 sp.1) (.int .i64 sp.2)
 t2:TwoB W (b1+1) (.int .i64 bu.1) (.int .i64 bu.2)
 st:Stay P m Wc W
theorem Mid.gb {sp bu:Rq}(h:Mid Wc P m b1 er en nv sv bv sp bu W)(hg:W.grownBy W' r)(hP:P<m)(hm:m<=b1)(hr:∀ x,r=some x->m<=x/\x<b1):Mid Wc P m b1 er en nv sv bv sp bu W' :=
 ⟨h.six.gb hg (fun e=>by have:=hr P e.symm;omega),h.t1.gb hg (fun e=>by have:=hr _ e.symm;omega),h.t2.gb hg (fun e=>by have:=hr _ e.symm;omega),h.st.gb hg (by have:=h.t1.lt;omega) (fun x e=>.inl (hr x e).1)⟩
theorem eiX {Wf:World}{dn:List En}{pre:List (List UInt8)}(hst:Stay P W7.heap.size W7 Wc)(h7:W7.heap.size<=m)(hP:P<m)(hm:m<=b1)
  (hM:Mid Wc P m b1 er en nv sv bv (wL dn x) (sI dn x) Wf) (hT:Trio Wf m nv sv' bv' (pre++[x]) (pre.map (wL dn)++[wL dn x]) (pre.map (sI dn)++[sI dn x])) :
  BkR W7 P er en dn m (pre++[x]) ((Wf.setCell ⟨P,3,none⟩ sv').setCell ⟨P,4,none⟩ bv')/\Stay P m Wc ((Wf.setCell ⟨P,3,none⟩ sv').setCell ⟨P,4,none⟩ bv'):=by
 have hg:Wf.grownBy ((Wf.setCell ⟨P,3,none⟩ sv').setCell ⟨P,4,none⟩ bv') (some P):=nQ (nQ (jX _ _) 3 _) 4 _;have hs:Stay P m Wc ((Wf.setCell ⟨P,3,none⟩ sv').setCell ⟨P,4,none⟩ bv'):=hM.st.gb hg (by have:=hM.t1.lt;omega) (fun y hy=>.inr (by simpa using hy.symm));refine⟨⟨hst.trans (hs.mono h7),nv,sv',bv',(hM.six.put3 _).put4 _,?_⟩,hs⟩;have:=hT.low hg hP;rw[yY,yY];exact this
def bnQ (md:Region.Mode) (ops:Array Oper) (J:Nat->Bool) (i:Nat):Bool:=(List.range ops.size).all fun j=>J j || match ops[j]? with|some oj=>oj.after.any (fun e=>Region.binds md e && e.on == i)|none=>true
theorem eiZ {md:Region.Mode}(h:bnQ md ops J i=true):afQ md ops J i:=by
 intro j oj hj hJ;have hlt:j<ops.size:=(yJ.1 hj).1;have h1:=dL.1 h j (uH.2 hlt);simp only[hJ,Bool.false_or,hj] at h1;obtain⟨k,hk,he⟩:=Array.any_eq_true.1 h1;simp only[uK,beq_iff_eq] at he;exact⟨_,Array.getElem_mem hk,he.1,he.2⟩
theorem tk {P:Program}{md:Region.Mode}(i:Nat)(v:Value){a:Act}(hi:ops[i]? = some oi)(hJi:J i=true)(hb:(bnQ md ops J i && Region.noSelect ops && Region.free md ops listed i && (Region.ready md ops listed).contains i)=true)(hQ:∀ c a w,Q (.panic c) (a.put oi.dst v) w->Q (.panic c) a w)(hy:Region.wanted oi (yielded ops a.tmps)=true/\∀ w,S w->(execOp a.eval oi).run P w=.ok (.value v) w)(hS:S w)(h:gG P md ops Q S J fuel (listed.setIfInBounds i true) (a.put oi.dst v) w):gG P md ops Q S J (fuel+1) listed a w:=by
 simp only[uK] at hb;exact egX hi hJi (eiZ hb.1.1.1) hb.1.1.2 hb.1.2 hb.2 hQ (Or.inl hy) hS h

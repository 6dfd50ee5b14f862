import Derived.Test.YtdceajgpolckiaaGreatDoorQq31
import Derived.Test.YtdceajgpolckiaaGreatDoorQq16
import Derived.OrdersHeld
import Derived.OrdersIn
import Derived.Laws.StructEq
import Derived.RangeFuncBox
import Derived.Laws.IdiomStrings
open Go.Proofs.Tryz
set_option linter.unusedSimpArgs false
set_option maxHeartbeats 16000000
set_option maxRecDepth 100000
namespace Go.Proofs.YtdceajgpolckiaaGreatDoor
namespace K.P
open Go.RowKit
section
variable {P:Program} {ops:Array Oper} {Q:Exit->Act->World->Prop} {md:Region.Mode} {S:World->Prop} {J:Nat->Bool}
def vH (P:Program) (md:Region.Mode) (ops:Array Oper) (Q:Exit->Act->World->Prop) (S:World->Prop) (J:Nat->Bool):Nat->Array Bool->Act->World->Prop
 | 0,listed,a,w=>Region.ready md ops listed=[]/\Q .normal a w
 | fuel+1,listed,a,w=>(Region.ready md ops listed=[]->Q .normal a w) /\
  ∀ i∈Region.ready md ops listed,wpOp P ops Q i (fun a' w'=>(J i=true->S w')/\vH P md ops Q S J fuel (listed.setIfInBounds i true) a' w') a w
theorem aoX:∀ (fuel:Nat) (listed:Array Bool) (a:Act) (w:World),vH P md ops Q S J fuel listed a w->wpAny P md ops Q fuel listed a w
 | 0,_,_,_,h=>h
 | fuel+1,_,_,_,h=>⟨h.1,fun i hi=>wpOp_mono (fun a' w' h'=>aoX fuel _ a' w' h'.2) (h.2 i hi)⟩
def qC (md:Region.Mode) (ops:Array Oper) (J:Nat->Bool) (i:Nat):Prop:=∀ j oj,ops[j]? = some oj->J j=false->∃ e∈oj.after,Region.binds md e=true/\e.on=i
theorem dcZ {i:Nat}{oi:Oper}{v:Value}(hi:ops[i]? = some oi)(hJi:J i=true)(hW:qC md ops J i)(hsel:∀ (j:Nat) (o:Oper) cs b,ops[j]? = some o->o.op≠.select cs b)
  (hQ:∀ c a w,Q (.panic c) (a.put oi.dst v) w->Q (.panic c) a w) :
  ∀ (fuel:Nat) (listed:Array Bool) (a:Act) (w:World),
   (∀ j oj,ops[j]? = some oj->j≠i->listed.getD j true=false->(∀ e∈oj.after,Region.binds md e=true->e.on≠i)->oi.apart ops oj=true) ->
   i∈Region.ready md ops listed->YieldsIf P ops S oi v a->S w ->
   vH P md ops Q S J fuel (listed.setIfInBounds i true) (a.put oi.dst v) w->vH P md ops Q S J (fuel+1) listed a w:=by
 intro fuel
 induction fuel with
 | zero =>
  intro listed a w _ hr hy hS H;refine⟨fun h=>(by rw[h] at hr;cases hr),fun j hj=>?_⟩;by_cases hji:j=i
  ·subst hji;exact hy.wpOp hi hS ⟨fun _=>hS,H⟩
  ·have h0:=ready_mono hj hji
   rw[H.1] at h0;cases h0
 | succ fuel ih =>
  intro listed a w hfree hr hy hS H;refine⟨fun h=>(by rw[h] at hr;cases hr),fun j hj=>?_⟩;by_cases hji:j=i
  ·subst hji;exact hy.wpOp hi hS ⟨fun _=>hS,H⟩
  ·obtain⟨hjun,oj,hoj,hall⟩:=mem_ready.1 hj
   have hun:=(mem_ready.1 hr).1
   have hnot:∀ e∈oj.after,Region.binds md e=true->e.on≠i:=fun e he hb heq=>by
    have h1:=hall e he hb;rw[heq] at h1;rcases Nat.lt_or_ge i listed.size with h' | h'
    ·simp[h'] at hun h1;rw[hun] at h1;cases h1
    ·simp[Array.getElem?_eq_none h'] at h1
   have hJj:J j=true:=by
    cases hc:J j with
    | true=>rfl
    | false=>obtain⟨e,he,hb,heq⟩:=hW j oj hoj hc;exact absurd heq (hnot e he hb)
   have h2:=wpOp_putIf hoj (hfree j oj hoj hji hjun hnot) (fun cs b=>hsel i oi cs b hi) (fun cs b=>hsel j oj cs b hoj) hQ hy (H.2 j (ready_mono hj hji))
   have hfree':∀ k ok,ops[k]? = some ok->k≠i->(listed.setIfInBounds j true).getD k true=false ->
     (∀ e∈ok.after,Region.binds md e=true->e.on≠i)->oi.apart ops ok=true:=fun k ok hk hki hun' hno=>by
    refine hfree k ok hk hki ?_ hno;by_cases hjk:j=k
    ·subst hjk;exact hjun
    ·rwa [getD_set_ne true hjk] at hun'
   refine wpOp_mono (fun a' w' h3=>⟨fun _=>h3.2.1 hJj,ih (listed.setIfInBounds j true) a' w' hfree' (ready_mono hr (Ne.symm hji)) h3.1 (h3.2.1 hJj) ?_⟩) h2;rw[Array.setIfInBounds_comm _ _ hji];exact h3.2.2
theorem bD {i:Nat}{oi:Oper}{v:Value}{fuel:Nat}{listed:Array Bool}{a:Act}{w:World}(hi:ops[i]? = some oi)(hJi:J i=true)(hW:qC md ops J i)
  (hs:Region.noSelect ops=true) (hf:Region.free md ops listed i=true) (hr:(Region.ready md ops listed).contains i=true)
  (hQ:∀ c a w,Q (.panic c) (a.put oi.dst v) w->Q (.panic c) a w) (hy:YieldsIf P ops S oi v a) (hS:S w)
  (h:vH P md ops Q S J fuel (listed.setIfInBounds i true) (a.put oi.dst v) w):vH P md ops Q S J (fuel+1) listed a w :=
 dcZ hi hJi hW (Region.noSelect_spec hs) hQ fuel listed a w (Region.free_spec hi hf) (by simpa using hr) hy hS h
theorem eM {listed:Array Bool}{a:Act}{w:World}(hr:Region.ready md ops listed=[])(h:Q .normal a w):∀ fuel,vH P md ops Q S J fuel listed a w
 | 0=>⟨hr,h⟩
 | _+1=>⟨fun _=>h,by rw[hr];simp⟩
def pQ (P:Program) (md:Region.Mode) (ops:Array Oper) (Q:Exit->Act->World->Prop) (S:World->Prop) (J:Nat->Bool) (fuel:Nat) (listed:Array Bool) (a:Act) (w:World) (rs:List Nat):Prop :=
 ∀ i∈rs,wpOp P ops Q i (fun a' w'=>(J i=true->S w')/\vH P md ops Q S J fuel (listed.setIfInBounds i true) a' w') a w
theorem pQ.nil {fuel:Nat}{listed:Array Bool}{a:Act}{w:World}:pQ P md ops Q S J fuel listed a w []:=fun _ h=>by cases h
theorem pQ.cons {fuel:Nat}{listed:Array Bool}{a:Act}{w:World}{i:Nat}{o:Oper}{rs:List Nat}(ho:ops[i]? = some o)
  (h:∀ K':Act->World->Prop,Shut (∀ a w,(J i=true->S w)->vH P md ops Q S J fuel (listed.setIfInBounds i true) a w->K' a w)->if Region.wanted o (yielded ops a.tmps)=true then Oper.wp P o a w K' Q else K' (a.put o.dst undef) w)
  (hs:pQ P md ops Q S J fuel listed a w rs):pQ P md ops Q S J fuel listed a w (i::rs):=fun j hj=>by
 rcases yX.1 hj with rfl|hj
 ·exact wpOp_step ho (fun K' hK=>h K' (fun a w hS hW=>hK a w ⟨hS,hW⟩))
 ·exact hs j hj
theorem pJ {rs:List Nat}{fuel:Nat}{listed:Array Bool}{a:Act}{w:World}(hr:Region.ready md ops listed=rs)(hne:rs≠[])(h:pQ P md ops Q S J fuel listed a w rs):vH P md ops Q S J (fuel+1) listed a w :=
 ⟨fun h0=>absurd (hr▸h0) hne,hr▸h⟩
end
theorem zA:type_of% @List.setIfInBounds_toArray:=@List.setIfInBounds_toArray
theorem zB:type_of% @List.set_cons_zero:=@List.set_cons_zero
theorem zC:type_of% @List.set_cons_succ:=@List.set_cons_succ
end K.P
namespace K.P
open Go.RowKit K.Ds
def wA (w:World) (B:Nat) (v:Value) (l:List En):Prop :=
 ∃ a c,v=.slice a l.length c/\l.length<=c/\l.length<=9223372036854775807/\(∀ x∈l,x.2.1.size<=9223372036854775807) /\
  (l≠[]->∃ b o,a=some ⟨b,o,none⟩/\b<B/\∀ i x,l[i]? = some x->w.cell? ⟨b,o+i*5,none⟩=some (.int .i64 x.1)/\w.cell? ⟨b,o+i*5+1,none⟩=some (.string x.2.1)/\w.cell? ⟨b,o+i*5+2,none⟩=some (.int .i64 x.2.2.1)/\w.cell? ⟨b,o+i*5+3,none⟩=some (.int .i64 x.2.2.2.1)/\w.cell? ⟨b,o+i*5+4,none⟩=some (.int .i64 x.2.2.2.2))
theorem wA.keep {w w':World}{B:Nat}{v:Value}{l:List En}(h:wA w B v l)(hb:Below B w w'):wA w' B v l:=by
 obtain⟨a,c,hv,hc,hl,hn,hx⟩:=h;refine⟨a,c,hv,hc,hl,hn,fun hne=>?_⟩;obtain⟨b,o,ha,hB,hcell⟩:=hx hne;refine⟨b,o,ha,hB,fun i x hi=>?_⟩;obtain⟨h0,h1,h2,h3,h4⟩:=hcell i x hi;exact⟨(hb.cell (p:=⟨b,o+i*5,none⟩) hB).trans h0,(hb.cell (p:=⟨b,o+i*5+1,none⟩) hB).trans h1,(hb.cell (p:=⟨b,o+i*5+2,none⟩) hB).trans h2,(hb.cell (p:=⟨b,o+i*5+3,none⟩) hB).trans h3,(hb.cell (p:=⟨b,o+i*5+4,none⟩) hB).trans h4⟩
theorem wA.at {w w':World}{B:Nat}{v:Value}{l:List En}(h:wA w B v l)(hB:B<=w.heap.size)(hb:Below w.heap.size w w'):wA w' B v l:=h.keep (hb.mono hB)
theorem wA.slice {w:World}{B:Nat}{v:Value}{l:List En}(h:wA w B v l):∃ a c,v=.slice a l.length c/\l.length<=c/\l.length<=9223372036854775807:=by
 obtain⟨a,c,hv,hc,hl,_⟩:=h;exact⟨a,c,hv,hc,hl⟩
theorem wA.get {w wr:World}{B:Nat}{a:Option Addr}{n c:Nat}{l:List En}(h:wA w B (.slice a n c) l)(hB:B<=w.heap.size)(hb:Below w.heap.size w wr){i:Nat}(hi:i<l.length) :
  ∃ b o d nm p u v,a=some ⟨b,o,none⟩/\b<B/\l[i]? = some (d,nm,p,u,v)/\wr.cell? ⟨b,o+i*5,none⟩=some (.int .i64 d)/\wr.cell? ⟨b,o+i*5+1,none⟩=some (.string nm)/\wr.cell? ⟨b,o+i*5+2,none⟩=some (.int .i64 p)/\wr.cell? ⟨b,o+i*5+3,none⟩=some (.int .i64 u)/\wr.cell? ⟨b,o+i*5+4,none⟩=some (.int .i64 v)/\nm.size<=9223372036854775807:=by
 obtain⟨a',c',hv,_,_,hn,hx⟩:=h.at hB hb;simp only[xV] at hv;obtain⟨rfl,rfl,rfl⟩:=hv;obtain⟨b,o,rfl,hbB,hcell⟩:=hx (ne_of_lt hi);obtain⟨⟨d,nm,p,u,v⟩,hx⟩:=wX hi;obtain⟨h0,h1,h2,h3,h4⟩:=hcell i _ hx;exact⟨b,o,d,nm,p,u,v,rfl,hbB,hx,h0,h1,h2,h3,h4,hn _ (uX hx)⟩
theorem dcJ:prog.underlying 53=some (.struct (prog.fieldsOf 53)):=by rw[Program.fieldsOf,underlying53]
theorem ddQ:prog.stoodInHeld 53=false:=by kernel_rfl
theorem ddX : ∃ f0 f1 f2 f3 : Field, (prog.fieldsOf 53).toList = [f0, f1, f2, f3] ∧ f0.name ≠ "_" ∧ f1.name ≠ "_" ∧ f2.name ≠ "_" ∧ f3.name ≠ "_" ∧ f0.type = 3 ∧ f1.type = 9 ∧ f2.type = 3 ∧ f3.type = 32 ∧ f0.offset = 0 ∧ f1.offset = 1 ∧ f2.offset = 2 ∧ f3.offset = 3 := by
 refine⟨_,_,_,_,by rw[Program.fieldsOf,underlying53],by decide,by decide,by decide,by decide,rfl,rfl,rfl,rfl,rfl,rfl,rfl,rfl⟩
theorem aoZ (d d' p p' u u' v v':Int)(nm nm':ByteArray)(r:Bool)(hr:(!decide ((d,nm,p,u,v)=(d',nm',p',u',v')))=r)(W:World) :
  (binOp .neq 53 (.agg #[.int .i64 d,.string nm,.int .i64 p,.int .i64 u,.int .i64 v]) (.agg #[.int .i64 d',.string nm',.int .i64 p',.int .i64 u',.int .i64 v'])).run prog W=.ok (.bool r) W:=by
 obtain⟨f0,f1,f2,f3,hf,n0,n1,n2,n3,t0,t1,t2,t3,o0,o1,o2,o3⟩:=ddX;rw[run_neq_struct,run_equalIn_struct W 9999 53 _ _ dcJ ddQ,hf,<-hr];simp[Op.eqFields,n0,n1,n2,n3,t0,t1,t2,t3,o0,o1,o2,o3,go_sem,underlying9,underlying3,pL];by_cases h1:d=d' <;> by_cases h2:nm=nm' <;> by_cases h3:p=p' <;> by_cases h4:u=u' <;> by_cases h5:v=v' <;> simp[h1,h2,h3,h4,h5]
theorem ddZ {α:Type} [DecidableEq α] {x y:List α}{i:Nat}{a b:α}(hx:x[i]? = some a)(hy:y[i]? = some b)(h:x.take i=y.take i):x.take (i+1)=y.take (i+1)↔a=b:=by
 rw[kZ,kZ,hx,hy,h];simp
theorem tK (B:Nat)(v1 v2:Value)(x y:List En)(w:World)(hB:B<=w.heap.size)(hx:wA w B v1 x)(hy:wA w B v2 y)(r:Bool)(hr:decide (x=y)=r) :
  Calls prog 12 #[v1,v2] w fun e w'=>e=.returned (.bool r)/\Below w.heap.size w w':=by
 have HX:Hid (wA w B v1 x):=hx;have HY:Hid (wA w B v2 y):=hy;have HR:Hid (decide (x=y)=r):=hr;obtain⟨a,c,rfl,hc,hl⟩:=hx.slice;obtain⟨a2,c2,rfl,hc2,hl2⟩:=hy.slice;clear hr;by_cases hlen:x.length=y.length
 ·have hq:((x.length:Int) != (y.length:Int))=false:=by simp[hlen]
  have HL:Hid (x.length=y.length):=hlen;clear hlen;go_enter func12,ntmps12;go_wp2
  go_loopw [13] (fun s wr=>∃ (i:Nat),s=.int .i64 (i:Int)/\i<=x.length/\Hid (x.take i=y.take i)/\Below w.heap.size w wr) (fun s _=>x.length - (intOf s).toNat)
  case atStart=>exact⟨0,rfl,nQ _,by simp[Hid],aQ _ _⟩
  case round =>
   obtain⟨i,rfl,hi,HI,hbl⟩:=hrel;by_cases h1:i<x.length
   ·have h2:i<y.length:=by have:=HL.out;omega
    obtain⟨b,o,d,nm,p,u,v,rfl,hb,hg,e0,e1,e2,e3,e4,_⟩:=HX.out.get hB hbl h1;obtain⟨b',o',d',nm',p',u',v',rfl,hb',hg',g0,g1,g2,g3,g4,_⟩:=HY.out.get hB hbl h2;have HT:Hid (x.take (i+1)=y.take (i+1)↔(d,nm,p,u,v)=(d',nm',p',u',v')):=ddZ hg hg' HI.out;clear hg hg';by_cases he:(d,nm,p,u,v)=(d',nm',p',u',v')
    ·have hne:=fun W=>aoZ d d' p p' u u' v v' nm nm' false (by simpa using he) W
     have HE:Hid ((d,nm,p,u,v)=(d',nm',p',u',v')):=he;clear he;go_wp2;go_quiet (fail);go_wp2
     go_roundw
     case rel=>exact⟨i+1,by go_num,by omega,HT.out.2 HE.out,below_drewN hbl _⟩
     case measure=>simp[intOf];omega
    ·have hne:=fun W=>aoZ d d' p p' u u' v v' nm nm' true (by rw[nV he];rfl) W
     have hf:false=r:=by
      rw[<-HR.out];refine(nV fun e=>he (HT.out.1 (by rw[e]))).symm
     subst hf;clear he;go_wp2;go_quiet (fail);go_wp2;go_ret;exact⟨rfl,below_drewN hbl _⟩
   ·have hi':i=x.length:=by omega
    have ht:true=r:=by
     rw[<-HR.out];have h3:=HI.out;rw[hi',wH,HL.out,wH] at h3;exact(vG h3).symm
    subst ht;subst hi';go_wp2;go_ret;exact⟨rfl,hbl⟩
 ·have hq:((x.length:Int) != (y.length:Int))=true:=by simp;omega
  have hf:false=r:=by rw[<-HR.out];exact(nV fun e=>hlen (by rw[e])).symm
  subst hf;clear hlen;go_enter func12,ntmps12;go_wp2;go_ret;exact⟨rfl,aQ _ _⟩
end K.P
namespace K.P
open Go.RowKit Go.Shelf K.Ds
theorem eF {w w':World}{base:Nat}{t:TypeId}{sz:Nat}{v:Value}{n:Nat}{xs:List Value}(h:w.ownsRow base t sz v n xs)(hk:∀ g,v.ownBlock=some g->w'.heap[g]? = w.heap[g]?):w'.ownsRow base t sz v n xs:=by
 refine⟨h.1,?_⟩;rcases h.2 with h0|⟨g,cap,cur,hv,hb,hc,h1,h2,h3,h4⟩
 ·exact .inl h0
 ·exact .inr ⟨g,cap,cur,hv,hb,(hk g (by rw[hv];rfl)).trans hc,h1,h2,h3,h4⟩
theorem yZ {w:World}{base:Nat}{t:TypeId}{sz:Nat}{v:Value}{n:Nat}{xs:List Value}(h:w.ownsRow base t sz v n xs){g:Nat}(hg:v.ownBlock=some g):base<=g/\g<w.heap.size:=by
 rcases h.2 with⟨rfl,_⟩|⟨g',cap,cur,rfl,hb,hc,_⟩
 ·cases hg
 ·simp only[Value.ownBlock,vX] at hg
  subst hg;exact⟨hb,(jU.1 hc).1⟩
theorem aY {w:World}{base:Nat}{t:TypeId}{sz:Nat}{v:Value}{n:Nat}{xs:List Value}(h:w.ownsRow base t sz v n xs):∃ a c,v=.slice a n c:=by
 rcases h.2 with⟨rfl,rfl⟩|⟨g',cap,cur,rfl,_⟩
 ·exact⟨_,_,rfl⟩
 ·exact⟨_,_,rfl⟩
theorem gZ {W W':World}{m:Nat}{t:TypeId}{z:Nat}{v:Value}{n:Nat}{xs:List Value}{r:Option Nat}(h:W.ownsRow m t z v n xs)(hg:W.grownBy W' r)(hr:∀ g,v.ownBlock=some g->r≠some g):W'.ownsRow m t z v n xs :=
 eF h fun g hg2=>hg.block g (yZ h hg2).2 (fun e=>hr g hg2 e.symm)
def ddJ (md:Region.Mode) (ops:Array Oper) (J:Nat->Bool) (i:Nat):Bool:=(List.range ops.size).all fun j=>J j || match ops[j]? with|some oj=>oj.after.any (fun e=>Region.binds md e && e.on == i)|none=>true
theorem cD {md:Region.Mode}{ops:Array Oper}{J:Nat->Bool}{i:Nat}(h:ddJ md ops J i=true):qC md ops J i:=by
 intro j oj hj hJ;have hlt:j<ops.size:=(jU.1 hj).1;have h1:=fO.1 h j (jK.2 hlt);simp only[hJ,Bool.false_or,hj] at h1;obtain⟨k,hk,he⟩:=Array.any_eq_true.1 h1;simp only[wM,beq_iff_eq] at he;exact⟨_,Array.getElem_mem hk,he.1,he.2⟩
end K.P
namespace K.P
open Go.RowKit K.Ds
def wby (l:List Int):List Nat:=(l.drop 5).flatMap fun x=>yU 8 (nG x)
theorem aoJ {α:Type}(f:α->List Nat)(h8:∀ x,(f x).length=8):∀ (ls:List α) (q r:Nat),r<8->(ls.flatMap f)[8*q+r]? = (ls[q]?).bind fun x=>(f x)[r]?
 | [],q,r,_=>by simp
 | x::ls,0,r,hr=>by
  rw[wI,aO (by rw[h8];omega)];simp
 | x::ls,q+1,r,hr=>by
  rw[wI,dH (by rw[h8];omega),h8,show 8*(q+1)+r - 8=8*q+r by omega,aoJ f h8 ls q r hr];simp
theorem deQ {l:List Int}{i:Nat}{x:Int}(hx:l[5+i / 8]? = some x):(wby l)[i]? = some ((yU 8 (nG x)).getD (i % 8) 0):=by
 have h:=aoJ (fun x=>yU 8 (nG x)) (fun x=>qR _ _) (l.drop 5) (i / 8) (i % 8) (by omega);rw[show 8*(i / 8)+i % 8=i by omega,kF,hx] at h;rw[wby,h];simp only[Option.bind_some];rw[List.getD,dZ (by rw[qR];omega)];rfl
theorem apQ {l:List Int}(h:l.length=9):(wby l).length=32:=by
 obtain⟨x0,x1,x2,x3,x4,x5,x6,x7,x8,rfl⟩:=qO h;simp[wby,qR]
theorem apX (l:List Int):∀ b∈wby l,b<256:=by
 intro b hb;obtain⟨x,_,hx⟩:=pM.1 hb;exact ctZ _ _ b hx
theorem deX (l:List Int):bA (l.drop 5)=(wby l).filter (·≠0):=by
 unfold bA wby;rw[List.filter_flatMap]
theorem deZ:(prog.info? 5).map (fun i=>(i.zero,i.size,i.bytes))=some (some (.int .u8 0),1,1):=by kernel_rfl
def BB (w:World) (b:Nat) (l:List Nat):Prop:=∀ k x,l[k]? = some x->Cl w b k (.int .u8 ((x:Nat):Int))
theorem BB.set {w:World}{b:Nat}{l:List Nat}(h:BB w b l){i:Nat}(hi:i<l.length)(x:Nat):BB (w.setCell ⟨b,i,none⟩ (.int .u8 (x:Int))) b (l.set i x):=by
 intro k y hy;by_cases c:i=k
 ·subst c
  rw[lA hi] at hy;cases hy;obtain⟨z,hz⟩:∃ z,l[i]? = some z:=⟨_,dZ hi⟩;exact(h i z hz).set _
 ·rw[yG c] at hy
  exact(h k y hy).oth (.inr c) _
theorem BB.drew {w:World}{b:Nat}{l:List Nat}(h:BB w b l):BB w.drew b l:=fun k x hx=>Cl.drew' (h k x hx)
theorem deJ {bs:List Nat}{i b n:Nat}(h:bs[i]? = some b)(hn:bs.length=n):bs.take (i+1)++List.replicate (n - (i+1)) 0=(bs.take i++List.replicate (n - i) 0).set i b:=by
 have hi:i<bs.length:=(lQ.1 h).1;rw[iO _ _ (by rw[lU];omega),lU,Nat.min_eq_left (by omega),uK];obtain⟨k,hk⟩:∃ k,n - i=k+1:=⟨n - i - 1,by omega⟩;rw[hk,show n - (i+1)=k by omega,List.replicate_succ,List.set_cons_zero,kZ,h];simp
theorem dfQ (l:List Int)(B:Nat)(w:World)(hl:l.length=9)(hB:∀ k x,l[k]? = some x->Cl w B k (.int .i64 x)) :
  Calls prog 187 #[.slice (some ⟨B,5,none⟩) 4 4] w fun e w'=>e=.returned (.string (eU (wby l)))/\Below w.heap.size w w':=by
 have H32:Hid ((wby l).length=32/\l.length=9):=⟨apQ hl,hl⟩;have HBX:Hid (wQ w B l):=⟨hl,hB⟩;have hBl:B<w.heap.size:=(hB 0 (l[0]'(by omega)) (dZ (by omega))).lt;clear hl hB;have hmk:∀ u:World,(Instr.makeSlice 279 (.int .i64 32) (.int .i64 32)).run prog u=.ok (.slice (some ⟨u.heap.size,0,none⟩) 32 32) (u.alloc (.cells (madeCells #[.int .u8 0] 32) 5)):=run_make_row' (P:=prog) 279 5 (.int .u8 0) 1 underlying279 deZ rfl .i64 .i64 32 (by decide) (by decide)
 have HA:Hid (BB (w.alloc (.cells (madeCells #[.int .u8 0] 32) 5)) w.heap.size ((wby l).take 0++List.replicate (32 - 0) 0)):=by
  intro k x hx;have hk:k<32:=by have:=(lQ.1 hx).1;simpa using this
  obtain rfl:x=0:=by
   rw[List.take_zero,List.nil_append,tM,xQ hk] at hx;cases hx;rfl
  refine Cl.new _ 5 k _ rfl ?_;rw[<-Array.getElem?_toList,jE,tM,xQ hk];rfl
 go_enter func187,ntmps187;go_wp2;clear hmk
 go_loopw [11] (fun t wr=>∃ (i:Nat),t=.int .i64 (i:Int)/\i<=32/\Hid (BB wr w.heap.size ((wby l).take i++List.replicate (32 - i) 0))/\Hid (Below w.heap.size w wr)) (fun t _=>32 - (intOf t).toNat)
 case atStart=>exact⟨0,rfl,nQ _,HA,ba _ _⟩
 case round =>
  obtain⟨i,rfl,hi,HN,HW⟩:=hrel;by_cases h1:i<32
  ·obtain⟨q,hq⟩:∃ q,i / 8=q:=⟨_,rfl⟩
   obtain⟨k,hk⟩:∃ k,k=8*(7 - i % 8):=⟨_,rfl⟩;have kf:=fun W=>anQ i k h1 hk W;have hq4:q<4:=by omega
   have hqi:(i:Int) / 8=(q:Int):=by omega
   have hq4i:(q:Int)<4:=by omega
   have hw1:IntKind.i64.wrap (q:Int)=(q:Int):=by rw[bJ];omega
   obtain⟨x,hx⟩:∃ x,l[5+q]? = some x:=⟨_,dZ (by have:=H32.out.2;omega)⟩;have m1:=((HBX.out.2 (5+q) x hx).at HW.out).c;have hk56:k<=56:=by omega
   obtain⟨b,hbd⟩:∃ b,(yU 8 (nG x)).getD (i % 8) 0=b:=⟨_,rfl⟩;have hb:IntKind.u8.wrap (x / 2 ^ k)=(b:Int):=by rw[hk,c9X x (i % 8) (by omega),hbd]
   have hgb:(wby l)[i]? = some b:=by rw[deQ (x:=x) (by rw[hq];exact hx),hbd]
   obtain⟨z,hz⟩:∃ z,((wby l).take i++List.replicate (32 - i) 0)[i]? = some z:=⟨_,dZ (by have:=H32.out.1;simp;omega)⟩;have hc:=HN.out i z hz;have m2:=hc.c;have m3:=hc.f;have hst:=deJ hgb H32.out.1
   have FN:Hid (BB (wr.setCell ⟨w.heap.size,i,none⟩ (.int .u8 (b:Int))).drew w.heap.size ((wby l).take (i+1)++List.replicate (32 - (i+1)) 0)):=by
    rw[hst];exact(HN.out.set (lQ.1 hz).1 _).drew
   have FW:Hid (Below w.heap.size w (wr.setCell ⟨w.heap.size,i,none⟩ (.int .u8 (b:Int))).drew):=(bs HW.out (by simp) _).drew;clear hx hq hk hst hc hz hgb hbd;go_wp2_with fail
   go_region_law (go_simp;go_at_call 189;refine(kf _).mono ?_;rintro e w' ⟨rfl,rfl⟩;go_wp2_with fail)
   all_goals
    go_wp2
    go_roundw
    ·exact⟨i+1,by go_num,h1,FN,FW⟩
    ·simp[intOf];omega
  ·obtain rfl:i=32:=by omega
   have HN2:Hid (BB wr w.heap.size (wby l)):=by
    have h:=HN.out;rw[fV (by rw[H32.out.1];exact vQ _)] at h;rw[Hid];simpa using h
   have hcv:(convert 279 9 (.slice (some ⟨w.heap.size,0,none⟩) 32 32)).run prog wr=.ok (.string (eU (wby l))) wr:=by
    obtain⟨fs,hfs⟩:∃ fs,wby l=fs:=⟨_,rfl⟩;have hlt:∀ b∈fs,b<256:=fun b hb=>apX l b (by rw[hfs];exact hb);have hO:=HN2.out;have hC:=H32.out.1;rw[hfs] at hO hC ⊢;have hn:32=(fs.map UInt8.ofNat).length:=by rw[nY,hC]
    show(convert 279 9 (.slice (some ⟨w.heap.size,0,none⟩) 32 32)).run prog wr=.ok (.string ⟨(fs.map UInt8.ofNat).toArray⟩) wr
    have key:=run_convert_bytes_back wr 279 9 5 ⟨w.heap.size,0,none⟩ 32 (fs.map UInt8.ofNat) underlying279 underlying5 underlying9 fun j hj=>by
     have hj2:j<fs.length:=by simpa using hj
     have e:(UInt8.ofNat fs[j]).toNat=fs[j]:=UInt8.toNat_ofNat_of_lt' (hlt _ (List.getElem_mem hj2));rw[List.getElem_map,e,iA,jZ];exact(hO j _ (dZ hj2)).c
    rw[<-hn] at key;exact key
   go_wp2;go_ret;exact⟨rfl,HW.out⟩
end K.P
namespace K.P
open Go.RowKit Go.Shelf K.Ds
theorem apZ:∀ (l:List UInt8),0<l.count 0->∃ j:Nat,Lib.indexByte l 0=(j:Int)/\j<l.length/\(l.take (j+1)).filter (·≠0)=l.take j/\(l.drop (j+1)).count 0+1=l.count 0
 | [],h=>by simp at h
 | b::l,h=>by
  by_cases hb:b=0
  ·subst hb
   exact⟨0,by simp[Lib.indexByte],by simp,by simp,by simp⟩
  ·have hc:(b::l).count 0=l.count 0:=by simp[hb]
   obtain⟨j,h1,h2,h3,h4⟩:=apZ l (by omega);have hm:¬ (j:Int) = -1:=by omega
   refine⟨j+1,?_,by simp;omega,?_,?_⟩
   ·simp[Lib.indexByte,hb,h1,hm]
   ·rw[List.take_succ_cons,List.filter_cons_of_pos (by simpa using hb),h3,List.take_succ_cons]
   ·rw[List.drop_succ_cons,h4,hc]
theorem apJ {l:List UInt8}(h:l.count 0=0):l.filter (·≠0)=l:=by
 rw[List.filter_eq_self];intro a ha;have:=List.count_eq_zero.1 h;simp only[ne_eq,decide_not,Bool.not_eq_eq_eq_not,Bool.not_true,decide_eq_false_iff_not];rintro rfl;exact this ha
theorem dfX (s:ByteArray)(hs:s.size<=32)(w:World) :
  Calls prog 209 #[.string s,.string ⟨#[0]⟩,.string ⟨#[]⟩,.int .i64 (-1)] w fun e w'=>e=.returned (.string ⟨(s.data.toList.filter (·≠0)).toArray⟩)/\Below w.heap.size w w':=by
 obtain⟨zs,hzs⟩:∃ zs,s.data.toList=zs:=⟨_,rfl⟩;have hlen:zs.length=s.size:=by rw[<-hzs];simp
 obtain⟨K,hK⟩:∃ K,zs.count 0=K:=⟨_,rfl⟩;have hKs:K<=s.size:=by rw[<-hK,<-hlen];exact List.count_le_length
 have kc:=fun W=>Any.strings_Count_one { Tryz.lays154 with } s 0 W;rw[show Lib.countByte s.data.toList 0=K by rw[hzs];exact hK] at kc;have HZ:Hid (s.data.toList=zs):=hzs;have HK:Hid (zs.count 0=K):=hK;have hne:((⟨#[0]⟩:ByteArray) == ⟨#[]⟩)=false:=by decide
 rw[hzs];clear hzs hK;by_cases h0:K=0
 ·subst h0
  have he:(⟨(zs.filter (·≠0)).toArray⟩:ByteArray)=s:=by
   rw[apJ HK.out,<-HZ.out]
  rw[he];clear he;go_enter func209,ntmps209;go_wp2_with (go_at_call 238;refine(kc _).mono ?_;rintro e w' ⟨rfl,hw⟩;rw[hw]);go_ret;exact⟨rfl,aQ _ _⟩
 ·have hk0:((K:Int) == 0)=false:=by simpa using h0
  obtain⟨g,hg⟩:∃ g,s.size - K=g:=⟨_,rfl⟩;have hga:(s.size:Int) + -(K:Int)=(g:Int):=by omega
  have HGA:Hid ((s.size:Int) + -(K:Int)=(g:Int)):=hga;have kg:=Any.Builder_Grow_fresh { Tryz.lays154 with } Tryz.Builder_Extra_154 w.heap.size w.heap.size g (w.alloc (.cells #[.pointer none,.slice none 0 0] 324)) (vQ _) (fR w _) (by simp) (by omega);clear hg hga;go_enter func209,ntmps209;go_wp2_with (go_at_call 238;refine(kc _).mono ?_;rintro e w' ⟨rfl,hw⟩;rw[hw]);rw[HGA.out];refine kg.mono ?_;rintro e w1 ⟨rfl,hb0,hb1⟩;have H1:Hid (Lib.IsBuilder 324 5 w.heap.size w.heap.size (Lib.byteCells ((zs.take 0).filter (·≠0))) w1):=Or.inr hb0;have HB1:Hid (Below w.heap.size w w1):=((aQ w.heap.size w).alloc (vQ _) _).trans hb1;clear hb0 hb1 kg kc HGA;go_wp2_with fail
  go_loopw [11,53] (fun t11 t53 wx=>∃ (i st:Nat),t53=.int .i64 (i:Int)/\t11=.int .i64 (st:Int)/\i<=K/\st<=s.size/\Hid (Lib.IsBuilder 324 5 w.heap.size w.heap.size (Lib.byteCells ((zs.take st).filter (·≠0))) wx)/\Hid (Below w.heap.size w wx)/\Hid ((zs.drop st).count 0+i=K)) (fun _ t53 _=>K - (intOf t53).toNat)
  case atStart=>exact⟨0,0,rfl,rfl,nQ _,nQ _,H1,HB1,HK⟩
  case round =>
   obtain⟨i,st,rfl,rfl,hi,hst,HB,HW,HC⟩:=hrel;have hBw:w.heap.size<=wr.heap.size:=HW.out.size;have c1:(0:Int)<=(st:Int):=by omega
   have c2:(st:Int)<=(s.size:Int):=by omega
   have hfl:((zs.take st).filter (·≠0)).length<=32:=by
    have:=List.length_filter_le (·≠0) (zs.take st);rw[lU] at this;omega
   by_cases h1:i<K
   ·obtain⟨j,hj,hjl,hj3,hj4⟩:=apZ (zs.drop st) (by have:=HC.out;omega)
    rw[vL] at hjl;have c3:(st:Int)<=(st:Int)+(j:Int):=by omega
    have c4:(st:Int)+(j:Int)<=(s.size:Int):=by omega
    have hiK:(i:Int)<(K:Int):=by omega
    have ki:=fun W=>Any.strings_Index_one { Tryz.lays154 with } (s.extract st s.size) 0 W;rw[Lib.extract_to_end,HZ.out,hj] at ki
    have hnx:(zs.take (st+j+1)).filter (·≠0)=(zs.take st).filter (·≠0)++(zs.drop st).take j:=by
     rw[show st+j+1=st+(j+1) by omega,List.take_add,sM,hj3]
    have HNX:Hid (Lib.byteCells ((zs.take st).filter (·≠0))++Lib.strCells (s.extract st (st+j))++Lib.strCells ⟨#[]⟩=Lib.byteCells ((zs.take (st+j+1)).filter (·≠0))):=by
     rw[Hid,hnx,Lib.strCells_eq,Lib.strCells_eq,Lib.extract_data,Nat.add_sub_cancel_left,HZ.out,Lib.byteCells_append];simp[Lib.byteCells]
    have HCN:Hid ((zs.drop (st+j+1)).count 0+(i+1)=K):=by
     have h:=HC.out;rw[List.drop_drop,show st+(j+1)=st+j+1 by omega] at hj4;rw[Hid];omega
    clear hj hj3 hj4 hnx;go_wp2_with (go_at_call 240;refine(ki _).mono ?_;rintro e w' ⟨rfl,hw⟩;rw[hw]);refine(Any.Builder_WriteString { Tryz.lays154 with } Tryz.Builder_Extra_154 w.heap.size w.heap.size _ (s.extract st (st+j)) wr HB.out (by rw[Lib.byteCells_length,ByteArray.size_extract];omega) hBw).mono ?_;rintro e w3 ⟨rfl,h3,hb3⟩;have H3:Hid (Lib.BuilderAt 324 5 w.heap.size w.heap.size (.pointer (some ⟨w.heap.size,0,none⟩)) (Lib.byteCells ((zs.take st).filter (·≠0))++Lib.strCells (s.extract st (st+j))) w3):=h3;have HB3:Hid (Below w.heap.size w w3):=HW.out.trans hb3;have hBw3:w.heap.size<=w3.heap.size:=HB3.out.size;clear h3 hb3;go_wp2_with fail;refine(Any.Builder_WriteString { Tryz.lays154 with } Tryz.Builder_Extra_154 w.heap.size w.heap.size _ ⟨#[]⟩ w3 (Or.inr H3.out) (by rw[zJ,Lib.byteCells_length,Lib.strCells_length,ByteArray.size_extract];show _+0<=_;omega) hBw3).mono ?_;rintro e w4 ⟨rfl,h4,hb4⟩;rw[HNX.out] at h4;have H4:Hid (Lib.IsBuilder 324 5 w.heap.size w.heap.size (Lib.byteCells ((zs.take (st+j+1)).filter (·≠0))) w4):=Or.inr h4;have HB4:Hid (Below w.heap.size w w4):=HB3.out.trans hb4;clear h4 hb4 ki H3 HB3 HB HW HC HNX;go_wp2
    go_roundw
    ·exact⟨i+1,st+j+1,by go_num,by go_num,h1,by omega,H4,HB4,HCN⟩
    ·simp[intOf];omega
   ·obtain rfl:i=K:=by omega
    have hiK:¬ ((i:Int)<(i:Int)):=by omega
    have hz0:(zs.drop st).count 0=0:=by have:=HC.out;omega
    have HF:Hid (Lib.byteCells ((zs.take st).filter (·≠0))++Lib.strCells (s.extract st s.size)=Lib.byteCells (zs.filter (·≠0))):=by
     rw[Hid,Lib.strCells_eq,Lib.extract_to_end,HZ.out,<-Lib.byteCells_append];congr 1
     conv=>rhs;rw[<-gR st zs,sM,apJ hz0]
    clear hz0;go_wp2_with fail;refine(Any.Builder_WriteString { Tryz.lays154 with } Tryz.Builder_Extra_154 w.heap.size w.heap.size _ _ wr HB.out (by rw[Lib.byteCells_length,ByteArray.size_extract];omega) hBw).mono ?_;rintro e w3 ⟨rfl,h3,hb3⟩;rw[HF.out] at h3;have H3:Hid (Lib.IsBuilder 324 5 w.heap.size w.heap.size (Lib.byteCells (zs.filter (·≠0))) w3):=Or.inr h3;have HB3:Hid (Below w.heap.size w w3):=HW.out.trans hb3;clear h3 hb3;go_wp2_with fail;refine(Any.Builder_String_any { Tryz.lays154 with } Tryz.Builder_Extra_154 w.heap.size w.heap.size _ w3 H3.out HB3.out.size).mono ?_;rintro e w5 ⟨rfl,hb5⟩;have HB5:Hid (Below w.heap.size w w5):=HB3.out.trans hb5;clear hb5;go_wp2;go_ret;exact⟨by simp,HB5.out⟩
theorem dfZ (s:ByteArray)(hs:s.size<=32)(w:World) :
  Calls prog 186 #[.string s,.string ⟨#[0]⟩,.string ⟨#[]⟩] w fun e w'=>e=.returned (.string ⟨(s.data.toList.filter (·≠0)).toArray⟩)/\Below w.heap.size w w':=by
 have k:=dfX s hs w;go_enter func186,ntmps186;go_wp2_with fail;refine k.mono ?_;rintro e w1 ⟨rfl,hb⟩;have HB:Hid (Below w.heap.size w w1):=hb;clear hb k;go_wp2;go_ret;exact⟨by simp,HB.out⟩
theorem dfJ (bs:List Nat)(h:∀ b∈bs,b<256):((bs.map UInt8.ofNat).filter (·≠0))=(bs.filter (·≠0)).map UInt8.ofNat:=by
 induction bs with
 | nil=>rfl
 | cons b bs ih =>
  have hb:=h b (by simp)
  have e:(UInt8.ofNat b=0)↔b=0:=by
   constructor
   ·intro h0
    have:=congrArg UInt8.toNat h0;rwa [UInt8.toNat_ofNat_of_lt' hb] at this
   ·rintro rfl;rfl
  rw[qI];by_cases c:b=0
  ·subst c
   rw[List.filter_cons_of_neg (by simp),List.filter_cons_of_neg (by simp),ih (fun x hx=>h x (by simp[hx]))]
  ·rw[List.filter_cons_of_pos (by simpa using fun h0=>c (e.1 h0)),List.filter_cons_of_pos (by simpa using c),qI,ih (fun x hx=>h x (by simp[hx]))]
theorem dgQ (x0 x1 x2 x3 x4 x5 x6 x7 x8:Int)(w:World) :
  Calls prog 151 #[.agg #[.int .i64 x0,.int .i64 x1,.int .i64 x2,.int .i64 x3,.int .i64 x4,.int .i64 x5,.int .i64 x6,.int .i64 x7,.int .i64 x8]] w fun e w'=>e=.returned (.string (eU (bA [x5,x6,x7,x8])))/\Below w.heap.size w w':=by
 obtain⟨X,hX⟩:∃ X,w.alloc (.cells #[.int .i64 x0,.int .i64 x1,.int .i64 x2,.int .i64 x3,.int .i64 x4,.int .i64 x5,.int .i64 x6,.int .i64 x7,.int .i64 x8] 187)=X:=⟨_,rfl⟩;have HN:Hid (wQ X w.heap.size [x0,x1,x2,x3,x4,x5,x6,x7,x8]):=hX▸wQ.new _ _ _ _ _ _ _ _ _ 187 rfl;have HB:Hid (Below w.heap.size w X):=hX▸ba _ _;have kb:=dfQ [x0,x1,x2,x3,x4,x5,x6,x7,x8] w.heap.size X rfl HN.out.2;obtain⟨l,hl⟩:∃ l,wby [x0,x1,x2,x3,x4,x5,x6,x7,x8]=l:=⟨_,rfl⟩;have hl32:l.length=32:=by rw[<-hl];exact apQ rfl
 have HLT:Hid (∀ b∈l,b<256):=by rw[<-hl];exact apX _
 have HNM:Hid (eU (bA [x5,x6,x7,x8])=⟨((eU l).data.toList.filter (·≠0)).toArray⟩):=by
  have h:=deX [x0,x1,x2,x3,x4,x5,x6,x7,x8];rw[hl] at h;have h2:bA [x5,x6,x7,x8]=l.filter (·≠0):=h;rw[Hid,h2];show(⟨((l.filter (·≠0)).map UInt8.ofNat).toArray⟩:ByteArray)=⟨(((l.map UInt8.ofNat).toArray.toList).filter (·≠0)).toArray⟩;rw[<-dfJ l HLT.out]
 have hsz:(eU l).size<=32:=by
  have:(eU l).size=l.length:=by simp[eU,ByteArray.size]
  omega
 have kr:=fun W=>dfZ (eU l) hsz W;rw[hl] at kb;rw[<-HNM.out] at kr;clear hl;go_enter func151,ntmps151;go_wp2_with fail;clear hX;refine kb.mono ?_;rintro e w1 ⟨rfl,hb1⟩;have HB1:Hid (Below w.heap.size w w1):=bt HB.out hb1;clear kb hb1;go_wp2_with fail;refine(kr _).mono ?_;rintro e w2 ⟨rfl,hb2⟩;have HB2:Hid (Below w.heap.size w w2):=bt HB1.out hb2;clear kr hb2;go_wp2;go_ret;exact⟨by simp,HB2.out⟩
end K.P
namespace K.P
open Go.RowKit K.Ds
theorem aqQ (xs:Array Value)(i:Nat)(v:Value)(w:World)(h:xs[i]? = some v):(part 2 xs i).run prog w=.ok v w:=by
 unfold part;simp only[Sem.run_bind,Tryz.isAgg2,cL,h,Bool.false_eq_true,jL,bO]
theorem eqL (d:Nat)(X Y:Array Value)(w:World):∀ (n k:Nat) (xs ys:List Int),xs.length=n->ys.length=n->(∀ i x,xs[i]? = some x->X[k+i]? = some (.int .i64 x))->(∀ i y,ys[i]? = some y->Y[k+i]? = some (.int .i64 y)) ->
  (forIn (List.range' k n) ((none,()):Option Bool × Unit) fun i _=>do
    let a <-part 2 X i
    let b <-part 2 Y i
    let e <-Op.equalIn (d+1) 2 a b
    if (!e)=true then pure (ForInStep.done (some false,())) else pure (ForInStep.yield (none,()))).run prog w=.ok (if xs=ys then (none,()) else (some false,())) w
 | 0,k,xs,ys,hx,hy,_,_=>by
  obtain rfl:=xK.1 hx;obtain rfl:=xK.1 hy;simp[bO]
 | n+1,k,x::xs,y::ys,hx,hy,hX,hY=>by
  have ih:=eqL d X Y w n (k+1) xs ys (by simpa using hx) (by simpa using hy) (fun i z hz=>by rw[show k+1+i=k+(i+1) by omega];exact hX (i+1) z (by simpa using hz)) (fun i z hz=>by rw[show k+1+i=k+(i+1) by omega];exact hY (i+1) z (by simpa using hz));have h1:=hX 0 x rfl;have h2:=hY 0 y rfl;rw[xN] at h1 h2;rw[List.range'_succ,List.forIn_cons];simp only[Sem.run_bind,aqQ X k _ w h1,aqQ Y k _ w h2,cL,run_equalIn_int w d 2 .i64 .i64 x y underlying2];by_cases c:x=y
  ·subst c
   simp only[beq_self_eq_true,Bool.not_true,Bool.false_eq_true,jL,bO,cL];rw[ih];simp
  ·have hb:(x == y)=false:=by simpa using c
   simp[hb,c,bO,cL]
theorem eq9 (w:World)(x0 x1 x2 x3 x4 x5 x6 x7 x8 y0 y1 y2 y3 y4 y5 y6 y7 y8:Int):(binOp .eql 187 (.agg #[.int .i64 x0,.int .i64 x1,.int .i64 x2,.int .i64 x3,.int .i64 x4,.int .i64 x5,.int .i64 x6,.int .i64 x7,.int .i64 x8]) (.agg #[.int .i64 y0,.int .i64 y1,.int .i64 y2,.int .i64 y3,.int .i64 y4,.int .i64 y5,.int .i64 y6,.int .i64 y7,.int .i64 y8])).run prog w=.ok (.bool (decide ([x0,x1,x2,x3,x4,x5,x6,x7,x8]=[y0,y1,y2,y3,y4,y5,y6,y7,y8]))) w:=by
 have key:∀ d:Nat,(Op.equalIn (d+1+1) 187 (.agg #[.int .i64 x0,.int .i64 x1,.int .i64 x2,.int .i64 x3,.int .i64 x4,.int .i64 x5,.int .i64 x6,.int .i64 x7,.int .i64 x8]) (.agg #[.int .i64 y0,.int .i64 y1,.int .i64 y2,.int .i64 y3,.int .i64 y4,.int .i64 y5,.int .i64 y6,.int .i64 y7,.int .i64 y8])).run prog w=.ok (decide ([x0,x1,x2,x3,x4,x5,x6,x7,x8]=[y0,y1,y2,y3,y4,y5,y6,y7,y8])) w:=by
  intro d;rw[Op.equalIn];simp only[Sem.run_bind,run_underlying underlying187,cL,Std.Legacy.Range.forIn_eq_forIn_range',Std.Legacy.Range.size,Nat.sub_zero,Nat.add_one_sub_one,Nat.div_one];rw[Tryz.sizeOf2];simp only[cL,Nat.mul_one]
  rw[eqL d _ _ w 9 0 [x0,x1,x2,x3,x4,x5,x6,x7,x8] [y0,y1,y2,y3,y4,y5,y6,y7,y8] rfl rfl (fun i x hi=>by
   match i,hi with
   | 0,hi | 1,hi | 2,hi | 3,hi | 4,hi | 5,hi | 6,hi | 7,hi | 8,hi=>cases hi;rfl) (fun i x hi=>by
   match i,hi with
   | 0,hi | 1,hi | 2,hi | 3,hi | 4,hi | 5,hi | 6,hi | 7,hi | 8,hi=>cases hi;rfl)]
  by_cases c:[x0,x1,x2,x3,x4,x5,x6,x7,x8]=[y0,y1,y2,y3,y4,y5,y6,y7,y8]
  ·rw[xQ c,vG c];simp[bO,cL]
  ·rw[qQ c,nV c];simp[bO,cL]
 rw[run_eql_struct];have h:=key 9998;rw[show(10000:Nat)=9998+1+1 from rfl,h];rfl

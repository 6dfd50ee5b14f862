import Derived.Test.YtpmioeamdhdokaaGreatQq36
import Derived.OrdersHeld
import Derived.OrdersIn
import Derived.Laws.StructEq
open Go.Proofs.Tryz
set_option linter.unusedSimpArgs false
set_option maxHeartbeats 16000000
set_option maxRecDepth 100000
namespace Go.Proofs.YtpmioeamdhdokaaGreat
variable {A w w' wr:World} {K K' N:Nat->Prop} {B B' R fuel gf i id l n n₀:Nat} {a b c d e f v:Value} {ss xs:List (List UInt8)} {r row:Option Nat} {g:Operand} {assign body:Code} {Q:Exit->Act->World->Prop} {lb:Array Value} {P:Program} {ops:Array Oper} {o oi:Oper} {listed:Array Bool} {rs:List Nat}
namespace K.P
open Go.RowKit K.Ds
open Go.Maps Go.Sort
def dX (done:List En):List (List UInt8):=((eY done).map (fun x=>x.data.toList)).mergeSort (fun x y=>decide (x<=y))
theorem ebQ (done:List En):(dX done).length=(eY done).length:=by simp[dX]
theorem ebX (done:List En)(x:List UInt8):x∈dX done↔∃ y∈eY done,y.data.toList=x:=by simp[dX]
theorem ebZ {bk bm:Nat}{D:DataW Value}{done:List En}(h:BookM w N bk bm n v D done)(hs:ss.Perm (strKeys D)):ss.mergeSort (fun x y=>decide (x<=y))=dX done:=by
 have hp:((eY done).map (fun x=>x.data.toList)).Perm (strKeys D):=by
  obtain⟨es,rfl,hko⟩:=h.own.keysOf;obtain⟨es',hD',hpw,_⟩:=h.own.entries vC;obtain rfl:es=es':=by simpa using hD'
  refine perm_strKeys hpw (fun p hp=>by obtain⟨v,hv⟩:=hko p hp;obtain⟨y,_,hy,_⟩:=Maps.keyOf_str underlying9 hv;exact⟨y,hy⟩) ?_ (fun x=>?_)
  ·refine sC.2 (h.inv.nod.imp fun {a b} hab e=>hab ?_)
   apply ByteArray.ext;exact Array.toList_inj.1 e
  ·constructor
   ·intro hx
    obtain⟨y,hy,rfl⟩:=wX.1 hx;refine(h.is y).2 ?_;cases hb:sX done y with
    | some b=>exact⟨b,rfl⟩
    | none=>exact absurd hy ((lR done y).1 hb)
   ·intro hx
    have h1:Maps.has (DataW.map es) (kN ⟨x.toArray⟩)=true:=by simpa [kN] using hx
    obtain⟨b,hb⟩:=(h.is ⟨x.toArray⟩).1 h1
    have:(⟨x.toArray⟩:ByteArray)∈eY done:=by
     refine aoZ fun hn=>?_;rw[(lR done _).2 hn] at hb;cases hb
    exact wX.2 ⟨_,this,by simp⟩
 exact mergeSort_of_perm (hs.trans hp.symm)
theorem ebJ (N:Nat->Prop)(bk bm n:Nat)(v:Value)(D:DataW Value)(done:List En)(w:World)(hB:BookM w N bk bm n v D done) :
  Calls prog 76 #[.pointer (some ⟨bk,0,none⟩)] w fun x w'=>∃ g r,x=.returned (.func (.func 141) #[] #[.pointer (some ⟨g,0,none⟩)])/\Below w.heap.size w w'/\w.heap.size<=g/\g<w'.heap.size/\w'.cell? ⟨g,0,none⟩=some r/\w'.ownsRow w.heap.size 9 1 r (dX done).length ((dX done).map encStr):=by
 have HB:=qQ hB;have hln:=hB.inv.len;have hcn:=hB.cnt;obtain⟨t0,t1,tf0,tf1,htl⟩:=hB.two;clear hB;go_enter func76,ntmps76;go_wp2_with fail;refine(dyQ _ _).mono ?_;rintro e1 w1 ⟨rfl,rfl⟩;go_wp2_with fail;refine(dyZ _ bm n D hR _ (by simp) (nc _ _ 0 _ rfl rfl) (HB.out.own.alloc _) (by omega)).mono ?_;rintro e2 w2 ⟨r,ss,rfl,hp,hrow,hb2⟩;have hss:=ebZ HB.out hp;have hsl:ss.length=(dX done).length:=by rw[<-hss,List.length_mergeSort]
 rw[hss,hsl] at hrow;have HR:=qQ hrow
 obtain⟨ra,rc,rfl⟩:∃ a c,r=.slice a (dX done).length c:=by
  rcases hrow.2 with⟨h1,h2⟩|⟨g,cap,cur,h1,_⟩
  ·exact⟨none,0,by rw[h1,h2]⟩
  ·exact⟨_,_,h1⟩
 clear hp hss hsl hrow;go_wp2;go_ret;refine⟨_,_,rfl,bal (bt (ba _ _) hb2) _,?_,by simp,nc _ _ 0 _ rfl rfl,?_⟩
 ·have:=hb2.size;simp at this;omega
 ·exact ownsRow_base_a ((HR.out).kept (uN w2 _ none) (by cases h:(Value.slice ra (dX done).length rc).ownBlock <;> simp)) (by simp)
end K.P
namespace K.P
open Go.RowKit Go.Shelf K.Ds
structure Kpt (K:Nat->Prop) (W W':World):Prop where
 size:W.heap.size<=W'.heap.size
 same:∀ b,K b->W'.heap[b]? = W.heap[b]?
theorem Kpt.trans {B C:World}(h:Kpt K A B)(k:Kpt K B C):Kpt K A C:=⟨bQ h.size k.size,fun b hb=>(k.same b hb).trans (h.same b hb)⟩
theorem Kpt.imp {B:World}(h:Kpt K A B)(hk:∀ b,K' b->K b):Kpt K' A B:=⟨h.size,fun b hb=>h.same b (hk b hb)⟩
theorem Kpt.put (W:World)(l:Nat)(o:Obj)(h:¬ K l):Kpt K W (W.putObj l o):=⟨by simp,fun b hb=>jL (fun e=>h (by rw[<-e];exact hb))⟩
theorem Kpt.of_below {B:World}(h:Below n₀ A B)(hK:∀ b,K b->b<n₀):Kpt K A B:=⟨h.size,fun b hb=>h.block b (hK b hb)⟩
theorem Kpt.of_gb {B:World}(h:A.grownBy B row)(hK:∀ b,K b->b<A.heap.size/\row≠some b):Kpt K A B:=⟨h.size,fun b hb=>h.block b (hK b hb).1 (fun e=>(hK b hb).2 e.symm)⟩
def zN {β:Type} (lo:Nat) (J:Nat->List β->World->Prop):Prop :=
 ∀ m pre A B row,lo<=m->J m pre A->A.grownBy B row->(∀ r,row=some r->lo<=r/\r<m)->J m pre B
theorem zN.put {β:Type}{lo m:Nat}{J:Nat->List β->World->Prop}{pre:List β}(h:zN lo J)(hJ:J m pre A)(hlo:lo<=l)(hl:l<m)(o:Obj):J m pre (A.putObj l o) :=
 h m pre A _ _ (by omega) hJ (grownBy_putObj' A l o) (fun r e=>by cases e;exact⟨hlo,hl⟩)
def bkX (n fid:Nat) (lb:Array Value) {β:Type} (Hd:β->World->World->Array Value->Prop) (K:Nat->Prop) (S:List β) (W0:World):Prop :=
 ∀ (y:Nat) (J Jx:Nat->List β->World->Prop),zN W0.heap.size J->zN W0.heap.size Jx ->
  (∀ W',W0.grownBy W' none->J W'.heap.size [] W') ->
  (∀ m pre x Wc W1 args,W0.heap.size<=m->m<=Wc.heap.size->pre++[x] <+: S->J m pre Wc->Below Wc.heap.size Wc W1->Hd x Wc W1 args ->
   YieldAt Fence.wide (n - 1) prog y args W1 fun e W' =>
    (e=.returned (.bool true)/\J m (pre++[x]) W'/\Kpt (fun b=>K b\/(W0.heap.size<=b/\b<m)) W1 W') \/
    (e=.returned (.bool false)/\Jx m (pre++[x]) W'/\Kpt (fun b=>K b\/(W0.heap.size<=b/\b<m)) W1 W')) ->
  CallsIn Fence.wide n prog fid (#[.func (.yield y) #[] #[]]++lb) W0 fun e W'=>(∃ v,e=.returned v)/\∃ m,W0.heap.size<=m/\(J m S W'\/∃ pre,Jx m pre W')
def ecQ {β:Type} (K:Nat->Prop) (I Ix:Nat->List β->World->Prop) (m:Nat) (xs:List β) (W:World):Exit->Act->World->Prop
 | .normal,_,W'=>I m xs W'/\Kpt K W W'
 | .ret,_,W'=>Ix m xs W'/\Kpt K W W'
 | _,_,_=>False
theorem ecX {β:Type}{ps:Array Tmp}{a:Act}(h1:1<=n)
  (hg:a.eval g=.func (.func gf) #[] lb) (eg:∀ args w,(callFunc gf args).run prog w=.ok (.enter gf args) w)
  {Hd:β->World->World->Array Value->Prop} {K:Nat->Prop} {S:List β}
  (hseq:∀ W0,w.grownBy W0 none->W0.heap.size=w.heap.size+2->bkX (n - 1) gf lb Hd K S W0)
  (hK:∀ b,K b->b<w.heap.size) (hps:∀ x Wc W1 args,Hd x Wc W1 args->args.size=ps.size)
  (I Ix:Nat->List β->World->Prop) (hI:zN w.heap.size I) (hIx:zN w.heap.size Ix) (h0:∀ W',w.grownBy W' none->I W'.heap.size [] W')
  (Ax:Nat->List β->β->Act->World->World->Prop)
  (hAx:∀ m pre x a' Wc W o,w.heap.size+2<=m->m<=Wc.heap.size->Below Wc.heap.size Wc W->Ax m pre x a' Wc W->Ax m pre x a' (Wc.putObj (w.heap.size+1) o) (W.putObj (w.heap.size+1) o))
  (hassign:∀ (l m:Nat) (pre:List β) (x:β) (Wc W1:World) (args:Array Value),w.heap.size+2<=m->m<=Wc.heap.size->pre++[x] <+: S->I m pre Wc->Below Wc.heap.size Wc W1->Hd x Wc W1 args ->
   assign.wpIn (Fence.wide.inRound l) (n - 1 - 1) prog (Exit.then (fun a' W2=>Below W1.heap.size W1 W2/\Ax m pre x a' Wc W2) (fun _ _ _=>False)) { tmps:=(ps.zip args).foldl (fun t (p,v)=>t.setIfInBounds p v) a.tmps,defers:=[] } W1)
  (hbody:∀ (l m:Nat) (pre:List β) (x:β) (a':Act) (Wc W2:World),w.heap.size+2<=m->m<=Wc.heap.size->pre++[x] <+: S->Below Wc.heap.size Wc W2->Ax m pre x a' Wc W2 ->
   body.wpIn (Fence.wide.inRound l) (n - 1 - 1) prog (ecQ (fun b=>K b\/(w.heap.size<=b/\b<m)) I Ix m (pre++[x]) W2) a' W2)
  (hdone:∀ (D m:Nat) (W:World),w.heap.size<=D->D<m->I m S W->W.heap[D]? = some (.deferred (some []))->Q .normal { a with defers:={ target:=.collected D,args:=#[] }::a.defers } W)
  (hstop:∀ (D m:Nat) (pre:List β) (W:World),w.heap.size<=D->D<m->Ix m pre W->W.heap[D]? = some (.deferred (some []))->Code.ret.wpIn Fence.wide n prog Q { a with defers:={ target:=.collected D,args:=#[] }::a.defers } W) :
  (Code.rangeFunc g ps assign body).wpIn Fence.wide n prog Q a w:=by
 refine wpIn_rangeFunc fun fn hfn=>?_;obtain⟨W0,hW0⟩:∃ W0,(w.alloc (.deferred (some []))).alloc (.loop { state:=.ready,pending:=none,fn:=fn,tmps:=a.tmps,params:=ps,assign:=assign,body:=body,defers:=w.heap.size })=W0:=⟨_,rfl⟩;have hz:W0.heap.size=w.heap.size+2:=by rw[<-hW0];simp
 have hgr:w.grownBy W0 none:=by rw[<-hW0];exact sA (uN w _ none) _
 have hL0:W0.heap[w.heap.size+1]? = some (.loop { state:=.ready,pending:=none,fn:=fn,tmps:=a.tmps,params:=ps,assign:=assign,body:=body,defers:=w.heap.size }):=by
  have h:=qM (w.alloc (.deferred (some []))) (.loop { state:=.ready,pending:=none,fn:=fn,tmps:=a.tmps,params:=ps,assign:=assign,body:=body,defers:=w.heap.size });rw[vP] at h;rw[<-hW0];exact h
 have hD0:W0.heap[w.heap.size]? = some (.deferred (some [])):=by
  rw[<-hW0];exact(wL _ _ _ (by simp)).trans (qM w _)
 refine⟨w.heap.size+1,[{ target:=.collected w.heap.size,args:=#[] }],W0,{ target:=.fn (.func gf) lb,args:=#[.func (.yield (w.heap.size+1)) #[] #[]] },W0,gf,#[.func (.yield (w.heap.size+1)) #[] #[]]++lb,W0,by rw[<-hW0];exact run_enterLoop_outer _ _ _ _ _,by simp only[resolve,hg];simp[go_sem],fun _ _=>trivial,by simp[invoke,go_sem,eg],fun _=>h1,?_⟩
 refine(hseq W0 hgr hz (w.heap.size+1)
  (fun m pre W=>I m pre W/\W.heap[w.heap.size+1]? = some (.loop { state:=.ready,pending:=none,fn:=fn,tmps:=a.tmps,params:=ps,assign:=assign,body:=body,defers:=w.heap.size })/\W.heap[w.heap.size]? = some (.deferred (some [])))
  (fun m pre W=>Ix m pre W/\W.heap[w.heap.size+1]? = some (.loop { state:=.done,pending:=some .ret,fn:=fn,tmps:=a.tmps,params:=ps,assign:=assign,body:=body,defers:=w.heap.size })/\W.heap[w.heap.size]? = some (.deferred (some [])))
  ?cl ?clx ?st ?yi).mono ?_
 case cl =>
  intro m pre A B row hm hJ hg2 hr;refine⟨hI m pre A B row (by omega) hJ.1 hg2 (fun r e=>by have:=hr r e;omega),(hg2.block _ (zJ.1 hJ.2.1).1 (fun e=>by have:=hr _ e.symm;omega)).trans hJ.2.1,(hg2.block _ (zJ.1 hJ.2.2).1 (fun e=>by have:=hr _ e.symm;omega)).trans hJ.2.2⟩
 case clx =>
  intro m pre A B row hm hJ hg2 hr;refine⟨hIx m pre A B row (by omega) hJ.1 hg2 (fun r e=>by have:=hr r e;omega),(hg2.block _ (zJ.1 hJ.2.1).1 (fun e=>by have:=hr _ e.symm;omega)).trans hJ.2.1,(hg2.block _ (zJ.1 hJ.2.2).1 (fun e=>by have:=hr _ e.symm;omega)).trans hJ.2.2⟩
 case st =>
  intro W' hg2;exact⟨h0 W' (bY hgr hg2),(hg2.block _ (by omega) (by simp)).trans hL0,(hg2.block _ (by omega) (by simp)).trans hD0⟩
 case yi =>
  rintro m pre x Wc W1 args hm hmc hpx ⟨hi,hl,hd⟩ hb hH;have hlc:w.heap.size+1<Wc.heap.size:=by omega
  have hl1:=(hb.block _ hlc).trans hl;have hy:=run_yield (P:=prog) (args:=args) hl1 (hps x Wc W1 args hH);refine⟨fn,_,assign,body,hy,roundIn_of_wpIn hfn ?_⟩;refine wpIn_mono (hassign (w.heap.size+1) m pre x Wc W1 args (by omega) hmc hpx hi hb hH) ?_;rintro e a' W2 he;cases e with
  | normal =>
   obtain⟨hb2,hax⟩:=he;have hlw1:w.heap.size+1<W1.heap.size:=by have:=hb.size;omega
   have hl2:=(hb2.block _ hlw1).trans hl1;have hd2:W2.heap[w.heap.size]? = some (.deferred (some [])):=(hb2.block _ (by omega)).trans ((hb.block _ (by omega)).trans hd);refine⟨_,run_beginRound hl2 rfl,?_⟩;obtain⟨Wb,hWb⟩:∃ Wb,W2.putObj (w.heap.size+1) (.loop { state:=.busy,pending:=none,fn:=fn,tmps:=a.tmps,params:=ps,assign:=assign,body:=body,defers:=w.heap.size })=Wb:=⟨_,rfl⟩;obtain⟨Wd,hWd⟩:∃ Wd,Wc.putObj (w.heap.size+1) (.loop { state:=.busy,pending:=none,fn:=fn,tmps:=a.tmps,params:=ps,assign:=assign,body:=body,defers:=w.heap.size })=Wd:=⟨_,rfl⟩;have hs2:w.heap.size+1<W2.heap.size:=by have:=hb2.size;omega
   have hlb:Wb.heap[w.heap.size+1]? = some (.loop { state:=.busy,pending:=none,fn:=fn,tmps:=a.tmps,params:=ps,assign:=assign,body:=body,defers:=w.heap.size }):=by rw[<-hWb];exact rE hs2
   have hdb:Wb.heap[w.heap.size]? = some (.deferred (some [])):=by rw[<-hWb];exact(jL (by omega)).trans hd2
   have hzd:Wd.heap.size=Wc.heap.size:=by rw[<-hWd];simp
   have hbc2:Below Wc.heap.size Wc W2:=bt hb hb2
   have hbd:Below Wd.heap.size Wd Wb:=by
    rw[hzd,<-hWb,<-hWd];refine⟨hbc2.os,hbc2.tape,hbc2.output,by simpa using hbc2.size,fun k hk=>?_⟩;by_cases e:k=w.heap.size+1
    ·subst e
     rw[rE hs2,rE hlc]
    ·rw[jL e,jL e]
     exact hbc2.block k hk
   have hax2:Ax m pre x a' Wd Wb:=by rw[<-hWb,<-hWd];exact hAx m pre x a' Wc W2 _ (by omega) hmc hbc2 hax
   show body.wpIn (Fence.wide.inRound (w.heap.size+1)) _ _ _ a' (W2.putObj (w.heap.size+1) (.loop { state:=.busy,pending:=none,fn:=fn,tmps:=a.tmps,params:=ps,assign:=assign,body:=body,defers:=w.heap.size }))
   rw[hWb];refine wpIn_mono (hbody (w.heap.size+1) m pre x a' Wd Wb (by omega) (by omega) hpx hbd hax2) ?_
   have hKw1:∀ b,(K b\/(W0.heap.size<=b/\b<m))->b<W1.heap.size:=by
    intro b h;have:=hb.size;rcases h with h|h
    ·have:=hK b h;omega
    ·omega
   have hKl:¬ (K (w.heap.size+1)\/(W0.heap.size<=w.heap.size+1/\w.heap.size+1<m)):=by
    rintro(h|h)
    ·have:=hK _ h;omega
    ·omega
   have kin:Kpt (fun b=>K b\/(W0.heap.size<=b/\b<m)) W1 Wb:=by
    have k1:Kpt (fun b=>K b\/(W0.heap.size<=b/\b<m)) W1 W2:=Kpt.of_below hb2 hKw1;rw[<-hWb];exact k1.trans (Kpt.put _ _ _ hKl)
   have kout:∀ (W3:World) (o:Obj),Kpt (fun b=>K b\/(w.heap.size<=b/\b<m)) Wb W3->Kpt (fun b=>K b\/(W0.heap.size<=b/\b<m)) W1 (W3.putObj (w.heap.size+1) o):=fun W3 o k =>
    (kin.trans (k.imp fun b h=>h.imp id (fun h=>by omega))).trans (Kpt.put _ _ _ hKl)
   rintro e a3 W3 hp;cases e with
   | normal =>
    obtain⟨hi3,hk3⟩:=hp;have hl3:=(hk3.same (w.heap.size+1) (.inr (by omega))).trans hlb;have hd3:=(hk3.same w.heap.size (.inr (by omega))).trans hdb;refine⟨_,_,run_endRound none hl3,.inl ⟨rfl,⟨hI.put hi3 (by omega) (by omega) _,rE (zJ.1 hl3).1,(jL (by omega)).trans hd3⟩,kout W3 _ hk3⟩⟩
   | ret =>
    obtain⟨hi3,hk3⟩:=hp;have hl3:=(hk3.same (w.heap.size+1) (.inr (by omega))).trans hlb;have hd3:=(hk3.same w.heap.size (.inr (by omega))).trans hdb;refine⟨_,_,run_endRound (some .ret) hl3,.inr ⟨rfl,⟨hIx.put hi3 (by omega) (by omega) _,rE (zJ.1 hl3).1,(jL (by omega)).trans hd3⟩,kout W3 _ hk3⟩⟩
   | exit id=>exact hp.elim
   | goto t=>exact hp.elim
   | panic ch=>exact hp.elim
   | outgrown=>exact hp.elim
  | exit id=>exact he.elim
  | goto t=>exact he.elim
  | ret=>exact he.elim
  | panic ch=>exact he.elim
  | outgrown=>exact he.elim
 ·rintro e W2 ⟨⟨v,rfl⟩,m,hm,⟨hi,hl,hd⟩|⟨pre,hi,hl,hd⟩⟩
  ·exact⟨none,_,run_endLoop (P:=prog) hl (by simp),hdone _ m _ (vQ _) (by omega) (hI.put hi (by omega) (by omega) _) ((jL (by omega)).trans hd)⟩
  ·exact⟨some .ret,_,run_endLoop (P:=prog) hl (by simp),hstop _ m pre _ (vQ _) (by omega) (hIx.put hi (by omega) (by omega) _) ((jL (by omega)).trans hd)⟩
attribute [local go_sem] Oper.semAt_some
structure NamF (w:World) (g b:Nat) (a:Option Addr) (c:Nat) (xs:List (List UInt8)):Prop where
 cc:w.cell? ⟨g,0,none⟩=some (.slice a xs.length c)
 ax:xs≠[]->a=some ⟨b,0,none⟩
 cx:∀ i x,xs[i]? = some x->w.cell? ⟨b,i,none⟩=some (encStr x)
theorem NamF.kpt {g b:Nat}{a:Option Addr}{c:Nat}(h:NamF w g b a c xs)(k:Kpt K w w')(h1:K g)(h2:K b):NamF w' g b a c xs :=
 ⟨(oZ (w:=w) (a:=⟨g,0,none⟩) (k.same _ h1)).trans h.cc,h.ax,fun i x hi=>(oZ (w:=w) (a:=⟨b,i,none⟩) (k.same _ h2)).trans (h.cx i x hi)⟩
def HdN (x:List UInt8) (Wc W1:World) (args:Array Value):Prop:=W1=Wc/\args = #[encStr x]
theorem nseq (n:Nat)(hn:1<=n)(g b:Nat)(a:Option Addr)(c:Nat)(xs:List (List UInt8))(K:Nat->Prop)(W0:World)(hsm:xs.length<=4096)(hf:NamF W0 g b a c xs)(kg:K g)(kb:K b) :
  bkX n 141 #[.pointer (some ⟨g,0,none⟩)] HdN K xs W0:=by
 intro y J Jx hJ hJx hst hY;have HF0:=qQ hf;have c0:=hf.cc;have HJ0:Hid (J W0.heap.size [] W0):=hst W0 (vX _ _);obtain⟨m,hm⟩:∃ m,W0.heap.size=m:=⟨_,rfl⟩;have HM0:Hid (m<=W0.heap.size):=by rw[Hid,hm];exact vQ _
 rw[hm] at HJ0;have hm0:W0.heap.size<=m:=by omega
 clear hf hm;refine callsIn_of_wp func141 rfl trivial ?_ rfl;simp only[ntmps141,eE,oJ,qG,Nat.reduceAdd,Nat.reduceSub,fE,gE,iE,kE,gP,pA];gi_wp2;gi_loopw [7] (fun s wr=>∃ (k:Nat),s=.int .i64 (k:Int)/\k<=xs.length/\Hid (J m (xs.take k) wr)/\Hid (NamF wr g b a c xs)/\Hid (m<=wr.heap.size)) (fun s _=>xs.length - (intOf s).toNat)
 case atStart=>exact⟨0,rfl,kQ _,HJ0,HF0,HM0⟩
 case round =>
  obtain⟨k,rfl,hk,HJ,HF,HM⟩:=hrel;by_cases hk1:k<xs.length
  ·obtain⟨x,hx⟩:=cX hk1
   obtain rfl:=HF.out.ax (ne_of_lt hk1);have e1:=HF.out.cx k x hx;have e0:=HF.out.cc;have z1:(k:Int)<(xs.length:Int):=by omega
   have htk:xs.take (k+1)=xs.take k++[x]:=by rw[gZ,hx];rfl
   have HTK:=qQ htk;have hpx:xs.take k++[x] <+: xs:=by rw[<-htk];exact List.take_prefix _ _
   obtain⟨fn,tmps,assign,body,hy,hR⟩:=hY m (xs.take k) x wr wr #[encStr x] hm0 HM.out hpx HJ.out (aQ _ _) ⟨rfl,rfl⟩;clear hx htk hpx;gi_wp2;refine hR.mono ?_;rintro e W5 (⟨rfl,hJ5,hk5⟩|⟨rfl,hJx5,hk5⟩)
   ·have HF5:Hid (NamF W5 g b (some ⟨b,0,none⟩) c xs):=HF.out.kpt hk5 (.inl kg) (.inl kb)
    have HM5:=qQ (bQ HM.out hk5.size);have HJ5:Hid (J m (xs.take (k+1)) W5):=by rw[Hid,HTK.out];exact hJ5
    clear hJ5;gi_wp2
    go_roundw
    case rel=>exact⟨k+1,by go_num,by omega,HJ5,HF5,HM5⟩
    case measure=>simp[intOf];omega
   ·gi_wp2
    refine uQ (uD rfl _ _ _) rfl ?_;exact⟨⟨_,rfl⟩,m,hm0,.inr ⟨_,hJx5⟩⟩
  ·have hk2:k=xs.length:=by omega
   subst hk2;have e0:=HF.out.cc;gi_wp2;go_end0;exact⟨⟨_,rfl⟩,m,hm0,.inl (by have:=HJ.out;rwa [wD] at this)⟩
theorem nfun (n:Nat)(hn:1<=n)(g b:Nat)(a:Option Addr)(c:Nat)(xs:List (List UInt8))(K:Nat->Prop)(W0:World)(hsm:xs.length<=4096)(hf:NamF W0 g b a c xs)(kg:K g)(kb:K b)(lb:Array Value)(J Jx:Nat->List (List UInt8)->World->Prop)(hst:∀ W',W0.grownBy W' none->J W'.heap.size [] W')
  (hY:∀ m pre x Wc,W0.heap.size<=m->m<=Wc.heap.size->pre++[x] <+: xs->J m pre Wc ->
   Calls prog 78 (#[encStr x]++lb) Wc fun e W' =>
    (e=.returned (.bool true)/\J m (pre++[x]) W'/\Kpt (fun b=>K b\/(W0.heap.size<=b/\b<m)) Wc W') \/
    (e=.returned (.bool false)/\Jx m (pre++[x]) W'/\Kpt (fun b=>K b\/(W0.heap.size<=b/\b<m)) Wc W')) :
  CallsIn Fence.wide n prog 141 #[.func (.func 78) #[] lb,.pointer (some ⟨g,0,none⟩)] W0 fun e W'=>(∃ v,e=.returned v)/\∃ m,W0.heap.size<=m/\(J m xs W'\/∃ pre,Jx m pre W'):=by
 have HF0:=qQ hf;have c0:=hf.cc;have HJ0:Hid (J W0.heap.size [] W0):=hst W0 (vX _ _);obtain⟨m,hm⟩:∃ m,W0.heap.size=m:=⟨_,rfl⟩;have HM0:Hid (m<=W0.heap.size):=by rw[Hid,hm];exact vQ _
 rw[hm] at HJ0;have hm0:W0.heap.size<=m:=by omega
 clear hf hm;refine callsIn_of_wp func141 rfl trivial ?_ rfl;simp only[ntmps141,eE,oJ,qG,Nat.reduceAdd,Nat.reduceSub,fE,gE,iE,kE,gP,pA];gi_wp2;gi_loopw [7] (fun s wr=>∃ (k:Nat),s=.int .i64 (k:Int)/\k<=xs.length/\Hid (J m (xs.take k) wr)/\Hid (NamF wr g b a c xs)/\Hid (m<=wr.heap.size)) (fun s _=>xs.length - (intOf s).toNat)
 case atStart=>exact⟨0,rfl,kQ _,HJ0,HF0,HM0⟩
 case round =>
  obtain⟨k,rfl,hk,HJ,HF,HM⟩:=hrel;by_cases hk1:k<xs.length
  ·obtain⟨x,hx⟩:=cX hk1
   obtain rfl:=HF.out.ax (ne_of_lt hk1);have e1:=HF.out.cx k x hx;have e0:=HF.out.cc;have z1:(k:Int)<(xs.length:Int):=by omega
   have htk:xs.take (k+1)=xs.take k++[x]:=by rw[gZ,hx];rfl
   have HTK:=qQ htk;have hpx:xs.take k++[x] <+: xs:=by rw[<-htk];exact List.take_prefix _ _
   have hR:=hY m (xs.take k) x wr hm0 HM.out hpx HJ.out;clear hx htk hpx;gi_wp2_with fail;refine⟨trivial,?_⟩;refine(qA.2 hR).mono ?_;rintro e W5 (⟨rfl,hJ5,hk5⟩|⟨rfl,hJx5,hk5⟩)
   ·have HF5:Hid (NamF W5 g b (some ⟨b,0,none⟩) c xs):=HF.out.kpt hk5 (.inl kg) (.inl kb)
    have HM5:=qQ (bQ HM.out hk5.size);have HJ5:Hid (J m (xs.take (k+1)) W5):=by rw[Hid,HTK.out];exact hJ5
    clear hJ5;gi_wp2
    go_roundw
    case rel=>exact⟨k+1,by go_num,by omega,HJ5,HF5,HM5⟩
    case measure=>simp[intOf];omega
   ·gi_wp2
    refine uQ (uD rfl _ _ _) rfl ?_;exact⟨⟨_,rfl⟩,m,hm0,.inr ⟨_,hJx5⟩⟩
  ·have hk2:k=xs.length:=by omega
   subst hk2;have e0:=HF.out.cc;gi_wp2;go_end0;exact⟨⟨_,rfl⟩,m,hm0,.inl (by have:=HJ.out;rwa [wD] at this)⟩
theorem ecZ (E Bn Bk nb nc i:Nat)(xs:List (List UInt8))(x:List UInt8)(w:World)(hi:i<xs.length)(hsm:xs.length<=4096)
  (h5:w.cell? ⟨E,5,none⟩=some (.bool true)) (f5:w.frozen? ⟨E,5,none⟩=false) (h2:w.cell? ⟨E,2,none⟩=some (.slice (some ⟨nb,0,none⟩) xs.length nc)) (hx:w.cell? ⟨nb,i,none⟩=some (encStr x))
  (hn:w.cell? ⟨Bn,0,none⟩=some (.bool false)) (fn:w.frozen? ⟨Bn,0,none⟩=false) (hk:w.cell? ⟨Bk,0,none⟩=some (.int .i64 (i:Int))) (fk:w.frozen? ⟨Bk,0,none⟩=false)
  (d1:E≠Bn) (d2:E≠Bk) (d3:Bn≠Bk) (r:Bool) (hr:decide (xs.length / 2<i+1) = !r) :
  Calls prog 78 #[encStr x,.pointer (some ⟨E,0,none⟩),.pointer (some ⟨Bn,0,none⟩),.pointer (some ⟨Bk,0,none⟩)] w fun e w' =>
   e=.returned (.bool r)/\w' = ((w.setCell ⟨E,5,none⟩ (.bool true)).setCell ⟨Bk,0,none⟩ (.int .i64 ((i:Int)+1))).setCell ⟨Bn,0,none⟩ (.bool (!r)):=by
 have ht:(xs.length:Int).tdiv 2=((xs.length / 2:Nat):Int):=by rw[Int.tdiv_eq_ediv_of_nonneg (by omega)];rfl
 have hw:IntKind.i64.wrap ((i:Int)+1)=(i:Int)+1:=by rw[aU];omega
 have hil:(i:Int)<(xs.length:Int):=by omega
 have hd1:Bn≠E:=fun e=>d1 e.symm;have hd2:Bk≠E:=fun e=>d2 e.symm;have hd3:Bk≠Bn:=fun e=>d3 e.symm;obtain⟨hf,hhf⟩:∃ hf,xs.length / 2=hf:=⟨_,rfl⟩;rw[hhf] at ht hr;have hhb:hf<=4096:=by omega
 clear hhf;cases r with
 | true =>
  have hq:decide ((hf:Int)<(i:Int)+1)=false:=oV (by have:=yM (by simpa using hr:decide (hf<i+1)=false);omega);clear hr;go_enter func78,ntmps78;go_wp2;go_ret;exact⟨rfl,rfl⟩
 | false =>
  have hq:decide ((hf:Int)<(i:Int)+1)=true:=xG (by have:=qH (by simpa using hr:decide (hf<i+1)=true);omega);clear hr;go_enter func78,ntmps78;go_wp2;go_ret;exact⟨rfl,rfl⟩
end K.P
namespace K.P
open Go.RowKit
theorem ecJ (hd:∀ (j:Nat) (o:Oper),ops[j]? = some o->∀ c,o.op≠.defer c)(hQ:¬ LetsOut Q){K:Act->World->Prop}{a:Act}(h:wpOp P ops Q i K a w) :
  wpOpIn (Fence.wide.inRound l) n P ops Q i K a w:=by
 unfold wpOp at h;unfold wpOpIn;cases ho:ops[i]? with
 | none=>simpa [ho] using h
 | some o =>
  simp only[ho] at h ⊢;by_cases hw:Region.wanted o (yielded ops a.tmps)=true
  ·rw[zQ hw] at h ⊢
   rcases h with h|h
   ·refine⟨fun _ _=>trivial,?_⟩
    rw[Oper.semAt_eq _ _ _ (hd i o ho)];unfold Oper.wp at h;generalize (execOp a.eval o).run P w=r at h ⊢;cases r with
    | ok x w' =>
     cases x
     case value v=>exact h
     case skip=>exact h
     case defer d=>exact h
     case enter f args=>exact⟨(fun c=>by cases c),(qA (n:=n - 1)).2 h⟩
     case row row args=>exact⟨(fun c=>by cases c),(fun c cs _=>let ⟨v,w'',r,st⟩:=h c cs;⟨v,w'',r,stepsIn_wide.2 st⟩)⟩
     all_goals exact h.elim
    | halt x w'=>cases x <;> exact h
   ·exact absurd h.2 hQ
  ·rw[xQ hw] at h ⊢
   exact⟨fun _ _=>trivial,h⟩
theorem bkJ {l n:Nat}{P:Program}{ops:Array Oper}{md:Region.Mode}{Q:Exit->Act->World->Prop}(hd:∀ (j:Nat) (o:Oper),ops[j]? = some o->∀ c,o.op≠.defer c)(hQ:¬ LetsOut Q) :
  ∀ (fuel:Nat) (listed:Array Bool) (a:Act) (w:World),wpAny P md ops Q fuel listed a w->wpAnyIn (Fence.wide.inRound l) n P md ops Q fuel listed a w
 | 0,_,_,_,h=>h
 | fuel+1,_,_,_,h=>⟨h.1,fun i hi=>wpOpIn_mono (fun a' w' h'=>bkJ hd hQ fuel _ a' w' h') (ecJ hd hQ (h.2 i hi))⟩
section
variable {P:Program} {ops:Array Oper} {Q:Exit->Act->World->Prop} {md:Region.Mode} {S:World->Prop} {J:Nat->Bool}
def bG (P:Program) (md:Region.Mode) (ops:Array Oper) (Q:Exit->Act->World->Prop) (S:World->Prop) (J:Nat->Bool):Nat->Array Bool->Act->World->Prop
 | 0,listed,a,w=>Region.ready md ops listed=[]/\Q .normal a w
 | fuel+1,listed,a,w=>(Region.ready md ops listed=[]->Q .normal a w) /\
  ∀ i∈Region.ready md ops listed,wpOp P ops Q i (fun a' w'=>(J i=true->S w')/\bG P md ops Q S J fuel (listed.setIfInBounds i true) a' w') a w
theorem tR:∀ (fuel:Nat) (listed:Array Bool) (a:Act) (w:World),bG P md ops Q S J fuel listed a w->wpAny P md ops Q fuel listed a w
 | 0,_,_,_,h=>h
 | fuel+1,_,_,_,h=>⟨h.1,fun i hi=>wpOp_mono (fun a' w' h'=>tR fuel _ a' w' h'.2) (h.2 i hi)⟩
def aeZ (md:Region.Mode) (ops:Array Oper) (J:Nat->Bool) (i:Nat):Prop:=∀ j oj,ops[j]? = some oj->J j=false->∃ e∈oj.after,Region.binds md e=true/\e.on=i
theorem edQ (hi:ops[i]? = some oi)(hJi:J i=true)(hW:aeZ md ops J i)(hsel:∀ (j:Nat) (o:Oper) cs b,ops[j]? = some o->o.op≠.select cs b)
  (hQ:∀ c a w,Q (.panic c) (a.put oi.dst v) w->Q (.panic c) a w) :
  ∀ (fuel:Nat) (listed:Array Bool) (a:Act) (w:World),
   (∀ j oj,ops[j]? = some oj->j≠i->listed.getD j true=false->(∀ e∈oj.after,Region.binds md e=true->e.on≠i)->oi.apart ops oj=true) ->
   i∈Region.ready md ops listed->YieldsIf P ops S oi v a->S w ->
   bG P md ops Q S J fuel (listed.setIfInBounds i true) (a.put oi.dst v) w->bG P md ops Q S J (fuel+1) listed a w:=by
 intro fuel
 induction fuel with
 | zero =>
  intro listed a w _ hr hy hS H;refine⟨fun h=>(by rw[h] at hr;cases hr),fun j hj=>?_⟩;by_cases hji:j=i
  ·subst hji;exact hy.wpOp hi hS ⟨fun _=>hS,H⟩
  ·have h0:=ready_mono hj hji
   rw[H.1] at h0;cases h0
 | succ fuel ih =>
  intro listed a w hfree hr hy hS H;refine⟨fun h=>(by rw[h] at hr;cases hr),fun j hj=>?_⟩;by_cases hji:j=i
  ·subst hji;exact hy.wpOp hi hS ⟨fun _=>hS,H⟩
  ·obtain⟨hjun,oj,hoj,hall⟩:=mem_ready.1 hj
   have hun:=(mem_ready.1 hr).1
   have hnot:∀ e∈oj.after,Region.binds md e=true->e.on≠i:=fun e he hb heq=>by
    have h1:=hall e he hb;rw[heq] at h1;rcases Nat.lt_or_ge i listed.size with h' | h'
    ·simp[h'] at hun h1;rw[hun] at h1;cases h1
    ·simp[Array.getElem?_eq_none h'] at h1
   have hJj:J j=true:=by
    cases hc:J j with
    | true=>rfl
    | false=>obtain⟨e,he,hb,heq⟩:=hW j oj hoj hc;exact absurd heq (hnot e he hb)
   have h2:=wpOp_putIf hoj (hfree j oj hoj hji hjun hnot) (fun cs b=>hsel i oi cs b hi) (fun cs b=>hsel j oj cs b hoj) hQ hy (H.2 j (ready_mono hj hji))
   have hfree':∀ k ok,ops[k]? = some ok->k≠i->(listed.setIfInBounds j true).getD k true=false ->
     (∀ e∈ok.after,Region.binds md e=true->e.on≠i)->oi.apart ops ok=true:=fun k ok hk hki hun' hno=>by
    refine hfree k ok hk hki ?_ hno;by_cases hjk:j=k
    ·subst hjk;exact hjun
    ·rwa [getD_set_ne true hjk] at hun'
   refine wpOp_mono (fun a' w' h3=>⟨fun _=>h3.2.1 hJj,ih (listed.setIfInBounds j true) a' w' hfree' (ready_mono hr (Ne.symm hji)) h3.1 (h3.2.1 hJj) ?_⟩) h2;rw[Array.setIfInBounds_comm _ _ hji];exact h3.2.2
theorem edX {a:Act}(hi:ops[i]? = some oi)(hJi:J i=true)(hW:aeZ md ops J i)
  (hs:Region.noSelect ops=true) (hf:Region.free md ops listed i=true) (hr:(Region.ready md ops listed).contains i=true)
  (hQ:∀ c a w,Q (.panic c) (a.put oi.dst v) w->Q (.panic c) a w) (hy:YieldsIf P ops S oi v a) (hS:S w)
  (h:bG P md ops Q S J fuel (listed.setIfInBounds i true) (a.put oi.dst v) w):bG P md ops Q S J (fuel+1) listed a w :=
 edQ hi hJi hW (Region.noSelect_spec hs) hQ fuel listed a w (Region.free_spec hi hf) (by simpa using hr) hy hS h
theorem rH {a:Act}(hr:Region.ready md ops listed=[])(h:Q .normal a w):∀ fuel,bG P md ops Q S J fuel listed a w
 | 0=>⟨hr,h⟩
 | _+1=>⟨fun _=>h,by rw[hr];simp⟩
def kX (P:Program) (md:Region.Mode) (ops:Array Oper) (Q:Exit->Act->World->Prop) (S:World->Prop) (J:Nat->Bool) (fuel:Nat) (listed:Array Bool) (a:Act) (w:World) (rs:List Nat):Prop :=
 ∀ i∈rs,wpOp P ops Q i (fun a' w'=>(J i=true->S w')/\bG P md ops Q S J fuel (listed.setIfInBounds i true) a' w') a w
theorem kX.nil {a:Act}:kX P md ops Q S J fuel listed a w []:=fun _ h=>by cases h
theorem kX.cons {a:Act}(ho:ops[i]? = some o)
  (h:∀ K':Act->World->Prop,Shut (∀ a w,(J i=true->S w)->bG P md ops Q S J fuel (listed.setIfInBounds i true) a w->K' a w)->if Region.wanted o (yielded ops a.tmps)=true then Oper.wp P o a w K' Q else K' (a.put o.dst undef) w)
  (hs:kX P md ops Q S J fuel listed a w rs):kX P md ops Q S J fuel listed a w (i::rs):=fun j hj=>by
 rcases eX.1 hj with rfl|hj
 ·exact wpOp_step ho (fun K' hK=>h K' (fun a w hS hW=>hK a w ⟨hS,hW⟩))
 ·exact hs j hj
theorem xU {a:Act}(hr:Region.ready md ops listed=rs)(hne:rs≠[])(h:kX P md ops Q S J fuel listed a w rs):bG P md ops Q S J (fuel+1) listed a w :=
 ⟨fun h0=>absurd (hr▸h0) hne,hr▸h⟩
theorem edZ {a:Act}(hm:P.follows .mixedOrders=true)(hd:∀ (j:Nat) (o:Oper),ops[j]? = some o->∀ c,o.op≠.defer c)(hQ:¬ LetsOut Q)
  (h:bG P .any ops Q S J ops.size (Array.replicate ops.size false) a w.drew):(Code.region id ops true).wpIn (Fence.wide.inRound l) n P Q a w :=
 wpIn_region_any hm (bkJ hd hQ _ _ _ _ (tR _ _ _ _ h))
end
theorem zA:type_of% @List.setIfInBounds_toArray:=@List.setIfInBounds_toArray
theorem zB:type_of% @List.set_cons_zero:=@List.set_cons_zero
theorem zC:type_of% @List.set_cons_succ:=@List.set_cons_succ
end K.P
namespace K.P
open Go.RowKit K.Ds
def uV (w:World) (B:Nat) (v:Value) (l:List En):Prop :=
 ∃ a c,v=.slice a l.length c/\l.length<=c/\l.length<=9223372036854775807/\(∀ x∈l,x.2.1.size<=9223372036854775807) /\
  (l≠[]->∃ b o,a=some ⟨b,o,none⟩/\b<B/\∀ i x,l[i]? = some x->w.cell? ⟨b,o+i*5,none⟩=some (.int .i64 x.1)/\w.cell? ⟨b,o+i*5+1,none⟩=some (.string x.2.1)/\w.cell? ⟨b,o+i*5+2,none⟩=some (.int .i64 x.2.2.1)/\w.cell? ⟨b,o+i*5+3,none⟩=some (.int .i64 x.2.2.2.1)/\w.cell? ⟨b,o+i*5+4,none⟩=some (.int .i64 x.2.2.2.2))
theorem uV.keep {l:List En}(h:uV w B v l)(hb:Below B w w'):uV w' B v l:=by
 obtain⟨a,c,hv,hc,hl,hn,hx⟩:=h;refine⟨a,c,hv,hc,hl,hn,fun hne=>?_⟩;obtain⟨b,o,ha,hB,hcell⟩:=hx hne;refine⟨b,o,ha,hB,fun i x hi=>?_⟩;obtain⟨h0,h1,h2,h3,h4⟩:=hcell i x hi;exact⟨(hb.cell (p:=⟨b,o+i*5,none⟩) hB).trans h0,(hb.cell (p:=⟨b,o+i*5+1,none⟩) hB).trans h1,(hb.cell (p:=⟨b,o+i*5+2,none⟩) hB).trans h2,(hb.cell (p:=⟨b,o+i*5+3,none⟩) hB).trans h3,(hb.cell (p:=⟨b,o+i*5+4,none⟩) hB).trans h4⟩
theorem uV.mono {l:List En}(h:uV w B v l)(hB:B<=B'):uV w B' v l:=by
 obtain⟨a,c,hv,hc,hl,hn,hx⟩:=h;refine⟨a,c,hv,hc,hl,hn,fun hne=>?_⟩;obtain⟨b,o,ha,hb,hcell⟩:=hx hne;exact⟨b,o,ha,by omega,hcell⟩
theorem uV.at {l:List En}(h:uV w B v l)(hB:B<=w.heap.size)(hb:Below w.heap.size w w'):uV w' B v l:=h.keep (hb.mono hB)
theorem uV.slice {l:List En}(h:uV w B v l):∃ a c,v=.slice a l.length c/\l.length<=c/\l.length<=9223372036854775807:=by
 obtain⟨a,c,hv,hc,hl,_⟩:=h;exact⟨a,c,hv,hc,hl⟩
theorem uV.get {a:Option Addr}{c:Nat}{l:List En}(h:uV w B (.slice a n c) l)(hB:B<=w.heap.size)(hb:Below w.heap.size w wr)(hi:i<l.length) :
  ∃ b o d nm p u v,a=some ⟨b,o,none⟩/\b<B/\l[i]? = some (d,nm,p,u,v)/\wr.cell? ⟨b,o+i*5,none⟩=some (.int .i64 d)/\wr.cell? ⟨b,o+i*5+1,none⟩=some (.string nm)/\wr.cell? ⟨b,o+i*5+2,none⟩=some (.int .i64 p)/\wr.cell? ⟨b,o+i*5+3,none⟩=some (.int .i64 u)/\wr.cell? ⟨b,o+i*5+4,none⟩=some (.int .i64 v)/\nm.size<=9223372036854775807:=by
 obtain⟨a',c',hv,_,_,hn,hx⟩:=h.at hB hb;simp only[iZ] at hv;obtain⟨rfl,rfl,rfl⟩:=hv;obtain⟨b,o,rfl,hbB,hcell⟩:=hx (ne_of_lt hi);obtain⟨⟨d,nm,p,u,v⟩,hx⟩:=cX hi;obtain⟨h0,h1,h2,h3,h4⟩:=hcell i _ hx;exact⟨b,o,d,nm,p,u,v,rfl,hbB,hx,h0,h1,h2,h3,h4,hn _ (rQ hx)⟩
end K.P
namespace K.P
open Go.RowKit Go.Shelf K.Ds
structure SixB (w:World) (R:Nat) (a b c d e f:Value):Prop where
 is:w.heap[R]? = some (.cells #[a,b,c,d,e,f] 115 (0,0))
theorem SixB.c0 (h:SixB w R a b c d e f):w.cell? ⟨R,0,none⟩=some a:=by simp[World.cell?,h.is]
theorem SixB.f0 (h:SixB w R a b c d e f):w.frozen? ⟨R,0,none⟩=false:=by simp[World.frozen?,h.is]
theorem SixB.c1 (h:SixB w R a b c d e f):w.cell? ⟨R,1,none⟩=some b:=by simp[World.cell?,h.is]
theorem SixB.f1 (h:SixB w R a b c d e f):w.frozen? ⟨R,1,none⟩=false:=by simp[World.frozen?,h.is]
theorem SixB.c2 (h:SixB w R a b c d e f):w.cell? ⟨R,2,none⟩=some c:=by simp[World.cell?,h.is]
theorem SixB.f2 (h:SixB w R a b c d e f):w.frozen? ⟨R,2,none⟩=false:=by simp[World.frozen?,h.is]
theorem SixB.c3 (h:SixB w R a b c d e f):w.cell? ⟨R,3,none⟩=some d:=by simp[World.cell?,h.is]
theorem SixB.f3 (h:SixB w R a b c d e f):w.frozen? ⟨R,3,none⟩=false:=by simp[World.frozen?,h.is]
theorem SixB.c4 (h:SixB w R a b c d e f):w.cell? ⟨R,4,none⟩=some e:=by simp[World.cell?,h.is]
theorem SixB.f4 (h:SixB w R a b c d e f):w.frozen? ⟨R,4,none⟩=false:=by simp[World.frozen?,h.is]
theorem SixB.c5 (h:SixB w R a b c d e f):w.cell? ⟨R,5,none⟩=some f:=by simp[World.cell?,h.is]
theorem SixB.f5 (h:SixB w R a b c d e f):w.frozen? ⟨R,5,none⟩=false:=by simp[World.frozen?,h.is]
theorem SixB.lt (h:SixB w R a b c d e f):R<w.heap.size:=(zJ.1 h.is).1
theorem SixB.new (w:World)(a b c d e f:Value)(R:Nat)(hR:R=w.heap.size):SixB (w.alloc (.cells #[a,b,c,d,e,f] 115)) R a b c d e f:=⟨by rw[hR];exact qM w _⟩
theorem SixB.gb (h:SixB w R a b c d e f)(hg:w.grownBy w' r)(hne:some R≠r):SixB w' R a b c d e f:=⟨(hg.block R h.lt hne).trans h.is⟩
theorem SixB.same (h:SixB w R a b c d e f)(hk:w'.heap[R]? = w.heap[R]?):SixB w' R a b c d e f:=⟨hk.trans h.is⟩
theorem SixB.below (h:SixB w R a b c d e f)(hb:Below w.heap.size w w'):SixB w' R a b c d e f:=⟨(hb.block R h.lt).trans h.is⟩
theorem sO (w:World)(R i:Nat)(x:Value)(cs:Array Value)(t:TypeId)(fr:Nat × Nat)(h:w.heap[R]? = some (.cells cs t fr)):(w.setCell ⟨R,i,none⟩ x).heap[R]? = some (.cells (cs.setIfInBounds i x) t fr):=by
 obtain⟨hlt,hk⟩:=zJ.1 h;show(w.heap.modify R _)[R]? = _;rw[Array.getElem?_eq_getElem (by rw[Array.size_modify];exact hlt),Array.getElem_modify_self,hk];rfl
theorem SixB.put0 (h:SixB w R a b c d e f)(x:Value):SixB (w.setCell ⟨R,0,none⟩ x) R x b c d e f:=⟨by rw[sO w R 0 x _ _ _ h.is];rfl⟩
theorem SixB.put1 (h:SixB w R a b c d e f)(x:Value):SixB (w.setCell ⟨R,1,none⟩ x) R a x c d e f:=⟨by rw[sO w R 1 x _ _ _ h.is];rfl⟩
theorem SixB.put2 (h:SixB w R a b c d e f)(x:Value):SixB (w.setCell ⟨R,2,none⟩ x) R a b x d e f:=⟨by rw[sO w R 2 x _ _ _ h.is];rfl⟩
theorem SixB.put3 (h:SixB w R a b c d e f)(x:Value):SixB (w.setCell ⟨R,3,none⟩ x) R a b c x e f:=⟨by rw[sO w R 3 x _ _ _ h.is];rfl⟩
theorem SixB.put4 (h:SixB w R a b c d e f)(x:Value):SixB (w.setCell ⟨R,4,none⟩ x) R a b c d x f:=⟨by rw[sO w R 4 x _ _ _ h.is];rfl⟩
theorem SixB.put5 (h:SixB w R a b c d e f)(x:Value):SixB (w.setCell ⟨R,5,none⟩ x) R a b c d e x:=⟨by rw[sO w R 5 x _ _ _ h.is];rfl⟩
end K.P
end Go.Proofs.YtpmioeamdhdokaaGreat

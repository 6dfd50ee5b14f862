import Derived.Test.YtdceajgpolckiaaGreatDoorQr43
import Derived.Laws.AppendOwnNone
import Derived.Great.Walk
import Derived.Deep.Cut
import Derived.Great.BuildSlice
open Go.Proofs.Tryz
set_option linter.unusedSimpArgs false
set_option maxHeartbeats 16000000
set_option maxRecDepth 100000
namespace Go.Proofs.YtdceajgpolckiaaGreatDoor
variable {W W0 w w' wr:World} {B B' N0 b base bw c cap g n:Nat} {o:Oper} {G G' M N:Nat->Prop} {a ka kb xa:Option Addr} {ts:List (List Int)} {hv hv' ov v:Value} {disk words:List Int} {P:Program} {ops:Array Oper} {rest:List Oper} {Q:Exit->Act->World->Prop} {d er p u:Int} {ws:List (Nat × Int)} {kc nm0 pn:ByteArray} {t2:Option (List Int × Nat)} {css:List (List Value)}
section
open Go.RowKit Ds
open K (Cl)
open K.P (HSt Keeps xX vJ jU dZ HouK DskM iG vZ pZ Ev Sn uD gV TwoB oV oU nV yX oA oZ vD enc)
structure Stp where
 act:Int
 n:Int
 nm:ByteArray
 bu:Int
 bd:Int
 pn:ByteArray
 q:K.Ds.Qu
 u:Int
 d:Int
 lo:Int
 hi:Int
 bits:List Int
 word:Int
abbrev vU:=List Int × Nat × Int × Int
def lG (l:List K.Ds.yQ):ByteArray:=match l with
 | []=>⟨#[]⟩
 | x::_=>x.1
def lC (l:List K.Ds.yQ) (ts:List (List Int)) (x:Stp):Ev vU :=
 .ask (kG (rY x.u x.d x.lo x.hi l ts x.q).2.2.2 x.bits) (gV x.pn (K.xJ (K.prt l x.q (lG l))).1 (K.xJ (K.prt l x.q (lG l))).2 (rY x.u x.d x.lo x.hi l ts x.q).2.1 (rY x.u x.d x.lo x.hi l ts x.q).2.2.1)
  ((wJ (rY x.u x.d x.lo x.hi l ts x.q).1 x.bits 0 []).map fun t=>(t.1,t.2,(rY x.u x.d x.lo x.hi l ts x.q).2.1,(rY x.u x.d x.lo x.hi l ts x.q).2.2.1))
def jL (l:List K.Ds.yQ) (ts:List (List Int)) (x:Stp):Ev vU :=
 if x.act=1 then .opn else if x.act=4 then .pow x.n else if x.act=2 then .pur (1,x.nm,0,x.bu,x.bd) else if x.act=3 then lC l ts x else if x.act=5 then .loo else .oth
def bJ (l:List K.Ds.yQ) (ts:List (List Int)) (s:HSt) (x:Stp):HSt × Sn vU :=
 if x.act=6/\0<=x.n/\x.n<s.disk.length then ({ s with disk:=s.disk.set x.n.toNat x.word },⟨0,none,[]⟩) else pZ (K.Ds.iJ l ts) s (jL l ts x)
def cJ (l:List K.Ds.yQ) (ts:List (List Int)):HSt->List Stp->HSt × List (Sn vU)
 | s,[]=>(s,[])
 | s,x::xs=>((cJ l ts (bJ l ts s x).1 xs).1,(bJ l ts s x).2::(cJ l ts (bJ l ts s x).1 xs).2)
theorem mC (l:List K.Ds.yQ)(ts:List (List Int)):∀ (xs:List Stp) (s:HSt) (x:Stp),cJ l ts s (xs++[x])=((bJ l ts (cJ l ts s xs).1 x).1,(cJ l ts s xs).2++[(bJ l ts (cJ l ts s xs).1 x).2])
 | [],s,x=>rfl
 | y::ys,s,x=>by simp only[qG,cJ,mC l ts ys]
theorem nC (l:List K.Ds.yQ)(ts:List (List Int)):∀ (xs:List Stp) (s:HSt),(cJ l ts s xs).2.length=xs.length
 | [],_=>rfl
 | y::ys,s=>by simp only[cJ,pJ,nC l ts ys]
theorem e0J {α β:Type}(f:α->β)(wr:Int)(s:HSt)(p:Int)(e:K.P.En)(tl:Option α):pZ wr s (.ask p e (tl.map f))=((pZ wr s (.ask p e tl)).1,⟨(pZ wr s (.ask p e tl)).2.err,(pZ wr s (.ask p e tl)).2.told.map f,(pZ wr s (.ask p e tl)).2.ents⟩):=by
 cases tl <;> simp only[pZ,Option.map_none,Option.map_some] <;> (repeat' split) <;> rfl
def eS (w:World) (B b o:Nat) (x:Stp):Prop :=
 ∃ v0 v1 v2 v3 v4 v5 xa xc nb,(∀ i v,([.int .i64 x.act,.int .i64 x.n,.string x.nm,.int .i64 x.bu,.int .i64 x.bd,.string x.pn,v0,v1,v2,v3,v4,v5,.int .i64 x.u,.int .i64 x.d,.int .i64 x.lo,.int .i64 x.hi,.slice xa x.bits.length xc,.int .i64 x.word]:List Value)[i]? = some v->w.cell? ⟨b,o+i,none⟩=some v) /\
  K.Qm w B x.q v0 v1 v2 v3 v4 v5/\mA w B nb (.slice xa x.bits.length xc) x.bits/\(xa=none->xc=0)/\vX x.lo/\vX x.hi/\vX x.n/\vX x.word/\x.nm.size<=9223372036854775807/\x.pn.size<=9223372036854775807
theorem eS.keep {o:Nat}{x:Stp}(h:eS w B b o x)(hb:Below B w w')(hB:b<B):eS w' B b o x:=by
 obtain⟨v0,v1,v2,v3,v4,v5,xa,xc,nb,h1,h2,h3,h4⟩:=h;exact⟨v0,v1,v2,v3,v4,v5,xa,xc,nb,fun i v hi=>(hb.cell (p:=⟨b,o+i,none⟩) hB).trans (h1 i v hi),h2.keep hb,h3.keep hb,h4⟩
def bvQ (w:World) (B:Nat) (v:Value) (xs:List Stp):Prop :=
 ∃ a c,v=.slice a xs.length c/\xs.length<=c/\xs.length<=9223372036854775807/\(xs≠[]->∃ b o,a=some ⟨b,o,none⟩/\b<B/\∀ i x,xs[i]? = some x->eS w B b (o+i*18) x)
def aD (w:World) (G:Nat->Prop) (x:Sn vU) (cs:List Value):Prop :=
 ∃ tv ev us lu ld,cs=[.int .i64 x.err,tv,.int .i64 us,.int .i64 lu,.int .i64 ld,ev] /\
  ((x.told=none/\tv=.slice none 0 0/\us=0/\lu=0/\ld=0) \/
   (∃ (vs:List Int) (n g:Nat),x.told=some (vs,n,lu,ld)/\vs≠[]/\vs.length<=4096/\n<=65536/\tv=.slice (some ⟨g,0,none⟩) vs.length vs.length/\us=(n:Int)/\G g/\K.RowI w g vs)) /\
  w.ownsRow 0 53 5 ev x.ents.length (enc x.ents)/\∀ g,ev.ownBlock=some g->G g
theorem aD.kp {x:Sn vU}{cs:List Value}(h:aD w G x cs)(hk:Keeps w w' N)(hN:∀ k,G k->¬ N k)(hG:∀ k,G k->G' k):aD w' G' x cs:=by
 obtain⟨tv,ev,us,lu,ld,h1,h2,h3,h4⟩:=h;refine⟨tv,ev,us,lu,ld,h1,?_,nV h3 hk (fun g hg=>hN g (h4 g hg)),fun g hg=>hG g (h4 g hg)⟩;rcases h2 with h2|⟨vs,n,g,q1,q2,q3,q4,q5,q6,q7,q8⟩
 ·exact .inl h2
 ·exact .inr ⟨vs,n,g,q1,q2,q3,q4,q5,q6,hG g q7,agJ q8 hk (hN g q7)⟩
structure HuI (W0 wr:World) (N0 bd bw:Nat) (a:Option Addr) (c:Nat) (l:List K.Ds.yQ) (ts:List (List Int)) (hv ov:Value) (s:HSt) (xs:List (Sn vU)) (M G:Nat->Prop):Prop where
 be:Below N0 W0 wr
 ds:DskM wr bd bw a c s.disk s.left
 bs:N0<=bd/\N0<=bw/\bw<wr.heap.size/\N0<=W0.heap.size
 w64:oV s.disk
 i64:vX s.left
 mm:∀ k,M k->N0<=k/\k<wr.heap.size/\k≠bd/\k≠bw/\¬ G k
 gg:∀ k,G k->N0<=k/\k<wr.heap.size/\k≠bd/\k≠bw
 dn:s.up=false->hv=.pointer none
 up:s.up=true->K.Ds.iJ l ts=0/\∃ bh,hv=.pointer (some ⟨bh,0,none⟩)/\M bh/\(s.brk=false->dZ wr M bh bd l ts s.done)/\(s.brk=true->Cl wr bh 5 (.bool true))
 out:∃ css:List (List Value),css.length=xs.length/\wr.ownsRow N0 51 6 ov xs.length css.flatten/\(∀ g,ov.ownBlock=some g->g≠bd/\g≠bw/\¬ G g/\¬ M g)/\∀ (i:Nat) x cs,xs[i]? = some x->css[i]? = some cs->aD wr G x cs
theorem HuI.step {bd:Nat}{l:List K.Ds.yQ}{s s':HSt}{xs:List (Sn vU)}(h:HuI W0 wr N0 bd bw a c l ts hv ov s xs M G)
  (hk:Keeps wr w' (fun k=>M k\/k=bd\/k=bw)) (hd:DskM w' bd bw a c s'.disk s'.left) (h64:oV s'.disk) (hi:vX s'.left) (M' G':Nat->Prop) (hM:∀ k,M' k->M k\/wr.heap.size<=k/\k<w'.heap.size) (hG:∀ k,G' k->G k\/wr.heap.size<=k/\k<w'.heap.size/\¬ M' k) (hGG:∀ k,G k->G' k)
  (dn:s'.up=false->hv' = .pointer none) (up:s'.up=true->K.Ds.iJ l ts=0/\∃ bh,hv' = .pointer (some ⟨bh,0,none⟩)/\M' bh/\(s'.brk=false->dZ w' M' bh bd l ts s'.done)/\(s'.brk=true->Cl w' bh 5 (.bool true))) :
  HuI W0 w' N0 bd bw a c l ts hv' ov s' xs M' G':=by
 have hsz:=hk.size;have hbd:=h.ds.c0.lt;obtain⟨b1,b2,b3,b4⟩:=h.bs;have hw0:=h.be.size;refine⟨⟨hk.os.trans h.be.os,hk.tape.trans h.be.tape,hk.output.trans h.be.output,by omega,fun k kk=>(hk.block k (by omega) ?_).trans (h.be.block k kk)⟩,hd,⟨b1,b2,by omega,b4⟩,h64,hi,fun k m=>?_,fun k m=>?_,dn,up,?_⟩
 ·rintro(m|m|m)
  ·have:=(h.mm k m).1;omega
  ·omega
  ·omega
 ·rcases hM k m with m1|m1
  ·obtain⟨q1,q2,q3,q4,q5⟩:=h.mm k m1
   refine⟨q1,by omega,q3,q4,fun g=>?_⟩;rcases hG k g with g1|g1
   ·exact q5 g1
   ·exact g1.2.2 m
  ·refine⟨by omega,m1.2,by omega,by omega,fun g=>?_⟩
   rcases hG k g with g1|g1
   ·have:=(h.gg k g1).2.1;omega
   ·exact g1.2.2 m
 ·rcases hG k m with g1|g1
  ·obtain⟨q1,q2,q3,q4⟩:=h.gg k g1
   exact⟨q1,by omega,q3,q4⟩
  ·exact⟨by omega,g1.2.1,by omega,by omega⟩
 ·obtain⟨css,o1,o2,o3,o4⟩:=h.out
  refine⟨css,o1,nV o2 hk (fun g hg=>?_),fun g hg=>?_,fun i x cs hx hc=>(o4 i x cs hx hc).kp hk (fun k g=>?_) hGG⟩
  ·obtain⟨q1,q2,q3,q4⟩:=o3 g hg
   rintro(m|m|m)
   ·exact q4 m
   ·exact q1 m
   ·exact q2 m
  ·obtain⟨q1,q2,q3,q4⟩:=o3 g hg
   have hlt:=(yX o2 hg).2;refine⟨q1,q2,fun g1=>?_,fun m=>?_⟩
   ·rcases hG g g1 with g2|g2
    ·exact q3 g2
    ·omega
   ·rcases hM g m with g2|g2
    ·exact q4 g2
    ·omega
  ·obtain⟨q1,q2,q3,q4⟩:=h.gg k g
   rintro(m|m|m)
   ·exact(h.mm k m).2.2.2.2 g
   ·exact q3 m
   ·exact q4 m
theorem HuI.at {bd:Nat}{l:List K.Ds.yQ}{s:HSt}{xs:List (Sn vU)}(h:HuI W0 wr N0 bd bw a c l ts hv ov s xs M G)(hb:Below wr.heap.size wr w'):HuI W0 w' N0 bd bw a c l ts hv ov s xs M G :=
 h.step (xX hb) (h.ds.at hb) h.w64 h.i64 M G (fun _ m=>.inl m) (fun _ m=>.inl m) (fun _ m=>m) h.dn (fun u=>by
  obtain⟨e,bh,q1,q2,q3,q4⟩:=h.up u;exact⟨e,bh,q1,q2,fun x=>(q3 x).kp (K:=fun _=>False) (xX hb) (fun _ _ h=>h),fun x=>(q4 x).at hb⟩)
theorem HuI.snoc {bd:Nat}{l:List K.Ds.yQ}{ov':Value}{s:HSt}{xs:List (Sn vU)}(h:HuI W0 wr N0 bd bw a c l ts hv ov s xs M G){x:Sn vU}{cs:List Value}(hx:aD wr G x cs)(hov:ov' = .slice (some ⟨g,0,none⟩) (xs.length+1) cap)
  (css:List (List Value)) (o1:css.length=xs.length) (o2:wr.ownsRow N0 51 6 ov xs.length css.flatten) (o3:∀ g,ov.ownBlock=some g->g≠bd/\g≠bw/\¬ G g/\¬ M g) (o4:∀ (i:Nat) x cs,xs[i]? = some x->css[i]? = some cs->aD wr G x cs)
  (hg:wr.grownBy w' ov.ownBlock) (ho:w'.ownsRow N0 51 6 ov' (xs.length+1) (css.flatten++cs)) (hw:ov.ownBlock=some g\/wr.heap.size<=g) :
  HuI W0 w' N0 bd bw a c l ts hv ov' s (xs++[x]) M G:=by
 have hk:Keeps wr w' (fun k=>ov.ownBlock=some k):=⟨hg.os,hg.tape,hg.output,hg.size,fun k hk hn=>hg.block k hk (fun e=>hn e.symm)⟩;have hsz:=hk.size;have hM:∀ k,M k->¬ ov.ownBlock=some k:=fun k m e=>(o3 k e).2.2.2 m;have hGn:∀ k,G k->¬ ov.ownBlock=some k:=fun k m e=>(o3 k e).2.2.1 m;obtain⟨b1,b2,b3,b4⟩:=h.bs;have hw0:=h.be.size;refine⟨⟨hk.os.trans h.be.os,hk.tape.trans h.be.tape,hk.output.trans h.be.output,by omega,fun k kk=>(hk.block k (by omega) (fun e=>?_)).trans (h.be.block k kk)⟩,h.ds.kp hk (fun e=>(o3 _ e).1 rfl) (fun e=>(o3 _ e).2.1 rfl),⟨b1,b2,by omega,b4⟩,h.w64,h.i64,fun k m=>?_,fun k m=>?_,h.dn,fun u=>?_,css++[cs],by simp[o1],?_,?_,?_⟩
 ·have:=(yX o2 e).1;omega
 ·obtain⟨q1,q2,q3⟩:=h.mm k m
  exact⟨q1,by omega,q3⟩
 ·obtain⟨q1,q2,q3⟩:=h.gg k m
  exact⟨q1,by omega,q3⟩
 ·obtain⟨e,bh,q1,q2,q3,q4⟩:=h.up u
  exact⟨e,bh,q1,q2,fun z=>(q3 z).kp hk hM,fun z=>K.P.pU (q4 z) hk (hM _ q2)⟩
 ·have:=ho
  rw[dJ,bH,List.flatten_append];simpa using this
 ·intro k hk2
  rw[hov] at hk2;simp only[Value.ownBlock,zX] at hk2;subst hk2;rcases hw with hw|hw
  ·exact o3 g hw
  ·have hbd:=h.ds.c0.lt
   exact⟨by omega,by omega,fun m=>by have:=(h.gg g m).2.1;omega,fun m=>by have:=(h.mm g m).2.1;omega⟩
 ·intro i y ds hy hd2
  by_cases hi:i<xs.length
  ·rw[qT hi] at hy
   rw[qT (by omega)] at hd2;exact(o4 i y ds hy hd2).kp hk hGn (fun _ m=>m)
  ·have e:i=xs.length:=by
    have:=(cQ.1 hy).1;rw[dJ,bH] at this;omega
   subst e;rw[jF (vQ _)] at hy;rw[jF (by omega)] at hd2;rw[o1] at hd2;simp only[dM,List.getElem?_cons_zero,zX] at hy hd2;subst hy hd2;exact hx.kp hk hGn (fun _ m=>m)
open K (Cl)
open K.P (HSt Keeps xX vJ jU dZ HouK DskM iG vZ pZ Ev Sn uD gV TwoB oV oU nV yX oA oZ vD enc dN)
theorem eC:(prog.info? 2).map (fun i=>(i.zero,i.size,i.bytes))=some (some (.int .i64 0),1,8):=by kernel_rfl
theorem e1Q:(prog.info? 51).map (fun i=>(i.zero,i.size,i.bytes))=some (some (.agg #[.int .i64 0,.slice none 0 0,.int .i64 0,.int .i64 0,.int .i64 0,.slice none 0 0]),6,80):=by kernel_rfl
def e1X (l:List K.Ds.yQ) (ts:List (List Int)) (words:List Int) (xs:List Stp) (w:World):Ending->World->Prop:=fun e w' =>
 ∃ W0 bd bw a c hv ov s os M G,e=.returned (.tuple #[ov,.slice a words.length c,.bool true])/\cJ l ts ⟨words,-1,false,false,[]⟩ xs=(s,os)/\Below w.heap.size w w'/\HuI W0 w' (w.heap.size+1) bd bw a c l ts hv ov s os M G
theorem e1Z (h:W.ownsRow base 2 1 v words.length (words.map (.int .i64)))(hne:v≠.slice none 0 0):∃ a c bw,v=.slice a words.length c/\a=some ⟨bw,0,none⟩/\base<=bw/\bw<W.heap.size/\DskM (W.alloc (.cells #[v,.int .i64 (-1),.bool false] 87)) W.heap.size bw a c words (-1):=by
 rcases h.2 with⟨h1,_⟩|⟨g,cap,cur,rfl,hb,hc,hn,hm,hs,hx⟩
 ·exact absurd h1 hne
 ·have hlt:=(yJ.1 hc).1
  refine⟨_,cap,g,rfl,rfl,hb,hlt,?_⟩;have hbx:=Bx.new W [.slice (some ⟨g,0,none⟩) words.length cap,.int .i64 (-1),.bool false] 87 rfl;refine⟨hbx 0 _ rfl,hbx 1 _ rfl,hbx 2 _ rfl,fun _=>rfl,fun i x hi=>?_,hn,by omega⟩
  have hcl:Cl W g i (.int .i64 x):=by
   refine⟨?_,?_,hlt⟩
   ·have h2:(words.map (Value.int .i64))[i]? = some (.int .i64 x):=by rw[uA,hi];rfl
    have h3:=h.cells (g:=g) rfl i _ h2;have e:(⟨g,0,none⟩:Addr).add i=⟨g,i,none⟩:=by unfold Addr.add;split <;> simp_all
    rwa [e] at h3
   ·simp[World.frozen?,hc]
  exact hcl.at (ba _ _)
theorem e1J {a:Act}(hgd:o.guard=none)(s x:Operand)(t:TypeId)
  (ho:o.op=.call { callee:=.builtin .append,args:=#[s,x],argTypes:=#[t,t] })
  (base:Nat) (e:TypeId) (i:TypeInfo) (z:Value) (size bytes:Nat) (ht:P.underlying t=some (.slice e)) (hi:P.info? e=some i) (hz:i.zero=some z)
  (hsize:i.size=size) (hby:i.bytes=bytes) (hzs:z.cells.size=size) (hsz:0<size)
  (v:Value) (n:Nat) (xs:List Value) (hs:a.eval s=v) (hown:w.ownsRow base e size v n xs)
  (wa:Option Addr) (m c:Nat) (news:List Value) (hx:a.eval x=.slice wa m c) (h0:wa=none->m=0/\c=0) (hl:news.length=m*size) (hnews:∀ ad,wa=some ad->∀ j u,news[j]? = some u->w.cell? (ad.add j)=some u) (h1:∀ u∈news,u.oneCell' = true)
  (h63:n+m<=maxLen) (hbytes:(n+m)*bytes<=140737488355328) (hbase:base<=w.heap.size) (hne:v≠.slice none 0 0)
  (h:∀ v' w',w'.ownsRow base e size v' (n+m) (xs++news)->w.grownBy w' v.ownBlock->v'≠.slice none 0 0->wpList P ops Q rest (a.put o.dst v') w'):wpList P ops Q (o::rest) a w:=by
 cases wa with
 | none =>
  obtain⟨rfl,rfl⟩:=h0 rfl;obtain rfl:news=[]:=jI.1 (by omega);exact wpList_append_own_none hgd s x t ho base e i size ht hi v n xs hs hown hx (h v w (by simpa using hown) ⟨rfl,rfl,rfl,vQ _,fun _ _ _=>rfl⟩ hne)
 | some ad=>exact cL w hgd s x t ho base e i z size bytes ht hi hz hsize hby hzs hsz v n xs hs hown ad m c news hx hl (hnews ad rfl) h1 h63 hbytes hbase fun v' w' h2 h3 h4=>h v' w' h2 h3 (fun c=>hne (h4.1 c).1)
theorem e2Q (s:HSt)(e:K.P.En):(vZ s e).1.disk.length=s.disk.length:=by
 unfold vZ
 repeat' split
 all_goals first|rfl|exact K.P.brX (d1:=_) (l1:=_) (ok:=_) rfl
theorem e2X {α:Type}(wr:Int)(s:HSt)(e:Ev α):(pZ wr s e).1.disk.length=s.disk.length:=by
 cases e <;> simp only[pZ] <;> (repeat' split) <;> first|rfl|exact e2Q _ _
theorem e2Z (l:List K.Ds.yQ)(ts:List (List Int))(s:HSt)(x:Stp):(bJ l ts s x).1.disk.length=s.disk.length:=by
 unfold bJ;split
 ·simp
 ·exact e2X _ _ _
theorem bvX (l:List K.Ds.yQ)(ts:List (List Int)):∀ (xs:List Stp) (s:HSt),(cJ l ts s xs).1.disk.length=s.disk.length
 | [],_=>rfl
 | x::xs,s=>by simp only[cJ];rw[bvX l ts xs,e2Z]
theorem ahQ (w:World)(G:Nat->Prop)(er:Int):aD w G ⟨er,none,[]⟩ [.int .i64 er,.slice none 0 0,.int .i64 0,.int .i64 0,.int .i64 0,.slice none 0 0] :=
 ⟨_,_,_,_,_,rfl,.inl ⟨rfl,rfl,rfl,rfl,rfl⟩,⟨rfl,.inl ⟨rfl,rfl⟩⟩,fun g hg=>by cases hg⟩
open K (Cl)
open K.P (HSt Keeps xX vJ jU dZ HouK DskM iG vZ pZ Ev Sn uD gV TwoB oV oU nV yX oA oZ vD enc dN qZ qV qJ wrs nrm eX nA bV wU octs mV qC jC vC)
theorem e2J (h:n<18446744073709551616):vX (nA n):=by
 unfold nA vX;split <;> omega
theorem e3Q (s:ByteArray):oV (bV (wU s)):=by
 intro x hx;unfold bV at hx;obtain⟨w,_,rfl⟩:=tX.1 hx;have h:=qC (jC (vC s) w);have h8:(octs (wU s) w).length=8:=by simp[octs]
 rw[h8] at h;exact e2J (by simpa using h)
theorem aI (h:Rt.pQ u d=true):vX u/\vX d:=by
 unfold Rt.pQ Rt.mx at h;simp only[qY] at h;unfold vX;omega
theorem e3X {done:List K.P.En}{e:K.P.En}(h:eX done (nrm e)=0):oV (qJ (nrm e)):=by
 obtain⟨h1,h2,h3,h4⟩:=K.P.pH (K.P.wB h).1;have hb:=aI h4.1
 have hp:vX (nrm e).2.2.1:=by
  by_cases c:e.1=3
  ·have e1:nrm e=e:=by simp[nrm,c]
   rw[e1] at h ⊢;unfold eX at h;split at h
   ·exact absurd h (by assumption)
   ·split at h
    ·cases h
    ·split at h
     ·rw[xQ (by omega)] at h;cases h
     ·rw[xQ (by omega)] at h
      split at h
      ·cases h
      ·rename_i c3
       unfold vX;omega
  ·have e1:(nrm e).2.2.1=0:=by simp[nrm,c]
   rw[e1];exact⟨by omega,by omega⟩
 intro x hx;simp only[qJ,kV,fX,yF,uF] at hx;rcases hx with(rfl|rfl|rfl|rfl|rfl)|hx
 ·omega
 ·omega
 ·exact hp
 ·exact hb.1
 ·exact hb.2
 ·exact e3Q _ x hx
theorem e3Z (h:oV disk):∀ {ws:List (Nat × Int)},(∀ p∈ws,vX p.2)->oV (qV disk ws):=by
 intro ws
 induction ws generalizing disk with
 | nil=>intro _;exact h
 | cons p ws ih =>
  intro hw;refine ih (disk:=disk.set p.1 p.2) ?_ (fun q hq=>hw q (by simp[hq]));intro x hx;rcases cK hx with hx|rfl
  ·exact h x hx
  ·exact hw p (by simp)
theorem e3J {e:K.P.En}(h:oV (qJ e)):∀ p∈wrs n e,vX p.2:=by
 intro p hp;simp only[wrs,fX,kV,tX,uH,yF,uF] at hp;rcases hp with rfl|⟨j,hj,rfl⟩|rfl
 ·exact⟨by simp,by simp⟩
 ·refine h _ ?_
  have hl:=K.P.xS e;rw[List.getD_eq_getElem?_getD,zJ (by omega)];simp
 ·exact⟨by simp,by simp⟩
theorem e4Q :∀ {left:Int},vX left->vX (qZ disk left ws).2.1:=by
 induction ws generalizing disk with
 | nil=>intro l h;exact h
 | cons p ws ih =>
  intro l h;obtain⟨a,x⟩:=p;simp only[qZ];split
  ·exact⟨by simp,by simp⟩
  ·refine ih ?_
   unfold vX at h ⊢;split <;> omega
theorem bvZ {s:HSt}{e:K.P.En}(h:oV s.disk)(hl:vX s.left):oV (vZ s e).1.disk/\vX (vZ s e).1.left:=by
 unfold vZ;split
 ·exact⟨h,hl⟩
 ·split
  ·exact⟨h,hl⟩
  ·rename_i c
   have hr:=e3X (by simpa using c);obtain⟨d',l',ok,hp⟩:∃ d' l' ok,qZ s.disk s.left (wrs s.done.length (nrm e))=(d',l',ok):=⟨_,_,_,rfl⟩;obtain⟨m,h1,h2,_⟩:=K.P.acJ hp
   have hd:oV d':=by
    rw[h2];exact e3Z h (fun p hp=>e3J hr p (aH hp))
   have hle:vX l':=by
    have:=e4Q (disk:=s.disk) (ws:=wrs s.done.length (nrm e)) hl;rw[hp] at this;exact this
   rw[hp];split <;> exact⟨hd,hle⟩
theorem bvJ {s:HSt}{e:K.P.En}:(vZ s e).1.up=s.up:=by
 unfold vZ
 repeat' split
 all_goals rfl
theorem bwQ {α:Type}{s s':HSt}{e:K.P.En}{tl:Option α}{y:Sn α}(hs:pZ 0 s (.ask p e tl)=(s',y))(h:oV s.disk)(hl:vX s.left):oV s'.disk/\vX s'.left/\s'.up=s.up:=by
 obtain⟨d1,d2⟩:=bvZ (e:=e) h hl;have d3:=bvJ (s:=s) (e:=e);simp only[pZ] at hs
 repeat' split at hs
 all_goals
  simp only[fQ] at hs;obtain⟨rfl,_⟩:=hs
  first|exact⟨h,hl,rfl⟩|exact⟨d1,d2,d3⟩
theorem e4X {α:Type}(s:HSt)(p:Int)(e:K.P.En)(tl:Option α):∃ s' er t2,pZ 0 s (.ask p e tl)=(s',⟨er,t2,[]⟩):=by
 simp only[pZ]
 repeat' split
 all_goals exact⟨_,_,_,rfl⟩
theorem e4Z {α:Type}{s s':HSt}{e:K.P.En}{tl t2:Option α}(h:pZ 0 s (.ask p e tl)=(s',⟨er,t2,[]⟩))(hu:s.up=true):(er≠0->t2=none)/\(er=0->t2=tl):=by
 simp only[pZ,hu] at h;rw[xQ (by simp)] at h;split at h
 ·simp only[fQ,Sn.mk.injEq] at h
  obtain⟨_,rfl,rfl,_⟩:=h;exact⟨fun _=>rfl,fun h=>by cases h⟩
 ·split at h
  ·rename_i hp
   simp only[fQ,Sn.mk.injEq] at h;obtain⟨_,rfl,rfl,_⟩:=h;exact⟨fun _=>rfl,fun h=>absurd h hp⟩
  ·split at h
   ·rename_i hp
    simp only[fQ,Sn.mk.injEq] at h;obtain⟨_,rfl,rfl,_⟩:=h;exact⟨fun _=>rfl,fun h=>absurd h hp⟩
   ·split at h
    ·simp only[fQ,Sn.mk.injEq] at h
     obtain⟨_,rfl,rfl,_⟩:=h;exact⟨fun _=>rfl,fun h=>by cases h⟩
    ·simp only[fQ,Sn.mk.injEq] at h
     obtain⟨_,rfl,rfl,_⟩:=h;exact⟨fun h=>absurd rfl h,fun _=>rfl⟩
theorem e4J {l:List K.Ds.yQ}(h:K.Ds.iJ l ts=0):∃ nm0 sz0,l[0]? = some (nm0,sz0)/\lG l=nm0:=by
 have h1:=(K.Ds.oK (K.Ds.eO h).1).1;cases l with
 | nil=>simp at h1
 | cons c l=>exact⟨c.1,c.2,rfl,rfl⟩
theorem e5Q {l:List K.Ds.yQ}{S s':HSt}{x:Stp}{z ez lu ld e1:Int}{ls:List (List Pt)}(h3:x.act=3)(hw:K.Ds.iJ l ts=0)(hn:lG l=nm0)(hz:K.xJ (K.prt l x.q nm0)=(z,ez))(hA:rY x.u x.d x.lo x.hi l ts x.q=(ls,lu,ld,e1))
  (hs:pZ 0 S (.ask (kG e1 x.bits) (gV x.pn z ez lu ld) (wJ ls x.bits 0 []))=(s',⟨er,t2,[]⟩)):bJ l ts S x=(s',⟨er,t2.map fun t=>(t.1,t.2,lu,ld),[]⟩):=by
 unfold bJ jL;rw[xQ (fun h=>by omega),xQ (by omega),xQ (by omega),xQ (by omega),zQ h3];unfold lC;rw[hn,hz,hA,hw,e0J,hs]
theorem bwX {s:HSt}(h1:s.up=true)(h2:s.brk=false):(⟨s.disk,s.left,true,false,s.done⟩:HSt)=s:=by
 cases s;simp only at h1 h2;subst h1 h2;rfl
theorem HuI.call {w3:World}{bd:Nat}{l:List K.Ds.yQ}{s s':HSt}{xs:List (Sn vU)}(h:HuI W0 wr N0 bd bw a c l ts hv ov s xs M G)
  (hk:Keeps wr w' (fun k=>M k\/k=bd\/k=bw)) (hd:DskM w' bd bw a c s'.disk s'.left) (h64:oV s'.disk) (hi:vX s'.left) (M' G':Nat->Prop) (hM:∀ k,M' k->M k\/wr.heap.size+2<=k/\k<w'.heap.size) (hG:∀ k,G' k->G k\/wr.heap.size+2<=k/\k<w'.heap.size/\¬ M' k) (hGG:∀ k,G k->G' k)
  (dn:s'.up=false->hv' = .pointer none) (up:s'.up=true->K.Ds.iJ l ts=0/\∃ bh,hv' = .pointer (some ⟨bh,0,none⟩)/\M' bh/\(s'.brk=false->dZ w' M' bh bd l ts s'.done)/\(s'.brk=true->Cl w' bh 5 (.bool true))) (hw3:Keeps w' w3 (fun k=>k=wr.heap.size+1)) :
  HuI W0 w3 N0 bd bw a c l ts hv' ov s' xs M' G':=by
 have hbd:=h.ds.c0.lt;have hbw:=h.bs.2.2.1;have hs3:=hw3.size;have hs':=hk.size
 have hne:∀ k,M' k->¬ k=wr.heap.size+1:=fun k m e=>by
  rcases hM k m with m|m
  ·have:=(h.mm k m).2.1;omega
  ·omega
 have hk3:Keeps wr w3 (fun k=>M k\/k=bd\/k=bw) :=
  ⟨hw3.os.trans hk.os,hw3.tape.trans hk.tape,hw3.output.trans hk.output,by omega,fun k k1 k2=>(hw3.block k (by omega) (by omega)).trans (hk.block k k1 k2)⟩
 refine h.step hk3 (hd.kp hw3 (by omega) (by omega)) h64 hi M' G' (fun k m=>(hM k m).imp id (fun m=>by omega)) (fun k m=>(hG k m).imp id (fun m=>⟨by omega,by omega,m.2.2⟩)) hGG dn (fun u=>?_);obtain⟨e,bh,q1,q2,q3,q4⟩:=up u;exact⟨e,bh,q1,q2,fun x=>(q3 x).kp hw3 hne,fun x=>K.P.pU (q4 x) hw3 (hne bh q2)⟩
open K (Cl)
open K.P (HSt Keeps xX vJ jU dZ HouK DskM iG vZ pZ Ev Sn uD gV TwoB oV oU nV yX oA oZ vD enc dN)
theorem ahX {a:Act}(hg:o.guard=none)(t e:TypeId)(x:Operand)(ho:o.op=.buildSlice t 1 #[(0,x)])
  (N:Nat) (hN:w.heap.size=N) (dst:Option Tmp) (hdst:o.dst=dst) (hu:P.underlying t=some (.slice e)) (v:Value) (hv:a.eval x=v) (cells:Array Value) (hf:P.builtSlice e 1 [(0,v)]=some cells)
  (h:wpList P ops Q rest (a.put dst (.slice (some ⟨N,0,none⟩) 1 1)) (w.alloc (.cells cells e))):wpList P ops Q (o::rest) a w :=
 Great.wpList_buildSliceTo hg t e 1 _ ho N hN dst hdst hu cells (by subst hv;simpa using hf) h
theorem e5X (er us lu ld:Int)(ta ea:Option Addr)(tn tc en ec:Nat):prog.builtSlice 51 1 [(0,.agg #[.int .i64 er,.slice ta tn tc,.int .i64 us,.int .i64 lu,.int .i64 ld,.slice ea en ec])]=some #[.int .i64 er,.slice ta tn tc,.int .i64 us,.int .i64 lu,.int .i64 ld,.slice ea en ec]:=by kernel_rfl
theorem ahZ:(prog.info? 39).map (fun i=>i.size)=some 12:=by kernel_rfl
theorem bwZ:(prog.info? 41).map (fun i=>i.size)=some 18:=by kernel_rfl
theorem e5Z {act n bu bd kk kl kh lo hi word:Int}{nm:ByteArray}{kn kd km kp xl xc:Nat}:(#[.int .i64 act,.int .i64 n,.string nm,.int .i64 bu,.int .i64 bd,.string pn,.int .i64 kk,.string kc,.int .i64 kl,.int .i64 kh,.slice ka kn kd,.slice kb km kp,.int .i64 u,.int .i64 d,.int .i64 lo,.int .i64 hi,.slice xa xl xc,.int .i64 word]:Array Value).all (·.oneCell')=true:=by
 refine all_oneCell_toArray (cs:=[_,_,_,_,_,_,_,_,_,_,_,_,_,_,_,_,_,_]) (fun v hv=>?_);simp only[fX,yF,uF] at hv;rcases hv with rfl|rfl|rfl|rfl|rfl|rfl|rfl|rfl|rfl|rfl|rfl|rfl|rfl|rfl|rfl|rfl|rfl|rfl <;> rfl
open K (Cl)
open K.P (HSt Keeps xX vJ jU dZ HouK DskM iG vZ pZ Ev Sn uD gV TwoB oV oU nV yX oA oZ vD enc dN)
structure Stv where
 x:Stp
 v0:Int
 v1:ByteArray
 v2:Int
 v3:Int
 a4:Option Addr
 n4:Nat
 c4:Nat
 a5:Option Addr
 n5:Nat
 c5:Nat
 xa:Option Addr
 xc:Nat
def Stv.cs (s:Stv):List Value:=[.int .i64 s.x.act,.int .i64 s.x.n,.string s.x.nm,.int .i64 s.x.bu,.int .i64 s.x.bd,.string s.x.pn,.int .i64 s.v0,.string s.v1,.int .i64 s.v2,.int .i64 s.v3,.slice s.a4 s.n4 s.c4,.slice s.a5 s.n5 s.c5,.int .i64 s.x.u,.int .i64 s.x.d,.int .i64 s.x.lo,.int .i64 s.x.hi,.slice s.xa s.x.bits.length s.xc,.int .i64 s.x.word]
theorem Stv.len (s:Stv):s.cs.length=18:=rfl
theorem Stv.one (s:Stv):∀ u∈s.cs,u.oneCell' = true:=by
 intro u hu;simp only[Stv.cs,fX,yF,uF] at hu;rcases hu with rfl|rfl|rfl|rfl|rfl|rfl|rfl|rfl|rfl|rfl|rfl|rfl|rfl|rfl|rfl|rfl|rfl|rfl <;> rfl
def sF (w:World) (B:Nat) (s:Stv):Prop :=
 ∃ nb,K.Qm w B s.x.q (.int .i64 s.v0) (.string s.v1) (.int .i64 s.v2) (.int .i64 s.v3) (.slice s.a4 s.n4 s.c4) (.slice s.a5 s.n5 s.c5)/\mA w B nb (.slice s.xa s.x.bits.length s.xc) s.x.bits/\(s.xa=none->s.xc=0)/\vX s.x.lo/\vX s.x.hi/\vX s.x.n/\vX s.x.word/\s.x.nm.size<=9223372036854775807/\s.x.pn.size<=9223372036854775807
theorem sF.keep {s:Stv}(h:sF w B s)(hb:Below B w w'):sF w' B s:=by
 obtain⟨nb,h1,h2,h3⟩:=h;exact⟨nb,h1.keep hb,h2.keep hb,h3⟩
theorem e5J {o:Nat}{s:Stv}(h:w.rangeAt b o s.cs)(hm:sF w B s):eS w B b o s.x:=by
 obtain⟨nb,h2,h3,h4⟩:=hm;exact⟨_,_,_,_,_,_,s.xa,s.xc,nb,h,h2,h3,h4⟩
def gS (w:World) (B:Nat) (v:Value) (ss:List Stv):Prop :=
 ∃ a c,v=.slice a ss.length c/\ss.length<=c/\(∀ s∈ss,sF w B s)/\(ss≠[]->∃ b o,a=some ⟨b,o,none⟩/\b<B/\∀ (i:Nat) s,ss[i]? = some s->w.rangeAt b (o+i*18) s.cs)
theorem gS.keep {ss:List Stv}(h:gS w B v ss)(hb:Below B w w'):gS w' B v ss:=by
 obtain⟨a,c,rfl,h1,h2,h3⟩:=h;refine⟨a,c,rfl,h1,fun s hs=>(h2 s hs).keep hb,fun hn=>?_⟩;obtain⟨b,o,rfl,hB,h4⟩:=h3 hn;exact⟨b,o,rfl,hB,fun i s hs j u hj=>(hb.cell (p:=⟨b,o+i*18+j,none⟩) hB).trans (h4 i s hs j u hj)⟩
def sfl (ss:List Stv):List Value:=ss.flatMap Stv.cs
theorem bwJ (ss:List Stv):(sfl ss).length=ss.length*18:=by
 induction ss with
 | nil=>rfl
 | cons s ss ih=>unfold sfl at *;rw[mN,dJ,ih,Stv.len,pJ];omega
theorem bxQ (ss:List Stv)(s:Stv):sfl (ss++[s])=sfl ss++s.cs:=by simp[sfl]
theorem bxX:∀ (ss:List Stv) (i:Nat) (s:Stv) (j:Nat) (u:Value),ss[i]? = some s->s.cs[j]? = some u->(sfl ss)[i*18+j]? = some u
 | [],i,s,j,u,h,_=>by simp at h
 | t::ss,i,s,j,u,h,hj=>by
  unfold sfl;rw[mN];have hj18:j<18:=by have:=(cQ.1 hj).1;rwa [Stv.len] at this
  cases i with
  | zero =>
   simp only[List.getElem?_cons_zero,zX] at h;subst h;rw[qT (by rw[Stv.len];omega),yI,xZ];exact hj
  | succ i =>
   rw[List.getElem?_cons_succ] at h;rw[jF (by rw[Stv.len];omega),Stv.len,show(i+1)*18+j - 18=i*18+j by omega];exact bxX ss i s j u h hj
theorem sF.mono {s:Stv}(h:sF w B s)(hB:B<=B'):sF w B' s:=by
 obtain⟨nb,h1,h2,h3⟩:=h;exact⟨_,K.P.iC hB _ h1,h2.mono hB (.inl rfl),h3⟩
theorem e6Q {ss:List Stv}(h:w.ownsRow base 41 18 v ss.length (sfl ss))(hm:∀ s∈ss,sF w w.heap.size s):gS w w.heap.size v ss:=by
 rcases h.2 with⟨rfl,h0⟩|⟨g,cap,cur,rfl,hb,hc,hn,hrest⟩
 ·obtain rfl:ss=[]:=jI.1 h0
  exact⟨none,0,rfl,vQ _,hm,fun hne=>absurd rfl hne⟩
 ·have hlt:=(yJ.1 hc).1
  refine⟨_,cap,rfl,hn,hm,fun _=>⟨g,0,rfl,hlt,fun i s hs j u hj=>?_⟩⟩;have h3:=h.cells (g:=g) rfl (i*18+j) u (bxX ss i s j u hs hj);have e:(⟨g,0,none⟩:Addr).add (i*18+j)=⟨g,0+i*18+j,none⟩:=by unfold Addr.add;split <;> simp_all
  rwa [e] at h3
theorem e6X {ss:List Stv}(h:gS w B v ss)(hl:ss.length<=9223372036854775807):bvQ w B v (ss.map Stv.x):=by
 obtain⟨a,c,rfl,h1,h2,h3⟩:=h;refine⟨a,c,by rw[uU],by rw[uU];exact h1,by rw[uU];exact hl,fun hn=>?_⟩;obtain⟨b,o,rfl,hB,h4⟩:=h3 (fun e=>hn (by rw[e];rfl));refine⟨b,o,rfl,hB,fun i x hx=>?_⟩;rw[uA] at hx;obtain⟨s,hs,rfl⟩:=rP.1 hx;exact e5J (h4 i s hs) (h2 s (qX hs))
open K (Cl)
open K.P (HSt Keeps xX vJ jU dZ HouK DskM iG vZ pZ Ev Sn uD gV TwoB oV oU nV yX oA oZ vD enc dN)
abbrev Z18:Value:=.agg #[.int .i64 0,.int .i64 0,.string ⟨#[]⟩,.int .i64 0,.int .i64 0,.string ⟨#[]⟩,.int .i64 0,.string ⟨#[]⟩,.int .i64 0,.int .i64 0,.slice none 0 0,.slice none 0 0,.int .i64 0,.int .i64 0,.int .i64 0,.int .i64 0,.slice none 0 0,.int .i64 0]
theorem e6Z:(prog.info? 41).map (fun i=>(i.zero,i.size,i.bytes))=some (some Z18,18,216):=by kernel_rfl
theorem aiQ {cs:List Value}(h:Bx w b cs):w.rangeAt b 0 cs:=fun j v hj=>by rw[xZ];exact(h j v hj).c
end
namespace K.P
open Go.RowKit K.Ds
end K.P
section
open Go.RowKit Go.Shelf Ds
end
section
open Go.RowKit Ds
open K (Cl)
open K.P (HSt Keeps xX vJ jU dZ HouK DskM iG vZ pZ Ev Sn uD gV TwoB oV oU nV yX oA oZ vD enc nrm)
theorem e6J {os:List (Sn vU)}(h1:css.length=os.length)(h2:w.ownsRow N0 51 6 ov os.length css.flatten)
  (h4:∀ (i:Nat) x cs,os[i]? = some x->css[i]? = some cs->aD w G x cs) {i:Nat} {x:Sn vU} (hi:os[i]? = some x) :
  ∃ cs g c,ov=.slice (some ⟨g,0,none⟩) os.length c/\N0<=g/\g<w.heap.size/\w.rangeAt g (0+i*6) cs/\aD w G x cs:=by
 have hlt:=(cQ.1 hi).1;obtain⟨cs,hcs⟩:∃ cs,css[i]? = some cs:=⟨_,zJ (by omega)⟩
 have h6:∀ (j:Nat) ds,css[j]? = some ds->ds.length=6:=by
  intro j ds hj;have hjl:=(cQ.1 hj).1;obtain⟨_,_,_,_,_,e,_⟩:=h4 j _ ds (zJ (by omega)) hj;rw[e];rfl
 have hfl:∀ (l:List (List Value)),(∀ (j:Nat) ds,l[j]? = some ds->ds.length=6)->∀ (k:Nat) ds,l[k]? = some ds->∀ (q:Nat) u,ds[q]? = some u->l.flatten[k*6+q]? = some u:=by
  intro l
  induction l with
  | nil=>intro _ k ds h;simp at h
  | cons a l ih =>
   intro hl k ds hk q u hq;have ha:=hl 0 a rfl;rw[List.flatten_cons];cases k with
   | zero =>
    simp only[List.getElem?_cons_zero,zX] at hk;subst hk;have:=(cQ.1 hq).1;rw[qT (by omega)];simpa using hq
   | succ k =>
    rw[List.getElem?_cons_succ] at hk;rw[jF (by omega),ha,show(k+1)*6+q - 6=k*6+q by omega];exact ih (fun j ds hj=>hl (j+1) ds (by simpa using hj)) k ds hk q u hq
 rcases h2.2 with⟨_,h0⟩|⟨g,cap,cur,rfl,hb,hc,_⟩
 ·omega
 ·refine⟨cs,g,cap,rfl,hb,(yJ.1 hc).1,fun q u hq=>?_,h4 i x cs hi hcs⟩
  have h3:=h2.cells (g:=g) rfl (i*6+q) u (hfl css h6 i cs hcs q u hq);have e:(⟨g,0,none⟩:Addr).add (i*6+q)=⟨g,0+i*6+q,none⟩:=by unfold Addr.add;split <;> simp_all
  rwa [e] at h3
open K.P (HSt Keeps xX oV nV yX enc)
def cV (act bu bd:Int) (nm:ByteArray):Stv:=⟨⟨act,0,nm,bu,bd,⟨#[]⟩,.node 0 ⟨#[]⟩ 0 0 [] 0 .none .none,0,0,0,0,[],0⟩,0,⟨#[]⟩,0,0,none,0,0,none,0,0,none,0⟩
theorem aiX (w:World)(B:Nat)(act bu bd:Int)(nm:ByteArray)(hn:nm.size<=9223372036854775807):sF w B (cV act bu bd nm):=by
 have z0:vX 0:=⟨by decide,by decide⟩;refine⟨0,⟨rfl,rfl,rfl,rfl,by decide,?_,none,0,rfl,vQ _,by decide,fun h=>by omega⟩,mA.of ⟨none,0,rfl,vQ _,kQ _,fun h=>absurd rfl h⟩,fun _=>rfl,z0,z0,z0,z0,hn,kQ _⟩;exact⟨none,0,rfl,vQ _,by decide,(fun x hx=>by cases hx),fun h=>absurd rfl h⟩
theorem bl1:prog.built 41 [(0,.int .i64 1)]=some (cV 1 0 0 ⟨#[]⟩).cs.toArray:=by kernel_rfl
theorem e7Q (a b:Stv):prog.builtSlice 41 2 [(0,.agg a.cs.toArray),(1,.agg b.cs.toArray)]=some (sfl [a,b]).toArray:=by kernel_rfl
theorem bxJ {a:Act}(hg:o.guard=none)(t:TypeId)(n:Nat)(x:Operand)(ho:o.op=.build t #[(n,x)])(d:Option Tmp)(hd:o.dst=d)(v:Value)(hv:a.eval x=v)(cells:Array Value)(hf:P.built t [(n,v)]=some cells)
  (h:wpList P ops Q rest (a.put d (.agg cells)) w):wpList P ops Q (o::rest) a w:=wpList_buildTo hg t _ ho d hd cells (by subst hv;simpa using hf) h
theorem e7X {a:Act}(hg:o.guard=none)(t:TypeId)(n m k:Nat)(x y z:Operand)(ho:o.op=.build t #[(n,x),(m,y),(k,z)])(d:Option Tmp)(hd:o.dst=d)(v v' v'':Value)(hv:a.eval x=v)(hv':a.eval y=v')(hv'':a.eval z=v'')(cells:Array Value)(hf:P.built t [(n,v),(m,v'),(k,v'')]=some cells)
  (h:wpList P ops Q rest (a.put d (.agg cells)) w):wpList P ops Q (o::rest) a w:=wpList_buildTo hg t _ ho d hd cells (by subst hv hv' hv'';simpa using hf) h
theorem e7Z {a:Act}(hg:o.guard=none)(t e:TypeId)(x y:Operand)(ho:o.op=.buildSlice t 2 #[(0,x),(1,y)])
  (N:Nat) (hN:w.heap.size=N) (dst:Option Tmp) (hdst:o.dst=dst) (hu:P.underlying t=some (.slice e)) (v v':Value) (hv:a.eval x=v) (hv':a.eval y=v') (cells:Array Value) (hf:P.builtSlice e 2 [(0,v),(1,v')]=some cells)
  (h:wpList P ops Q rest (a.put dst (.slice (some ⟨N,0,none⟩) 2 2)) (w.alloc (.cells cells e))):wpList P ops Q (o::rest) a w :=
 Great.wpList_buildSliceTo hg t e 2 _ ho N hN dst hdst hu cells (by subst hv hv';simpa using hf) h
end
namespace K.P
open Go.RowKit K.Ds
theorem aiZ:∀ (ws:List (Nat × Int)) (disk:List Int),(qZ disk (-1) ws).2=(-1,true)
 | [],disk=>rfl
 | (a,x)::r,disk=>by
  unfold qZ;rw[xQ (by decide),xQ (by decide)];exact aiZ r _
theorem e7J {s:HSt}{e:En}(hl:s.left = -1)(hd:9*s.done.length+9<=s.disk.length) :
  (vZ s e).2=eX s.done (nrm e)/\(vZ s e).1.left = -1:=by
 unfold vZ;rw[xQ (by omega)];by_cases c:eX s.done (nrm e)=0
 ·rw[xQ (by simpa using c),hl]
  have:=aiZ (wrs s.done.length (nrm e)) s.disk;rw[zQ (by rw[this])];exact⟨c.symm,by simp[this]⟩
 ·rw[zQ c]
  exact⟨rfl,hl⟩
end K.P
section
open Go.RowKit Ds
open K.P in
end
section
open Go.RowKit Ds
end
section
open Go.RowKit Go.Shelf Ds
end
section
open Go.RowKit Ds
open K.P (HSt Keeps xX oV nV yX wZ enc)
theorem e8Q (w:World):Calls prog 13 #[] w fun e w'=>e=.returned (.bool true)/\Below w.heap.size w w':=by
 have kc:=K.P.bgJ 2 4 1 2 0 (by decide) (by decide) (by decide +kernel) w;go_enter func13,ntmps13;go_wp2_with fail;refine kc.mono ?_;rintro e1 w1 ⟨rfl,hb1⟩;clear kc;go_wp2;go_ret;exact⟨rfl,bal hb1 _⟩
abbrev dV:ByteArray:=⟨#[112]⟩
def thr (q:K.Ds.Qu) (v0:Int) (v1:ByteArray) (v2 v3:Int) (a4:Option Addr) (n4 c4:Nat) (a5:Option Addr) (n5 c5:Nat) (u d lo hi:Int) (bits:List Int) (xa:Option Addr) (xc:Nat):Stv :=
 ⟨⟨3,0,⟨#[]⟩,0,0,dV,q,u,d,lo,hi,bits,0⟩,v0,v1,v2,v3,a4,n4,c4,a5,n5,c5,xa,xc⟩
theorem blP (bu bd:Int):prog.built 41 [(0,.int .i64 2),(2,.string dV),(3,.agg #[.int .i64 bu,.int .i64 bd])]=some (cV 2 bu bd dV).cs.toArray:=by kernel_rfl
theorem blA (q:K.Ds.Qu)(v0:Int)(v1:ByteArray)(v2 v3:Int)(a4:Option Addr)(n4 c4:Nat)(a5:Option Addr)(n5 c5:Nat)(u d lo hi:Int)(bits:List Int)(xa:Option Addr)(xc:Nat) :
  prog.built 41 [(0,.int .i64 3),(4,.agg ([.string dV,.int .i64 v0,.string v1,.int .i64 v2,.int .i64 v3,.slice a4 n4 c4,.slice a5 n5 c5,.int .i64 u,.int .i64 d,.int .i64 lo,.int .i64 hi,.slice xa bits.length xc]:List Value).toArray)]=some (thr q v0 v1 v2 v3 a4 n4 c4 a5 n5 c5 u d lo hi bits xa xc).cs.toArray:=by kernel_rfl
theorem e8J {a:Act}(hg:o.guard=none)(t:TypeId)(n m:Nat)(x y:Operand)(ho:o.op=.build t #[(n,x),(m,y)])(d:Option Tmp)(hd:o.dst=d)(v v':Value)(hv:a.eval x=v)(hv':a.eval y=v')(cells:Array Value)(hf:P.built t [(n,v),(m,v')]=some cells)
  (h:wpList P ops Q rest (a.put d (.agg cells)) w):wpList P ops Q (o::rest) a w:=wpList_buildTo hg t _ ho d hd cells (by subst hv hv';simpa using hf) h
theorem byQ:(prog.info? 32).map (fun i=>i.size)=some 2:=by kernel_rfl

import Derived.Test.YtpmioeamdhdokaaGreatQq37
import Derived.Laws.IdiomStrings
open Go.Proofs.Tryz
set_option linter.unusedSimpArgs false
set_option maxHeartbeats 16000000
set_option maxRecDepth 100000
namespace Go.Proofs.YtpmioeamdhdokaaGreat
variable {A B C W W' W7 Wc w w' w5 wr:World} {P b b1 base cap fuel g i k m n sz z:Nat} {t:TypeId} {bv bv' en er nv sv sv' v:Value} {xs:List Value} {o o2:Obj} {r:Option Nat} {K:Nat->Prop} {x:List UInt8} {ns:List (List UInt8)} {ops:Array Oper} {J:Nat->Bool} {Q:Exit->Act->World->Prop} {S:World->Prop} {oi:Oper} {listed:Array Bool} {a:Act} {l:List Int}
namespace K.P
open Go.RowKit Go.Shelf K.Ds
abbrev nilv:Value:=.slice none 0 0
def oD (l:List Int):List Value:=l.map (.int .i64)
theorem edJ (l:List Int)(x:Int):oD (l++[x])=oD l++[.int .i64 x]:=by simp[oD]
theorem eeQ:(prog.info? 34).map (fun i=>(i.zero,i.size,i.bytes))=some (some (.int .i64 0),1,8):=by kernel_rfl
theorem sG (h:w.ownsRow base t sz v n xs)(hk:∀ g,v.ownBlock=some g->w'.heap[g]? = w.heap[g]?):w'.ownsRow base t sz v n xs:=by
 refine⟨h.1,?_⟩;rcases h.2 with h0|⟨g,cap,cur,hv,hb,hc,h1,h2,h3,h4⟩
 ·exact .inl h0
 ·exact .inr ⟨g,cap,cur,hv,hb,(hk g (by rw[hv];rfl)).trans hc,h1,h2,h3,h4⟩
theorem jX (h:w.ownsRow base t sz v n xs)(hg:v.ownBlock=some g):base<=g/\g<w.heap.size:=by
 rcases h.2 with⟨rfl,_⟩|⟨g',cap,cur,rfl,hb,hc,_⟩
 ·cases hg
 ·simp only[Value.ownBlock,xX] at hg
  subst hg;exact⟨hb,(zJ.1 hc).1⟩
theorem sZ (h:w.ownsRow base t sz v n xs):∃ a c,v=.slice a n c:=by
 rcases h.2 with⟨rfl,rfl⟩|⟨g',cap,cur,rfl,_⟩
 ·exact⟨_,_,rfl⟩
 ·exact⟨_,_,rfl⟩
def tG (s:Nat) (er:Value) (k:Nat):Prop:=s+1<=k/\k≠s+3/\k≠s+4/\er.ownBlock≠some k
structure BkL (w wr:World) (l:List En) (k:Nat) (er:Value):Prop where
 bk:∃ n v D,BookM wr (tG w.heap.size er) (w.heap.size+2) (w.heap.size+1) n v D (mX [] (l.take k)).2
 px:Boxed wr (w.heap.size+3) 144 (.pointer (some ⟨w.heap.size+2,0,none⟩))
 out:SixB wr (w.heap.size+4) er nilv nilv nilv nilv (.bool false)
 res:SixB wr w.heap.size nilv nilv nilv nilv nilv (.bool false)
 row:wr.ownsRow (w.heap.size+5) 34 1 er k (oD (mX [] (l.take k)).1)
 low:Below w.heap.size w wr
 sz:w.heap.size+5<=wr.heap.size
theorem BkL.next {w6:World}{l:List En}{e:En}(h:BkL w wr l k er)(he:l[k]? = some e)
  (hK:Keeps (wr.alloc o).drew w5 (tG w.heap.size er)) (hB:∃ n v D,BookM w5 (tG w.heap.size er) (w.heap.size+2) (w.heap.size+1) n v D (sY (mX [] (l.take k)).2 e))
  (hown:w6.ownsRow (w.heap.size+5) 34 1 (.slice (some ⟨g,0,none⟩) (k+1) cap) (k+1) (oD (mX [] (l.take k)).1++[.int .i64 (fX (mX [] (l.take k)).2 (nrm e))]))
  (hgr:(w5.alloc o2).grownBy w6 er.ownBlock) (hat:er.ownBlock=some g\/g=w5.heap.size+1) :
  BkL w (w6.setCell ⟨w.heap.size+4,0,none⟩ (.slice (some ⟨g,0,none⟩) (k+1) cap)) l (k+1) (.slice (some ⟨g,0,none⟩) (k+1) cap):=by
 have hsn:mX [] (l.take (k+1))=((mX [] (l.take k)).1++[fX (mX [] (l.take k)).2 (nrm e)],sY (mX [] (l.take k)).2 e):=by
  rw[gZ,he];exact lB _ _ _
 have hs1:wr.heap.size+1<=w5.heap.size:=by have h1:=hK.size;have h2:(wr.alloc o).drew.heap.size=wr.heap.size+1:=(by simp[World.drew]);omega
 have hs0:=h.sz;have hrl:=fun g (hg:er.ownBlock=some g)=>jX h.row hg
 have hgg:w.heap.size+5<=g:=by
  rcases hat with h1|h1
  ·exact(hrl g h1).1
  ·omega
 have hsame:∀ b,b<wr.heap.size->¬ tG w.heap.size er b->er.ownBlock≠some b->b≠w.heap.size+4->(w6.setCell ⟨w.heap.size+4,0,none⟩ (.slice (some ⟨g,0,none⟩) (k+1) cap)).heap[b]? = wr.heap[b]?:=fun b hb hn hne hn4=>by
  rw[show(w6.setCell ⟨w.heap.size+4,0,none⟩ (.slice (some ⟨g,0,none⟩) (k+1) cap)).heap[b]? = w6.heap[b]? from tL _ _ _ _ (by exact fun e=>hn4 e)];rw[hgr.block b (by simp;omega) (fun e=>hne e.symm)];rw[show(w5.alloc o2).heap[b]? = w5.heap[b]? from wL _ _ _ (by omega)];rw[hK.block b (by show b<(wr.alloc o).heap.size;simp;omega) hn];exact wL _ _ _ hb
 have h4:¬ tG w.heap.size er (w.heap.size+4):=fun c=>c.2.2.1 rfl;have h3:¬ tG w.heap.size er (w.heap.size+3):=fun c=>c.2.1 rfl;have hno:∀ b,b<w.heap.size+5->er.ownBlock≠some b:=fun b hb c=>by have:=(hrl b c).1;omega
 have hg2:w6.grownBy (w6.setCell ⟨w.heap.size+4,0,none⟩ (.slice (some ⟨g,0,none⟩) (k+1) cap)) (some (w.heap.size+4)):=nQ (vX _ _) 0 _;have hs6:=hgr.size;simp only[vP] at hs6;constructor
 ·obtain⟨n,v,D,hb⟩:=hB
  refine⟨n,v,D,?_⟩;rw[hsn]
  have b1:BookM w5 (fun x=>tG w.heap.size er x/\x≠g) (w.heap.size+2) (w.heap.size+1) n v D (sY (mX [] (l.take k)).2 e):=hb.mono (fun x hx hn=>⟨hn,fun c=>by
   rcases hat with h1|h1
   ·exact hn.2.2.2 (by rw[h1,c])
   ·omega⟩)
  have b2:=b1.gb (bY (uN w5 o2 _) hgr) (fun x hx c=>c.1.2.2.2 hx);have b3:=b2.gb hg2 (fun x hx c=>by simp only[xX] at hx;exact c.1.2.2.1 hx.symm);exact b3.mono (fun x _ hn=>⟨hn.1.1,hn.1.2.1,hn.1.2.2.1,by simp[Value.ownBlock];exact fun c=>hn.2 c.symm⟩)
 ·exact(hsame _ h.px.lt h3 (hno _ (by omega)) (by omega)).trans h.px
 ·have o6:SixB w6 (w.heap.size+4) er nilv nilv nilv nilv (.bool false):=by
   refine h.out.same ?_;rw[hgr.block (w.heap.size+4) (by simp;omega) (fun e=>hno (w.heap.size+4) (by omega) e.symm),show(w5.alloc o2).heap[w.heap.size+4]? = w5.heap[w.heap.size+4]? from wL _ _ _ (by omega),hK.block (w.heap.size+4) (by show _<(wr.alloc o).heap.size;simp;omega) h4];exact wL _ _ _ (by omega)
  exact o6.put0 _
 ·exact h.res.same (hsame _ h.res.lt (fun c=>by have:=c.1;omega) (hno _ (by omega)) (by omega))
 ·rw[hsn]
  simp only[edJ];exact hown.kept hg2 (.inr (by simp[Value.ownBlock];omega))
 ·refine⟨?_,?_,?_,?_,fun b hb=>?_⟩
  ·exact hgr.os.trans (hK.os.trans h.low.os)
  ·exact hgr.tape.trans (hK.tape.trans h.low.tape)
  ·exact hgr.output.trans (hK.output.trans h.low.output)
  ·have:=h.low.size;simp[World.setCell];omega
  ·exact(hsame b (by omega) (fun c=>by have:=c.1;omega) (hno b (by omega)) (by omega)).trans (h.low.block b hb)
 ·simp[World.setCell];omega
theorem BkL.row5 {X:World}{l:List En}(h:BkL w wr l k er)(hX:Below wr.heap.size wr X)(hK:Keeps X.drew w5 (tG w.heap.size er))(o:Obj):(w5.alloc o).ownsRow (w.heap.size+5) 34 1 er k (oD (mX [] (l.take k)).1):=by
 have h5:w5.ownsRow (w.heap.size+5) 34 1 er k (oD (mX [] (l.take k)).1):=sG h.row fun g hg=>by
  have hlt:=(jX h.row hg).2;exact(hK.block g (uX hlt hX.size) (fun c=>c.2.2.2 hg)).trans (hX.block g hlt)
 refine sG h5 fun g hg=>?_;have:=(jX h5 hg).2;exact wL _ _ _ this
theorem aeJ (w:World)(a:Value)(t:TypeId)(N:Nat)(hN:N=w.heap.size):∀ j u,[a][j]? = some u->(w.alloc (.cells #[a] t)).cell? ((⟨N,0,none⟩:Addr).add j)=some u:=by
 subst hN;exact fun j u hu=>World.news_of_block (w:=w.alloc (.cells #[a] t)) (B:=w.heap.size) (cs:=#[a]) (t:=t) (fr:=(0,0)) (rC w _) j u (by simpa using hu)
structure Stay (P m:Nat) (A B:World):Prop where
 os:B.os=A.os
 tape:B.tape=A.tape
 output:B.output=A.output
 size:A.heap.size<=B.heap.size
 block:∀ b,b<m->b≠P->B.heap[b]? = A.heap[b]?
theorem Stay.refl (P m:Nat)(A:World):Stay P m A A:=⟨rfl,rfl,rfl,vQ _,fun _ _ _=>rfl⟩
theorem Stay.trans (h:Stay P m A B)(k:Stay P m B C):Stay P m A C :=
 ⟨k.os.trans h.os,k.tape.trans h.tape,k.output.trans h.output,bQ h.size k.size,fun b hb hn=>(k.block b hb hn).trans (h.block b hb hn)⟩
theorem Stay.mono {m':Nat}(h:Stay P m A B)(hm:m'<=m):Stay P m' A B:=⟨h.os,h.tape,h.output,h.size,fun b hb hn=>h.block b (by omega) hn⟩
theorem Stay.gb (h:Stay P m A B)(k:B.grownBy C r)(hm:m<=B.heap.size)(hr:∀ x,r=some x->m<=x\/x=P):Stay P m A C :=
 h.trans ⟨k.os,k.tape,k.output,k.size,fun b hb hn=>k.block b (by omega) (fun e=>by rcases hr b e.symm with h|h;omega;exact hn h)⟩
theorem Stay.below (h:Stay P m A B)(k:Below B.heap.size B C)(hm:m<=B.heap.size):Stay P m A C:=h.gb (tX k) hm (by simp)
theorem Stay.grown (h:Stay P A.heap.size A B):A.grownBy B (some P):=⟨h.os,h.tape,h.output,h.size,fun b hb hn=>h.block b hb (fun e=>hn (by rw[e]))⟩
theorem Stay.kpt (h:Stay P m A B)(hK:∀ b,K b->b<m/\b≠P):Kpt K A B:=⟨h.size,fun b hb=>h.block b (hK b hb).1 (hK b hb).2⟩
def kF (l:List Rq):List Value:=l.flatMap fun r=>[.int .i64 r.1,.int .i64 r.2]
theorem blQ (l:List Rq)(r:Rq):kF (l++[r])=kF l++[.int .i64 r.1,.int .i64 r.2]:=by simp[kF]
def lL (dn:List En) (x:List UInt8):Rq:=(lJ dn ⟨x.toArray⟩).1
def oI (dn:List En) (x:List UInt8):Rq:=(sX dn ⟨x.toArray⟩).getD (0,0)
theorem eeX {dn:List En}(h:Inv dn)(hx:x∈dX dn):sX dn ⟨x.toArray⟩=some (oI dn x)/\x.length<=32:=by
 obtain⟨y,hy,rfl⟩:=(ebX dn x).1 hx;have he:(⟨y.data.toList.toArray⟩:ByteArray)=y:=by cases y;simp
 refine⟨?_,?_⟩
 ·unfold oI
  rw[he];cases hb:sX dn y with
  | some b=>rfl
  | none=>exact absurd hy ((lR dn y).1 hb)
 ·unfold eY at hy
  obtain⟨e,he2,rfl⟩:=wX.1 hy;have h1:=(oH (h.bad e (vE.1 he2).1).1).2.2.1;unfold yV at h1;simp only[jK,qY] at h1;exact h1.1.2
structure Trio (W:World) (m:Nat) (nv sv bv:Value) (ns:List (List UInt8)) (ss bs:List Rq):Prop where
 n:W.ownsRow m 9 1 nv ns.length (ns.map encStr)
 s:W.ownsRow m 37 2 sv ss.length (kF ss)
 b:W.ownsRow m 37 2 bv bs.length (kF bs)
 ds:∀ g,nv.ownBlock=some g->sv.ownBlock≠some g
 db:∀ g,nv.ownBlock=some g->bv.ownBlock≠some g
 dd:∀ g,sv.ownBlock=some g->bv.ownBlock≠some g
theorem dZ (h:W.ownsRow m t z v n xs)(hg:W.grownBy W' r)(hr:∀ g,v.ownBlock=some g->r≠some g):W'.ownsRow m t z v n xs :=
 sG h fun g hg2=>hg.block g (jX h hg2).2 (fun e=>hr g hg2 e.symm)
theorem qS (h:W.ownsRow m t z v n xs)(hg:W.grownBy W' (some P))(hP:P<m):W'.ownsRow m t z v n xs :=
 dZ h hg fun g hg2 e=>by have:=(jX h hg2).1;simp only[xX] at e;omega
theorem Trio.none {ss bs:List Rq}(h:Trio W m nv sv bv ns ss bs)(hg:W.grownBy W' none):Trio W' m nv sv bv ns ss bs :=
 ⟨dZ h.n hg (by simp),dZ h.s hg (by simp),dZ h.b hg (by simp),h.ds,h.db,h.dd⟩
theorem Trio.low {ss bs:List Rq}(h:Trio W m nv sv bv ns ss bs)(hg:W.grownBy W' (some P))(hP:P<m):Trio W' m nv sv bv ns ss bs :=
 ⟨qS h.n hg hP,qS h.s hg hP,qS h.b hg hP,h.ds,h.db,h.dd⟩
theorem Trio.nil (W:World)(m:Nat):Trio W m nilv nilv nilv [] [] [] :=
 ⟨⟨rfl,.inl ⟨rfl,rfl⟩⟩,⟨rfl,.inl ⟨rfl,rfl⟩⟩,⟨rfl,.inl ⟨rfl,rfl⟩⟩,fun g hg=>(by cases hg),fun g hg=>(by cases hg),fun g hg=>(by cases hg)⟩
theorem Trio.name {nv':Value}{ss bs:List Rq}(h:Trio W m nv sv bv ns ss bs)(hg:W.grownBy W' nv.ownBlock)
  (hown:W'.ownsRow m 9 1 nv' (ns.length+1) (ns.map encStr++[encStr x])) (hat:nv'.ownBlock=nv.ownBlock\/nv'.ownBlock=some W.heap.size):Trio W' m nv' sv bv (ns++[x]) ss bs:=by
 refine⟨by simpa using hown,dZ h.s hg (fun g h1 e=>h.ds g e h1),dZ h.b hg (fun g h1 e=>h.db g e h1),fun g h1 h2=>?_,fun g h1 h2=>?_,h.dd⟩
 ·rcases hat with e|e
  ·rw[e] at h1;exact h.ds g h1 h2
  ·rw[e] at h1;have:=(jX h.s h2).2;simp only[xX] at h1;omega
 ·rcases hat with e|e
  ·rw[e] at h1;exact h.db g h1 h2
  ·rw[e] at h1;have:=(jX h.b h2).2;simp only[xX] at h1;omega
theorem Trio.spent {ss bs:List Rq}{x:Rq}(h:Trio W m nv sv bv ns ss bs)(hg:W.grownBy W' sv.ownBlock)
  (hown:W'.ownsRow m 37 2 sv' (ss.length+1) (kF ss++[.int .i64 x.1,.int .i64 x.2])) (hat:sv.ownBlock=sv'.ownBlock\/sv'.ownBlock=some W.heap.size):Trio W' m nv sv' bv ns (ss++[x]) bs:=by
 refine⟨dZ h.n hg (fun g h1 e=>h.ds g h1 e),by simpa [blQ] using hown,dZ h.b hg (fun g h1 e=>h.dd g e h1),fun g h1 h2=>?_,h.db,fun g h1 h2=>?_⟩
 ·rcases hat with e|e
  ·rw[<-e] at h2;exact h.ds g h1 h2
  ·rw[e] at h2;have:=(jX h.n h1).2;simp only[xX] at h2;omega
 ·rcases hat with e|e
  ·rw[<-e] at h1;exact h.dd g h1 h2
  ·rw[e] at h1;have:=(jX h.b h2).2;simp only[xX] at h1;omega
theorem Trio.bud {ss bs:List Rq}{x:Rq}(h:Trio W m nv sv bv ns ss bs)(hg:W.grownBy W' bv.ownBlock)
  (hown:W'.ownsRow m 37 2 bv' (bs.length+1) (kF bs++[.int .i64 x.1,.int .i64 x.2])) (hat:bv.ownBlock=bv'.ownBlock\/bv'.ownBlock=some W.heap.size):Trio W' m nv sv bv' ns ss (bs++[x]):=by
 refine⟨dZ h.n hg (fun g h1 e=>h.db g h1 e),dZ h.s hg (fun g h1 e=>h.dd g h1 e),by simpa [blQ] using hown,h.ds,fun g h1 h2=>?_,fun g h1 h2=>?_⟩
 ·rcases hat with e|e
  ·rw[<-e] at h2;exact h.db g h1 h2
  ·rw[e] at h2;have:=(jX h.n h1).2;simp only[xX] at h2;omega
 ·rcases hat with e|e
  ·rw[<-e] at h2;exact h.dd g h1 h2
  ·rw[e] at h2;have:=(jX h.s h1).2;simp only[xX] at h2;omega
structure BkR (W7:World) (P:Nat) (er en:Value) (dn:List En) (m:Nat) (pre:List (List UInt8)) (W:World):Prop where
 st:Stay P W7.heap.size W7 W
 ex:∃ nv sv bv,SixB W P er en nv sv bv (.bool true)/\Trio W m nv sv bv pre (pre.map (lL dn)) (pre.map (oI dn))
theorem blX {dn:List En}(hP:P<W7.heap.size):zN W7.heap.size (BkR W7 P er en dn):=by
 rintro m pre A B row hm ⟨h1,nv,sv,bv,h2,h3⟩ hg hr;refine⟨h1.gb hg h1.size (fun x e=>.inl (hr x e).1),nv,sv,bv,h2.gb hg (fun e=>by have:=hr P e.symm;omega),?_⟩;have hno:∀ v:Value,∀ z t n xs,A.ownsRow m t z v n xs->∀ g,v.ownBlock=some g->row≠some g:=fun v z t n xs hw g hv e=>by have h4:=(jX hw hv).1;have h5:=hr g e;omega
 exact⟨dZ h3.n hg (hno _ _ _ _ _ h3.n),dZ h3.s hg (hno _ _ _ _ _ h3.s),dZ h3.b hg (hno _ _ _ _ _ h3.b),h3.ds,h3.db,h3.dd⟩
theorem eeZ {dn:List En}(h:SixB W7 P er en nilv nilv nilv (.bool true))(hg:W7.grownBy W' none):BkR W7 P er en dn m [] W' :=
 ⟨(Stay.refl P _ W7).gb hg (vQ _) (by simp),nilv,nilv,nilv,h.gb hg (by simp),Trio.nil _ _⟩
theorem eeJ {r:Value}{xs:List (List UInt8)}(hg:W.cell? ⟨g,0,none⟩=some r)(hgl:g<W.heap.size)(hrow:W.ownsRow base 9 1 r xs.length (xs.map encStr)) :
  ∃ b a c,r=.slice a xs.length c/\NamF W g b a c xs/\b<W.heap.size/\(b=g\/base<=b):=by
 rcases hrow.2 with⟨rfl,h0⟩|⟨b,cap,cur,rfl,hb,hc,h1,h2,h3,h4⟩
 ·obtain rfl:xs=[]:=anZ h0
  exact⟨g,none,0,rfl,⟨hg,fun h=>absurd rfl h,fun i x hi=>by simp at hi⟩,hgl,.inl rfl⟩
 ·refine⟨b,_,_,rfl,⟨hg,fun _=>rfl,fun i x hi=>?_⟩,(zJ.1 hc).1,.inr hb⟩
  have hi2:i<xs.length:=(cQ.1 hi).1;have h5:(xs.map encStr)[i]? = some (encStr x):=by simp[hi]
  rw[<-h4,xI (by omega)] at h5;simp[World.cell?,hc];simpa using h5
theorem efQ:(prog.info? 9).map (fun i=>(i.zero,i.size,i.bytes))=some (some (.string ⟨#[]⟩),1,16):=by kernel_rfl
theorem blZ:(prog.info? 37).map (fun i=>(i.zero,i.size,i.bytes))=some (some (.agg #[.int .i64 0,.int .i64 0]),2,16):=by kernel_rfl
structure Mid (Wc:World) (P m b1:Nat) (er en nv sv bv:Value) (sp bu:Rq) (W:World):Prop where
 six:SixB W P er en nv sv bv (.bool true)
 t1:TwoB W b1 (.int .i64 sp.1) (.int .i64 sp.2)
 t2:TwoB W (b1+1) (.int .i64 bu.1) (.int .i64 bu.2)
 st:Stay P m Wc W
theorem Mid.gb {sp bu:Rq}(h:Mid Wc P m b1 er en nv sv bv sp bu W)(hg:W.grownBy W' r)(hP:P<m)(hm:m<=b1)(hr:∀ x,r=some x->m<=x/\x<b1):Mid Wc P m b1 er en nv sv bv sp bu W' :=
 ⟨h.six.gb hg (fun e=>by have:=hr P e.symm;omega),h.t1.gb hg (fun e=>by have:=hr _ e.symm;omega),h.t2.gb hg (fun e=>by have:=hr _ e.symm;omega),h.st.gb hg (by have:=h.t1.lt;omega) (fun x e=>.inl (hr x e).1)⟩
theorem efX {Wf:World}{dn:List En}{pre:List (List UInt8)}(hst:Stay P W7.heap.size W7 Wc)(h7:W7.heap.size<=m)(hP:P<m)(hm:m<=b1)
  (hM:Mid Wc P m b1 er en nv sv bv (lL dn x) (oI dn x) Wf) (hT:Trio Wf m nv sv' bv' (pre++[x]) (pre.map (lL dn)++[lL dn x]) (pre.map (oI dn)++[oI dn x])) :
  BkR W7 P er en dn m (pre++[x]) ((Wf.setCell ⟨P,3,none⟩ sv').setCell ⟨P,4,none⟩ bv')/\Stay P m Wc ((Wf.setCell ⟨P,3,none⟩ sv').setCell ⟨P,4,none⟩ bv'):=by
 have hg:Wf.grownBy ((Wf.setCell ⟨P,3,none⟩ sv').setCell ⟨P,4,none⟩ bv') (some P):=nQ (nQ (vX _ _) 3 _) 4 _;have hs:Stay P m Wc ((Wf.setCell ⟨P,3,none⟩ sv').setCell ⟨P,4,none⟩ bv'):=hM.st.gb hg (by have:=hM.t1.lt;omega) (fun y hy=>.inr (by simpa using hy.symm));refine⟨⟨hst.trans (hs.mono h7),nv,sv',bv',(hM.six.put3 _).put4 _,?_⟩,hs⟩;have:=hT.low hg hP;rw[vY,vY];exact this
def blJ (md:Region.Mode) (ops:Array Oper) (J:Nat->Bool) (i:Nat):Bool:=(List.range ops.size).all fun j=>J j || match ops[j]? with|some oj=>oj.after.any (fun e=>Region.binds md e && e.on == i)|none=>true
theorem efZ {md:Region.Mode}(h:blJ md ops J i=true):aeZ md ops J i:=by
 intro j oj hj hJ;have hlt:j<ops.size:=(zJ.1 hj).1;have h1:=jM.1 h j (zH.2 hlt);simp only[hJ,Bool.false_or,hj] at h1;obtain⟨k,hk,he⟩:=Array.any_eq_true.1 h1;simp only[jK,beq_iff_eq] at he;exact⟨_,Array.getElem_mem hk,he.1,he.2⟩
theorem tk {P:Program}{md:Region.Mode}(i:Nat)(v:Value)(hi:ops[i]? = some oi)(hJi:J i=true)(hb:(blJ md ops J i && Region.noSelect ops && Region.free md ops listed i && (Region.ready md ops listed).contains i)=true)(hQ:∀ c a w,Q (.panic c) (a.put oi.dst v) w->Q (.panic c) a w)(hy:Region.wanted oi (yielded ops a.tmps)=true/\∀ w,S w->(execOp a.eval oi).run P w=.ok (.value v) w)(hS:S w)(h:bG P md ops Q S J fuel (listed.setIfInBounds i true) (a.put oi.dst v) w):bG P md ops Q S J (fuel+1) listed a w:=by
 simp only[jK] at hb;exact edX hi hJi (efZ hb.1.1.1) hb.1.1.2 hb.1.2 hb.2 hQ (Or.inl hy) hS h
end K.P
namespace K.P
open Go.RowKit K.Ds
def wby (l:List Int):List Nat:=(l.drop 5).flatMap fun x=>kU 8 (oG x)
theorem bmQ {α:Type}(f:α->List Nat)(h8:∀ x,(f x).length=8):∀ (ls:List α) (q r:Nat),r<8->(ls.flatMap f)[8*q+r]? = (ls[q]?).bind fun x=>(f x)[r]?
 | [],q,r,_=>by simp
 | x::ls,0,r,hr=>by
  rw[cN,zE (by rw[h8];omega)];simp
 | x::ls,q+1,r,hr=>by
  rw[cN,qF (by rw[h8];omega),h8,show 8*(q+1)+r - 8=8*q+r by omega,bmQ f h8 ls q r hr];simp
theorem efJ {x:Int}(hx:l[5+i / 8]? = some x):(wby l)[i]? = some ((kU 8 (oG x)).getD (i % 8) 0):=by
 have h:=bmQ (fun x=>kU 8 (oG x)) (fun x=>sB _ _) (l.drop 5) (i / 8) (i % 8) (by omega);rw[show 8*(i / 8)+i % 8=i by omega,zK,hx] at h;rw[wby,h];simp only[Option.bind_some];rw[List.getD,iJ (by rw[sB];omega)];rfl
theorem egQ (h:l.length=9):(wby l).length=32:=by
 obtain⟨x0,x1,x2,x3,x4,x5,x6,x7,x8,rfl⟩:=aC h;simp[wby,sB]
theorem bmX (l:List Int):∀ b∈wby l,b<256:=by
 intro b hb;obtain⟨x,_,hx⟩:=dN.1 hb;exact dtJ _ _ b hx
theorem egX (l:List Int):gA (l.drop 5)=(wby l).filter (·≠0):=by
 unfold gA wby;rw[List.filter_flatMap]
theorem egZ {bs:List Nat}(h:bs[i]? = some b):(bs.take (i+1)).filter (·≠0)=(bs.take i).filter (·≠0)++if b=0 then [] else [b]:=by
 rw[gZ,h,pS];congr 1;by_cases c:b=0 <;> simp[c]
def tO (l:List Nat):List Value:=l.map fun(b:Nat)=>Value.int .u8 (b:Int)
theorem egJ:(prog.info? 5).map (fun i=>(i.zero,i.size,i.bytes))=some (some (.int .u8 0),1,1):=by kernel_rfl
theorem ehQ (x0 x1 x2 x3 x4 x5 x6 x7 x8:Int)(w:World) :
  Calls prog 182 #[.agg #[.int .i64 x0,.int .i64 x1,.int .i64 x2,.int .i64 x3,.int .i64 x4,.int .i64 x5,.int .i64 x6,.int .i64 x7,.int .i64 x8]] w fun e w'=>e=.returned (.string (nD (gA [x5,x6,x7,x8])))/\Below w.heap.size w w':=by
 obtain⟨l,hl⟩:∃ l,[x0,x1,x2,x3,x4,x5,x6,x7,x8]=l:=⟨_,rfl⟩;have HL:=qQ hl;have HB0:Hid (iX (w.alloc (.cells #[.int .i64 x0,.int .i64 x1,.int .i64 x2,.int .i64 x3,.int .i64 x4,.int .i64 x5,.int .i64 x6,.int .i64 x7,.int .i64 x8] 206)) w.heap.size l):=by rw[<-hl];exact iX.new _ _ _ _ _ _ _ _ _ 206 rfl
 have HN:Hid (gA [x5,x6,x7,x8]=(wby l).filter (·≠0)):=by rw[Hid,<-egX,<-hl];rfl
 have H32:Hid ((wby l).length=32/\l.length=9):=by rw[<-hl];exact⟨egQ rfl,rfl⟩
 clear hl;obtain⟨i0,hi0,hz0,hz1,hz2⟩:=rJ egJ;go_enter func182,ntmps182;go_wp2
 go_loopw [6,3] (fun t o wr=>∃ (i:Nat) (a:Option Addr) (n c:Nat),t=.int .i64 (i:Int)/\o=.slice a n c/\i<=32/\n<=i/\Hid (iX wr w.heap.size l)/\Hid (Below w.heap.size w wr)/\Hid (wr.ownsRow (w.heap.size+1) 5 1 (.slice a n c) n (tO (((wby l).take i).filter (·≠0))))/\Hid ((((wby l).take i).filter (·≠0)).length=n)) (fun t _ _=>32 - (intOf t).toNat)
 case atStart =>
  exact⟨0,none,0,0,rfl,rfl,kQ _,kQ _,HB0,ba _ _,⟨rfl,.inl ⟨rfl,rfl⟩⟩,rfl⟩
 case round =>
  obtain⟨i,a,n,c,rfl,rfl,hi,hni,HR,HW,HO,HC⟩:=hrel;by_cases h1:i<32
  ·obtain⟨q,hq⟩:∃ q,i / 8=q:=⟨_,rfl⟩
   obtain⟨k,hk⟩:∃ k,k=8*(7 - i % 8):=⟨_,rfl⟩;have kf:=fun W=>bjQ i k h1 hk W;have hq4:q<4:=by omega
   have hqi:(i:Int) / 8=(q:Int):=by omega
   obtain⟨j,hj⟩:∃ j,5+q=j:=⟨_,rfl⟩;have hw1:IntKind.i64.wrap (q:Int)=(q:Int):=by rw[aU];omega
   have hw2:IntKind.i64.wrap (5+(q:Int))=(j:Int):=by rw[aU];omega
   have hj9:(j:Int)<9:=by omega
   obtain⟨x,hx⟩:∃ x,l[j]? = some x:=⟨_,iJ (by have:=H32.out.2;omega)⟩;have m1:=(HR.out.2 j x hx).c;have hk56:k<=56:=by omega
   obtain⟨b,hbd⟩:∃ b,(kU 8 (oG x)).getD (i % 8) 0=b:=⟨_,rfl⟩;have hb:IntKind.u8.wrap (x / 2 ^ k)=(b:Int):=by rw[hk,d8Z x (i % 8) (by omega),hbd]
   have hgb:(wby l)[i]? = some b:=by rw[efJ (x:=x) (by rw[hq,hj];exact hx),hbd]
   have hb2:b<256:=bmX l b (rQ hgb);have HF:Hid _:=egZ hgb;have HX:=qQ hx;clear hx hq hk hj hbd hgb;by_cases hb0:b=0
   ·subst hb0
    rw[zQ rfl,yU] at HF;go_wp2_with fail;go_quiet ((go_at_call 184;refine Calls.quiet_of_same (kf _)));go_wp2
    go_roundw
    ·exact⟨i+1,a,n,c,by go_num,rfl,h1,by omega,HR.out.at (below_drewN (aQ _ _) _),below_drewN HW.out _,by rw[HF.out];exact dZ HO.out (tX (below_drewN (aQ _ _) _)) (by simp),by rw[HF.out];exact HC⟩
    ·simp[intOf];omega
   ·rw[xQ hb0] at HF
    have hbn:((b:Int) == 0)=false:=by simpa using hb0
    have hbm:((b:Int) != 0)=true:=by simpa using hb0
    go_wp2_with fail;go_quiet ((go_at_call 184;refine Calls.quiet_of_same (kf _)));obtain⟨W,hW⟩:∃ W,wr.drewN nq=W:=⟨_,rfl⟩;have HWb:Hid (Below wr.heap.size wr W):=hW▸below_drewN (aQ _ _) _;have hWs:wr.heap.size<=W.heap.size:=HWb.out.size;have hws:w.heap.size<=wr.heap.size:=HW.out.size;have hws1:w.heap.size<wr.heap.size:=(HR.out.2 j x (by exact HX.out)).lt;rw[hW];clear hW;have HOW:Hid ((W.alloc (.cells #[.int .u8 (b:Int)] 5)).ownsRow (w.heap.size+1) 5 1 (.slice a n c) n (tO (((wby l).take i).filter (·≠0)))):=dZ HO.out (tX (bal HWb.out _)) (by simp);go_wp2_with (at_builtin;refine jE _ rfl _ _ 218 rfl (w.heap.size+1) 5 i0 (.int .u8 0) 1 1 underlying218 hi0 hz0 hz1 hz2 rfl (by decide) (.slice a n c) n (tO (((wby l).take i).filter (·≠0))) rfl HOW.out ⟨W.heap.size,0,none⟩ 1 1 [.int .u8 (b:Int)] rfl rfl (aeJ W _ _ _ rfl) (by intro z hz;simp at hz;subst hz;rfl) (by unfold maxLen;omega) (by omega) (by simp;omega) ?_);intro nv' w5 hown hgrow hnil hat;obtain⟨na,ncc,rfl⟩:=sZ hown;have B5:Below w.heap.size w w5:=((bt HW.out HWb.out).alloc (by omega) _).grown hgrow (by simp;omega) (fun k e=>by have:=(jX HO.out e).1;omega)
    have HR5:Hid (iX w5 w.heap.size l):=⟨HR.out.1,fun k y hy=>by
     have h3:=(HR.out.2 k y hy).at (bal HWb.out (.cells #[.int .u8 (b:Int)] 5));have e:=hgrow.block w.heap.size h3.lt (fun e=>by have:=(jX HO.out e.symm).1;omega);exact⟨(oZ (a:=⟨w.heap.size,k,none⟩) e).trans h3.c,(sJ (a:=⟨w.heap.size,k,none⟩) e).trans h3.f,uX h3.lt hgrow.size⟩⟩
    have HO5:Hid (w5.ownsRow (w.heap.size+1) 5 1 (.slice na (n+1) ncc) (n+1) (tO (((wby l).take (i+1)).filter (·≠0)))):=by rw[Hid,HF.out];simpa [tO] using hown
    have HB5:=qQ B5;have HC5:Hid ((((wby l).take (i+1)).filter (·≠0)).length=n+1):=by rw[Hid,HF.out,bJ,HC.out];rfl
    clear hown hgrow B5;go_wp2
    go_roundw
    ·exact⟨i+1,na,n+1,ncc,by go_num,rfl,h1,by omega,HR5,HB5,HO5,HC5⟩
    ·simp[intOf];omega
  ·obtain rfl:i=32:=by omega
   have hall:(wby l).take 32=wby l:=pJ (by rw[H32.out.1];exact vQ _);rw[hall] at HO HC;have HE:Hid (nD (gA [x5,x6,x7,x8])=⟨(((wby l).filter (·≠0)).map UInt8.ofNat).toArray⟩):=by rw[Hid,HN.out];rfl
   have hcv:(convert 218 9 (.slice a n c)).run prog wr=.ok (.string (nD (gA [x5,x6,x7,x8]))) wr:=by
    rw[HE.out];obtain⟨fs,hfs⟩:∃ fs,(wby l).filter (·≠0)=fs:=⟨_,rfl⟩;have hlt:∀ b∈fs,b<256:=fun b hb=>bmX l b (by rw[<-hfs] at hb;exact(vE.1 hb).1);have hO:=HO.out;have hC:=HC.out;rw[hfs] at hO hC ⊢;obtain⟨_,⟨hv,h0⟩|⟨g,cap,cur,hv,hb,hcur,hc,_,hsz,hx⟩⟩:=hO
    ·cases hv
     obtain rfl:fs=[]:=xH.1 hC;rw[run_convert_bytes_string wr 218 9 5 none 0 0 underlying218 underlying5 underlying9];simp[Conv.bytesToString,eN];rfl
    ·cases hv
     have hn:n=(fs.map UInt8.ofNat).length:=by rw[wU,hC]
     subst hn;refine run_convert_bytes_back wr 218 9 5 ⟨g,0,none⟩ _ (fs.map UInt8.ofNat) underlying218 underlying5 underlying9 fun j hj=>?_;have hj2:j<fs.length:=by simpa using hj
     have h3:(cur.toList.take ((fs.map UInt8.ofNat).length*1))[j]? = some (.int .u8 (fs[j]:Nat)):=by
      rw[hx,tO,dA,iJ hj2];rfl
     rw[xI (by simpa using hj2)] at h3;have e:(UInt8.ofNat fs[j]).toNat=fs[j]:=UInt8.toNat_ofNat_of_lt' (hlt _ (List.getElem_mem hj2));rw[List.getElem_map,e];rw[nU];simp only[World.cell?,xZ,hcur];simpa using h3
   go_wp2;go_ret;exact⟨rfl,HW.out⟩
theorem bmZ (xs:Array Value)(i:Nat)(v:Value)(w:World)(h:xs[i]? = some v):(part 2 xs i).run prog w=.ok v w:=by
 unfold part;simp only[qT,Tryz.isAgg2,yK,h,Bool.false_eq_true,qK,eN]
theorem eqL (d:Nat)(X Y:Array Value)(w:World):∀ (n k:Nat) (xs ys:List Int),xs.length=n->ys.length=n->(∀ i x,xs[i]? = some x->X[k+i]? = some (.int .i64 x))->(∀ i y,ys[i]? = some y->Y[k+i]? = some (.int .i64 y)) ->
  (forIn (List.range' k n) ((none,()):Option Bool × Unit) fun i _=>do
    let a <-part 2 X i
    let b <-part 2 Y i
    let e <-Op.equalIn (d+1) 2 a b
    if (!e)=true then pure (ForInStep.done (some false,())) else pure (ForInStep.yield (none,()))).run prog w=.ok (if xs=ys then (none,()) else (some false,())) w
 | 0,k,xs,ys,hx,hy,_,_=>by
  obtain rfl:=xH.1 hx;obtain rfl:=xH.1 hy;simp[eN]
 | n+1,k,x::xs,y::ys,hx,hy,hX,hY=>by
  have ih:=eqL d X Y w n (k+1) xs ys (by simpa using hx) (by simpa using hy) (fun i z hz=>by rw[show k+1+i=k+(i+1) by omega];exact hX (i+1) z (by simpa using hz)) (fun i z hz=>by rw[show k+1+i=k+(i+1) by omega];exact hY (i+1) z (by simpa using hz));have h1:=hX 0 x rfl;have h2:=hY 0 y rfl;rw[oA] at h1 h2;rw[List.range'_succ,List.forIn_cons];simp only[qT,bmZ X k _ w h1,bmZ Y k _ w h2,yK,run_equalIn_int w d 2 .i64 .i64 x y underlying2];by_cases c:x=y
  ·subst c
   simp only[beq_self_eq_true,Bool.not_true,Bool.false_eq_true,qK,eN,yK];rw[ih];simp
  ·have hb:(x == y)=false:=by simpa using c
   simp[hb,c,eN,yK]
theorem eq9 (w:World)(x0 x1 x2 x3 x4 x5 x6 x7 x8 y0 y1 y2 y3 y4 y5 y6 y7 y8:Int):(binOp .eql 206 (.agg #[.int .i64 x0,.int .i64 x1,.int .i64 x2,.int .i64 x3,.int .i64 x4,.int .i64 x5,.int .i64 x6,.int .i64 x7,.int .i64 x8]) (.agg #[.int .i64 y0,.int .i64 y1,.int .i64 y2,.int .i64 y3,.int .i64 y4,.int .i64 y5,.int .i64 y6,.int .i64 y7,.int .i64 y8])).run prog w=.ok (.bool (decide ([x0,x1,x2,x3,x4,x5,x6,x7,x8]=[y0,y1,y2,y3,y4,y5,y6,y7,y8]))) w:=by
 have key:∀ d:Nat,(Op.equalIn (d+1+1) 206 (.agg #[.int .i64 x0,.int .i64 x1,.int .i64 x2,.int .i64 x3,.int .i64 x4,.int .i64 x5,.int .i64 x6,.int .i64 x7,.int .i64 x8]) (.agg #[.int .i64 y0,.int .i64 y1,.int .i64 y2,.int .i64 y3,.int .i64 y4,.int .i64 y5,.int .i64 y6,.int .i64 y7,.int .i64 y8])).run prog w=.ok (decide ([x0,x1,x2,x3,x4,x5,x6,x7,x8]=[y0,y1,y2,y3,y4,y5,y6,y7,y8])) w:=by
  intro d;rw[Op.equalIn];simp only[qT,aE underlying206,yK,Std.Legacy.Range.forIn_eq_forIn_range',Std.Legacy.Range.size,Nat.sub_zero,Nat.add_one_sub_one,Nat.div_one];rw[Tryz.sizeOf2];simp only[yK,Nat.mul_one]
  rw[eqL d _ _ w 9 0 [x0,x1,x2,x3,x4,x5,x6,x7,x8] [y0,y1,y2,y3,y4,y5,y6,y7,y8] rfl rfl (fun i x hi=>by
   match i,hi with
   | 0,hi | 1,hi | 2,hi | 3,hi | 4,hi | 5,hi | 6,hi | 7,hi | 8,hi=>cases hi;rfl) (fun i x hi=>by
   match i,hi with
   | 0,hi | 1,hi | 2,hi | 3,hi | 4,hi | 5,hi | 6,hi | 7,hi | 8,hi=>cases hi;rfl)]
  by_cases c:[x0,x1,x2,x3,x4,x5,x6,x7,x8]=[y0,y1,y2,y3,y4,y5,y6,y7,y8]
  ·rw[zQ c,xG c];simp[eN,yK]
  ·rw[xQ c,oV c];simp[eN,yK]
 rw[run_eql_struct];have h:=key 9998;rw[show(10000:Nat)=9998+1+1 from rfl,h];rfl
end K.P
end Go.Proofs.YtpmioeamdhdokaaGreat

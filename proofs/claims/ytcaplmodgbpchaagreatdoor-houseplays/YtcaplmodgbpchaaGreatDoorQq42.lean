import Derived.Test.YtcaplmodgbpchaaGreatDoorQq35
import Derived.Great.Walk
import Derived.Deep.WholeRow
import Derived.Deep.Cut
import Derived.Deep.CutBlock
import Derived.Great.BuildSlice
open Go.Proofs.Tryz
open Go.Value(int)
open Go.IntKind(i64)
set_option linter.unusedSimpArgs false
set_option maxHeartbeats 16000000
set_option maxRecDepth 100000
namespace Go.Proofs.YtcaplmodgbpchaaGreatDoor
variable {P:Program} {ops:Array Oper} {o o1 o2:Oper} {a ea ka kb ta xa:Option Addr} {W0 w w' w3:World} {Q:Exit->Act->World->Prop} {act:Act} {kc nm pn:ByteArray} {N0 b bw c:Nat} {ts:List (List Int)} {hv:Value} {G M:Nat->Prop} {er:Int}
section
open Go.RowKit Ds
open K (Cl)
open K.P (HSt Keeps xX lX vZ qJ HouK DskM vH jZ gZ Ev Sn oA tZ TwoB rV wY qA tX jD sZ xO enc eB)
theorem e7X {rest:List Oper}{a:Act}(l:o.guard=none)(t e:TypeId)(x:Operand)(m:o.op=.buildSlice t 1 #[(0,x)])
  (N:Nat) (j:w.heap.size=N) (g:Option Tmp) (i:o.dst=g) (p:P.underlying t=some (.slice e)) (v:Value) (hv:a.eval x=v) (cells:Array Value) (k:P.builtSlice e 1 [(0,v)]=some cells)
  (h:wpList P ops Q rest (a.put g (.slice (some ⟨N,0,none⟩) 1 1)) (w.alloc (.cells cells e))):wpList P ops Q (o::rest) a w :=
 Great.wpList_buildSliceTo l t e 1 _ m N j g i p cells (by subst hv;simpa using k) h
theorem b3Q (er l i h:Int)(ta ea:Option Addr)(k j g a:Nat):prog.builtSlice 42 1 [(0,.agg #[int i64 er,.slice ta k j,int i64 l,int i64 i,int i64 h,.slice ea g a])]=some #[int i64 er,.slice ta k j,int i64 l,int i64 i,int i64 h,.slice ea g a]:=by kernel_rfl
theorem akJ:(prog.info? 55).map (fun i=>i.size)=some 12:=by kernel_rfl
theorem yC:(prog.info? 57).map (fun i=>i.size)=some 18:=by kernel_rfl
theorem b3X {act n bu bd kk kl kh u d lo hi word:Int}{kn kd km kp xl xc:Nat}:(#[int i64 act,int i64 n,.string nm,int i64 bu,int i64 bd,.string pn,int i64 kk,.string kc,int i64 kl,int i64 kh,.slice ka kn kd,.slice kb km kp,int i64 u,int i64 d,int i64 lo,int i64 hi,.slice xa xl xc,int i64 word]:Array Value).all (·.oneCell')=true:=by
 refine all_oneCell_toArray (cs:=[_,_,_,_,_,_,_,_,_,_,_,_,_,_,_,_,_,_]) (fun v hv=>?_);simp only[kJ,cI,dI] at hv;rcases hv with rfl|rfl|rfl|rfl|rfl|rfl|rfl|rfl|rfl|rfl|rfl|rfl|rfl|rfl|rfl|rfl|rfl|rfl <;> rfl
theorem e7Z {rest:List Oper}{bd:Nat}{l:List K.Ds.aQ}{ov:Value}{s:HSt}{os:List (Sn rY)}{y:Sn rY}{us lu ld:Int}{tn tc en ec:Nat}{i4:TypeInfo}
  (A:HuI W0 w3 N0 bd bw a c l ts hv ov s os M G) (R:mF w3 G y [int i64 er,.slice ta tn tc,int i64 us,int i64 lu,int i64 ld,.slice ea en ec]) (V:os.length<=1000000000000) (I:prog.info? 42=some i4) (o:i4.zero=some (.agg #[int i64 0,.slice none 0 0,int i64 0,int i64 0,int i64 0,.slice none 0 0])) (p:i4.size=6) (v:i4.bytes=80)
  (C:o1.guard=none) (x:Operand) (S:o1.op=.buildSlice 28 1 #[(0,x)]) (d1:Option Tmp) (F:o1.dst=d1) (X:act.eval x=.agg #[int i64 er,.slice ta tn tc,int i64 us,int i64 lu,int i64 ld,.slice ea en ec]) (D:o2.guard=none) (N x2:Operand) (h2:o2.op=.call { callee:=.builtin .append,args:=#[N,x2],argTypes:=#[28,28] })
  (J:(act.put d1 (.slice (some ⟨w3.heap.size,0,none⟩) 1 1)).eval N=ov) (L:(act.put d1 (.slice (some ⟨w3.heap.size,0,none⟩) 1 1)).eval x2=.slice (some ⟨w3.heap.size,0,none⟩) 1 1)
  (T:∀ B cap z,Hid (HuI W0 z N0 bd bw a c l ts hv (.slice (some ⟨B,0,none⟩) (os.length+1) cap) s (os++[y]) M G)->wpList prog ops Q rest ((act.put d1 (.slice (some ⟨w3.heap.size,0,none⟩) 1 1)).put o2.dst (.slice (some ⟨B,0,none⟩) (os.length+1) cap)) z):wpList prog ops Q (o1::o2::rest) act w3:=by
 obtain⟨i,Y,P,Z,q4⟩:=A.out;have U:N0<=w3.heap.size:=by have:=A.be.size;have:=A.bs.2.2.2;omega
 refine e7X C 28 42 x S w3.heap.size rfl d1 F underlying28 _ X _ (b3Q _ _ _ _ _ _ _ _ _ _) ?_;refine wpList_append_lies _ D N x2 28 h2 N0 42 i4 _ 6 80 underlying28 I o p v rfl (by decide) ov os.length i.flatten J (P.alloc _) ⟨w3.heap.size,0,none⟩ 1 1 [int i64 er,.slice ta tn tc,int i64 us,int i64 lu,int i64 ld,.slice ea en ec] L rfl (fun j u hj=>?_) (fun u hu=>?_) (by decide) (by unfold maxLen;omega) (by omega) (by simp;omega) (w3.heap.size+1) (by simp) ?_
 ·have e:(⟨w3.heap.size,0,none⟩:Addr).add j=⟨w3.heap.size,j,none⟩:=by unfold Addr.add;split <;> simp_all
  rw[e];exact(Bx.new w3 [int i64 er,.slice ta tn tc,int i64 us,int i64 lu,int i64 ld,.slice ea en ec] 42 rfl j u hj).c
 ·simp only[kJ,cI,dI] at hu
  rcases hu with rfl|rfl|rfl|rfl|rfl|rfl <;> rfl
 ·intro B cap z m g E O
  have H:w3.grownBy z ov.ownBlock:=⟨g.os,g.tape,g.output,bQ (by simp) g.size,fun k hk hn=>(g.block k (by simp;omega) hn).trans (tM _ _ _ hk)⟩;exact T B cap z (A.snoc R rfl i Y P Z q4 H m (E.imp id (fun h=>by omega)))
theorem kbx (h:Keeps w w' (fun k=>k=b))(j:Nat)(v:Value):Keeps w (w'.setCell ⟨b,j,none⟩ v) (fun k=>k=b):=lX h (p:=⟨b,j,none⟩) (.inl rfl) v
theorem HuI.quiet {wr:World}{bd:Nat}{l:List K.Ds.aQ}{ov:Value}{s:HSt}{os:List (Sn rY)}(h:HuI W0 wr N0 bd bw a c l ts hv ov s os M G)(g:xQ wr w')(j:Keeps w' w3 (fun k=>k=wr.heap.size+1)):HuI W0 w3 N0 bd bw a c l ts hv ov s os M G :=
 h.call (s':=s) (xX g) (h.ds.at g) h.w64 h.i64 M G (fun _ m=>.inl m) (fun _ m=>.inl m) (fun _ m=>m) h.dn (fun u=>by
  obtain⟨e,i,o,p,v,y⟩:=h.up u;exact⟨e,i,o,p,fun x=>(v x).kp (K:=fun _=>False) (xX g) (fun _ _ h=>h),fun x=>(y x).at g⟩) j
theorem e7J {l:List K.Ds.aQ}{S:HSt}{x:Stp}(a:x.act≠1)(j:x.act≠4)(m:¬(x.act=6/\0<=x.n/\x.n<S.disk.length))(h:S.up=false\/x.act≠2/\x.act≠3/\x.act≠5):kZ l ts S x=(S,⟨0,none,[]⟩):=by
 unfold kZ bD;rw[zQ m,zQ a,zQ j];rcases h with h|⟨g,i,k⟩
 ·split
  ·simp[gZ,h]
  ·split
   ·simp[uR,gZ,h]
   ·split
    ·simp[gZ,h]
    ·rfl
 ·rw[zQ g,zQ i,zQ k];rfl
theorem b3Z {l:List K.Ds.aQ}{S:HSt}{x:Stp}(h:x.act=2\/x.act=3\/x.act=5)(g:S.up=true)(a:S.brk=true):kZ l ts S x=(S,⟨9,none,[]⟩):=by
 unfold kZ bD;rw[zQ (fun c=>by omega)];rcases h with h|h|h <;> simp[h,uR,gZ,g,a]
theorem b3J {l:List K.Ds.aQ}{S s':HSt}{x:Stp}(h:x.act=2)(i:S.up=true)(a:S.brk=false)(g:jZ S (1,x.nm,0,x.bu,x.bd)=(s',er)):kZ l ts S x=(s',⟨er,none,[]⟩):=by
 unfold kZ bD;rw[zQ (fun c=>by omega)];simp[h,gZ,i,a,g]
theorem b4Q {l:List K.Ds.aQ}{S:HSt}{x:Stp}(h:x.act=5)(g:S.up=true)(a:S.brk=false):kZ l ts S x=(S,⟨0,none,S.done⟩):=by
 unfold kZ bD;rw[zQ (fun c=>by omega)];simp[h,gZ,g,a]
theorem e8Q (B:Nat)(cv rv sv:Value)(l:List K.Ds.aQ)(rs:List K.Rw)(wa:Option Addr)(wc:Nat)(words:List Int)(xs:List Stp)(w:World)(hB:B<=w.heap.size)(hp:K.kQ w B cv l)(hq:K.nQ w B rv rs)
  (fq:wa=none->words.length=0/\wc=0) (fr:∀ ad,wa=some ad->∀ j u,words[j]? = some u->ad.block<w.heap.size/\w.cell? (ad.add j)=some (int i64 u)) (eo:rV words) (jj:words.length<=17592186044416) (hs:oM w B sv xs) (jk:xs.length<=1000000000000) :
  Calls prog 4 #[.agg #[cv,rv],.slice wa words.length wc,sv] w (emX l (K.rr rs) words xs w):=by
 have HP:Hid (K.kQ w B cv l):=hp;have HQ:Hid (K.nQ w B rv rs):=hq;have HS:Hid (oM w B sv xs):=hs;have gj:Hid (rV words):=eo;obtain⟨i2,hh,fw,fx,fy⟩:=pZ uL;obtain⟨i4,hl,g3,g4,g5⟩:=pZ bxJ;obtain⟨ca,cc,rfl,_⟩:=hp.slice;obtain⟨ra,rc,rfl,_⟩:=hq.slice;obtain⟨sa,sc,rfl,jh,ji,_⟩:=hs
 have A:Hid (∀ ad,wa=some ad->∀ j u,(words.map (Value.int .i64))[j]? = some u->∀ o1 o2,((w.alloc o1).alloc o2).cell? (ad.add j)=some u):=by
  intro ad ha j u hj o1 o2;rw[mV] at hj;cases e:words[j]? with
  | none=>rw[e] at hj;cases hj
  | some x =>
   rw[e] at hj;cases hj;obtain⟨h1,h2⟩:=fr ad ha j x e;have hb:(ad.add j).block=ad.block:=by unfold Addr.add;split <;> rfl
   rw[pH _ _ _ (by simp;omega),pH _ _ _ (by omega)];exact h2
 have e9:Hid (((w.alloc (.cells #[.slice ca l.length cc,.slice ra rs.length rc] 25)).alloc (.cells #[] 2)).ownsRow (w.heap.size+1) 2 1 (.slice (some ⟨w.heap.size+1,0,none⟩) 0 0) 0 []):=by
  have:=wO (base:=w.heap.size+1) (e:=2) (size:=1) (w.alloc (.cells #[.slice ca l.length cc,.slice ra rs.length rc] 25)) #[] 0 (by simp) (dQ _) (by simp);simp at this;exact this
 have ei:Hid (wa=none->words.length=0/\wc=0):=fq;clear hp hq fr eo fq;go_enter func4,ntmps4;go_wp2_with (at_builtin;refine uS rfl _ _ 26 rfl (w.heap.size+1) 2 i2 (int i64 0) 1 8 underlying26 hh fw fx fy rfl (by decide) _ _ _ rfl e9.out wa words.length wc (words.map (int i64)) rfl ?qc0 ?qc1 ?qc2 ?qc3 ?qc4 ?qc5 ?qc6 ?qc7 ?_)
 case qc0=>exact ei.out
 case qc1=>simp
 case qc2=>intro ad ha j u hj;exact A.out ad ha j u hj _ _
 case qc3=>intro u hu;simp at hu;obtain⟨z,_,rfl⟩:=hu;rfl
 case qc4=>rw[vX];simp[maxLen];omega
 case qc5=>rw[vX];omega
 case qc6=>simp
 case qc7=>show Value.slice (some ⟨w.heap.size+1,0,none⟩) 0 0≠_;simp
 intro v' L cw U ct;have h9:=emZ (words:=words) (by simpa using cw) ct;obtain⟨a,c,H,rfl,rfl,h4,jd,eu⟩:=h9
 have c8:Below (w.heap.size+1) (w.alloc (.cells #[.slice ca l.length cc,.slice ra rs.length rc] 25)) L:=by
  refine⟨U.os,U.tape,U.output,bQ (by simp) U.size,fun k hk=>(U.block k (by simp;omega) (by simp[Value.ownBlock];omega)).trans (tM _ _ _ (by simp;omega))⟩
 obtain⟨W0,bc⟩:∃ W0,w.alloc (.cells #[.slice ca l.length cc,.slice ra rs.length rc] 25)=W0:=⟨_,rfl⟩;have jc:W0.heap.size=w.heap.size+1:=by rw[<-bc];simp
 have eh:Hid (TwoB W0 w.heap.size (.slice ca l.length cc) (.slice ra rs.length rc)):=bc▸TwoB.new _ _ _ 25 _ rfl;have e6:Hid (xQ w W0):=bc▸ba _ _
 have ep:HuI W0 (L.alloc (.cells #[.slice (some ⟨H,0,none⟩) words.length c,int i64 (-1),.bool false] 48)) (w.heap.size+1) L.heap.size H (some ⟨H,0,none⟩) c l (K.rr rs) (.pointer none) (.slice none 0 0) ⟨words,-1,false,false,[]⟩ [] (fun _=>False) (fun _=>False):=by
  rw[bc] at c8;have hz:=c8.size;refine⟨c8.alloc (by omega) _,eu,⟨by omega,h4,by simp;omega,by omega⟩,gj.out,⟨by simp,by simp⟩,fun k h=>h.elim,fun k h=>h.elim,fun _=>rfl,(fun h=>by cases h),[],rfl,⟨rfl,.inl ⟨rfl,rfl⟩⟩,(fun g hg=>by cases hg),fun i x cs hx=>by simp at hx⟩
 have gm:Hid (HuI W0 (L.alloc (.cells #[.slice (some ⟨H,0,none⟩) words.length c,int i64 (-1),.bool false] 48)) (w.heap.size+1) L.heap.size H (some ⟨H,0,none⟩) c l (K.rr rs) (.pointer none) (.slice none 0 0) ⟨words,-1,false,false,[]⟩ [] (fun _=>False) (fun _=>False)):=ep;clear ep eu c8 cw U ct e9 ei A bc;go_wp2
 go_loopw [22,10,11] (fun iv hv ov wr=>∃ (i:Nat) (M G:Nat->Prop),iv=int i64 (i:Int)/\i<=xs.length/\Hid (HuI W0 wr (w.heap.size+1) L.heap.size H (some ⟨H,0,none⟩) c l (K.rr rs) hv ov (vU l (K.rr rs) ⟨words,-1,false,false,[]⟩ (xs.take i)).1 (vU l (K.rr rs) ⟨words,-1,false,false,[]⟩ (xs.take i)).2 M G)) (fun iv _ _ _=>xs.length - (intOf iv).toNat)
 case atStart=>exact⟨0,fun _=>False,fun _=>False,rfl,dQ _,gm⟩
 case round =>
  obtain⟨i,M,G,rfl,hi,HI⟩:=hrel;by_cases h1:i<xs.length
  ·obtain⟨x,hx⟩:∃ x,xs[i]? = some x:=⟨_,nZ h1⟩
   have bf:Below B w wr:=by
    have Y:=e6.out;have q2:=HI.out.be;exact⟨q2.os.trans Y.os,q2.tape.trans Y.tape,q2.output.trans Y.output,bQ Y.size q2.size,fun k hk=>(q2.block k (by omega)).trans (Y.block k (by omega))⟩
   have d3:Hid (Below B w wr):=bf;obtain⟨jr,js,hw,_,_,Z⟩:=HS.out;cases hw;obtain⟨b,o,rfl,hd,Z⟩:=Z (fun e=>by rw[e] at h1;simp at h1);obtain⟨v0,v1,v2,v3,v4,v5,xa,xc,nb,hc,df,es,fh,fb,f6,hn,fs,fi,fj⟩:=(Z i x hx).keep bf hd;have fv:=hc;have iu:Hid (∀ i_1 v,([int i64 x.act,int i64 x.n,.string x.nm,int i64 x.bu,int i64 x.bd,.string x.pn,v0,v1,v2,v3,v4,v5,int i64 x.u,int i64 x.d,int i64 x.lo,int i64 x.hi,.slice xa x.bits.length xc,int i64 x.word]:List Value)[i_1]? = some v->wr.cell? ⟨b,o+i*18+i_1,none⟩=some v):=hc;have gt:Hid (K.Qm wr B x.q v0 v1 v2 v3 v4 v5):=df;have gn:Hid (pU wr B nb (.slice xa x.bits.length xc) x.bits):=es;obtain⟨kk,kc,kl,kh,ka,kn,kd,kb,km,kp,rfl,rfl,rfl,rfl,rfl,rfl⟩:=df.shape;have HX:Hid ((xa=none->xc=0)/\zX x.lo/\zX x.hi/\zX x.n/\zX x.word/\x.nm.size<=9223372036854775807/\x.pn.size<=9223372036854775807):=⟨fh,fb,f6,hn,fs,fi,fj⟩;have HR:Hid (wr.rangeAt b (o+i*18) [int i64 x.act,int i64 x.n,.string x.nm,int i64 x.bu,int i64 x.bd,.string x.pn,int i64 kk,.string kc,int i64 kl,int i64 kh,.slice ka kn kd,.slice kb km kp,int i64 x.u,int i64 x.d,int i64 x.lo,int i64 x.hi,.slice xa x.bits.length xc,int i64 x.word]):=hc;clear hc df es fh fb f6 hn fs fi fj Z bf fv;have f7:(i:Int)<(xs.length:Int):=by omega
   obtain⟨S,os,c7⟩:∃ S os,vU l (K.rr rs) ⟨words,-1,false,false,[]⟩ (xs.take i)=(S,os):=⟨_,_,rfl⟩
   have cu:os.length=i:=by
    have:=lB l (K.rr rs) (xs.take i) ⟨words,-1,false,false,[]⟩;rw[c7,lU] at this;simp only at this;omega
   have gr:Hid (os.length=i):=cu
   have E:Hid (HuI W0 wr (w.heap.size+1) L.heap.size H (some ⟨H,0,none⟩) c l (K.rr rs) u10 u11 S os M G):=by
    have:=HI.out;rw[c7] at this;exact this
   have gv:Hid (∀ s' x',kZ l (K.rr rs) S x=(s',x')->vU l (K.rr rs) ⟨words,-1,false,false,[]⟩ (xs.take (i+1))=(s',os++[x'])):=fun s' x' he=>by
    rw[rX,hx];simp only[Option.toList_some];rw[afJ,c7];simp only;rw[he]
   obtain⟨V,bm⟩:∃ V,(wr.alloc (.cells #[int i64 x.act,int i64 x.n,.string x.nm,int i64 x.bu,int i64 x.bd,.string x.pn,int i64 kk,.string kc,int i64 kl,int i64 kh,.slice ka kn kd,.slice kb km kp,int i64 x.u,int i64 x.d,int i64 x.lo,int i64 x.hi,.slice xa x.bits.length xc,int i64 x.word] 57)).alloc (.cells #[int i64 0,.slice none 0 0,int i64 0,int i64 0,int i64 0,.slice none 0 0] 42)=V:=⟨_,rfl⟩;have bg:xQ wr V:=bm▸bal (ba _ _) _;have bz:Hid (xQ wr V):=bg;have jf:wr.heap.size+2<=V.heap.size:=by rw[<-bm];simp
   have au:Hid (Bx V wr.heap.size [int i64 x.act,int i64 x.n,.string x.nm,int i64 x.bu,int i64 x.bd,.string x.pn,int i64 kk,.string kc,int i64 kl,int i64 kh,.slice ka kn kd,.slice kb km kp,int i64 x.u,int i64 x.d,int i64 x.lo,int i64 x.hi,.slice xa x.bits.length xc,int i64 x.word]):=bm▸(Bx.new wr [int i64 x.act,int i64 x.n,.string x.nm,int i64 x.bu,int i64 x.bd,.string x.pn,int i64 kk,.string kc,int i64 kl,int i64 kh,.slice ka kn kd,.slice kb km kp,int i64 x.u,int i64 x.d,int i64 x.lo,int i64 x.hi,.slice xa x.bits.length xc,int i64 x.word] 57 rfl).at (ba _ _);have aw:Hid (Bx V (wr.heap.size+1) [int i64 0,.slice none 0 0,int i64 0,int i64 0,int i64 0,.slice none 0 0]):=bm▸Bx.new _ [int i64 0,.slice none 0 0,int i64 0,int i64 0,int i64 0,.slice none 0 0] 42 (by simp);have D:Hid (HuI W0 V (w.heap.size+1) L.heap.size H (some ⟨H,0,none⟩) c l (K.rr rs) u10 u11 S os M G):=E.out.at bg
   have et:∀ k,(M k\/k=L.heap.size\/k=H)->k<wr.heap.size:=fun k hk=>by
    rcases hk with m|m|m
    ·exact(E.out.mm k m).2.1
    ·have:=E.out.ds.c0.lt;omega
    ·have:=E.out.bs.2.2.1;omega
   have d7:Hid (∀ k,(M k\/k=L.heap.size\/k=H)->k<wr.heap.size):=et;have a0:=(au.out 0 _ rfl).c;have a1:=(au.out 1 _ rfl).c;clear c7 hx HI bg et cu;go_upto_region 6 with fail;refine oO ?_;(iterate 3 go_step);refine kC rfl 57 _ rfl b (o+i*18) rfl _ _ HR.out underlying57 rfl yC ?_;(iterate 3 go_step);refine wpList_store_rowTo rfl 57 _ _ rfl rfl wr.heap.size _ rfl rfl 57 _ (Go.heap_alloc_last _ _) yC rfl b3X ?_;rw[World.setRow_alloc_new];go_upto_block 2 with fail;clear bm
   go_cut [10] (fun hv wx=>∃ (M' G':Nat->Prop) (s':HSt) (x':Sn rY) (er us lu ld:Int) (ta:Option Addr) (tn tc:Nat) (ea:Option Addr) (en ec:Nat),Hid (kZ l (K.rr rs) S x=(s',x'))/\Hid (HuI W0 wx (w.heap.size+1) L.heap.size H (some ⟨H,0,none⟩) c l (K.rr rs) hv u11 s' os M' G')/\Hid (mF wx G' x' [int i64 er,.slice ta tn tc,int i64 us,int i64 lu,int i64 ld,.slice ea en ec])/\Hid (Bx wx (wr.heap.size+1) [int i64 er,.slice ta tn tc,int i64 us,int i64 lu,int i64 ld,.slice ea en ec]))
   case first =>
    by_cases h6:x.act=1
    ·as_aux_lemma =>
     obtain⟨er,di⟩:∃ er,K.Ds.fV l (K.rr rs)=er:=⟨_,rfl⟩;have d5:Hid (K.Ds.fV l (K.rr rs)=er):=di;have al:Below B w V:=d3.out.trans (bz.out.mono (bQ hB d3.out.size));have kO:=K.P.egZ B L.heap.size H _ _ l rs (some ⟨H,0,none⟩) c S.disk S.left V (bQ hB al.size) (HP.out.keep al) (HQ.out.keep al) D.out.ds D.out.bs.2.2.1 D.out.w64 er di;have t0:=(D.out.be.cell (p:=⟨w.heap.size,0,none⟩) (by simp)).trans eh.out.c0;have t1:=(D.out.be.cell (p:=⟨w.heap.size,1,none⟩) (by simp)).trans eh.out.c1;have b1:(x.act == 1)=true:=by simpa using h6
     clear di al;go_wp2_with fail;refine kO.mono ?_;rintro x5 w' ⟨I,h5⟩;have Q:Hid (xQ V w'):=I;have C:=aw.out.at I;have y0:=(C 0 _ rfl).c;have y1:=(C 0 _ rfl).f;clear kO t0 t1 b1 I a0 a1;rcases h5 with⟨h0,rfl⟩|⟨h0,J,rfl,dl⟩
     ·have q0:(er == 0)=false:=by simpa using h0
      have Y:(er != 0)=true:=by simpa using h0
      have F:Hid (kZ l (K.rr rs) S x=(⟨S.disk,S.left,false,false,K.P.wY S.disk⟩,⟨er,none,[]⟩)):=by
       unfold kZ bD;rw[Hid,zQ (fun h=>by omega),jQ h6,d5.out];simp[gZ,h0]
      clear h0;go_wp2_with fail;go_meet;exact⟨M,G,_,_,_,_,_,_,_,_,_,_,_,_,F,E.out.call (s':=⟨S.disk,S.left,false,false,K.P.wY S.disk⟩) (xX (bt bz.out Q.out)) (D.out.ds.at Q.out) E.out.w64 E.out.i64 M G (fun _ m=>.inl m) (fun _ m=>.inl m) (fun _ m=>m) (fun _=>rfl) (fun h=>by cases h) (kbx (vZ _ _) _ _),yI _ _ _,C.set (i:=0) (by simp) _⟩
     ·subst h0
      have gs:Hid (qJ w' (fun k=>V.heap.size<=k/\k<w'.heap.size) J L.heap.size l (K.rr rs) (K.P.wY S.disk)):=dl
      have an:Hid (V.heap.size<=J/\J<w'.heap.size):=by
       obtain⟨_,_,_,_,_,_,_,_,_,_,q⟩:=dl;exact q.mm J (.inl rfl)
      have F:Hid (kZ l (K.rr rs) S x=(⟨S.disk,S.left,true,false,K.P.wY S.disk⟩,⟨0,none,[]⟩)):=by
       unfold kZ bD;rw[Hid,zQ (fun h=>by omega),jQ h6,d5.out];simp[gZ]
      clear dl;go_wp2_with fail;go_meet;exact⟨fun k=>V.heap.size<=k/\k<w'.heap.size,G,_,_,_,_,_,_,_,_,_,_,_,_,F,E.out.call (s':=⟨S.disk,S.left,true,false,K.P.wY S.disk⟩) (xX (bt bz.out Q.out)) (D.out.ds.at Q.out) E.out.w64 E.out.i64 _ G (fun _ m=>.inr ⟨by omega,m.2⟩) (fun _ m=>.inl m) (fun _ m=>m) (fun h=>by cases h) (fun _=>⟨d5.out,J,rfl,an.out,fun _=>gs.out,fun h=>by cases h⟩) (kbx (vZ _ _) _ _),yI _ _ _,C.set (i:=0) (by simp) _⟩
    have b1:(x.act == 1)=false:=by simpa using h6
    by_cases h7:x.act=4
    ·as_aux_lemma =>
     have j4:=D.out.ds.c1.c;have j5:=D.out.ds.c1.f;have b4:(x.act == 4)=true:=by simpa using h7
     have hf:L.heap.size<wr.heap.size:=d7.out _ (.inr (.inl rfl))
     have F:Hid (kZ l (K.rr rs) S x=(⟨S.disk,x.n,S.up,S.brk,S.done⟩,⟨0,none,[]⟩)):=by
      unfold kZ bD;rw[Hid,zQ (fun h=>by omega),zQ h6,jQ h7];rfl
     go_wp2_with fail;go_meet
     exact⟨M,G,_,_,_,_,_,_,_,_,_,_,_,_,F,D.out.step (s':=⟨S.disk,x.n,S.up,S.brk,S.done⟩) (lX (vZ V (fun k=>M k\/k=L.heap.size\/k=H)) (p:=⟨L.heap.size,1,none⟩) (.inl (.inr (.inl rfl))) _) (D.out.ds.left x.n) D.out.w64 HX.out.2.2.2.1 M G (fun _ m=>.inl m) (fun _ m=>.inl m) (fun _ m=>m) D.out.dn (fun u=>by
      obtain⟨e,J,Y,q2,q3,q4⟩:=D.out.up u;exact⟨e,J,Y,q2,fun x=>(q3 x).kp (kbx (vZ _ _) _ _) (fun k m=>(D.out.mm k m).2.2.1),fun x=>K.P.wV (q4 x) (kbx (vZ _ _) _ _) ((D.out.mm _ q2).2.2.1)⟩),yI _ _ _,aw.out.oth (by omega) _⟩
    have b4:(x.act == 4)=false:=by simpa using h7
    by_cases h8:x.act=6/\0<=x.n/\x.n<S.disk.length
    ·as_aux_lemma =>
     obtain⟨m,hm⟩:∃ m:Nat,x.n=m:=⟨x.n.toNat,by omega⟩;have ff:m<S.disk.length:=by omega
     obtain⟨y,hy⟩:∃ y,S.disk[m]? = some y:=⟨_,nZ ff⟩;have em:=D.out.ds.c0.c;have dw:=(D.out.ds.ar m y hy).c;have j6:=(D.out.ds.ar m y hy).f;have j2:=(au.out 17 _ rfl).c;have b6:(x.act == 6)=true:=by simpa using h8.1
     rw[hm] at a1;have gp:Hid (m<S.disk.length):=ff;have ih:(m:Int)<(S.disk.length:Int):=by omega
     have je:(0:Int)<=(m:Int):=by omega
     have F:Hid (kZ l (K.rr rs) S x=(⟨S.disk.set m x.word,S.left,S.up,S.brk,S.done⟩,⟨0,none,[]⟩)):=by
      unfold kZ;rw[Hid,jQ h8,hm];rfl
     clear hm h8 hy;go_wp2_with fail;go_quiet (fail);go_wp2_with fail
     go_region
     have hf:H<wr.heap.size:=d7.out _ (.inr (.inr rfl));have X:xQ V (V.drewN (nq+1)):=⟨rfl,rfl,rfl,vQ _,fun _ _=>rfl⟩;go_wp2_with fail;go_meet
     exact⟨M,G,_,_,_,_,_,_,_,_,_,_,_,_,F,D.out.step (s':=⟨S.disk.set m x.word,S.left,S.up,S.brk,S.done⟩) (lX (N:=(fun k=>M k\/k=L.heap.size\/k=H)) (xX X) (p:=⟨H,m,none⟩) (.inl (.inr (.inr rfl))) _) ((D.out.ds.at X).put gp.out x.word) (fun y hy=>by
       rcases mI hy with hy|rfl
       ·exact D.out.w64 y hy
       ·exact HX.out.2.2.2.2.1) D.out.i64 M G (fun _ m=>.inl m) (fun _ m=>.inl m) (fun _ m=>m) D.out.dn (fun u=>by
       obtain⟨e,J,Y,q2,q3,q4⟩:=D.out.up u;exact⟨e,J,Y,q2,fun x=>(q3 x).kp (kbx (xX X) _ _) (fun k m=>(D.out.mm k m).2.2.2.1),fun x=>K.P.wV (q4 x) (kbx (xX X) _ _) ((D.out.mm _ q2).2.2.2.1)⟩),yI _ _ _,(aw.out.at X).oth (by omega) _⟩
    have em:=D.out.ds.c0.c;by_cases ai:S.up=false\/x.act≠2/\x.act≠3/\x.act≠5
    ·as_aux_lemma =>
     have F:Hid (kZ l (K.rr rs) S x=(S,⟨0,none,[]⟩)):=e7J h6 h7 h8 ai
     have gx:(x.act == 6)=false\/(x.act == 6)=true/\x.n<0/\decide ((0:Int)<=x.n)=false\/(x.act == 6)=true/\0<=x.n/\¬ x.n<(S.disk.length:Int):=by
      simp only[yU,beq_iff_eq,decide_eq_false_iff_not];omega
     have hv:u10=.pointer none\/(∃ J,u10=.pointer (some ⟨J,0,none⟩))/\(x.act == 2)=false/\(x.act == 3)=false/\(x.act == 5)=false:=by
      cases hu:S.up with
      | false=>exact .inl (D.out.dn hu)
      | true =>
       rw[hu] at ai;obtain⟨_,J,q,_⟩:=D.out.up hu;exact .inr ⟨⟨J,q⟩,by simpa using ai⟩
     clear h6 h7 h8 ai;rcases hv with rfl|⟨⟨J,rfl⟩,b2,b3,b5⟩ <;> rcases gx with b6|⟨b6,g0,g1⟩|⟨b6,g0,g1⟩
     all_goals
      go_wp2_with fail;go_quiet (fail);obtain⟨w3,i3⟩:∃ w3,V.drewN nq=w3:=⟨_,rfl⟩;have dg:xQ V w3:=i3▸(⟨rfl,rfl,rfl,vQ _,fun _ _=>rfl⟩:xQ V (V.drewN nq));have e0:=((au.out 0 _ rfl).at dg).c;have e5:Hid (xQ V w3):=dg;clear dg;go_wp2_with fail;go_meet;exact⟨M,G,_,_,_,_,_,_,_,_,_,_,_,_,F,D.out.at e5.out,yI _ _ _,aw.out.at e5.out⟩
    have T:S.up=true:=by
     cases h:S.up with
     | false=>exact absurd (.inl h) ai
     | true=>rfl
    have ak:x.act=2\/x.act=3\/x.act=5:=by
     have:¬(x.act≠2/\x.act≠3/\x.act≠5):=fun h=>ai (.inr h);omega
    obtain⟨ft,J,i0,fd,_⟩:=D.out.up T;subst i0;have b8:Hid (K.Ds.fV l (K.rr rs)=0):=ft;have an:Hid (M J):=fd;have b6:(x.act == 6)=false:=by rcases ak with h|h|h <;> simp[h]
    clear h6 h7 h8 ai ft fd;go_wp2_with fail;go_quiet (fail);obtain⟨O,dm⟩:∃ O,V.drewN nq=O:=⟨_,rfl⟩;have X:xQ V O:=dm▸(⟨rfl,rfl,rfl,vQ _,fun _ _=>rfl⟩:xQ V (V.drewN nq));have R:Hid (HuI W0 O (w.heap.size+1) L.heap.size H (some ⟨H,0,none⟩) c l (K.rr rs) (.pointer (some ⟨J,0,none⟩)) u11 S os M G):=D.out.at X;have a7:Hid (Bx O (wr.heap.size+1) [int i64 0,.slice none 0 0,int i64 0,int i64 0,int i64 0,.slice none 0 0]):=aw.out.at X;have a8:Hid (Bx O wr.heap.size [int i64 x.act,int i64 x.n,.string x.nm,int i64 x.bu,int i64 x.bd,.string x.pn,int i64 kk,.string kc,int i64 kl,int i64 kh,.slice ka kn kd,.slice kb km kp,int i64 x.u,int i64 x.d,int i64 x.lo,int i64 x.hi,.slice xa x.bits.length xc,int i64 x.word]):=au.out.at X;have ae:Hid (xQ wr O):=bt bz.out X;have jg:wr.heap.size+2<=O.heap.size:=by have:=X.size;omega
    have e0:=(a8.out 0 _ rfl).c;have eb:Hid (¬ M L.heap.size/\¬ M H):=⟨fun m=>(R.out.mm _ m).2.2.1 rfl,fun m=>(R.out.mm _ m).2.2.2.1 rfl⟩;have ed:Hid (¬ (M (wr.heap.size+1)\/wr.heap.size+1=L.heap.size\/wr.heap.size+1=H)):=fun h=>by have:=d7.out _ h;omega
    obtain⟨_,j3,i1,fe,ag,af⟩:=R.out.up T;cases i1
    have ef:Hid (O.rangeAt wr.heap.size 5 [.string x.pn,int i64 kk,.string kc,int i64 kl,int i64 kh,.slice ka kn kd,.slice kb km kp,int i64 x.u,int i64 x.d,int i64 x.lo,int i64 x.hi,.slice xa x.bits.length xc]):=fun j v hj=>by
     have e:([.string x.pn,int i64 kk,.string kc,int i64 kl,int i64 kh,.slice ka kn kd,.slice kb km kp,int i64 x.u,int i64 x.d,int i64 x.lo,int i64 x.hi,.slice xa x.bits.length xc]:List Value)=(([int i64 x.act,int i64 x.n,.string x.nm,int i64 x.bu,int i64 x.bd,.string x.pn,int i64 kk,.string kc,int i64 kl,int i64 kh,.slice ka kn kd,.slice kb km kp,int i64 x.u,int i64 x.d,int i64 x.lo,int i64 x.hi,.slice xa x.bits.length xc,int i64 x.word]:List Value).drop 5).take 12:=rfl;rw[e,vN] at hj;split at hj
     ·rw[kK] at hj
      exact(a8.out (5+j) v hj).c
     ·cases hj
    have dh:Below B wr O:=ae.out.mono (bQ hB d3.out.size);have cm:Hid (K.Qm O B x.q (int i64 kk) (.string kc) (int i64 kl) (int i64 kh) (.slice ka kn kd) (.slice kb km kp)):=gt.out.keep dh;have e8:Hid (pU O B nb (.slice xa x.bits.length xc) x.bits):=gn.out.keep dh;have e2:=(a8.out 2 _ rfl).c;have e3:=(a8.out 3 _ rfl).c;have e4:=(a8.out 4 _ rfl).c;clear X a0 a1 em dh fe;cases hbk:S.brk with
    | true =>
     have F:Hid (kZ l (K.rr rs) S x=(S,⟨9,none,[]⟩)):=b3Z ak T hbk;have am:=af hbk;clear ag af hbk T;rcases ak with h2|h3|h5
     ·as_aux_lemma =>
      have b2:(x.act == 2)=true:=by simpa using h2
      have kP:=K.P.ehQ J x.nm x.bu x.bd O am;go_wp2_with fail;refine kP.mono ?_;rintro x5 w' ⟨rfl,I⟩;have Q:Hid (xQ O w'):=I;have C:=a7.out.at I;have y0:=(C 0 _ rfl).c;have y1:=(C 0 _ rfl).f;clear I kP am;go_wp2_with fail;go_meet;exact⟨M,G,_,_,_,_,_,_,_,_,_,_,_,_,F,E.out.quiet (bt ae.out Q.out) (kbx (vZ _ _) _ _),yI _ _ _,C.set (i:=0) (by simp) _⟩
     ·as_aux_lemma =>
      have b2:(x.act == 2)=false:=by simp[h3]
      have b3:(x.act == 3)=true:=by simpa using h3
      have kP:=ekX J x.pn _ _ _ _ _ _ (.slice xa x.bits.length xc) x.u x.d x.lo x.hi O am cm.out.shape ⟨_,_,_,rfl⟩;clear am;go_upto_region 20 with fail;refine oO ?_;(iterate 6 go_step);refine kC rfl 55 _ rfl wr.heap.size 5 rfl _ _ ef.out underlying55 rfl akJ ?_;go_wp2_with fail;refine kP.mono ?_;rintro x5 w' ⟨rfl,I⟩;have Q:Hid (xQ O w'):=I;have C:=a7.out.at I;clear I kP;have y0:=(C 0 _ rfl).c;have y1:=(C 1 _ rfl).c;have y2:=(C 2 _ rfl).c;have y3:=(C 3 _ rfl).c;have y4:=(C 4 _ rfl).c;have z0:=(C 0 _ rfl).f;have z1:=(C 1 _ rfl).f;have z2:=(C 2 _ rfl).f;have z3:=(C 3 _ rfl).f;have z4:=(C 4 _ rfl).f;go_wp2_with fail;go_meet;exact⟨M,G,_,_,_,_,_,_,_,_,_,_,_,_,F,E.out.quiet (bt ae.out Q.out) (kbx (kbx (kbx (kbx (kbx (vZ _ _) _ _) _ _) _ _) _ _) _ _),yI _ _ _,((((C.set (i:=1) (by simp) _).set (i:=2) (by simp) _).set (i:=3) (by simp) _).set (i:=4) (by simp) _).set (i:=0) (by simp) _⟩
     ·as_aux_lemma =>
      have b2:(x.act == 2)=false:=by simp[h5]
      have b3:(x.act == 3)=false:=by simp[h5]
      have b5:(x.act == 5)=true:=by simpa using h5
      have kP:=K.P.ehZ J O am;clear am;go_wp2_with fail;refine kP.mono ?_;rintro x5 w' ⟨rfl,fp⟩;have I:xQ O w':=fp▸uQ _ _;have Q:Hid (xQ O w'):=I;have C:=a7.out.at I;clear fp I kP;have y0:=(C 5 _ rfl).c;have y1:=(C 5 _ rfl).f;have y2:=(C 0 _ rfl).c;have y3:=(C 0 _ rfl).f;go_wp2_with fail;go_meet;exact⟨M,G,_,_,_,_,_,_,_,_,_,_,_,_,F,E.out.quiet (bt ae.out Q.out) (kbx (kbx (vZ _ _) _ _) _ _),yI _ _ _,(C.set (i:=5) (by simp) _).set (i:=0) (by simp) _⟩
    | false =>
     have br:Hid (qJ O M J L.heap.size l (K.rr rs) S.done):=ag hbk;clear ag af;rcases ak with h2|h3|h5
     ·as_aux_lemma =>
      have b2:(x.act == 2)=true:=by simpa using h2
      obtain⟨s',er,c9⟩:∃ s' er,jZ S (1,x.nm,0,x.bu,x.bd)=(s',er):=⟨_,_,rfl⟩;have kP:=K.P.egJ M J L.heap.size H (some ⟨H,0,none⟩) c l (K.rr rs) S.disk S.left S.done x.nm x.bu x.bd O br.out R.out.ds eb.out R.out.bs.2.2.1 R.out.i64 HX.out.2.2.2.2.2.1 s' er (by rw[bR T hbk];exact c9);have F:Hid (kZ l (K.rr rs) S x=(s',⟨er,none,[]⟩)):=b3J h2 T hbk c9;have Y:=agX (e:=(1,x.nm,0,x.bu,x.bd)) E.out.w64 E.out.i64;have q2:=byQ (s:=S) (e:=(1,x.nm,0,x.bu,x.bd));rw[c9] at Y q2;have az:Hid _:=Y;have db:Hid (s'.up=true):=q2.trans T;clear c9 hbk Y q2;go_wp2_with fail;refine kP.mono ?_;rintro x5 w' ⟨rfl,ah,bj,bk,bi⟩;have bv:Hid (Keeps O w' (fun k=>M k\/k=L.heap.size\/k=H)):=ah;have d4:Hid (DskM w' L.heap.size H (some ⟨H,0,none⟩) c s'.disk s'.left):=bj;have ay:Hid ((s'.brk=false->qJ w' (fun k=>M k\/O.heap.size<=k/\k<w'.heap.size) J L.heap.size l (K.rr rs) s'.done)/\(s'.brk=true->Cl w' J 5 (.bool true))):=⟨bk,bi⟩;have C:=a7.out.kp ah ed.out;have y0:=(C 0 _ rfl).c;have y1:=(C 0 _ rfl).f;clear ah bj bk bi kP;go_wp2_with fail;go_meet;have q3:=bv.out.size;exact⟨fun k=>M k\/O.heap.size<=k/\k<w'.heap.size,G,_,_,_,_,_,_,_,_,_,_,_,_,F,E.out.call (s':=s') ((xX ae.out).trans bv.out) d4.out az.out.1 az.out.2 _ G (fun _ m=>m.imp id (fun m=>⟨by omega,m.2⟩)) (fun _ m=>.inl m) (fun _ m=>m) (fun h=>by rw[db.out] at h;cases h) (fun _=>⟨b8.out,J,rfl,.inl an.out,ay.out.1,ay.out.2⟩) (kbx (vZ _ _) _ _),yI _ _ _,C.set (i:=0) (by simp) _⟩
     ·as_aux_lemma =>
      have b2:(x.act == 2)=false:=by simp[h3]
      have b3:(x.act == 3)=true:=by simpa using h3
      obtain⟨g6,i9,f8,cr⟩:=byJ b8.out;obtain⟨z,ez,hz⟩:∃ z ez,K.iU (K.prt l x.q g6)=(z,ez):=⟨_,_,rfl⟩;obtain⟨ls,lu,ld,e1,hA⟩:∃ ls lu ld e1,eA x.u x.d x.lo x.hi l (K.rr rs) x.q=(ls,lu,ld,e1):=⟨_,_,_,_,rfl⟩;obtain⟨s',er,t2,Z⟩:=byX S (aG e1 x.bits) (tZ x.pn z ez lu ld) (fZ ls x.bits 0 []);have e7:Hid (kZ l (K.rr rs) S x=(s',⟨er,t2.map fun t=>(t.1,t.2,lu,ld),[]⟩)):=bzQ h3 b8.out cr hz hA Z;have dm:=R.out.be.size;have gz:=R.out.bs;have kP:=elJ M J L.heap.size H B nb (some ⟨H,0,none⟩) c l (K.rr rs) S.disk S.left S.done x.pn _ _ _ _ _ _ xa xc x.bits x.q x.u x.d x.lo x.hi O br.out R.out.ds eb.out (fun k m=>⟨by have:=(R.out.mm k m).1;omega,(R.out.mm k m).2.1⟩) ⟨by omega,by omega⟩ R.out.bs.2.2.1 R.out.i64 HX.out.2.2.2.2.2.2 (by omega) cm.out e8.out HX.out.1 HX.out.2.1 HX.out.2.2.1 g6 i9 f8 z ez hz ls lu ld e1 hA s' er t2 (by rw[bR T hbk];exact Z);have bx:=byZ Z T;have Y:=epQ Z E.out.w64 E.out.i64;have az:Hid _:=Y;have db:Hid (s'.up=true):=Y.2.2.trans T;clear Z hz hA cr f8 hbk gz dm Y;go_upto_region 20 with fail;refine oO ?_;(iterate 6 go_step);refine kC rfl 55 _ rfl wr.heap.size 5 rfl _ _ ef.out underlying55 rfl akJ ?_;go_wp2_with fail;refine kP.mono ?_;rintro x5 w' ⟨ah,bj,M',fc,bk,bi,fk⟩;have bv:Hid (Keeps O w' (fun k=>M k\/k=L.heap.size\/k=H)):=ah;have d4:Hid (DskM w' L.heap.size H (some ⟨H,0,none⟩) c s'.disk s'.left):=bj
      have go:Hid (∀ k,M' k\/k=J->M k\/wr.heap.size+2<=k/\k<w'.heap.size):=fun k m=>by
       rcases m with m|rfl
       ·exact(fc k m).imp id (fun m=>⟨by omega,m.2⟩)
       ·exact .inl an.out
      have ay:Hid ((s'.brk=false->qJ w' M' J L.heap.size l (K.rr rs) s'.done)/\(s'.brk=true->Cl w' J 5 (.bool true))):=⟨bk,bi⟩;have C:=a7.out.kp ah ed.out;clear ah bj fc bk bi kP;have y0:=(C 0 _ rfl).c;have y1:=(C 1 _ rfl).c;have y2:=(C 2 _ rfl).c;have y3:=(C 3 _ rfl).c;have y4:=(C 4 _ rfl).c;have z0:=(C 0 _ rfl).f;have z1:=(C 1 _ rfl).f;have z2:=(C 2 _ rfl).f;have z3:=(C 3 _ rfl).f;have z4:=(C 4 _ rfl).f
      have FI:Hid (∀ (w3:World) (G':Nat->Prop),Keeps w' w3 (fun k=>k=wr.heap.size+1)->(∀ k,G' k->G k\/wr.heap.size+2<=k/\k<w'.heap.size/\¬(M' k\/k=J))->(∀ k,G k->G' k)->HuI W0 w3 (w.heap.size+1) L.heap.size H (some ⟨H,0,none⟩) c l (K.rr rs) (.pointer (some ⟨J,0,none⟩)) u11 s' os (fun k=>M' k\/k=J) G'):=fun w3 G' h1 h2 h3 =>
       E.out.call (s':=s') ((xX ae.out).trans bv.out) d4.out az.out.1 az.out.2.1 _ G' go.out h2 h3 (fun h=>by rw[db.out] at h;cases h) (fun _=>⟨b8.out,J,rfl,.inr rfl,fun h=>(ay.out.1 h).mono (fun k m=>.inl m),ay.out.2⟩) h1
      rcases fk with⟨h0,rfl⟩|⟨h0,vs,us,g,fl,fg,fo,fm,rfl,ew,ey,cx⟩
      ·have F:Hid (kZ l (K.rr rs) S x=(s',⟨er,none,[]⟩)):=by rw[Hid,e7.out,bx.1 h0];rfl
       clear bx h0;go_wp2_with fail;go_meet;exact⟨_,G,_,_,_,_,_,_,_,_,_,_,_,_,F,FI.out _ G (kbx (kbx (kbx (kbx (kbx (vZ _ _) _ _) _ _) _ _) _ _) _ _) (fun _ m=>.inl m) (fun _ m=>m),yI _ _ _,((((C.set (i:=1) (by simp) _).set (i:=2) (by simp) _).set (i:=3) (by simp) _).set (i:=4) (by simp) _).set (i:=0) (by simp) _⟩
      ·subst h0
       have F:Hid (kZ l (K.rr rs) S x=(s',⟨0,some (vs,us,lu,ld),[]⟩)):=by rw[Hid,e7.out,bx.2 rfl,fl];rfl
       have dc:Hid (vs≠[]/\vs.length<=4096/\us<=65536):=⟨fg,fo,fm⟩;have ax:Hid (O.heap.size<=g/\¬ M' g/\K.RowI w' g vs):=⟨ew,ey,cx⟩;have q4:=(E.out.mm J an.out).2.1;clear bx fl fg fo fm ew ey cx;go_wp2_with fail;go_meet;refine⟨_,fun k=>G k\/k=g,_,_,_,_,_,_,_,_,_,_,_,_,F,FI.out _ _ (kbx (kbx (kbx (kbx (kbx (vZ _ _) _ _) _ _) _ _) _ _) _ _) (fun k m=>?_) (fun _ m=>.inl m),⟨_,_,_,_,_,rfl,.inr ⟨vs,us,g,rfl,dc.out.1,dc.out.2.1,dc.out.2.2,rfl,rfl,.inr rfl,afZ ax.out.2.2 (kbx (kbx (kbx (kbx (kbx (vZ _ _) _ _) _ _) _ _) _ _) _ _) (by have:=ax.out.1;omega)⟩,⟨rfl,.inl ⟨rfl,rfl⟩⟩,fun g hg=>by cases hg⟩,((((C.set (i:=1) (by simp) _).set (i:=2) (by simp) _).set (i:=3) (by simp) _).set (i:=4) (by simp) _).set (i:=0) (by simp) _⟩;rcases m with m|rfl
       ·exact .inl m
       ·have:=ax.out.1
        refine .inr ⟨by omega,ax.out.2.2.lt,fun z=>?_⟩;rcases z with z|rfl
        ·exact ax.out.2.1 z
        ·omega
     ·as_aux_lemma =>
      have b2:(x.act == 2)=false:=by simp[h5]
      have b3:(x.act == 3)=false:=by simp[h5]
      have b5:(x.act == 5)=true:=by simpa using h5
      have kP:=K.P.ehX M J L.heap.size l (K.rr rs) S.done O br.out;have F:Hid (kZ l (K.rr rs) S x=(S,⟨0,none,S.done⟩)):=b4Q h5 T hbk;have gl:Hid (S.brk=false):=hbk;have gu:Hid (S.up=true):=T;clear hbk T;go_wp2_with fail;refine kP.mono ?_;rintro x5 w' ⟨r,rfl,dj,I⟩;obtain⟨ea,ec,rfl⟩:=K.P.iY dj;have Q:Hid (xQ O w'):=I;have da:Hid (w'.ownsRow O.heap.size 72 5 (.slice ea S.done.length ec) S.done.length (enc S.done)):=dj;have C:=a7.out.at I;have y0:=(C 5 _ rfl).c;have y1:=(C 5 _ rfl).f;have y2:=(C 0 _ rfl).c;have y3:=(C 0 _ rfl).f;clear I dj kP;go_wp2_with fail;go_meet;refine⟨M,fun k=>G k\/(Value.slice ea S.done.length ec).ownBlock=some k,_,_,_,_,_,_,_,_,_,_,_,_,F,E.out.call (s':=S) (xX (bt ae.out Q.out)) (R.out.ds.at Q.out) E.out.w64 E.out.i64 M _ (fun _ m=>.inl m) (fun k m=>?_) (fun _ m=>.inl m) (fun h=>by rw[gu.out] at h;cases h) (fun _=>⟨b8.out,J,rfl,an.out,fun _=>br.out.kp (K:=fun _=>False) (xX Q.out) (fun _ _ h=>h),fun h=>by rw[gl.out] at h;cases h⟩) (kbx (kbx (vZ _ _) _ _) _ _),⟨_,_,_,_,_,rfl,.inl ⟨rfl,rfl,rfl,rfl,rfl⟩,jD (qA da.out (kbx (kbx (vZ _ _) _ _) _ _) (fun g hg e=>?_)) (dQ _),fun g hg=>.inr hg⟩,(C.set (i:=5) (by simp) _).set (i:=0) (by simp) _⟩
      ·rcases m with m|m
       ·exact .inl m
       ·have q:=K.P.tX da.out m
        refine .inr ⟨by omega,q.2,fun z=>?_⟩;have:=(E.out.mm k z).2.1;omega
      ·have:=(K.P.tX da.out hg).1
       omega
   case rest =>
    obtain⟨M',G',s',x',er,us,lu,ld,ta,tn,tc,ea,en,ec,HE,HJ,eg,ac⟩:=hcut;have gq:Hid _:=gv.out s' x' HE.out;have r0:=(ac.out 0 _ rfl).c;have r1:=(ac.out 1 _ rfl).c;have r2:=(ac.out 2 _ rfl).c;have r3:=(ac.out 3 _ rfl).c;have r4:=(ac.out 4 _ rfl).c;have r5:=(ac.out 5 _ rfl).c;go_upto_region 23 with fail;refine oO ?_;(iterate 6 go_step);refine e7Z HJ.out eg.out (by have:=gr.out;omega) hl g3 g4 g5 rfl _ rfl _ rfl rfl rfl _ _ rfl rfl rfl ?_;intro g9 cap w5 h5;clear r0 r1 r2 r3 r4 r5 ac eg;go_wp2
    go_roundw
    case rel=>exact⟨i+1,M',G',by go_num,h1,by rw[gq.out];exact h5⟩
    case measure=>simp[intOf];omega
  ·as_aux_lemma =>
   have f7:i=xs.length:=by omega
   subst f7;obtain⟨k0,k1,k2,_⟩:=HI.out.ds;have e0:=k0.c;have e2:=k2.c;have fa:(vU l (K.rr rs) ⟨words,-1,false,false,[]⟩ xs).1.disk.length=words.length:=agQ l (K.rr rs) xs _;rw[bU] at HI e0;rw[fa] at e0;clear k0 k1 k2;go_wp2
   go_region
   go_wp2
   have bf:xQ w wr:=by
    have Y:=e6.out;have q2:=HI.out.be;exact⟨q2.os.trans Y.os,q2.tape.trans Y.tape,q2.output.trans Y.output,bQ Y.size q2.size,fun k hk=>(q2.block k (by omega)).trans (Y.block k (by omega))⟩
   exact eQ (v:=.tuple #[u11,.slice (some ⟨H,0,none⟩) words.length c,.bool true]) (by simp[results,results4,go_sem]) rfl ⟨W0,L.heap.size,H,_,c,_,_,_,_,M,G,rfl,rfl,bf.drew,HI.out.at (uQ _ _).drew⟩

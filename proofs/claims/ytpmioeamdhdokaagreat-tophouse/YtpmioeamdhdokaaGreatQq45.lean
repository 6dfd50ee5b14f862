import Derived.Test.YtpmioeamdhdokaaGreatQq44
import Derived.Great.Walk
import Derived.Deep.Cut
import Derived.Great.BuildSlice
import Derived.Deep.OwnRows
open Go.Proofs.Tryz
set_option linter.unusedSimpArgs false
set_option maxHeartbeats 16000000
set_option maxRecDepth 100000
namespace Go.Proofs.YtpmioeamdhdokaaGreat
variable {B B' N0 b base c n:Nat} {d er p u:Int} {disk:List Int} {ws:List (Nat × Int)} {ts:List (List Int)} {kc nm0 pn:ByteArray} {t2:Option (List Int × Nat)} {w w':World} {a:Act} {ov v:Value} {G M:Nat->Prop} {P:Program} {ops:Array Oper} {rest:List Oper} {o:Oper} {Q:Exit->Act->World->Prop} {ka kb xa:Option Addr} {css:List (List Value)}
section
open Go.RowKit Ds
open K (Cl)
open K.P (HSt Keeps qX xJ zU fZ HouK DskM cG vZ pZ Ev Sn wG cV TwoB mV lU lV jX iA dZ sG enc vN jZ xV fJ wrs nrm fX fA tV pG octs kV rB tB wB)
theorem eyJ (h:n<18446744073709551616):yX (fA n):=by
 unfold fA yX;split <;> omega
theorem ezQ (s:ByteArray):mV (tV (pG s)):=by
 intro x hx;unfold tV at hx;obtain⟨w,_,rfl⟩:=wX.1 hx;have h:=rB (tB (wB s) w);have h8:(octs (pG s) w).length=8:=by simp[octs]
 rw[h8] at h;exact eyJ (by simpa using h)
theorem yI (h:Rt.oQ u d=true):yX u/\yX d:=by
 unfold Rt.oQ Rt.mx at h;simp only[qY] at h;unfold yX;omega
theorem ezX {done:List K.P.En}{e:K.P.En}(h:fX done (nrm e)=0):mV (fJ (nrm e)):=by
 obtain⟨h1,h2,h3,h4⟩:=K.P.oH (K.P.pB h).1;have hb:=yI h4.1
 have hp:yX (nrm e).2.2.1:=by
  by_cases c:e.1=3
  ·have e1:nrm e=e:=by simp[nrm,c]
   rw[e1] at h ⊢;unfold fX at h;split at h
   ·exact absurd h (by assumption)
   ·split at h
    ·cases h
    ·split at h
     ·rw[xQ (by omega)] at h;cases h
     ·rw[xQ (by omega)] at h
      split at h
      ·cases h
      ·rename_i c3
       unfold yX;omega
  ·have e1:(nrm e).2.2.1=0:=by simp[nrm,c]
   rw[e1];exact⟨by omega,by omega⟩
 intro x hx;simp only[fJ,gV,eX,zF,jF] at hx;rcases hx with(rfl|rfl|rfl|rfl|rfl)|hx
 ·omega
 ·omega
 ·exact hp
 ·exact hb.1
 ·exact hb.2
 ·exact ezQ _ x hx
theorem ezZ (h:mV disk):∀ {ws:List (Nat × Int)},(∀ p∈ws,yX p.2)->mV (xV disk ws):=by
 intro ws
 induction ws generalizing disk with
 | nil=>intro _;exact h
 | cons p ws ih =>
  intro hw;refine ih (disk:=disk.set p.1 p.2) ?_ (fun q hq=>hw q (by simp[hq]));intro x hx;rcases uK hx with hx|rfl
  ·exact h x hx
  ·exact hw p (by simp)
theorem ezJ {e:K.P.En}(h:mV (fJ e)):∀ p∈wrs n e,yX p.2:=by
 intro p hp;simp only[wrs,eX,gV,wX,zH,zF,jF] at hp;rcases hp with rfl|⟨j,hj,rfl⟩|rfl
 ·exact⟨by simp,by simp⟩
 ·refine h _ ?_
  have hl:=K.P.oR e;rw[List.getD_eq_getElem?_getD,iJ (by omega)];simp
 ·exact⟨by simp,by simp⟩
theorem e0Q :∀ {left:Int},yX left->yX (jZ disk left ws).2.1:=by
 induction ws generalizing disk with
 | nil=>intro l h;exact h
 | cons p ws ih =>
  intro l h;obtain⟨a,x⟩:=p;simp only[jZ];split
  ·exact⟨by simp,by simp⟩
  ·refine ih ?_
   unfold yX at h ⊢;split <;> omega
theorem btJ {s:HSt}{e:K.P.En}(h:mV s.disk)(hl:yX s.left):mV (vZ s e).1.disk/\yX (vZ s e).1.left:=by
 unfold vZ;split
 ·exact⟨h,hl⟩
 ·split
  ·exact⟨h,hl⟩
  ·rename_i c
   have hr:=ezX (by simpa using c);obtain⟨d',l',ok,hp⟩:∃ d' l' ok,jZ s.disk s.left (wrs s.done.length (nrm e))=(d',l',ok):=⟨_,_,_,rfl⟩;obtain⟨m,h1,h2,_⟩:=K.P.acX hp
   have hd:mV d':=by
    rw[h2];exact ezZ h (fun p hp=>ezJ hr p (jH hp))
   have hle:yX l':=by
    have:=e0Q (disk:=s.disk) (ws:=wrs s.done.length (nrm e)) hl;rw[hp] at this;exact this
   rw[hp];split <;> exact⟨hd,hle⟩
theorem buX {s:HSt}{e:K.P.En}:(vZ s e).1.up=s.up:=by
 unfold vZ
 repeat' split
 all_goals rfl
theorem buZ {α:Type}{s s':HSt}{e:K.P.En}{tl:Option α}{y:Sn α}(hs:pZ 0 s (.ask p e tl)=(s',y))(h:mV s.disk)(hl:yX s.left):mV s'.disk/\yX s'.left/\s'.up=s.up:=by
 obtain⟨d1,d2⟩:=btJ (e:=e) h hl;have d3:=buX (s:=s) (e:=e);simp only[pZ] at hs
 repeat' split at hs
 all_goals
  simp only[dQ] at hs;obtain⟨rfl,_⟩:=hs
  first|exact⟨h,hl,rfl⟩|exact⟨d1,d2,d3⟩
theorem e0X {α:Type}(s:HSt)(p:Int)(e:K.P.En)(tl:Option α):∃ s' er t2,pZ 0 s (.ask p e tl)=(s',⟨er,t2,[]⟩):=by
 simp only[pZ]
 repeat' split
 all_goals exact⟨_,_,_,rfl⟩
theorem e0Z {α:Type}{s s':HSt}{e:K.P.En}{tl t2:Option α}(h:pZ 0 s (.ask p e tl)=(s',⟨er,t2,[]⟩))(hu:s.up=true):(er≠0->t2=none)/\(er=0->t2=tl):=by
 simp only[pZ,hu] at h;rw[xQ (by simp)] at h;split at h
 ·simp only[dQ,Sn.mk.injEq] at h
  obtain⟨_,rfl,rfl,_⟩:=h;exact⟨fun _=>rfl,fun h=>by cases h⟩
 ·split at h
  ·rename_i hp
   simp only[dQ,Sn.mk.injEq] at h;obtain⟨_,rfl,rfl,_⟩:=h;exact⟨fun _=>rfl,fun h=>absurd h hp⟩
  ·split at h
   ·rename_i hp
    simp only[dQ,Sn.mk.injEq] at h;obtain⟨_,rfl,rfl,_⟩:=h;exact⟨fun _=>rfl,fun h=>absurd h hp⟩
   ·split at h
    ·simp only[dQ,Sn.mk.injEq] at h
     obtain⟨_,rfl,rfl,_⟩:=h;exact⟨fun _=>rfl,fun h=>by cases h⟩
    ·simp only[dQ,Sn.mk.injEq] at h
     obtain⟨_,rfl,rfl,_⟩:=h;exact⟨fun h=>absurd rfl h,fun _=>rfl⟩
theorem e0J {l:List K.Ds.yQ}(h:K.Ds.kJ l ts=0):∃ nm0 sz0,l[0]? = some (nm0,sz0)/\qD l=nm0:=by
 have h1:=(K.Ds.gK (K.Ds.uO h).1).1;cases l with
 | nil=>simp at h1
 | cons c l=>exact⟨c.1,c.2,rfl,rfl⟩
theorem e1Q {l:List K.Ds.yQ}{S s':HSt}{x:Stp}{z ez lu ld e1:Int}{ls:List (List Pt)}(h3:x.act=3)(hw:K.Ds.kJ l ts=0)(hn:qD l=nm0)(hz:K.yJ (K.prt l x.q nm0)=(z,ez))(hA:rY x.u x.d x.lo x.hi l ts x.q=(ls,lu,ld,e1))
  (hs:pZ 0 S (.ask (dG e1 x.bits) (cV x.pn z ez lu ld) (qV ls x.bits 0 []))=(s',⟨er,t2,[]⟩)):uJ l ts S x=(s',⟨er,t2.map fun t=>(t.1,t.2,lu,ld),[]⟩):=by
 unfold uJ sK;rw[xQ (fun h=>by omega),xQ (by omega),xQ (by omega),xQ (by omega),zQ h3];unfold eC;rw[hn,hz,hA,hw,ewJ,hs]
theorem buJ {s:HSt}(h1:s.up=true)(h2:s.brk=false):(⟨s.disk,s.left,true,false,s.done⟩:HSt)=s:=by
 cases s;simp only at h1 h2;subst h1 h2;rfl
theorem HuI.call {W0 wr w3:World}{bd bw:Nat}{a:Option Addr}{l:List K.Ds.yQ}{hv hv':Value}{s s':HSt}{xs:List (Sn jU)}(h:HuI W0 wr N0 bd bw a c l ts hv ov s xs M G)
  (hk:Keeps wr w' (fun k=>M k\/k=bd\/k=bw)) (hd:DskM w' bd bw a c s'.disk s'.left) (h64:mV s'.disk) (hi:yX s'.left) (M' G':Nat->Prop) (hM:∀ k,M' k->M k\/wr.heap.size+2<=k/\k<w'.heap.size) (hG:∀ k,G' k->G k\/wr.heap.size+2<=k/\k<w'.heap.size/\¬ M' k) (hGG:∀ k,G k->G' k)
  (dn:s'.up=false->hv' = .pointer none) (up:s'.up=true->K.Ds.kJ l ts=0/\∃ bh,hv' = .pointer (some ⟨bh,0,none⟩)/\M' bh/\(s'.brk=false->fZ w' M' bh bd l ts s'.done)/\(s'.brk=true->Cl w' bh 5 (.bool true))) (hw3:Keeps w' w3 (fun k=>k=wr.heap.size+1)) :
  HuI W0 w3 N0 bd bw a c l ts hv' ov s' xs M' G':=by
 have hbd:=h.ds.c0.lt;have hbw:=h.bs.2.2.1;have hs3:=hw3.size;have hs':=hk.size
 have hne:∀ k,M' k->¬ k=wr.heap.size+1:=fun k m e=>by
  rcases hM k m with m|m
  ·have:=(h.mm k m).2.1;omega
  ·omega
 have hk3:Keeps wr w3 (fun k=>M k\/k=bd\/k=bw) :=
  ⟨hw3.os.trans hk.os,hw3.tape.trans hk.tape,hw3.output.trans hk.output,by omega,fun k k1 k2=>(hw3.block k (by omega) (by omega)).trans (hk.block k k1 k2)⟩
 refine h.step hk3 (hd.kp hw3 (by omega) (by omega)) h64 hi M' G' (fun k m=>(hM k m).imp id (fun m=>by omega)) (fun k m=>(hG k m).imp id (fun m=>⟨by omega,by omega,m.2.2⟩)) hGG dn (fun u=>?_);obtain⟨e,bh,q1,q2,q3,q4⟩:=up u;exact⟨e,bh,q1,q2,fun x=>(q3 x).kp hw3 hne,fun x=>K.P.aA (q4 x) hw3 (hne bh q2)⟩
open K (Cl)
open K.P (HSt Keeps qX xJ zU fZ HouK DskM cG vZ pZ Ev Sn wG cV TwoB mV lU lV jX iA dZ sG enc vN)
theorem agJ (hg:o.guard=none)(t e:TypeId)(x:Operand)(ho:o.op=.buildSlice t 1 #[(0,x)])
  (N:Nat) (hN:w.heap.size=N) (dst:Option Tmp) (hdst:o.dst=dst) (hu:P.underlying t=some (.slice e)) (v:Value) (hv:a.eval x=v) (cells:Array Value) (hf:P.builtSlice e 1 [(0,v)]=some cells)
  (h:wpList P ops Q rest (a.put dst (.slice (some ⟨N,0,none⟩) 1 1)) (w.alloc (.cells cells e))):wpList P ops Q (o::rest) a w :=
 Great.wpList_buildSliceTo hg t e 1 _ ho N hN dst hdst hu cells (by subst hv;simpa using hf) h
theorem e1X (er us lu ld:Int)(ta ea:Option Addr)(tn tc en ec:Nat):prog.builtSlice 42 1 [(0,.agg #[.int .i64 er,.slice ta tn tc,.int .i64 us,.int .i64 lu,.int .i64 ld,.slice ea en ec])]=some #[.int .i64 er,.slice ta tn tc,.int .i64 us,.int .i64 lu,.int .i64 ld,.slice ea en ec]:=by kernel_rfl
theorem ahQ:(prog.info? 54).map (fun i=>i.size)=some 12:=by kernel_rfl
theorem bvQ:(prog.info? 56).map (fun i=>i.size)=some 18:=by kernel_rfl
theorem e1Z {act n bu bd kk kl kh lo hi word:Int}{nm:ByteArray}{kn kd km kp xl xc:Nat}:(#[.int .i64 act,.int .i64 n,.string nm,.int .i64 bu,.int .i64 bd,.string pn,.int .i64 kk,.string kc,.int .i64 kl,.int .i64 kh,.slice ka kn kd,.slice kb km kp,.int .i64 u,.int .i64 d,.int .i64 lo,.int .i64 hi,.slice xa xl xc,.int .i64 word]:Array Value).all (·.oneCell')=true:=by
 refine all_oneCell_toArray (cs:=[_,_,_,_,_,_,_,_,_,_,_,_,_,_,_,_,_,_]) (fun v hv=>?_);simp only[eX,zF,jF] at hv;rcases hv with rfl|rfl|rfl|rfl|rfl|rfl|rfl|rfl|rfl|rfl|rfl|rfl|rfl|rfl|rfl|rfl|rfl|rfl <;> rfl
open K (Cl)
open K.P (HSt Keeps qX xJ zU fZ HouK DskM cG vZ pZ Ev Sn wG cV TwoB mV lU lV jX iA dZ sG enc vN)
structure Stv where
 x:Stp
 v0:Int
 v1:ByteArray
 v2:Int
 v3:Int
 a4:Option Addr
 n4:Nat
 c4:Nat
 a5:Option Addr
 n5:Nat
 c5:Nat
 xa:Option Addr
 xc:Nat
def Stv.cs (s:Stv):List Value:=[.int .i64 s.x.act,.int .i64 s.x.n,.string s.x.nm,.int .i64 s.x.bu,.int .i64 s.x.bd,.string s.x.pn,.int .i64 s.v0,.string s.v1,.int .i64 s.v2,.int .i64 s.v3,.slice s.a4 s.n4 s.c4,.slice s.a5 s.n5 s.c5,.int .i64 s.x.u,.int .i64 s.x.d,.int .i64 s.x.lo,.int .i64 s.x.hi,.slice s.xa s.x.bits.length s.xc,.int .i64 s.x.word]
theorem Stv.len (s:Stv):s.cs.length=18:=rfl
theorem Stv.one (s:Stv):∀ u∈s.cs,u.oneCell' = true:=by
 intro u hu;simp only[Stv.cs,eX,zF,jF] at hu;rcases hu with rfl|rfl|rfl|rfl|rfl|rfl|rfl|rfl|rfl|rfl|rfl|rfl|rfl|rfl|rfl|rfl|rfl|rfl <;> rfl
def nF (w:World) (B:Nat) (s:Stv):Prop :=
 ∃ nb,K.Qm w B s.x.q (.int .i64 s.v0) (.string s.v1) (.int .i64 s.v2) (.int .i64 s.v3) (.slice s.a4 s.n4 s.c4) (.slice s.a5 s.n5 s.c5)/\vA w B nb (.slice s.xa s.x.bits.length s.xc) s.x.bits/\(s.xa=none->s.xc=0)/\yX s.x.lo/\yX s.x.hi/\yX s.x.n/\yX s.x.word/\s.x.nm.size<=9223372036854775807/\s.x.pn.size<=9223372036854775807
theorem nF.keep {s:Stv}(h:nF w B s)(hb:Below B w w'):nF w' B s:=by
 obtain⟨nb,h1,h2,h3⟩:=h;exact⟨nb,h1.keep hb,h2.keep hb,h3⟩
theorem e1J {o:Nat}{s:Stv}(h:w.rangeAt b o s.cs)(hm:nF w B s):vS w B b o s.x:=by
 obtain⟨nb,h2,h3,h4⟩:=hm;exact⟨_,_,_,_,_,_,s.xa,s.xc,nb,h,h2,h3,h4⟩
def yS (w:World) (B:Nat) (v:Value) (ss:List Stv):Prop :=
 ∃ a c,v=.slice a ss.length c/\ss.length<=c/\(∀ s∈ss,nF w B s)/\(ss≠[]->∃ b o,a=some ⟨b,o,none⟩/\b<B/\∀ (i:Nat) s,ss[i]? = some s->w.rangeAt b (o+i*18) s.cs)
theorem yS.keep {ss:List Stv}(h:yS w B v ss)(hb:Below B w w'):yS w' B v ss:=by
 obtain⟨a,c,rfl,h1,h2,h3⟩:=h;refine⟨a,c,rfl,h1,fun s hs=>(h2 s hs).keep hb,fun hn=>?_⟩;obtain⟨b,o,rfl,hB,h4⟩:=h3 hn;exact⟨b,o,rfl,hB,fun i s hs j u hj=>(hb.cell (p:=⟨b,o+i*18+j,none⟩) hB).trans (h4 i s hs j u hj)⟩
def sfl (ss:List Stv):List Value:=ss.flatMap Stv.cs
theorem bvX (ss:List Stv):(sfl ss).length=ss.length*18:=by
 induction ss with
 | nil=>rfl
 | cons s ss ih=>unfold sfl at *;rw[cN,bJ,ih,Stv.len,oJ];omega
theorem bvZ (ss:List Stv)(s:Stv):sfl (ss++[s])=sfl ss++s.cs:=by simp[sfl]
theorem bvJ:∀ (ss:List Stv) (i:Nat) (s:Stv) (j:Nat) (u:Value),ss[i]? = some s->s.cs[j]? = some u->(sfl ss)[i*18+j]? = some u
 | [],i,s,j,u,h,_=>by simp at h
 | t::ss,i,s,j,u,h,hj=>by
  unfold sfl;rw[cN];have hj18:j<18:=by have:=(cQ.1 hj).1;rwa [Stv.len] at this
  cases i with
  | zero =>
   simp only[List.getElem?_cons_zero,xX] at h;subst h;rw[zE (by rw[Stv.len];omega),jI,xZ];exact hj
  | succ i =>
   rw[List.getElem?_cons_succ] at h;rw[qF (by rw[Stv.len];omega),Stv.len,show(i+1)*18+j - 18=i*18+j by omega];exact bvJ ss i s j u h hj
theorem nF.mono {s:Stv}(h:nF w B s)(hB:B<=B'):nF w B' s:=by
 obtain⟨nb,h1,h2,h3⟩:=h;exact⟨_,K.P.dC hB _ h1,h2.mono hB (.inl rfl),h3⟩
theorem e2Q {ss:List Stv}(h:w.ownsRow base 56 18 v ss.length (sfl ss))(hm:∀ s∈ss,nF w w.heap.size s):yS w w.heap.size v ss:=by
 rcases h.2 with⟨rfl,h0⟩|⟨g,cap,cur,rfl,hb,hc,hn,hrest⟩
 ·obtain rfl:ss=[]:=xH.1 h0
  exact⟨none,0,rfl,vQ _,hm,fun hne=>absurd rfl hne⟩
 ·have hlt:=(zJ.1 hc).1
  refine⟨_,cap,rfl,hn,hm,fun _=>⟨g,0,rfl,hlt,fun i s hs j u hj=>?_⟩⟩;have h3:=h.cells (g:=g) rfl (i*18+j) u (bvJ ss i s j u hs hj);have e:(⟨g,0,none⟩:Addr).add (i*18+j)=⟨g,0+i*18+j,none⟩:=by unfold Addr.add;split <;> simp_all
  rwa [e] at h3
theorem e2X {ss:List Stv}(h:yS w B v ss)(hl:ss.length<=9223372036854775807):btQ w B v (ss.map Stv.x):=by
 obtain⟨a,c,rfl,h1,h2,h3⟩:=h;refine⟨a,c,by rw[wU],by rw[wU];exact h1,by rw[wU];exact hl,fun hn=>?_⟩;obtain⟨b,o,rfl,hB,h4⟩:=h3 (fun e=>hn (by rw[e];rfl));refine⟨b,o,rfl,hB,fun i x hx=>?_⟩;rw[dA] at hx;obtain⟨s,hs,rfl⟩:=wS.1 hx;exact e1J (h4 i s hs) (h2 s (rQ hs))
open K (Cl)
open K.P (HSt Keeps qX xJ zU fZ HouK DskM cG vZ pZ Ev Sn wG cV TwoB mV lU lV jX iA dZ sG enc vN)
abbrev Z18:Value:=.agg #[.int .i64 0,.int .i64 0,.string ⟨#[]⟩,.int .i64 0,.int .i64 0,.string ⟨#[]⟩,.int .i64 0,.string ⟨#[]⟩,.int .i64 0,.int .i64 0,.slice none 0 0,.slice none 0 0,.int .i64 0,.int .i64 0,.int .i64 0,.int .i64 0,.slice none 0 0,.int .i64 0]
theorem e2Z:(prog.info? 56).map (fun i=>(i.zero,i.size,i.bytes))=some (some Z18,18,216):=by kernel_rfl
theorem ahZ {cs:List Value}(h:Bx w b cs):w.rangeAt b 0 cs:=fun j v hj=>by rw[xZ];exact(h j v hj).c
end
namespace K.P
open Go.RowKit K.Ds
end K.P
section
open Go.RowKit Go.Shelf Ds
end
section
open Go.RowKit Ds
open K (Cl)
open K.P (HSt Keeps qX xJ zU fZ HouK DskM cG vZ pZ Ev Sn wG cV TwoB mV lU lV jX iA dZ sG enc nrm)
theorem e2J {os:List (Sn jU)}(h1:css.length=os.length)(h2:w.ownsRow N0 42 6 ov os.length css.flatten)
  (h4:∀ (i:Nat) x cs,os[i]? = some x->css[i]? = some cs->xD w G x cs) {i:Nat} {x:Sn jU} (hi:os[i]? = some x) :
  ∃ cs g c,ov=.slice (some ⟨g,0,none⟩) os.length c/\N0<=g/\g<w.heap.size/\w.rangeAt g (0+i*6) cs/\xD w G x cs:=by
 have hlt:=(cQ.1 hi).1;obtain⟨cs,hcs⟩:∃ cs,css[i]? = some cs:=⟨_,iJ (by omega)⟩
 have h6:∀ (j:Nat) ds,css[j]? = some ds->ds.length=6:=by
  intro j ds hj;have hjl:=(cQ.1 hj).1;obtain⟨_,_,_,_,_,e,_⟩:=h4 j _ ds (iJ (by omega)) hj;rw[e];rfl
 have hfl:∀ (l:List (List Value)),(∀ (j:Nat) ds,l[j]? = some ds->ds.length=6)->∀ (k:Nat) ds,l[k]? = some ds->∀ (q:Nat) u,ds[q]? = some u->l.flatten[k*6+q]? = some u:=by
  intro l
  induction l with
  | nil=>intro _ k ds h;simp at h
  | cons a l ih =>
   intro hl k ds hk q u hq;have ha:=hl 0 a rfl;rw[List.flatten_cons];cases k with
   | zero =>
    simp only[List.getElem?_cons_zero,xX] at hk;subst hk;have:=(cQ.1 hq).1;rw[zE (by omega)];simpa using hq
   | succ k =>
    rw[List.getElem?_cons_succ] at hk;rw[qF (by omega),ha,show(k+1)*6+q - 6=k*6+q by omega];exact ih (fun j ds hj=>hl (j+1) ds (by simpa using hj)) k ds hk q u hq
 rcases h2.2 with⟨_,h0⟩|⟨g,cap,cur,rfl,hb,hc,_⟩
 ·omega
 ·refine⟨cs,g,cap,rfl,hb,(zJ.1 hc).1,fun q u hq=>?_,h4 i x cs hi hcs⟩
  have h3:=h2.cells (g:=g) rfl (i*6+q) u (hfl css h6 i cs hcs q u hq);have e:(⟨g,0,none⟩:Addr).add (i*6+q)=⟨g,0+i*6+q,none⟩:=by unfold Addr.add;split <;> simp_all
  rwa [e] at h3
open K.P (HSt Keeps qX mV lV jX enc)
def dV (act bu bd:Int) (nm:ByteArray):Stv:=⟨⟨act,0,nm,bu,bd,⟨#[]⟩,.node 0 ⟨#[]⟩ 0 0 [] 0 .none .none,0,0,0,0,[],0⟩,0,⟨#[]⟩,0,0,none,0,0,none,0,0,none,0⟩
theorem ahJ (w:World)(B:Nat)(act bu bd:Int)(nm:ByteArray)(hn:nm.size<=9223372036854775807):nF w B (dV act bu bd nm):=by
 have z0:yX 0:=⟨by decide,by decide⟩;refine⟨0,⟨rfl,rfl,rfl,rfl,by decide,?_,none,0,rfl,vQ _,by decide,fun h=>by omega⟩,vA.of ⟨none,0,rfl,vQ _,kQ _,fun h=>absurd rfl h⟩,fun _=>rfl,z0,z0,z0,z0,hn,kQ _⟩;exact⟨none,0,rfl,vQ _,by decide,(fun x hx=>by cases hx),fun h=>absurd rfl h⟩
theorem bl1:prog.built 56 [(0,.int .i64 1)]=some (dV 1 0 0 ⟨#[]⟩).cs.toArray:=by kernel_rfl
theorem e3Q (a b:Stv):prog.builtSlice 56 2 [(0,.agg a.cs.toArray),(1,.agg b.cs.toArray)]=some (sfl [a,b]).toArray:=by kernel_rfl
theorem bwX (hg:o.guard=none)(t:TypeId)(n:Nat)(x:Operand)(ho:o.op=.build t #[(n,x)])(d:Option Tmp)(hd:o.dst=d)(v:Value)(hv:a.eval x=v)(cells:Array Value)(hf:P.built t [(n,v)]=some cells)
  (h:wpList P ops Q rest (a.put d (.agg cells)) w):wpList P ops Q (o::rest) a w:=wpList_buildTo hg t _ ho d hd cells (by subst hv;simpa using hf) h
theorem e3X (hg:o.guard=none)(t:TypeId)(n m k:Nat)(x y z:Operand)(ho:o.op=.build t #[(n,x),(m,y),(k,z)])(d:Option Tmp)(hd:o.dst=d)(v v' v'':Value)(hv:a.eval x=v)(hv':a.eval y=v')(hv'':a.eval z=v'')(cells:Array Value)(hf:P.built t [(n,v),(m,v'),(k,v'')]=some cells)
  (h:wpList P ops Q rest (a.put d (.agg cells)) w):wpList P ops Q (o::rest) a w:=wpList_buildTo hg t _ ho d hd cells (by subst hv hv' hv'';simpa using hf) h
theorem e3Z (hg:o.guard=none)(t e:TypeId)(x y:Operand)(ho:o.op=.buildSlice t 2 #[(0,x),(1,y)])
  (N:Nat) (hN:w.heap.size=N) (dst:Option Tmp) (hdst:o.dst=dst) (hu:P.underlying t=some (.slice e)) (v v':Value) (hv:a.eval x=v) (hv':a.eval y=v') (cells:Array Value) (hf:P.builtSlice e 2 [(0,v),(1,v')]=some cells)
  (h:wpList P ops Q rest (a.put dst (.slice (some ⟨N,0,none⟩) 2 2)) (w.alloc (.cells cells e))):wpList P ops Q (o::rest) a w :=
 Great.wpList_buildSliceTo hg t e 2 _ ho N hN dst hdst hu cells (by subst hv hv';simpa using hf) h
end
namespace K.P
open Go.RowKit K.Ds
theorem aiQ:∀ (ws:List (Nat × Int)) (disk:List Int),(jZ disk (-1) ws).2=(-1,true)
 | [],disk=>rfl
 | (a,x)::r,disk=>by
  unfold jZ;rw[xQ (by decide),xQ (by decide)];exact aiQ r _
theorem e3J {s:HSt}{e:En}(hl:s.left = -1)(hd:9*s.done.length+9<=s.disk.length) :
  (vZ s e).2=fX s.done (nrm e)/\(vZ s e).1.left = -1:=by
 unfold vZ;rw[xQ (by omega)];by_cases c:fX s.done (nrm e)=0
 ·rw[xQ (by simpa using c),hl]
  have:=aiQ (wrs s.done.length (nrm e)) s.disk;rw[zQ (by rw[this])];exact⟨c.symm,by simp[this]⟩
 ·rw[zQ c]
  exact⟨rfl,hl⟩
end K.P
section
open Go.RowKit Ds
open K.P in
end
section
open Go.RowKit Ds
end
section
open Go.RowKit Go.Shelf Ds
end
section
open Go.RowKit Ds
open K.P (HSt Keeps qX mV lV jX sZ enc)
theorem e4Q (w:World):Calls prog 17 #[] w fun e w'=>e=.returned (.bool true)/\Below w.heap.size w w':=by
 have kc:=K.P.bfJ 2 4 1 2 0 (by decide) (by decide) (by decide +kernel) w;go_enter func17,ntmps17;go_wp2_with fail;refine kc.mono ?_;rintro e1 w1 ⟨rfl,hb1⟩;clear kc;go_wp2;go_ret;exact⟨rfl,bal hb1 _⟩
abbrev nV:ByteArray:=⟨#[112]⟩
def thr (q:K.Ds.Qu) (v0:Int) (v1:ByteArray) (v2 v3:Int) (a4:Option Addr) (n4 c4:Nat) (a5:Option Addr) (n5 c5:Nat) (u d lo hi:Int) (bits:List Int) (xa:Option Addr) (xc:Nat):Stv :=
 ⟨⟨3,0,⟨#[]⟩,0,0,nV,q,u,d,lo,hi,bits,0⟩,v0,v1,v2,v3,a4,n4,c4,a5,n5,c5,xa,xc⟩
theorem blP (bu bd:Int):prog.built 56 [(0,.int .i64 2),(2,.string nV),(3,.agg #[.int .i64 bu,.int .i64 bd])]=some (dV 2 bu bd nV).cs.toArray:=by kernel_rfl
theorem blA (q:K.Ds.Qu)(v0:Int)(v1:ByteArray)(v2 v3:Int)(a4:Option Addr)(n4 c4:Nat)(a5:Option Addr)(n5 c5:Nat)(u d lo hi:Int)(bits:List Int)(xa:Option Addr)(xc:Nat) :
  prog.built 56 [(0,.int .i64 3),(4,.agg ([.string nV,.int .i64 v0,.string v1,.int .i64 v2,.int .i64 v3,.slice a4 n4 c4,.slice a5 n5 c5,.int .i64 u,.int .i64 d,.int .i64 lo,.int .i64 hi,.slice xa bits.length xc]:List Value).toArray)]=some (thr q v0 v1 v2 v3 a4 n4 c4 a5 n5 c5 u d lo hi bits xa xc).cs.toArray:=by kernel_rfl
theorem e4J (hg:o.guard=none)(t:TypeId)(n m:Nat)(x y:Operand)(ho:o.op=.build t #[(n,x),(m,y)])(d:Option Tmp)(hd:o.dst=d)(v v':Value)(hv:a.eval x=v)(hv':a.eval y=v')(cells:Array Value)(hf:P.built t [(n,v),(m,v')]=some cells)
  (h:wpList P ops Q rest (a.put d (.agg cells)) w):wpList P ops Q (o::rest) a w:=wpList_buildTo hg t _ ho d hd cells (by subst hv hv';simpa using hf) h
theorem bwZ:(prog.info? 37).map (fun i=>i.size)=some 2:=by kernel_rfl
end
section
open Go.RowKit Go.Shelf Ds
theorem e5Q (hQp:∀ c a d v w,Q (.panic c) (Act.put a d v) w->Q (.panic c) a w)(t0 t1 t2 t3 t4 t6 t7 t8 t9 t10 t11 t12 t13 t14 t15 t16 t17 t18 t19 t20 t21 t22 t23 t24 t25 t26 t27 t28 t29 t30 t31 t32 t33 t34 t35 t36 t37 t38 t39 t40 t41 t42 t43 t44 t45 t46 t47 t48 t49 t50 t51 t52 t53 t54 t55 t56 t57 t58 t59 t60 t61 t62 t63 t64 t65 t66 t67 t68 t69 t70 t71 t72 t73 t74 t75 t76 t77 t78 t79 t80 t81 t82 t83 t84 t85 t86 t87 t88 t89 t90 t91 t92 t93 t94 t95 t96 t97 t98 t99 t100 t101 t102 t103 t104 t105 t106 t107 t108 t109 t110 t111 t112 t113 t114 t115 t116 t117 t118 t119 t120 t121 t122 t123 t124 t125 t126 t127 t128 t129 t130 t131 t132 t133 t134 t135 t136 t137 t138 t139 t140 t141 t142 t143 t144 t145 t146 t147 t148 t149 t150 t151 t152 t153 t154 t155 t156 t157 t158 t159 t160 t161 t162 t163:Value)(A:World)(tb:Nat)(x0 x1:Value)(R:Value->World->Prop)
  (hC:∀ W,Below A.heap.size A W->W.cell? ⟨tb,0,none⟩=some x0/\W.cell? ⟨tb,1,none⟩=some x1)
  (hH:∀ V:World,Below A.heap.size A V->Calls prog 7 #[.agg #[x0,x1],.slice (some ⟨V.heap.size,0,none⟩) 100 100,t14] (V.alloc (.cells (madeCells #[.int .i64 0] 100) 2)) fun e W'=>∃ ov sl,e=.returned (.tuple #[ov,sl,.bool true])/\R ov W'/\Below A.heap.size A W')
  (hEnd:∀ (u97 u98 u99 u100 u101 u102 u103 u104 ov sl:Value) (Wf:World),Below A.heap.size A Wf->R ov Wf->Q .normal { tmps:=#[t0,t1,t2,t3,t4,.pointer (some ⟨tb,0,none⟩),t6,t7,t8,t9,t10,t11,t12,t13,t14,t15,t16,t17,t18,t19,ov,sl,.bool true,t23,t24,t25,t26,t27,t28,t29,t30,t31,t32,t33,t34,t35,t36,t37,t38,t39,t40,t41,t42,t43,t44,t45,t46,t47,t48,t49,t50,t51,t52,t53,t54,t55,t56,t57,t58,t59,t60,t61,t62,t63,t64,t65,t66,t67,t68,t69,t70,t71,t72,t73,t74,t75,t76,t77,t78,t79,t80,t81,t82,t83,t84,t85,t86,t87,t88,t89,t90,t91,t92,t93,t94,t95,t96,u97,u98,u99,u100,u101,u102,u103,u104,t105,t106,t107,t108,t109,t110,t111,t112,t113,t114,t115,t116,t117,t118,t119,t120,t121,t122,t123,t124,t125,t126,t127,t128,t129,t130,t131,t132,t133,t134,t135,t136,t137,t138,t139,t140,t141,t142,t143,t144,t145,t146,t147,t148,t149,t150,t151,t152,t153,t154,t155,t156,t157,t158,t159,t160,t161,t162,t163],defers:=[] } Wf) :
  (Code.region 24 #[⟨some 98, .load 25 (.tmp 5), 25, "top.go:159", #[], none⟩, ⟨some 99, .makeSlice 26 (.const (Value.int IntKind.i64 100)) (.const (Value.int IntKind.i64 100)), 26, "top.go:159", #[], none⟩, ⟨some 100, .move (.tmp 14), 27, "top.go:159", #[], none⟩, ⟨some 101, .call { callee := .value (.func 7), args := #[.tmp 98, .tmp 99, .tmp 100], argTypes := #[25, 26, 27] }, 29, "top.go:159", #[⟨0, .data⟩, ⟨1, .data⟩, ⟨2, .data⟩], none⟩, ⟨some 97, .move (.tmp 101), 29, "top.go:159", #[⟨3, .data⟩], none⟩, ⟨some 102, .extract (.tmp 97) 0, 28, "top.go:159", #[⟨4, .data⟩], none⟩, ⟨some 103, .extract (.tmp 97) 1, 26, "top.go:159", #[⟨4, .data⟩, ⟨8, .gcOnly .lateStores⟩], none⟩, ⟨some 104, .extract (.tmp 97) 2, 4, "top.go:159", #[⟨4, .data⟩, ⟨9, .gcOnly .lateStores⟩], none⟩, ⟨some 20, .assign (.tmp 102), 28, "top.go:159", #[⟨5, .data⟩, ⟨3, .chain⟩, ⟨0, .phase⟩, ⟨1, .phase⟩, ⟨2, .phase⟩, ⟨3, .phase⟩, ⟨4, .phase⟩, ⟨5, .phase⟩, { on := 6, ground := Ground.textOnly Departure.lateStores }, { on := 7, ground := Ground.textOnly Departure.lateStores }], none⟩, ⟨some 21, .assign (.tmp 103), 26, "top.go:159", #[⟨6, .data⟩, ⟨8, .chain⟩, ⟨0, .phase⟩, ⟨1, .phase⟩, ⟨2, .phase⟩, ⟨3, .phase⟩, ⟨4, .phase⟩, ⟨5, .phase⟩, ⟨6, .phase⟩, { on := 7, ground := Ground.textOnly Departure.lateStores }, ⟨8, .phase⟩], none⟩, ⟨some 22, .assign (.tmp 104), 4, "top.go:159", #[⟨7, .data⟩, ⟨9, .chain⟩, ⟨0, .phase⟩, ⟨1, .phase⟩, ⟨2, .phase⟩, ⟨3, .phase⟩, ⟨4, .phase⟩, ⟨5, .phase⟩, ⟨6, .phase⟩, ⟨7, .phase⟩, ⟨8, .phase⟩, ⟨9, .phase⟩], none⟩] true).wp prog Q { tmps := #[t0, t1, t2, t3, t4, .pointer (some ⟨tb, 0, none⟩), t6, t7, t8, t9, t10, t11, t12, t13, t14, t15, t16, t17, t18, t19, t20, t21, t22, t23, t24, t25, t26, t27, t28, t29, t30, t31, t32, t33, t34, t35, t36, t37, t38, t39, t40, t41, t42, t43, t44, t45, t46, t47, t48, t49, t50, t51, t52, t53, t54, t55, t56, t57, t58, t59, t60, t61, t62, t63, t64, t65, t66, t67, t68, t69, t70, t71, t72, t73, t74, t75, t76, t77, t78, t79, t80, t81, t82, t83, t84, t85, t86, t87, t88, t89, t90, t91, t92, t93, t94, t95, t96, t97, t98, t99, t100, t101, t102, t103, t104, t105, t106, t107, t108, t109, t110, t111, t112, t113, t114, t115, t116, t117, t118, t119, t120, t121, t122, t123, t124, t125, t126, t127, t128, t129, t130, t131, t132, t133, t134, t135, t136, t137, t138, t139, t140, t141, t142, t143, t144, t145, t146, t147, t148, t149, t150, t151, t152, t153, t154, t155, t156, t157, t158, t159, t160, t161, t162, t163], defers := [] } A := by
 have HEND:=qQ hEnd;have HC:=qQ hC;have HH:=qQ hH;have hmk:∀ u:World,(Instr.makeSlice 26 (.int .i64 100) (.int .i64 100)).run prog u=.ok (.slice (some ⟨u.heap.size,0,none⟩) 100 100) (u.alloc (.cells (madeCells #[.int .i64 0] 100) 2)):=run_make_row' (P:=prog) 26 2 (.int .i64 0) 8 underlying26 btX rfl .i64 .i64 100 (by omega) (by omega);have G0:Hid (Below A.heap.size A A.drew):=(aQ _ _).drew;clear hEnd hC hH;refine wp_region_any (by kernel_rfl) ?_;change wpAny _ _ _ _ _ _ _ (World.drew _);obtain⟨V0,hV0⟩:∃ V0,A.drew=V0:=⟨_,rfl⟩;rw[hV0] at G0 ⊢;clear hV0;refine K.P.tR (S:=fun W=>Below A.heap.size A W) (J:=fun _=>true) _ _ _ _ ?_;refine K.P.tk 0 (.agg #[x0,x1]) rfl rfl (by kernel_rfl) (fun _ _ _ h=>hQp _ _ _ _ _ h) ⟨by rfl,fun W hS=>?_⟩ G0.out ?_
 ·obtain⟨z0,z1⟩:=HC.out W hS;go_simp
 simp only[Act.put,K.P.zA,K.P.zB,K.P.zC];refine K.P.tk 2 (t14) rfl rfl (by kernel_rfl) (fun _ _ _ h=>hQp _ _ _ _ _ h) ⟨by rfl,fun W hS=>?_⟩ G0.out ?_
 ·go_simp
 simp only[Act.put,K.P.zA,K.P.zB,K.P.zC];refine K.P.xU (rs:=[1]) (by kernel_rfl) (by simp) ?_;refine K.P.kX.cons (o:=_) rfl (fun K hK=>?_) K.P.kX.nil;have kk:=HH.out V0 G0.out;go_simp
 try simp only[hmk]
 obtain⟨V1,hV1⟩:∃ V1,V0.alloc (.cells (madeCells #[.int .i64 0] 100) 2)=V1:=⟨_,rfl⟩;have G1:Hid (Below A.heap.size A V1):=hV1▸bal G0.out _;rw[hV1] at kk
 try rw[hV1]
 clear hV1 hmk;refine hK.out _ _ (fun _=>G1.out) ?_;clear hK K
 try simp only[Act.put,K.P.zA,K.P.zB,K.P.zC]
 refine K.P.xU (rs:=[3]) (by kernel_rfl) (by simp) ?_;refine K.P.kX.cons (o:=_) rfl (fun K hK=>?_) K.P.kX.nil;go_simp;go_at_call 7;refine kk.mono ?_;rintro e1 W1 ⟨ov,sl,rfl,hR,hb⟩;have G2:=qQ hb;have HR:=qQ hR;clear kk hR hb;refine hK.out _ _ (fun _=>G2.out) ?_;clear hK K
 try simp only[Act.put,K.P.zA,K.P.zB,K.P.zC]
 refine K.P.tk 4 (.tuple #[ov,sl,.bool true]) rfl rfl (by kernel_rfl) (fun _ _ _ h=>hQp _ _ _ _ _ h) ⟨by rfl,fun W hS=>?_⟩ G2.out ?_
 ·go_simp
 simp only[Act.put,K.P.zA,K.P.zB,K.P.zC];refine K.P.tk 5 (ov) rfl rfl (by kernel_rfl) (fun _ _ _ h=>hQp _ _ _ _ _ h) ⟨by rfl,fun W hS=>?_⟩ G2.out ?_
 ·go_simp
 simp only[Act.put,K.P.zA,K.P.zB,K.P.zC];refine K.P.tk 6 (sl) rfl rfl (by kernel_rfl) (fun _ _ _ h=>hQp _ _ _ _ _ h) ⟨by rfl,fun W hS=>?_⟩ G2.out ?_
 ·go_simp
 simp only[Act.put,K.P.zA,K.P.zB,K.P.zC];refine K.P.tk 7 (.bool true) rfl rfl (by kernel_rfl) (fun _ _ _ h=>hQp _ _ _ _ _ h) ⟨by rfl,fun W hS=>?_⟩ G2.out ?_
 ·go_simp
 simp only[Act.put,K.P.zA,K.P.zB,K.P.zC];refine K.P.tk 8 (ov) rfl rfl (by kernel_rfl) (fun _ _ _ h=>hQp _ _ _ _ _ h) ⟨by rfl,fun W hS=>?_⟩ G2.out ?_
 ·go_simp
 simp only[Act.put,K.P.zA,K.P.zB,K.P.zC];refine K.P.tk 9 (sl) rfl rfl (by kernel_rfl) (fun _ _ _ h=>hQp _ _ _ _ _ h) ⟨by rfl,fun W hS=>?_⟩ G2.out ?_
 ·go_simp
 simp only[Act.put,K.P.zA,K.P.zB,K.P.zC];refine K.P.tk 10 (.bool true) rfl rfl (by kernel_rfl) (fun _ _ _ h=>hQp _ _ _ _ _ h) ⟨by rfl,fun W hS=>?_⟩ G2.out ?_
 ·go_simp
 simp only[Act.put,K.P.zA,K.P.zB,K.P.zC];exact K.P.rH (by kernel_rfl) (HEND.out _ _ _ _ _ _ _ _ _ _ W1 G2.out HR.out) _
end
end Go.Proofs.YtpmioeamdhdokaaGreat

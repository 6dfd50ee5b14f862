import Derived.Test.YtdceajgpolckiaaGreatDoorQq41
open Go.Proofs.Tryz
set_option linter.unusedSimpArgs false
set_option maxHeartbeats 16000000
set_option maxRecDepth 100000
namespace Go.Proofs.YtdceajgpolckiaaGreatDoor
section
open Go.RowKit Ds
open K.P (aZ)
theorem qJ:aZ 0:=⟨by decide,by decide⟩
theorem lV:aZ 1:=⟨by decide,by decide⟩
theorem mV:aZ 2:=⟨by decide,by decide⟩
theorem bV:aZ 3:=⟨by decide,by decide⟩
theorem wJ:aZ 4:=⟨by decide,by decide⟩
theorem cV:aZ 5:=⟨by decide,by decide⟩
theorem dV:aZ 7:=⟨by decide,by decide⟩
theorem qV:aZ 8:=⟨by decide,by decide⟩
theorem d2J {l:List K.Ds.jQ}{k:Int}{c:ByteArray}{lo hi:Int}{wh:List K.Ds.oX}{x y:K.Ds.rX}{e:Int}(hw:aZ (K.Ds.iJ l wh))(h:K.Ds.rec l k c lo hi wh x y=.error e):aZ e:=by
 unfold K.Ds.rec K.Ds.vU at h
 repeat' split at h
 all_goals first
  | cases h;done
  | (simp only[Except.error.injEq] at h;subst h;first | exact hw | exact bV | exact dV | exact qV)
theorem azZ (l:List K.Ds.jQ):∀ wh:List K.Ds.oX,aZ (K.Ds.uD l wh)
 | []=>qJ
 | t::wh=>by
  unfold K.Ds.uD;split
  ·split
   ·exact azZ l wh
   ·(first|exact qJ|exact lV|exact mV|exact bV|exact wJ|exact cV|exact dV|exact qV)
  ·(first|exact qJ|exact lV|exact mV|exact bV|exact wJ|exact cV|exact dV|exact qV)
theorem d3Q (l:List K.Ds.jQ)(wh:List K.Ds.oX):aZ (K.Ds.iJ l wh):=by
 unfold K.Ds.iJ;split
 ·(first|exact qJ|exact lV|exact mV|exact bV|exact wJ|exact cV|exact dV|exact qV)
 ·exact azZ l wh
theorem d3X {l:List K.Ds.jQ}(q:K.Ds.Qu):∀ (lv:Nat) (e:Int),K.Ds.bnd l lv q=.error e->aZ e:=by
 induction q with
 | none=>intro lv e h;simp only[K.Ds.bnd] at h;cases h
 | node k c lo hi wh n x y ihx ihy =>
  intro lv e h;simp only[K.Ds.bnd] at h;split at h
  ·cases h;(first|exact qJ|exact lV|exact mV|exact bV|exact wJ|exact cV|exact dV|exact qV)
  ·split at h
   ·cases h;(first|exact qJ|exact lV|exact mV|exact bV|exact wJ|exact cV|exact dV|exact qV)
   ·split at h
    ·split at h
     ·rename_i er hbx
      cases h;unfold K.Ds.nJ at hbx;split at hbx
      ·exact ihx _ _ hbx
      ·cases hbx
     ·rename_i bx hbx
      split at h
      ·rename_i er hby
       cases h;unfold K.Ds.nJ at hby;split at hby
       ·exact ihy _ _ hby
       ·cases hby
      ·rename_i b' hby
       split at h
       ·rename_i er hr
        cases h;exact d2J (d3Q l wh) hr
       ·unfold K.Ds.lim at h
        split at h
        ·cases h
        ·cases h;(first|exact qJ|exact lV|exact mV|exact bV|exact wJ|exact cV|exact dV|exact qV)
    ·cases h;(first|exact qJ|exact lV|exact mV|exact bV|exact wJ|exact cV|exact dV|exact qV)
theorem azJ:∀ (l pre:List K.Ds.jQ),aZ (K.Ds.rZ pre l)
 | [],_=>qJ
 | c::r,pre=>by
  unfold K.Ds.rZ;split
  ·split
   ·(first|exact qJ|exact lV|exact mV|exact bV|exact wJ|exact cV|exact dV|exact qV)
   ·split
    ·(first|exact qJ|exact lV|exact mV|exact bV|exact wJ|exact cV|exact dV|exact qV)
    ·exact azJ r _
  ·(first|exact qJ|exact lV|exact mV|exact bV|exact wJ|exact cV|exact dV|exact qV)
theorem a0Q:∀ (l:List K.Ds.jQ) (r:List Int),aZ (K.Ds.yA l r)
 | [],r=>by cases r <;> (first | exact qJ | exact lV | exact mV | exact bV | exact wJ | exact cV | exact dV | exact qV)
 | c::l,[]=>qJ
 | c::l,v::r=>by
  unfold K.Ds.yA;split
  ·(first|exact qJ|exact lV|exact mV|exact bV|exact wJ|exact cV|exact dV|exact qV)
  ·exact a0Q l r
theorem a0X (l:List K.Ds.jQ):∀ rs:List (List Int),aZ (K.Ds.pU l rs)
 | []=>qJ
 | r::rs=>by
  unfold K.Ds.pU;split
  ·exact a0X l rs
  ·unfold K.Ds.rV
   split
   ·exact a0Q l r
   ·exact qV
theorem d3Z (l:List K.Ds.jQ)(rs:List (List Int)):aZ (K.Ds.fZ l rs):=by
 unfold K.Ds.fZ;split
 ·split
  ·exact wJ
  ·exact a0X l rs
 ·unfold K.Ds.yV
  split
  ·exact cV
  ·split
   ·split
    ·exact wJ
    ·exact qJ
   ·exact azJ l []
theorem a0Z {l:List Pt}(h:0<tot l):aZ (gV l).2:=by
 unfold gV;split
 ·unfold jA
  split
  ·rename_i c
   have:=jS l;rw[c] at this;simp[tot] at this;omega
  ·split <;> (first|exact qJ|exact lV|exact mV|exact bV|exact wJ|exact cV|exact dV|exact qV)
 ·(first|exact qJ|exact lV|exact mV|exact bV|exact wJ|exact cV|exact dV|exact qV)
theorem a0J {u d:Int}(hd:1<=d)(hu:d<=u)(R k:Nat):0<gk u d R k:=by
 unfold gk;exact Int.mul_pos (Int.pow_pos (by omega)) (Int.pow_pos (by omega))
theorem a1Q:∀ {l:List Pt},(∀ p∈l,0<=p.2)->(∃ p∈l,0<p.2)->0<tot l
 | [],_,h=>by obtain⟨p,hp,_⟩:=h;cases hp
 | q::l,h,hp=>by
  rw[pV];have h1:=h q (by simp)
  have h2:0<=tot l:=by
   clear hp
   induction l with
   | nil=>simp[tot]
   | cons a l ih =>
    rw[pV];have:=ih (fun x hx=>h x (by simp at hx ⊢;rcases hx with e|e <;> simp[e]));have:=h a (by simp);omega
  obtain⟨p,hp,hpp⟩:=hp;rcases yX.1 hp with rfl|hp
  ·omega
  ·have:=a1Q (fun x hx=>h x (by simp[hx])) ⟨p,hp,hpp⟩
   omega
theorem d3J (u d lo hi n:Int):aZ (nZ u d lo hi n).2:=by
 unfold nZ;split
 ·unfold lD
  split
  ·split <;> (first|exact qJ|exact lV|exact mV|exact bV|exact wJ|exact cV|exact dV|exact qV)
  ·(first|exact qJ|exact lV|exact mV|exact bV|exact wJ|exact cV|exact dV|exact qV)
 ·rename_i c
  obtain⟨_,h1,h2,_⟩:=i1 (by simpa using c);split
  ·(first|exact qJ|exact lV|exact mV|exact bV|exact wJ|exact cV|exact dV|exact qV)
  ·split
   ·exact a0Z (by simp[tot])
   ·split
    ·(first|exact qJ|exact lV|exact mV|exact bV|exact wJ|exact cV|exact dV|exact qV)
    ·refine a0Z (a1Q (fun p hp=>?_) ⟨_,tZ.2 ⟨0,jK.2 (by omega),rfl⟩,?_⟩)
     ·obtain⟨i,_,rfl⟩:=tZ.1 hp
      refine xI (zN (a0J h2 h1 _ _)) ?_;split <;> omega
     ·refine Int.mul_pos (a0J h2 h1 _ _) ?_
      simp;omega
theorem a1X (u d lo hi:Int):∀ ns:List Int,aZ (gJ u d lo hi ns).2
 | []=>qJ
 | n::ns=>by
  unfold gJ;split
  ·exact d3J u d lo hi n
  ·split
   ·exact a1X u d lo hi ns
   ·(first|exact qJ|exact lV|exact mV|exact bV|exact wJ|exact cV|exact dV|exact qV)
theorem d4Q (u d n:Int):aZ (mD u d n).2.2:=by
 unfold mD;split
 ·unfold lD
  split
  ·split <;> (first|exact qJ|exact lV|exact mV|exact bV|exact wJ|exact cV|exact dV|exact qV)
  ·(first|exact qJ|exact lV|exact mV|exact bV|exact wJ|exact cV|exact dV|exact qV)
 ·unfold Rt.iH
  repeat' split
  all_goals (first|exact qJ|exact lV|exact mV|exact bV|exact wJ|exact cV|exact dV|exact qV)
theorem d4X (l:List K.Ds.jQ)(rs:List (List Int))(q:K.Ds.Qu):aZ (K.xU (K.iV l rs q)).2:=by
 unfold K.iV;split
 ·split
  ·(first|exact qJ|exact lV|exact mV|exact bV|exact wJ|exact cV|exact dV|exact qV)
  ·rename_i e h
   exact d3X q 1 e h
 ·exact d3Z l rs
theorem d4Z (u d lo hi:Int)(l:List K.Ds.jQ)(rs:List (List Int))(q:K.Ds.Qu):aZ (fU u d lo hi l rs q).2.2.2:=by
 unfold fU;split
 ·exact d4X l rs q
 ·split
  ·exact a1X _ _ _ _ _
  ·split
   ·exact d4Q _ _ _
   ·(first|exact qJ|exact lV|exact mV|exact bV|exact wJ|exact cV|exact dV|exact qV)
theorem d4J {e:Int}(he:aZ e)(bits:List Int):aZ (gD e bits):=by
 unfold gD;split
 ·exact he
 ·unfold nA
  split
  ·(first|exact qJ|exact lV|exact mV|exact bV|exact wJ|exact cV|exact dV|exact qV)
  ·split <;> (first|exact qJ|exact lV|exact mV|exact bV|exact wJ|exact cV|exact dV|exact qV)
open K (Cl)
open K.P (HSt Keeps oQ eX rJ kX HouK DskM xG xZ dQ Ev Sn dA zZ TwoB sJ kV dD yZ qG gZ eF enc Rl aV aZ mB nrm)
theorem d5Q {w:World}{B B' b o:Nat}{x:Stp}(h:tI w B b o x)(hB:B<=B'):tI w B' b o x:=by
 obtain⟨s,rfl,h1,h2⟩:=d0Z h;exact ayZ h1 (h2.mono hB)
theorem K.rws_mono {w:World}{B B':Nat}{v:Value}{ts:List K.Rw}(h:K.iQ w B v ts)(hB:B<=B'):K.iQ w B' v ts:=by
 obtain⟨a,c,h1,h2,h3,h4,h5⟩:=h;refine⟨a,c,h1,h2,h3,fun t ht=>(h4 t ht).mono hB (.inr hB),fun hn=>?_⟩;obtain⟨b,o,g1,g2,g3⟩:=h5 hn;exact⟨b,o,g1,by omega,g3⟩
def uU:Stv:=⟨⟨5,0,⟨#[]⟩,0,0,⟨#[]⟩,.node 0 ⟨#[]⟩ 0 0 [] 0 .none .none,0,0,0,0,[],0⟩,0,⟨#[]⟩,0,0,none,0,0,none,0,0,none,0⟩
theorem d5X (w:World)(B:Nat):mY w B uU:=by
 refine⟨0,⟨rfl,rfl,rfl,rfl,by decide,?_,none,0,rfl,vQ _,by decide,fun h=>by omega⟩,qY.of ⟨none,0,rfl,vQ _,by decide,fun h=>absurd rfl h⟩,fun _=>rfl,⟨by decide,by decide⟩,⟨by decide,by decide⟩,⟨by decide,by decide⟩,⟨by decide,by decide⟩,by decide,by decide⟩;exact⟨none,0,rfl,vQ _,by decide,(fun x hx=>by cases hx),fun h=>absurd rfl h⟩
def xJ (ss:List Stv):List Stv:=ss.flatMap fun s=>[s,uU]
theorem d5Z (ss:List Stv)(s:Stv):xJ (ss++[s])=xJ ss++[s,uU]:=by simp[xJ]
theorem kM (ss:List Stv):(xJ ss).length=2*ss.length:=by
 induction ss with
 | nil=>rfl
 | cons s ss ih=>unfold xJ at *;rw[wI,zJ,ih];simp;omega
theorem iC:∀ (ss:List Stv) (k:Nat),(xJ ss)[2*k]? = ss[k]?
 | [],k=>by simp[xJ]
 | s::ss,0=>rfl
 | s::ss,k+1=>by
  have:=iC ss k;rw[vI,<-this];show(s::uU::xJ ss)[2*(k+1)]? = _;rw[show 2*(k+1)=2*k+1+1 by omega,vI,vI]
theorem a1Z:∀ (ss:List Stv) (k:Nat),k<ss.length->(xJ ss)[2*k+1]? = some uU
 | [],k,h=>by simp at h
 | s::ss,0,_=>rfl
 | s::ss,k+1,h=>by
  have:=a1Z ss k (by simpa using h);rw[<-this];show(s::uU::xJ ss)[2*(k+1)+1]? = _;rw[show 2*(k+1)+1=2*k+1+1+1 by omega,vI,vI]
theorem a1J {ss:List Stv}{w:World}{B:Nat}(h:∀ s∈ss,mY w B s):∀ s∈xJ ss,mY w B s:=by
 intro s hs;obtain⟨t,ht,hs⟩:=pM.1 hs;simp only[yX,jJ,vJ] at hs;rcases hs with rfl|rfl
 ·exact h _ ht
 ·exact d5X w B
theorem d5J {w:World}{B:Nat}{s:Stv}(h:mY w B s):mY w B (jX s):=by
 unfold jX;split
 ·exact h
 ·exact h
theorem d6Q (s:Stv):(jX s).x.act≠6:=by
 unfold jX;split
 ·simp
 ·assumption
theorem kC (l:List K.Ds.jQ)(ts:List (List Int)):∀ (xs:List Stp) (s:HSt) (i:Nat) (x:Stp),xs[i]? = some x ->
  (tJ l ts s xs).2[i]? = some (lX l ts (tJ l ts s (xs.take i)).1 x).2/\(tJ l ts s (xs.take (i+1))).1=(lX l ts (tJ l ts s (xs.take i)).1 x).1
 | [],s,i,x,h=>by simp at h
 | y::ys,s,0,x,h=>by
  simp only[oR,vX] at h;subst h;exact⟨rfl,rfl⟩
 | y::ys,s,i+1,x,h=>by
  rw[vI] at h;have:=kC l ts ys (lX l ts s y).1 i x h;simpa only[tJ,List.take_succ_cons,vI] using this
theorem a2Q {l:List K.Ds.jQ}{ts:List (List Int)}(hw:K.Ds.fZ l ts=0)(S:HSt){x:Stp}(h:x.act≠6):lX l ts S x=dQ 0 S (aJ l ts x):=by
 unfold lX;rw[qQ (fun c=>h c.1),hw]
theorem d6X {l:List K.Ds.jQ}{ts:List (List Int)}(hw:K.Ds.fZ l ts=0)(S:HSt):lX l ts S uU.x=dQ 0 S (.loo:Ev tU):=by
 rw[a2Q hw S (by decide)];rfl
theorem d6Z (S:HSt):(dQ 0 S (.loo:Ev tU)).1=S:=by
 simp only[dQ]
 repeat' split
 all_goals rfl
theorem d6J {l:List K.Ds.jQ}{ts:List (List Int)}{x:Stp}:∀ pre e tl,aJ l ts x=.ask pre e tl->aZ pre:=by
 intro pre e tl h;unfold aJ at h
 repeat' split at h
 all_goals first
  | (cases h;done)
  | (unfold sI at h;simp only[Ev.ask.injEq] at h;rw[<-h.1];exact d4J (d4Z _ _ _ _ _ _ _) _)
theorem lC {w:World}{G:Nat->Prop}{N0:Nat}{ov:Value}{os:List (Sn tU)}{css:List (List Value)}(h1:css.length=os.length)(h2:w.ownsRow N0 51 6 ov os.length css.flatten)
  (h4:∀ (i:Nat) x cs,os[i]? = some x->css[i]? = some cs->tX w G x cs) {i:Nat} {x:Sn tU} (hi:os[i]? = some x) :
  ∃ cs g c,ov=.slice (some ⟨g,0,none⟩) os.length c/\N0<=g/\g<w.heap.size/\w.rangeAt g (0+i*6) cs/\tX w G x cs:=by
 have hlt:=(lQ.1 hi).1;obtain⟨cs,hcs⟩:∃ cs,css[i]? = some cs:=⟨_,dZ (by omega)⟩
 have h6:∀ (j:Nat) ds,css[j]? = some ds->ds.length=6:=by
  intro j ds hj;have hjl:=(lQ.1 hj).1;obtain⟨_,_,_,_,_,e,_⟩:=h4 j _ ds (dZ (by omega)) hj;rw[e];rfl
 have hfl:∀ (l:List (List Value)),(∀ (j:Nat) ds,l[j]? = some ds->ds.length=6)->∀ (k:Nat) ds,l[k]? = some ds->∀ (q:Nat) u,ds[q]? = some u->l.flatten[k*6+q]? = some u:=by
  intro l
  induction l with
  | nil=>intro _ k ds h;simp at h
  | cons a l ih =>
   intro hl k ds hk q u hq;have ha:=hl 0 a rfl;rw[List.flatten_cons];cases k with
   | zero =>
    simp only[oR,vX] at hk;subst hk;have:=(lQ.1 hq).1;rw[aO (by omega)];simpa using hq
   | succ k =>
    rw[vI] at hk;rw[dH (by omega),ha,show(k+1)*6+q - 6=k*6+q by omega];exact ih (fun j ds hj=>hl (j+1) ds (by simpa using hj)) k ds hk q u hq
 rcases h2.2 with⟨_,h0⟩|⟨g,cap,cur,rfl,hb,hc,_⟩
 ·omega
 ·refine⟨cs,g,cap,rfl,hb,(jU.1 hc).1,fun q u hq=>?_,h4 i x cs hi hcs⟩
  have h3:=h2.cells (g:=g) rfl (i*6+q) u (hfl css h6 i cs hcs q u hq);have e:(⟨g,0,none⟩:Addr).add (i*6+q)=⟨g,0+i*6+q,none⟩:=by unfold Addr.add;split <;> simp_all
  rwa [e] at h3
open K.P (HSt Keeps oQ sJ dD yZ enc)
def fA (act bu bd:Int) (nm:ByteArray):Stv:=⟨⟨act,0,nm,bu,bd,⟨#[]⟩,.node 0 ⟨#[]⟩ 0 0 [] 0 .none .none,0,0,0,0,[],0⟩,0,⟨#[]⟩,0,0,none,0,0,none,0,0,none,0⟩
theorem d7Q (w:World)(B:Nat)(act bu bd:Int)(nm:ByteArray)(hn:nm.size<=9223372036854775807):mY w B (fA act bu bd nm):=by
 have z0:aX 0:=⟨by decide,by decide⟩;refine⟨0,⟨rfl,rfl,rfl,rfl,by decide,?_,none,0,rfl,vQ _,by decide,fun h=>by omega⟩,qY.of ⟨none,0,rfl,vQ _,nQ _,fun h=>absurd rfl h⟩,fun _=>rfl,z0,z0,z0,z0,hn,nQ _⟩;exact⟨none,0,rfl,vQ _,by decide,(fun x hx=>by cases hx),fun h=>absurd rfl h⟩
abbrev tG:ByteArray:=⟨#[97]⟩
abbrev mC:List Stp:=[(fA 1 0 0 ⟨#[]⟩).x,(fA 2 2 1 tG).x,(fA 5 0 0 ⟨#[]⟩).x]
theorem d7X:(tJ [(tG,2)] [] ⟨List.replicate 9 0,-1,false,false,[]⟩ mC).2.map (fun s=>s.ents.length)=[0,0,1]:=by decide +kernel
theorem bl1:prog.built 41 [(0,.int .i64 1)]=some (fA 1 0 0 ⟨#[]⟩).cs.toArray:=by kernel_rfl
theorem bl2:prog.built 41 [(0,.int .i64 2),(2,.string tG),(3,.agg #[.int .i64 2,.int .i64 1])]=some (fA 2 2 1 tG).cs.toArray:=by kernel_rfl
theorem bl5:prog.built 41 [(0,.int .i64 5)]=some (fA 5 0 0 ⟨#[]⟩).cs.toArray:=by kernel_rfl
theorem d8Q (a b c:Stv):prog.builtSlice 41 3 [(0,.agg a.cs.toArray),(1,.agg b.cs.toArray),(2,.agg c.cs.toArray)]=some (sfl [a,b,c]).toArray:=by kernel_rfl
theorem d8X (a b:Stv):prog.builtSlice 41 2 [(0,.agg a.cs.toArray),(1,.agg b.cs.toArray)]=some (sfl [a,b]).toArray:=by kernel_rfl
theorem nC {P:Program}{ops:Array Oper}{rest:List Oper}{o:Oper}{a:Act}{w:World}{Q:Exit->Act->World->Prop}(hg:o.guard=none)(t:TypeId)(n:Nat)(x:Operand)(ho:o.op=.build t #[(n,x)])(d:Option Tmp)(hd:o.dst=d)(v:Value)(hv:a.eval x=v)(cells:Array Value)(hf:P.built t [(n,v)]=some cells)
  (h:wpList P ops Q rest (a.put d (.agg cells)) w):wpList P ops Q (o::rest) a w:=wpList_buildTo hg t _ ho d hd cells (by subst hv;simpa using hf) h
theorem a2Z {P:Program}{ops:Array Oper}{rest:List Oper}{o:Oper}{a:Act}{w:World}{Q:Exit->Act->World->Prop}(hg:o.guard=none)(t:TypeId)(n m k:Nat)(x y z:Operand)(ho:o.op=.build t #[(n,x),(m,y),(k,z)])(d:Option Tmp)(hd:o.dst=d)(v v' v'':Value)(hv:a.eval x=v)(hv':a.eval y=v')(hv'':a.eval z=v'')(cells:Array Value)(hf:P.built t [(n,v),(m,v'),(k,v'')]=some cells)
  (h:wpList P ops Q rest (a.put d (.agg cells)) w):wpList P ops Q (o::rest) a w:=wpList_buildTo hg t _ ho d hd cells (by subst hv hv' hv'';simpa using hf) h
theorem d8Z {P:Program}{ops:Array Oper}{rest:List Oper}{o:Oper}{a:Act}{w:World}{Q:Exit->Act->World->Prop}(hg:o.guard=none)(t e:TypeId)(x y:Operand)(ho:o.op=.buildSlice t 2 #[(0,x),(1,y)])
  (N:Nat) (hN:w.heap.size=N) (dst:Option Tmp) (hdst:o.dst=dst) (hu:P.underlying t=some (.slice e)) (v v':Value) (hv:a.eval x=v) (hv':a.eval y=v') (cells:Array Value) (hf:P.builtSlice e 2 [(0,v),(1,v')]=some cells)
  (h:wpList P ops Q rest (a.put dst (.slice (some ⟨N,0,none⟩) 2 2)) (w.alloc (.cells cells e))):wpList P ops Q (o::rest) a w :=
 Great.wpList_buildSliceTo hg t e 2 _ ho N hN dst hdst hu cells (by subst hv hv';simpa using hf) h
theorem d8J {P:Program}{ops:Array Oper}{rest:List Oper}{o:Oper}{a:Act}{w:World}{Q:Exit->Act->World->Prop}(hg:o.guard=none)(t e:TypeId)(x y z:Operand)(ho:o.op=.buildSlice t 3 #[(0,x),(1,y),(2,z)])
  (N:Nat) (hN:w.heap.size=N) (dst:Option Tmp) (hdst:o.dst=dst) (hu:P.underlying t=some (.slice e)) (v v' v'':Value) (hv:a.eval x=v) (hv':a.eval y=v') (hv'':a.eval z=v'') (cells:Array Value) (hf:P.builtSlice e 3 [(0,v),(1,v'),(2,v'')]=some cells)
  (h:wpList P ops Q rest (a.put dst (.slice (some ⟨N,0,none⟩) 3 3)) (w.alloc (.cells cells e))):wpList P ops Q (o::rest) a w :=
 Great.wpList_buildSliceTo hg t e 3 _ ho N hN dst hdst hu cells (by subst hv hv' hv'';simpa using hf) h
theorem d9Q {w:World}{g c:Nat}{ss:List Stv}(h:bQ w g 41 (sfl ss))(hc:ss.length<=c)(hm:∀ s∈ss,mY w w.heap.size s):rG w w.heap.size (.slice (some ⟨g,0,none⟩) ss.length c) ss:=by
 refine⟨_,c,rfl,hc,hm,fun _=>⟨g,0,rfl,h.lt,fun i s hs j u hj=>?_⟩⟩;have:=(h.bx (i*18+j) u (eC ss i s j u hs hj)).c;rwa [show 0+i*18+j=i*18+j by omega]
theorem d9X (w:World):Calls prog 6 #[] w fun e w'=>e=.returned (.bool true)/\Below w.heap.size w w':=by
 have hmk:∀ u:World,(Instr.makeSlice 43 (.int .i64 9) (.int .i64 9)).run prog u=.ok (.slice (some ⟨u.heap.size,0,none⟩) 9 9) (u.alloc (.cells (madeCells #[.int .i64 0] 9) 2)):=run_make_row' (P:=prog) 43 2 (.int .i64 0) 8 underlying43 xO rfl .i64 .i64 9 (by omega) (by omega);obtain⟨W2,hW2⟩:∃ W2,(w.alloc (.cells #[.string tG,.int .i64 2] 82)).alloc (.cells (madeCells #[.int .i64 0] 9) 2)=W2:=⟨_,rfl⟩;have hs2:W2.heap.size=w.heap.size+1+1:=by rw[<-hW2];simp
 obtain⟨W3,hW3⟩:∃ W3,W2.alloc (.cells (sfl [fA 1 0 0 ⟨#[]⟩,fA 2 2 1 tG,fA 5 0 0 ⟨#[]⟩]).toArray 41)=W3:=⟨_,rfl⟩;have hs3:W3.heap.size=W2.heap.size+1:=by rw[<-hW3];simp
 have hb2:Below w.heap.size w W2:=hW2▸bal (ba _ _) _;have hb3:Below w.heap.size w W3:=bt hb2 (hW3▸ba _ _);have c0:Bx W2 w.heap.size [.string tG,.int .i64 2]:=hW2▸(Bx.new w [.string tG,.int .i64 2] 82 rfl).at (ba _ _);have c3:Bx W3 w.heap.size [.string tG,.int .i64 2]:=hW3▸c0.at (ba _ _)
 have hcol:K.eQ W3 W3.heap.size (.slice (some ⟨w.heap.size,0,none⟩) 1 1) [(tG,2)]:=by
  refine⟨_,_,rfl,vQ _,by decide,(fun x hx=>by simp at hx;subst hx;decide),fun _=>⟨w.heap.size,0,rfl,by omega,fun i x hx=>?_⟩⟩;cases i with
  | zero=>simp only[oR,vX] at hx;subst hx;exact⟨by simpa using (c3 0 _ rfl).c,by simpa using (c3 1 _ rfl).c⟩
  | succ i=>simp at hx
 have hrow:K.iQ W3 W3.heap.size (.slice none 0 0) []:=⟨none,0,rfl,vQ _,by decide,(fun t ht=>by cases ht),fun h=>absurd rfl h⟩
 have hsv:rG W3 W3.heap.size (.slice (some ⟨W2.heap.size,0,none⟩) 3 3) [fA 1 0 0 ⟨#[]⟩,fA 2 2 1 tG,fA 5 0 0 ⟨#[]⟩]:=d9Q (ss:=[fA 1 0 0 ⟨#[]⟩,fA 2 2 1 tG,fA 5 0 0 ⟨#[]⟩]) (hW3▸bQ.new W2 _ 41) (by decide) (fun s hs=>by
  simp only[yX,jJ,vJ] at hs;rcases hs with rfl|rfl|rfl <;> exact d7Q _ _ _ _ _ _ (by decide))
 have hst:=ayJ hsv (by decide)
 have kH:=ayX W3.heap.size _ _ _ [(tG,2)] [] (some ⟨w.heap.size+1,0,none⟩) 9 (List.replicate 9 0) mC W3 (vQ _) hcol hrow (fun h=>by cases h) (fun ad ha j u hj=>by
  simp only[vX] at ha;subst ha;have e:(⟨w.heap.size+1,0,none⟩:Addr).add j=⟨w.heap.size+1,j,none⟩:=by unfold Addr.add;split <;> simp_all
  refine⟨by simp only;omega,?_⟩;rw[e]
  have h1:W2.cell? ⟨w.heap.size+1,j,none⟩=some (.int .i64 u):=by
   rw[<-hW2,yK _ _ _ _ (by simp)];show(madeCells #[.int .i64 0] 9)[j]? = _;have e:(madeCells #[.int .i64 0] 9)[j]? = (List.replicate 9 (Value.int .i64 0))[j]?:=by rw[<-jE,Array.getElem?_toList]
   rw[e];rw[tM] at hj ⊢;split at hj
   ·rename_i c
    rw[xQ c];simp only[vX] at hj;rw[<-hj]
   ·cases hj
  rw[<-hW3];exact(Below.cell (ba _ _) (by simp only;omega)).trans h1) (fun x hx=>by have:=nR hx;omega) (by decide) hst (by decide)
 have HB3:Hid (Below w.heap.size w W3):=hb3;clear c0 c3 hcol hrow hsv hst hb2 hb3 hs2 hs3;go_enter func6,ntmps6;go_upto_region 1 with fail;refine jV ?_;go_step;go_step;go_step;go_step;go_step;go_step;go_step;go_step;go_step;go_step;go_step;go_step;clear hW2;refine nC rfl 41 0 _ rfl _ rfl _ rfl _ bl1 ?_;go_step;go_step;go_step;refine a2Z rfl 41 0 2 3 _ _ _ rfl _ rfl _ _ _ rfl rfl rfl _ bl2 ?_;refine nC rfl 41 0 _ rfl _ rfl _ rfl _ bl5 ?_;refine d8J rfl 26 41 _ _ _ rfl W2.heap.size rfl _ rfl underlying26 _ _ _ rfl rfl rfl _ (d8Q _ _ _) ?_;rw[hW3];clear hW3;go_wp2_with fail;refine kH.mono ?_;rintro x5 w' ⟨W0,bd,bw,a,c,hv,ov,s,os,M,G,rfl,hrun,hbel,HI⟩;have hos:os.map (fun s=>s.ents.length)=[0,0,1]:=by have:=d7X;rw[show(tJ [(tG,2)] [] ⟨List.replicate 9 0,-1,false,false,[]⟩ mC)=(s,os) from hrun] at this;exact this
 obtain⟨css,o1,o2,o3,o4⟩:=HI.out;have hol:os.length=3:=by have:=congrArg List.length hos;simpa using this
 obtain⟨y,hy⟩:∃ y,os[2]? = some y:=⟨_,dZ (by omega)⟩
 have hye:y.ents.length=1:=by
  have h2:(os.map (fun s=>s.ents.length))[2]? = some 1:=by rw[hos];rfl
  rw[xA,hy] at h2;simpa using h2
 obtain⟨cs,g,cap,rfl,hg1,hg2,hrg,hsn⟩:=lC o1 o2 o4 hy;obtain⟨tv,ev,us,lu,ld,rfl,_,hev,_⟩:=hsn;obtain⟨ea,ec,rfl⟩:=K.P.aY hev;rw[hye] at hrg;have r5:=hrg 5 _ rfl;rw[hol];have HB5:Hid (Below w.heap.size w w'):=bt HB3.out hbel;clear hrun hos hy hye o1 o2 o3 o4 HI hev hbel kH hol;go_wp2;go_ret;exact⟨rfl,HB5.out⟩
end
namespace K.P
open Go.RowKit K.Ds
theorem oC {l:List En}{i:Nat}{x:En}(h:l[i]? = some x):(enc l)[i*5]? = some (.int .i64 x.1)/\(enc l)[i*5+1]? = some (.string x.2.1)/\(enc l)[i*5+2]? = some (.int .i64 x.2.2.1)/\(enc l)[i*5+3]? = some (.int .i64 x.2.2.2.1)/\(enc l)[i*5+4]? = some (.int .i64 x.2.2.2.2):=by
 induction l generalizing i with
 | nil=>simp at h
 | cons y l ih =>
  cases i with
  | zero=>simp at h;subst h;simp[enc,tD]
  | succ i =>
   simp only[vI] at h;have:=ih h
   have e:∀ k,(enc (y::l))[(i+1)*5+k]? = (enc l)[i*5+k]?:=fun k=>by
    have:enc (y::l)=tD y++enc l:=by simp[enc]
    rw[this,dH (by simp[tD];omega)];simp only[tD,iF,List.length_nil];congr 1;omega
   exact⟨by rw[<-this.1];exact e 0,by rw[<-this.2.1];exact e 1,by rw[<-this.2.2.1];exact e 2,by rw[<-this.2.2.2.1];exact e 3,by rw[<-this.2.2.2.2];exact e 4⟩
theorem wG {w:World}{base:Nat}{v:Value}{dn:List En}(h:w.ownsRow base 53 5 v dn.length (enc dn))(hl:dn.length<=9223372036854775807)(hn:∀ x∈dn,x.2.1.size<=9223372036854775807):wA w w.heap.size v dn:=by
 obtain⟨a,c,rfl⟩:=aY h;refine⟨a,c,rfl,?_,hl,hn,fun hne=>?_⟩
 ·rcases h.2 with⟨h1,h0⟩|⟨g,cap,cur,h1,h2,h3,h4,_⟩
  ·omega
  ·simp only[xV] at h1;omega
 ·obtain⟨x0,l0,rfl⟩:∃ x l,dn=x::l:=by cases dn;exact absurd rfl hne;exact⟨_,_,rfl⟩
  obtain⟨g,rfl,_,hcl⟩:=eD h (oC (i:=0) (x:=x0) rfl).1;refine⟨g,0,rfl,hcl.lt,fun i x hi=>?_⟩;have hg:=oC hi
  have cell:∀ {j u},(enc (x0::l0))[j]? = some u->w.cell? ⟨g,j,none⟩=some u:=fun hj=>by
   obtain⟨g',e,_,hc⟩:=eD h hj;simp only[vX,mF] at e;rw[e.1];exact hc.c
  simp only[jZ];exact⟨cell hg.1,cell hg.2.1,cell hg.2.2.1,cell hg.2.2.2.1,cell hg.2.2.2.2⟩

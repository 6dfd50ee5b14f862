import Derived.Test.YtdceajgpolckiaaGreatDoorQs37
open Go.Proofs.Tryz
set_option linter.unusedSimpArgs false
set_option maxHeartbeats 16000000
set_option maxRecDepth 100000
namespace Go.Proofs.YtdceajgpolckiaaGreatDoor
section
open Go.RowKit Ds
open K (Cl)
open K.P (HSt Keeps nQ eX dJ iX HouK DskM zG xZ nX Ev Sn jG mZ TwoB vJ mJ kG rZ qG kY yH enc iL)
structure Stv where
 x:Stp
 v0:Int
 v1:ByteArray
 v2:Int
 v3:Int
 a4:Option Addr
 n4:Nat
 c4:Nat
 a5:Option Addr
 n5:Nat
 c5:Nat
 xa:Option Addr
 xc:Nat
def Stv.cs (s:Stv):List Value:=[.int .i64 s.x.act,.int .i64 s.x.n,.string s.x.nm,.int .i64 s.x.bu,.int .i64 s.x.bd,.string s.x.pn,.int .i64 s.v0,.string s.v1,.int .i64 s.v2,.int .i64 s.v3,.slice s.a4 s.n4 s.c4,.slice s.a5 s.n5 s.c5,.int .i64 s.x.u,.int .i64 s.x.d,.int .i64 s.x.lo,.int .i64 s.x.hi,.slice s.xa s.x.bits.length s.xc,.int .i64 s.x.word]
theorem Stv.len (s:Stv):s.cs.length=18:=rfl
def qR (w:World) (B:Nat) (s:Stv):Prop :=
 ∃ nb,K.Qm w B s.x.q (.int .i64 s.v0) (.string s.v1) (.int .i64 s.v2) (.int .i64 s.v3) (.slice s.a4 s.n4 s.c4) (.slice s.a5 s.n5 s.c5)/\yV w B nb (.slice s.xa s.x.bits.length s.xc) s.x.bits/\(s.xa=none->s.xc=0)/\tQ s.x.lo/\tQ s.x.hi/\tQ s.x.n/\tQ s.x.word/\s.x.nm.size<=9223372036854775807/\s.x.pn.size<=9223372036854775807
theorem dtX {w:World}{B b o:Nat}{s:Stv}(h:w.rangeAt b o s.cs)(hm:qR w B s):xN w B b o s.x:=by
 obtain⟨nb,h2,h3,h4⟩:=hm;exact⟨_,_,_,_,_,_,s.xa,s.xc,nb,h,h2,h3,h4⟩
def sB (w:World) (B:Nat) (v:Value) (ss:List Stv):Prop :=
 ∃ a c,v=.slice a ss.length c/\ss.length<=c/\(∀ s∈ss,qR w B s)/\(ss≠[]->∃ b o,a=some ⟨b,o,none⟩/\b<B/\∀ (i:Nat) s,ss[i]? = some s->w.rangeAt b (o+i*18) s.cs)
def sfl (ss:List Stv):List Value:=ss.flatMap Stv.cs
theorem awX:∀ (ss:List Stv) (i:Nat) (s:Stv) (j:Nat) (u:Value),ss[i]? = some s->s.cs[j]? = some u->(sfl ss)[i*18+j]? = some u
 | [],i,s,j,u,h,_=>by simp at h
 | t::ss,i,s,j,u,h,hj=>by
  unfold sfl;rw[oL];have hj18:j<18:=by have:=(gQ.1 hj).1;rwa [Stv.len] at this
  cases i with
  | zero =>
   simp only[fR,sX] at h;subst h;rw[uN (by rw[Stv.len];omega),gR,oX];exact hj
  | succ i =>
   rw[bC] at h;rw[fH (by rw[Stv.len];omega),Stv.len,show(i+1)*18+j - 18=i*18+j by omega];exact awX ss i s j u h hj
theorem dtZ {w:World}{B:Nat}{v:Value}{ss:List Stv}(h:sB w B v ss)(hl:ss.length<=9223372036854775807):rB w B v (ss.map Stv.x):=by
 obtain⟨a,c,rfl,h1,h2,h3⟩:=h;refine⟨a,c,by rw[bU],by rw[bU];exact h1,by rw[bU];exact hl,fun hn=>?_⟩;obtain⟨b,o,rfl,hB,h4⟩:=h3 (fun e=>hn (by rw[e];rfl));refine⟨b,o,rfl,hB,fun i x hx=>?_⟩;rw[vG] at hx;obtain⟨s,hs,rfl⟩:=dR.1 hx;exact dtX (h4 i s hs) (h2 s (vX hs))
open K (Cl)
open K.P (HSt Keeps nQ eX dJ iX HouK DskM zG xZ nX Ev Sn jG mZ TwoB vJ mJ kG rZ qG kY yH enc iL)
theorem awZ {w:World}{b:Nat}{cs:List Value}(h:Bx w b cs):w.rangeAt b 0 cs:=fun j v hj=>by rw[oX];exact(h j v hj).c
end
namespace K.P
open Go.RowKit K.Ds
end K.P
section
open Go.RowKit Go.Shelf Ds
def xV (w:World) (b:Nat) (t:TypeId) (cs:List Value):Prop:=w.heap[b]? = some (.cells cs.toArray t (0,0))
theorem xV.lt {w:World}{b:Nat}{t:TypeId}{cs:List Value}(h:xV w b t cs):b<w.heap.size:=(mY.1 h).1
theorem xV.new (w:World)(cs:List Value)(t:TypeId):xV (w.alloc (.cells cs.toArray t)) w.heap.size t cs:=Go.heap_alloc_last w _
theorem xV.set {w:World}{b:Nat}{t:TypeId}{cs:List Value}(h:xV w b t cs)(ds:List Value):xV (w.setRow b ds.toArray) b t ds:=by
 unfold xV World.setRow at *
 simp[Array.getElem?_modify,h]
theorem tB {A w:World}{b:Nat}(h:Below A.heap.size A w)(hb:A.heap.size<=b)(ds:Array Value):Below A.heap.size A (w.setRow b ds) :=
 ⟨h.os,h.tape,h.output,by simpa [World.setRow] using h.size,fun k hk=>by
  refine Eq.trans ?_ (h.block k hk);unfold World.setRow;simp[Array.getElem?_modify,show ¬ b=k by omega]⟩
theorem xV.bx {w:World}{b:Nat}{t:TypeId}{cs:List Value}(h:xV w b t cs):Bx w b cs:=fun k v hk=>⟨by unfold xV at h;simp[World.cell?,h];simpa using hk,by unfold xV at h;simp[World.frozen?,h],h.lt⟩
end
section
open Go.RowKit Ds
open K (Cl)
open K.P (HSt Keeps nQ eX dJ iX HouK DskM zG xZ nX Ev Sn jG mZ TwoB vJ mJ kG rZ qG kY yH enc nrm)
theorem awJ {w:World}{G:Nat->Prop}{N0:Nat}{ov:Value}{os:List (Sn xA)}{css:List (List Value)}(h1:css.length=os.length)(h2:w.ownsRow N0 51 6 ov os.length css.flatten)
  (h4:∀ (i:Nat) x cs,os[i]? = some x->css[i]? = some cs->zZ w G x cs) {i:Nat} {x:Sn xA} (hi:os[i]? = some x) :
  ∃ cs g c,ov=.slice (some ⟨g,0,none⟩) os.length c/\N0<=g/\g<w.heap.size/\w.rangeAt g (0+i*6) cs/\zZ w G x cs:=by
 have hlt:=(gQ.1 hi).1;obtain⟨cs,hcs⟩:∃ cs,css[i]? = some cs:=⟨_,fZ (by omega)⟩
 have h6:∀ (j:Nat) ds,css[j]? = some ds->ds.length=6:=by
  intro j ds hj;have hjl:=(gQ.1 hj).1;obtain⟨_,_,_,_,_,e,_⟩:=h4 j _ ds (fZ (by omega)) hj;rw[e];rfl
 have hfl:∀ (l:List (List Value)),(∀ (j:Nat) ds,l[j]? = some ds->ds.length=6)->∀ (k:Nat) ds,l[k]? = some ds->∀ (q:Nat) u,ds[q]? = some u->l.flatten[k*6+q]? = some u:=by
  intro l
  induction l with
  | nil=>intro _ k ds h;simp at h
  | cons a l ih =>
   intro hl k ds hk q u hq;have ha:=hl 0 a rfl;rw[List.flatten_cons];cases k with
   | zero =>
    simp only[fR,sX] at hk;subst hk;have:=(gQ.1 hq).1;rw[uN (by omega)];simpa using hq
   | succ k =>
    rw[bC] at hk;rw[fH (by omega),ha,show(k+1)*6+q - 6=k*6+q by omega];exact ih (fun j ds hj=>hl (j+1) ds (by simpa using hj)) k ds hk q u hq
 rcases h2.2 with⟨_,h0⟩|⟨g,cap,cur,rfl,hb,hc,_⟩
 ·omega
 ·refine⟨cs,g,cap,rfl,hb,(mY.1 hc).1,fun q u hq=>?_,h4 i x cs hi hcs⟩
  have h3:=h2.cells (g:=g) rfl (i*6+q) u (hfl css h6 i cs hcs q u hq);have e:(⟨g,0,none⟩:Addr).add (i*6+q)=⟨g,0+i*6+q,none⟩:=by unfold Addr.add;split <;> simp_all
  rwa [e] at h3
open K.P (HSt Keeps nQ vJ kG rZ enc)
def vA (act bu bd:Int) (nm:ByteArray):Stv:=⟨⟨act,0,nm,bu,bd,⟨#[]⟩,.node 0 ⟨#[]⟩ 0 0 [] 0 .none .none,0,0,0,0,[],0⟩,0,⟨#[]⟩,0,0,none,0,0,none,0,0,none,0⟩
theorem axQ (w:World)(B:Nat)(act bu bd:Int)(nm:ByteArray)(hn:nm.size<=9223372036854775807):qR w B (vA act bu bd nm):=by
 have z0:tQ 0:=⟨by decide,by decide⟩;refine⟨0,⟨rfl,rfl,rfl,rfl,by decide,?_,none,0,rfl,jQ _,by decide,fun h=>by omega⟩,yV.of ⟨none,0,rfl,jQ _,mQ _,fun h=>absurd rfl h⟩,fun _=>rfl,z0,z0,z0,z0,hn,mQ _⟩;exact⟨none,0,rfl,jQ _,by decide,(fun x hx=>by cases hx),fun h=>absurd rfl h⟩
theorem bl1:prog.built 41 [(0,.int .i64 1)]=some (vA 1 0 0 ⟨#[]⟩).cs.toArray:=by kernel_rfl
theorem duQ (a b c:Stv):prog.builtSlice 41 3 [(0,.agg a.cs.toArray),(1,.agg b.cs.toArray),(2,.agg c.cs.toArray)]=some (sfl [a,b,c]).toArray:=by kernel_rfl
theorem duX {P:Program}{ops:Array Oper}{rest:List Oper}{o:Oper}{a:Act}{w:World}{Q:Exit->Act->World->Prop}(hg:o.guard=none)(t:TypeId)(n:Nat)(x:Operand)(ho:o.op=.build t #[(n,x)])(d:Option Tmp)(hd:o.dst=d)(v:Value)(hv:a.eval x=v)(cells:Array Value)(hf:P.built t [(n,v)]=some cells)
  (h:wpList P ops Q rest (a.put d (.agg cells)) w):wpList P ops Q (o::rest) a w:=wpList_buildTo hg t _ ho d hd cells (by subst hv;simpa using hf) h
theorem duZ {P:Program}{ops:Array Oper}{rest:List Oper}{o:Oper}{a:Act}{w:World}{Q:Exit->Act->World->Prop}(hg:o.guard=none)(t:TypeId)(n m k:Nat)(x y z:Operand)(ho:o.op=.build t #[(n,x),(m,y),(k,z)])(d:Option Tmp)(hd:o.dst=d)(v v' v'':Value)(hv:a.eval x=v)(hv':a.eval y=v')(hv'':a.eval z=v'')(cells:Array Value)(hf:P.built t [(n,v),(m,v'),(k,v'')]=some cells)
  (h:wpList P ops Q rest (a.put d (.agg cells)) w):wpList P ops Q (o::rest) a w:=wpList_buildTo hg t _ ho d hd cells (by subst hv hv' hv'';simpa using hf) h
theorem duJ {P:Program}{ops:Array Oper}{rest:List Oper}{o:Oper}{a:Act}{w:World}{Q:Exit->Act->World->Prop}(hg:o.guard=none)(t e:TypeId)(x y z:Operand)(ho:o.op=.buildSlice t 3 #[(0,x),(1,y),(2,z)])
  (N:Nat) (hN:w.heap.size=N) (dst:Option Tmp) (hdst:o.dst=dst) (hu:P.underlying t=some (.slice e)) (v v' v'':Value) (hv:a.eval x=v) (hv':a.eval y=v') (hv'':a.eval z=v'') (cells:Array Value) (hf:P.builtSlice e 3 [(0,v),(1,v'),(2,v'')]=some cells)
  (h:wpList P ops Q rest (a.put dst (.slice (some ⟨N,0,none⟩) 3 3)) (w.alloc (.cells cells e))):wpList P ops Q (o::rest) a w :=
 Great.wpList_buildSliceTo hg t e 3 _ ho N hN dst hdst hu cells (by subst hv hv' hv'';simpa using hf) h
theorem dvQ {w:World}{g c:Nat}{ss:List Stv}(h:xV w g 41 (sfl ss))(hc:ss.length<=c)(hm:∀ s∈ss,qR w w.heap.size s):sB w w.heap.size (.slice (some ⟨g,0,none⟩) ss.length c) ss:=by
 refine⟨_,c,rfl,hc,hm,fun _=>⟨g,0,rfl,h.lt,fun i s hs j u hj=>?_⟩⟩;have:=(h.bx (i*18+j) u (awX ss i s j u hs hj)).c;rwa [show 0+i*18+j=i*18+j by omega]
theorem axX {w:World}{g:Nat}{xs:List Int}(h:K.RowI w g xs)(hl:xs.length<=1073741824):∀ m,m<g->xQ w w.heap.size m (.slice (some ⟨g,0,none⟩) xs.length xs.length) xs :=
 fun m hm=>⟨_,_,rfl,jQ _,hl,fun _=>⟨g,0,rfl,h.lt,by omega,fun i x hi=>by rw[oX];exact h.cells i x hi⟩⟩
def aI (j L:Nat) (n:Nat) (k:Nat) (xs:List Int):Prop:=xs.length=L/\k<=L/\dg j L=dg n k++xs.drop k
theorem aI.start (j L:Nat):aI j L j L (List.replicate L 0):=⟨by simp,jQ _,by simp⟩
theorem aI.step {j L n k:Nat}{xs:List Int}(h:aI j L n (k+1) xs):aI j L (n / 2) k (xs.set k ((n % 2:Nat):Int)):=by
 obtain⟨h1,h2,h3⟩:=h;refine⟨by simpa using h1,by omega,?_⟩;rw[h3];simp only[dg];rw[eC,zV (l:=xs.set k _) (i:=k) (by simp;omega)];simp[List.drop_set_of_lt]
theorem dvX (j L:Nat)(w:World)(hL:L<=9)(hj:j<=4611686018427387904) :
  Calls prog 20 #[.int .i64 (j:Int),.int .i64 (L:Int)] w fun e w'=>(∃ a c,e=.returned (.slice a (dg j L).length c)/\(a=none->c=0)/\∀ m,m<w.heap.size->xQ w' w'.heap.size m (.slice a (dg j L).length c) (dg j L))/\Below w.heap.size w w':=by
 have hmk:=K.jL L (by omega);go_enter func20,ntmps20;go_wp2
 go_loopw [0,6] (fun nv iv wr=>∃ (n k:Nat) (xs:List Int),nv=.int .i64 (n:Int)/\iv=.int .i64 ((k:Int) - 1)/\n<=4611686018427387904/\k<=L/\Hid (aI j L n k xs)/\Hid (K.RowI wr w.heap.size xs)/\Below w.heap.size w wr) (fun _ iv _=>(intOf iv+1).toNat)
 case atStart=>exact⟨j,L,List.replicate L 0,rfl,by go_num,hj,jQ _,aI.start j L,K.RowI.made _ _,ba _ _⟩
 case round =>
  obtain⟨n,k,xs,rfl,rfl,hn,hk,HD,HR,hbl⟩:=hrel;have hxl:Hid (xs.length=L):=HD.out.1;cases k with
  | zero =>
   have HX:Hid (xs=dg j L):=by have:=HD.out.2.2;simpa [dg,Hid] using this.symm
   go_wp2;go_ret;obtain rfl:xs=dg j L:=HX.out;have:=axX HR.out (by have:=hxl.out;omega);rw[hxl.out] at this;refine⟨⟨some ⟨w.heap.size,0,none⟩,L,?_,(fun h=>by cases h),fun m hm=>by rw[hxl.out];exact this m hm⟩,hbl⟩;rw[hxl.out];rfl
  | succ k =>
   obtain⟨x,hx⟩:=lX (l:=xs) (i:=k) (by have:=hxl.out;omega);have c1:=HR.out.cells k x hx;have c2:=HR.out.thaw k (by have:=hxl.out;omega);have HD2:Hid (aI j L (n / 2) k (xs.set k ((n % 2:Nat):Int))):=HD.out.step;have y1:(k:Int)<(L:Int):=by omega
   clear hx;go_wp2
   go_roundw
   case rel=>exact⟨n / 2,k,xs.set k ((n % 2:Nat):Int),by go_num,by go_num,by omega,by omega,HD2,HR.out.set k ((n % 2:Nat):Int),bs hbl (p:=⟨w.heap.size,k,none⟩) (jQ _) _⟩
   case measure=>simp[intOf]
end
namespace K.P
open Go.RowKit K.Ds
theorem dvZ {u d n p q:Int}(h:Rt.bQ u d=true)(h1:d<=u)(hp:Rt.tD u d n=(p,q,0)):oQ (p,q):=by
 have hb:=Rt.jD h;obtain⟨x,rfl⟩:∃ x:Nat,u=x:=⟨u.toNat,by omega⟩;obtain⟨y,rfl⟩:∃ y:Nat,d=y:=⟨d.toNat,by omega⟩;by_cases c:n<0\/4096<n
 ·unfold Rt.tD at hp
  rw[zQ h,zQ c] at hp;simp at hp
 obtain⟨m,rfl⟩:∃ m:Nat,n=m:=⟨n.toNat,by omega⟩;rcases Rt.xS x y m h (by omega) p q 0 hp with⟨_,_,_,h4⟩|⟨h2,h3,rfl,rfl,_⟩
 ·omega
 ·obtain⟨k1,k2,k3,k4⟩:=(Rt.zO x y).1 h
  refine⟨(Rt.zO _ _).2 ⟨h2,Nat.pow_pos k2,h3,Nat.Coprime.pow _ _ k4⟩,?_⟩;show((y ^ m:Nat):Int)<=((x ^ m:Nat):Int);exact Int.ofNat_le.2 (Nat.pow_le_pow_left (by omega) m)
theorem dvJ {done:List En}(h:Inv done){e:En}(he:e.1=2\/e.1=3)(ho:oQ e.2.2.2):(lZ (done++[e]) e.2.1).2=0\/(lZ (done++[e]) e.2.1).2=4:=by
 rcases he with he|he
 ·rcases aP h he ho with⟨_,h2⟩|⟨_,h2,_,h4⟩
  ·rw[h2];exact .inr rfl
  ·rw[h4]
   rcases jH h2 (h.top e.2.1).2.ok with⟨k,_⟩|k
   ·exact .inl k
   ·rw[k];exact .inr rfl
 ·rcases bP h he ho with⟨_,h2⟩|⟨_,_,_,h4,m,h5⟩
  ·rw[h2];exact .inr rfl
  ·rw[h4 m h5]
   rcases jH (h.all e.2.1).2 h5.ok with⟨k,_⟩|k
   ·exact .inl k
   ·rw[k];exact .inr rfl
theorem dwQ {done:List En}(h:Inv done){e:En}{b:Rq}(hl:done.length<4096)(hb:yX done e.2.1=some b)(hbad:eZ e=0)(he:e.1=2\/(e.1=3/\0<=e.2.2.1/\e.2.2.1<=1073741824))(hp:(bZ (done++[e]) e.2.1).length<=64) :
  qZ done e=0\/qZ done e=4\/qZ done e=10:=by
 have hs:=dvJ h (he.imp id And.left) (gD hbad).2.2.2;unfold qZ;rw[qQ (by simpa using hbad),qQ (by omega),hb];simp only;rw[qQ (by omega),qQ (by omega),qQ (by omega)];by_cases c:(lZ (done++[e]) e.2.1).2=0
 ·rw[qQ (by simpa using c)]
  split
  ·exact .inl rfl
  ·exact .inr (.inr rfl)
 ·rw[zQ c]
  omega
theorem wB:∀ (ps out:List Int),(lU out ps).length<=out.length+ps.length
 | [],out=>by simp[lU]
 | p::ps,out=>by
  unfold lU;split
  ·have:=wB ps out;simp;omega
  ·have:=wB ps (out++[p]);simp at this;simp;omega
theorem axZ:∀ (ws:List (Nat × Int)) (disk:List Int),(dX disk (-1) ws).2=(-1,true)
 | [],disk=>rfl
 | (a,x)::r,disk=>by
  unfold dX;rw[qQ (by decide),qQ (by decide)];exact axZ r _
theorem axJ {s:HSt}{e:En}(hl:s.left = -1)(hd:9*s.done.length+9<=s.disk.length) :
  (xZ s e).2=qZ s.done (nrm e)/\(xZ s e).1.left = -1:=by
 unfold xZ;rw[qQ (by omega)];by_cases c:qZ s.done (nrm e)=0
 ·rw[qQ (by simpa using c),hl]
  have:=axZ (wrs s.done.length (nrm e)) s.disk;rw[zQ (by rw[this])];exact⟨c.symm,by simp[this]⟩
 ·rw[zQ c]
  exact⟨rfl,hl⟩
end K.P
section
open Go.RowKit Ds
theorem dwX {u d n p q:Int}(h:eG u d n=(p,q,0)):K.P.oQ (p,q):=by
 unfold eG at h;by_cases c:bD u d=0
 ·rw[qQ (by simpa using c)] at h
  obtain⟨h1,h2,_⟩:=pW c;exact K.P.dvZ h1 h2 h
 ·rw[zQ c] at h
  simp only[cQ] at h;exact absurd h.2.2 c
theorem dwZ {u d lo hi lu ld:Int}{l:List K.Ds.vQ}{ts:List (List Int)}{q:K.Ds.Qu}{ls:List (List Pt)}(h:cV u d lo hi l ts q=(ls,lu,ld,0)):K.P.oQ (lu,ld):=by
 unfold cV at h;split at h
 ·rename_i c;simp only[cQ] at h;exact absurd h.2.2.2 c
 split at h
 ·rename_i c;simp only[cQ] at h;exact absurd h.2.2.2 c
 split at h
 ·rename_i c;simp only[cQ] at h;exact absurd h.2.2.2 c
 ·rename_i c
  simp only[cQ] at h;obtain⟨_,h2,h3,_⟩:=h;have c':(eG u d (K.gG (K.typ l q)).1.2.1).2.2=0:=by simpa using c
  exact dwX (u:=u) (d:=d) (n:=(K.gG (K.typ l q)).1.2.1) (by rw[<-h2,<-h3,<-c'])
open K.P in
theorem dwJ {l:List K.Ds.vQ}{ts:List (List Int)}{x1 x2 x3:Stp}{lu ld:Int}{ls:List (List Pt)}(h1:x1.act=1)(h2:x2.act=2)(h3:x3.act=3)(hn:x2.nm=x3.pn)(hw:K.Ds.oZ l ts=0)
  (hA:cV x3.u x3.d x3.lo x3.hi l ts x3.q=(ls,lu,ld,0)) (hb:cY x3.bits 0=0) :
  ∃ s y1 y2 y3,yY l ts ⟨List.replicate 30 0,-1,false,false,[]⟩ [x1,x2,x3]=(s,[y1,y2,y3]) /\
   (y2.err≠0\/y3.err=4\/y3.err=10\/(aZ ls x3.bits 0 []=none/\y3.err=6)\/∃ vs us,aZ ls x3.bits 0 []=some (vs,us)/\y3.err=0/\y3.told=some (vs,us,lu,ld)):=by
 obtain⟨S1,hS1⟩:∃ S1:HSt,S1=⟨List.replicate 30 0,-1,true,false,[]⟩:=⟨_,rfl⟩
 have e1:aX l ts ⟨List.replicate 30 0,-1,false,false,[]⟩ x1=(S1,⟨0,none,[]⟩):=by
  unfold aX lY;rw[qQ (fun h=>by omega),zQ h1,hw,hS1];simp only[nX];rw[ahZ (agJ 30)];rfl
 obtain⟨S2,er2,hS2⟩:∃ S2 er2,xZ S1 (1,x2.nm,0,x2.bu,x2.bd)=(S2,er2):=⟨_,_,rfl⟩
 have e2:aX l ts S1 x2=(S2,⟨er2,none,[]⟩):=by
  unfold aX lY;rw[qQ (fun h=>by omega),qQ (by omega),qQ (by omega),zQ h2];have u1:S1.up=true:=by rw[hS1]
  have u2:S1.brk=false:=by rw[hS1]
  simp only[nX,u1,u2,hS2];rfl
 refine⟨(aX l ts S2 x3).1,⟨0,none,[]⟩,⟨er2,none,[]⟩,(aX l ts S2 x3).2,by simp only[yY,e1,e2],?_⟩;by_cases c2:er2≠0
 ·exact .inl c2
 have c2:er2=0:=by simpa using c2
 subst c2;refine .inr ?_;have d1:=crZ hS2 (by rw[hS1];exact⟨agJ 30,agZ 30⟩);obtain⟨b1,b2,b3,b4⟩:=d1;have f1:=axJ (s:=S1) (e:=(1,x2.nm,0,x2.bu,x2.bd)) (by rw[hS1]) (by rw[hS1];simp);rw[hS2] at f1;obtain⟨f2,f3⟩:=f1
 have hdn:S2.done=S1.done++[nrm (1,x2.nm,0,x2.bu,x2.bd)]/\S2.brk=false:=by
  rcases b4 with⟨_,q,r⟩|⟨q,_⟩|⟨q,_⟩
  ·exact⟨q,by rw[r,hS1]⟩
  ·omega
  ·exact absurd rfl q
 have hup:S2.up=true:=by rw[b2,hS1]
 have hsz:S2.disk.length=30:=by rw[b3,hS1];simp
 have hd1:S2.done=[(1,x2.nm,0,x2.bu,x2.bd)]:=by rw[hdn.1,hS1];rfl
 have hdo:qZ [] (1,x2.nm,0,x2.bu,x2.bd)=0:=by
  have:S1.done=[]:=by rw[hS1]
  rw[this] at f2;exact f2.symm
 have hinv:Inv S2.done:=by rw[hd1];exact afQ aeQ hdo rfl
 obtain⟨z,ez,hz⟩:∃ z ez,K.qA (K.prt l x3.q (wM l))=(z,ez):=⟨_,_,rfl⟩;obtain⟨zb1,zb2⟩:=atX hz;have hok:=dwZ hA;have hnm:=(gD (kM hdo).1).2.2.1;obtain⟨E,hE⟩:∃ E,E=mZ x3.pn z ez lu ld:=⟨_,rfl⟩
 have E1:(E.1=2\/E.1=3)/\E.2.1=x3.pn/\E.2.2.2=(lu,ld)/\0<=E.2.2.1/\E.2.2.1<=4096:=by
  rw[hE];unfold mZ;split
  ·exact⟨.inr rfl,rfl,rfl,zb1,zb2⟩
  ·exact⟨.inl rfl,rfl,rfl,oD _,(by decide:(0:Int)<=4096)⟩
 obtain⟨g1,g2,g3,g4,g5⟩:=E1;have k1:(nrm E).1=E.1:=adX E;have k2:(nrm E).2.1=x3.pn:=(jP E).trans g2;have k3:(nrm E).2.2.2=(lu,ld):=(adZ E).trans g3
 have k4:0<=(nrm E).2.2.1/\(nrm E).2.2.1<=1073741824:=by
  unfold nrm;split
  ·exact⟨g4,by omega⟩
  ·exact⟨oD _,(by decide:(0:Int)<=1073741824)⟩
 have hbad:eZ (nrm E)=0:=by
  unfold eZ;rw[qQ (by omega),k2,k3,<-hn,zQ ⟨hnm,hok.1⟩,qQ (by have:=hok.2;simp at this;simp;omega)]
 have hbud:yX S2.done (nrm E).2.1=some (x2.bu,x2.bd):=by
  rw[hd1,k2,<-hn];simp[yX]
 have hpar:(bZ (S2.done++[nrm E]) (nrm E).2.1).length<=64:=by
  have q1:=wB (prs (S2.done++[nrm E]) (nrm E).2.1) []
  have q2:(prs (S2.done++[nrm E]) (nrm E).2.1).length<=2:=by
   unfold prs;rw[bU];refine aQ (List.length_filter_le _ _) ?_;rw[hd1];simp
  simp only[List.length_nil] at q1;unfold bZ;omega
 have hdoE:=dwQ hinv (e:=nrm E) (by rw[hd1];simp) hbud hbad (by rw[k1];rcases g1 with g|g;exact .inl g;exact .inr ⟨g,k4⟩) hpar;have f4:=axJ (s:=S2) (e:=E) f3 (by rw[hd1,hsz];simp)
 have e3:(aX l ts S2 x3).2.err=(nX 0 S2 (.ask 0 E (aZ ls x3.bits 0 []))).2.err/\(aX l ts S2 x3).2.told=((nX 0 S2 (.ask 0 E (aZ ls x3.bits 0 []))).2.told).map fun t=>(t.1,t.2,lu,ld):=by
  unfold aX lY;rw[qQ (fun h=>by omega),qQ (by omega),qQ (by omega),qQ (by omega),zQ h3];unfold qN;rw[hz,hA,hw];have hpre:xD 0 x3.bits=0:=by unfold xD;rw[qQ (by simp)];exact hb
  simp only[hpre,<-hE];rw[auZ];exact⟨rfl,rfl⟩
 rw[e3.1,e3.2];simp only[nX,hup,hdn.2];by_cases c3:(xZ S2 E).2=0
 ·rw[qQ (by decide),qQ (by decide),qQ (by simp),qQ (by simpa using c3)]
  cases hdr:aZ ls x3.bits 0 [] with
  | none=>exact .inr (.inr (.inl ⟨rfl,rfl⟩))
  | some t=>exact .inr (.inr (.inr ⟨t.1,t.2,rfl,rfl,rfl⟩))
 ·rw[qQ (by decide),qQ (by decide),qQ (by simp),zQ c3]
  rw[<-f4.1] at hdoE;rcases hdoE with g|g|g
  ·exact absurd g c3
  ·exact .inl g
  ·exact .inr (.inl g)
end
section
open Go.RowKit Ds
theorem dxQ {d:List Pt}{bits:List Int}(h:aZ [d] bits 0 []=none):wY d bits=none:=by
 unfold aZ at h;unfold wY;rw[aK] at h;cases e:nV d bits with
 | none=>rfl
 | some t =>
  obtain⟨o,k,r⟩:=t;rw[e] at h;simp[aZ] at h
theorem dxX {d:List Pt}{bits vs:List Int}{us:Nat}(hs:∀ p∈d,∃ z,p.1=[z])(h:aZ [d] bits 0 []=some (vs,us)):wY d bits=some vs/\∃ z,vs=[z]:=by
 unfold aZ at h;unfold wY;rw[aK] at h;cases e:nV d bits with
 | none=>rw[e] at h;cases h
 | some t =>
  obtain⟨o,k,r⟩:=t;rw[e] at h;simp[aZ] at h;obtain⟨p,hp,rfl⟩:=abX e;obtain⟨z,hz⟩:=hs p hp;rw[hz] at h ⊢;exact⟨by simpa using h.1,z,by simpa using h.1.symm⟩
end
section
open Go.RowKit Go.Shelf Ds
theorem dxZ {P:Program}{ops:Array Oper}{S:World->Prop}{op:Oper}{a:Act}(hw:Region.wanted op (yielded ops a.tmps)=true)(t:TypeId)(parts:Array (Nat × Operand))(ho:op.op=.build t parts)
  (cells:Array Value) (hf:P.built t (parts.map fun(i,x)=>(i,a.eval x)).toList=some cells):YieldsIf P ops S op (.agg cells) a :=
 .inl ⟨hw,fun w _=>by
  unfold execOp;simp only[ho,Sem.run_bind,run_build w t _ cells hf,gI,sL]⟩
theorem ayQ {P:Program}{ops:Array Oper}{S:World->Prop}{op:Oper}{a:Act}(hw:Region.wanted op (yielded ops a.tmps)=true)(t:TypeId)(n0 n1 n2 n3 n4 n5:Nat)(x0 x1 x2 x3 x4 x5:Operand)(ho:op.op=.build t #[(n0,x0),(n1,x1),(n2,x2),(n3,x3),(n4,x4),(n5,x5)])
  (v0 v1 v2 v3 v4 v5:Value) (h0:a.eval x0=v0) (h1:a.eval x1=v1) (h2:a.eval x2=v2) (h3:a.eval x3=v3) (h4:a.eval x4=v4) (h5:a.eval x5=v5) (cells:Array Value) (hf:P.built t [(n0,v0),(n1,v1),(n2,v2),(n3,v3),(n4,v4),(n5,v5)]=some cells):YieldsIf P ops S op (.agg cells) a :=
 dxZ hw t _ ho cells (by subst h0 h1 h2 h3 h4 h5;simpa using hf)
theorem dxJ {w:World}{N b:Nat}{v:Value}{xs:List Int}(h:∀ m,m<N->xQ w w.heap.size m v xs)(hb:b<N)(ds:Array Value):∀ m,m<N->xQ (w.setRow b ds) (w.setRow b ds).heap.size m v xs:=fun m hm=>by
 obtain⟨a,c,hv,h1,h2,hx⟩:=h m hm;obtain⟨a',c',hv',_,_,hx'⟩:=h b hb;have e:a=a':=by rw[hv'] at hv;simp only[eJ] at hv;exact hv.1.symm
 subst e;refine⟨a,c,hv,h1,h2,fun hne=>?_⟩;obtain⟨b1,o1,ha,hl,hm1,hc⟩:=hx hne;obtain⟨b2,o2,ha',_,hm2,_⟩:=hx' hne;have hbb:b1=b2:=by rw[ha] at ha';simp only[sX,sD] at ha';exact ha'.1
 have hk:(w.setRow b ds).heap[b1]? = w.heap[b1]?:=by
  unfold World.setRow;simp[Array.getElem?_modify,show ¬ b=b1 by omega]
 refine⟨b1,o1,ha,by simpa [World.setRow] using hl,hm1,fun i x hi=>(dZ (w:=w) (a:=⟨b1,o1+i,none⟩) hk).trans (hc i x hi)⟩
theorem ayX (k L:Nat)(xa:Option Addr)(xc:Nat)(v0:Int)(v1:ByteArray)(v2 v3:Int)(a4:Option Addr)(n4 c4:Nat)(a5:Option Addr)(n5 c5:Nat)(u d lo hi:Int):prog.built 39 [(0,.string ⟨#[112]⟩),(1,.agg #[.int .i64 v0,.string v1,.int .i64 v2,.int .i64 v3,.slice a4 n4 c4,.slice a5 n5 c5]),(2,.agg #[.int .i64 u,.int .i64 d]),(3,.int .i64 lo),(4,.int .i64 hi),(5,.slice xa (dg k L).length xc)]=some ([.string ⟨#[112]⟩,.int .i64 v0,.string v1,.int .i64 v2,.int .i64 v3,.slice a4 n4 c4,.slice a5 n5 c5,.int .i64 u,.int .i64 d,.int .i64 lo,.int .i64 hi,.slice xa (dg k L).length xc]).toArray:=by kernel_rfl
theorem ayZ (k L:Nat)(xa:Option Addr)(xc:Nat)(v0:Int)(v1:ByteArray)(v2 v3:Int)(a4:Option Addr)(n4 c4:Nat)(a5:Option Addr)(n5 c5:Nat)(u d lo hi:Int):∀ z∈([.string ⟨#[112]⟩,.int .i64 v0,.string v1,.int .i64 v2,.int .i64 v3,.slice a4 n4 c4,.slice a5 n5 c5,.int .i64 u,.int .i64 d,.int .i64 lo,.int .i64 hi,.slice xa (dg k L).length xc]:List Value),z.oneCell' = true:=by
 intro z hz;simp only[kX,kJ,lJ] at hz;rcases hz with rfl|rfl|rfl|rfl|rfl|rfl|rfl|rfl|rfl|rfl|rfl|rfl <;> rfl
theorem dyQ {Q:Exit->Act->World->Prop}(hQp:∀ c a d v w,Q (.panic c) (Act.put a d v) w->Q (.panic c) a w)(t0 t1 t2 t3 t5 t6 t7 t8 t9 t10 t11 t12 t13 t14 t15 t16 t17 t18 t19 t20 t21 t22 t23 t24 t25 t26 t27 t28 t29 t30 t31 t32 t33 t34 t35 t36 t37 t38 t39 t40 t41 t42 t43 t44 t45 t46 t47 t48 t49 t50 t51 t52 t53 t54 t55 t56 t57 t58 t59 t60 t61 t62 t63 t64 t65 t66 t67 t68 t69 t70 t71 t72 t73 t74 t75 t76 t77 t78 t79 t80 t81 t82 t83 t84 t85 t86 t87 t88 t89 t90 t91 t92 t93 t94 t95 t96 t97 t98 t99 t100 t101 t102 t103 t104 t105 t106 t107 t108 t109 t110 t111 t112 t113 t114 t115 t116 t117 t118 t119 t120 t121 t122 t123 t124 t125 t126 t127 t128 t129 t130 t131 t132 t133 t134 t135 t136 t137 t138 t139 t140 t141 t142 t143 t144 t145 t146 t147 t148 t149 t150 t151 t152 t153 t154 t155 t156 t157 t158 t159 t160 t161 t162 t163 t164 t165 t166 t167 t168 t169 t170 t171 t172 t173 t174 t175 t176 t177 t178 t179 t180 t181 t182 t183 t184 t185:Value)(A:World)(tb:Nat)(x0 x1:Value)(R:Value->World->Prop)
  (hC:∀ W,Below A.heap.size A W->W.cell? ⟨tb,0,none⟩=some x0/\W.cell? ⟨tb,1,none⟩=some x1)
  (hH:∀ V:World,Below A.heap.size A V->Calls prog 9 #[.agg #[x0,x1],.slice (some ⟨V.heap.size,0,none⟩) 30 30,t17] (V.alloc (.cells (madeCells #[.int .i64 0] 30) 2)) fun e W'=>∃ ov sl,e=.returned (.tuple #[ov,sl,.bool true])/\R ov W'/\Below A.heap.size A W')
  (hEnd:∀ (u93 u94 u95 u96 u97 u98 u99 u100 ov sl:Value) (Wf:World),Below A.heap.size A Wf->R ov Wf->Q .normal { tmps:=#[t0,t1,t2,t3,.pointer (some ⟨tb,0,none⟩),t5,t6,t7,t8,t9,t10,t11,t12,t13,t14,t15,t16,t17,ov,sl,.bool true,t21,t22,t23,t24,t25,t26,t27,t28,t29,t30,t31,t32,t33,t34,t35,t36,t37,t38,t39,t40,t41,t42,t43,t44,t45,t46,t47,t48,t49,t50,t51,t52,t53,t54,t55,t56,t57,t58,t59,t60,t61,t62,t63,t64,t65,t66,t67,t68,t69,t70,t71,t72,t73,t74,t75,t76,t77,t78,t79,t80,t81,t82,t83,t84,t85,t86,t87,t88,t89,t90,t91,t92,u93,u94,u95,u96,u97,u98,u99,u100,t101,t102,t103,t104,t105,t106,t107,t108,t109,t110,t111,t112,t113,t114,t115,t116,t117,t118,t119,t120,t121,t122,t123,t124,t125,t126,t127,t128,t129,t130,t131,t132,t133,t134,t135,t136,t137,t138,t139,t140,t141,t142,t143,t144,t145,t146,t147,t148,t149,t150,t151,t152,t153,t154,t155,t156,t157,t158,t159,t160,t161,t162,t163,t164,t165,t166,t167,t168,t169,t170,t171,t172,t173,t174,t175,t176,t177,t178,t179,t180,t181,t182,t183,t184,t185],defers:=[] } Wf) :
  (Code.region 19 #[⟨some 94, .load 25 (.tmp 4), 25, "top.go:216", #[], none⟩, ⟨some 95, .makeSlice 43 (.const (Value.int IntKind.i64 30)) (.const (Value.int IntKind.i64 30)), 43, "top.go:216", #[], none⟩, ⟨some 96, .move (.tmp 17), 26, "top.go:216", #[], none⟩, ⟨some 97, .call { callee := .value (.func 9), args := #[.tmp 94, .tmp 95, .tmp 96], argTypes := #[25, 43, 26] }, 44, "top.go:216", #[⟨0, .data⟩, ⟨1, .data⟩, ⟨2, .data⟩], none⟩, ⟨some 93, .move (.tmp 97), 44, "top.go:216", #[⟨3, .data⟩], none⟩, ⟨some 98, .extract (.tmp 93) 0, 42, "top.go:216", #[⟨4, .data⟩], none⟩, ⟨some 99, .extract (.tmp 93) 1, 43, "top.go:216", #[⟨4, .data⟩, ⟨8, .gcOnly .lateStores⟩], none⟩, ⟨some 100, .extract (.tmp 93) 2, 4, "top.go:216", #[⟨4, .data⟩, ⟨9, .gcOnly .lateStores⟩], none⟩, ⟨some 18, .assign (.tmp 98), 42, "top.go:216", #[⟨5, .data⟩, ⟨3, .chain⟩, ⟨0, .phase⟩, ⟨1, .phase⟩, ⟨2, .phase⟩, ⟨3, .phase⟩, ⟨4, .phase⟩, ⟨5, .phase⟩, { on := 6, ground := Ground.textOnly Departure.lateStores }, { on := 7, ground := Ground.textOnly Departure.lateStores }], none⟩, ⟨some 19, .assign (.tmp 99), 43, "top.go:216", #[⟨6, .data⟩, ⟨8, .chain⟩, ⟨0, .phase⟩, ⟨1, .phase⟩, ⟨2, .phase⟩, ⟨3, .phase⟩, ⟨4, .phase⟩, ⟨5, .phase⟩, ⟨6, .phase⟩, { on := 7, ground := Ground.textOnly Departure.lateStores }, ⟨8, .phase⟩], none⟩, ⟨some 20, .assign (.tmp 100), 4, "top.go:216", #[⟨7, .data⟩, ⟨9, .chain⟩, ⟨0, .phase⟩, ⟨1, .phase⟩, ⟨2, .phase⟩, ⟨3, .phase⟩, ⟨4, .phase⟩, ⟨5, .phase⟩, ⟨6, .phase⟩, ⟨7, .phase⟩, ⟨8, .phase⟩, ⟨9, .phase⟩], none⟩] true).wp prog Q { tmps := #[t0, t1, t2, t3, .pointer (some ⟨tb, 0, none⟩), t5, t6, t7, t8, t9, t10, t11, t12, t13, t14, t15, t16, t17, t18, t19, t20, t21, t22, t23, t24, t25, t26, t27, t28, t29, t30, t31, t32, t33, t34, t35, t36, t37, t38, t39, t40, t41, t42, t43, t44, t45, t46, t47, t48, t49, t50, t51, t52, t53, t54, t55, t56, t57, t58, t59, t60, t61, t62, t63, t64, t65, t66, t67, t68, t69, t70, t71, t72, t73, t74, t75, t76, t77, t78, t79, t80, t81, t82, t83, t84, t85, t86, t87, t88, t89, t90, t91, t92, t93, t94, t95, t96, t97, t98, t99, t100, t101, t102, t103, t104, t105, t106, t107, t108, t109, t110, t111, t112, t113, t114, t115, t116, t117, t118, t119, t120, t121, t122, t123, t124, t125, t126, t127, t128, t129, t130, t131, t132, t133, t134, t135, t136, t137, t138, t139, t140, t141, t142, t143, t144, t145, t146, t147, t148, t149, t150, t151, t152, t153, t154, t155, t156, t157, t158, t159, t160, t161, t162, t163, t164, t165, t166, t167, t168, t169, t170, t171, t172, t173, t174, t175, t176, t177, t178, t179, t180, t181, t182, t183, t184, t185], defers := [] } A := by
 have HEND:=xR hEnd;have HC:=xR hC;have HH:=xR hH;have hmk:∀ u:World,(Instr.makeSlice 43 (.int .i64 30) (.int .i64 30)).run prog u=.ok (.slice (some ⟨u.heap.size,0,none⟩) 30 30) (u.alloc (.cells (madeCells #[.int .i64 0] 30) 2)):=run_make_row' (P:=prog) 43 2 (.int .i64 0) 8 underlying43 pP rfl .i64 .i64 30 (by omega) (by omega);have G0:Hid (Below A.heap.size A A.drew):=(uQ _ _).drew;clear hEnd hC hH;refine wp_region_any (by kernel_rfl) ?_;change wpAny _ _ _ _ _ _ _ (World.drew _);obtain⟨V0,hV0⟩:∃ V0,A.drew=V0:=⟨_,rfl⟩;rw[hV0] at G0 ⊢;clear hV0;refine K.P.fB (S:=fun W=>Below A.heap.size A W) (J:=fun _=>true) _ _ _ _ ?_;refine K.P.sV (i:=0) (oi:=_) (v:=.agg #[x0,x1]) rfl rfl (K.P.wV (by kernel_rfl)) (by kernel_rfl) (by kernel_rfl) (by kernel_rfl) (fun _ _ _ h=>hQp _ _ _ _ _ h) (Or.inl ⟨by rfl,fun W hS=>?_⟩) G0.out ?_
 ·obtain⟨z0,z1⟩:=HC.out W hS;go_simp
 simp only[Act.put,K.P.zA,K.P.zB,K.P.zC];refine K.P.sV (i:=2) (oi:=_) (v:=t17) rfl rfl (K.P.wV (by kernel_rfl)) (by kernel_rfl) (by kernel_rfl) (by kernel_rfl) (fun _ _ _ h=>hQp _ _ _ _ _ h) (Or.inl ⟨by rfl,fun W hS=>?_⟩) G0.out ?_
 ·go_simp
 simp only[Act.put,K.P.zA,K.P.zB,K.P.zC];refine K.P.jK (rs:=[1]) (by kernel_rfl) (by simp) ?_;refine K.P.tV.cons (o:=_) rfl (fun K hK=>?_) K.P.tV.nil;have kk:=HH.out V0 G0.out;go_simp
 try simp only[hmk]
 obtain⟨V1,hV1⟩:∃ V1,V0.alloc (.cells (madeCells #[.int .i64 0] 30) 2)=V1:=⟨_,rfl⟩;have G1:Hid (Below A.heap.size A V1):=hV1▸bal G0.out _;rw[hV1] at kk
 try rw[hV1]
 clear hV1 hmk;refine hK.out _ _ (fun _=>G1.out) ?_;clear hK K
 try simp only[Act.put,K.P.zA,K.P.zB,K.P.zC]
 refine K.P.jK (rs:=[3]) (by kernel_rfl) (by simp) ?_;refine K.P.tV.cons (o:=_) rfl (fun K hK=>?_) K.P.tV.nil;go_simp;go_at_call 9;refine kk.mono ?_;rintro e1 W1 ⟨ov,sl,rfl,hR,hb⟩;have G2:Hid (Below A.heap.size A W1):=hb;have HR:Hid (R ov W1):=hR;clear kk hR hb;refine hK.out _ _ (fun _=>G2.out) ?_;clear hK K
 try simp only[Act.put,K.P.zA,K.P.zB,K.P.zC]
 refine K.P.sV (i:=4) (oi:=_) (v:=.tuple #[ov,sl,.bool true]) rfl rfl (K.P.wV (by kernel_rfl)) (by kernel_rfl) (by kernel_rfl) (by kernel_rfl) (fun _ _ _ h=>hQp _ _ _ _ _ h) (Or.inl ⟨by rfl,fun W hS=>?_⟩) G2.out ?_
 ·go_simp
 simp only[Act.put,K.P.zA,K.P.zB,K.P.zC];refine K.P.sV (i:=5) (oi:=_) (v:=ov) rfl rfl (K.P.wV (by kernel_rfl)) (by kernel_rfl) (by kernel_rfl) (by kernel_rfl) (fun _ _ _ h=>hQp _ _ _ _ _ h) (Or.inl ⟨by rfl,fun W hS=>?_⟩) G2.out ?_
 ·go_simp
 simp only[Act.put,K.P.zA,K.P.zB,K.P.zC];refine K.P.sV (i:=6) (oi:=_) (v:=sl) rfl rfl (K.P.wV (by kernel_rfl)) (by kernel_rfl) (by kernel_rfl) (by kernel_rfl) (fun _ _ _ h=>hQp _ _ _ _ _ h) (Or.inl ⟨by rfl,fun W hS=>?_⟩) G2.out ?_
 ·go_simp
 simp only[Act.put,K.P.zA,K.P.zB,K.P.zC];refine K.P.sV (i:=7) (oi:=_) (v:=.bool true) rfl rfl (K.P.wV (by kernel_rfl)) (by kernel_rfl) (by kernel_rfl) (by kernel_rfl) (fun _ _ _ h=>hQp _ _ _ _ _ h) (Or.inl ⟨by rfl,fun W hS=>?_⟩) G2.out ?_
 ·go_simp
 simp only[Act.put,K.P.zA,K.P.zB,K.P.zC];refine K.P.sV (i:=8) (oi:=_) (v:=ov) rfl rfl (K.P.wV (by kernel_rfl)) (by kernel_rfl) (by kernel_rfl) (by kernel_rfl) (fun _ _ _ h=>hQp _ _ _ _ _ h) (Or.inl ⟨by rfl,fun W hS=>?_⟩) G2.out ?_
 ·go_simp
 simp only[Act.put,K.P.zA,K.P.zB,K.P.zC];refine K.P.sV (i:=9) (oi:=_) (v:=sl) rfl rfl (K.P.wV (by kernel_rfl)) (by kernel_rfl) (by kernel_rfl) (by kernel_rfl) (fun _ _ _ h=>hQp _ _ _ _ _ h) (Or.inl ⟨by rfl,fun W hS=>?_⟩) G2.out ?_
 ·go_simp
 simp only[Act.put,K.P.zA,K.P.zB,K.P.zC];refine K.P.sV (i:=10) (oi:=_) (v:=.bool true) rfl rfl (K.P.wV (by kernel_rfl)) (by kernel_rfl) (by kernel_rfl) (by kernel_rfl) (fun _ _ _ h=>hQp _ _ _ _ _ h) (Or.inl ⟨by rfl,fun W hS=>?_⟩) G2.out ?_
 ·go_simp
 simp only[Act.put,K.P.zA,K.P.zB,K.P.zC];exact K.P.iB (by kernel_rfl) (HEND.out _ _ _ _ _ _ _ _ _ _ W1 G2.out HR.out) _
end
section
open Go.RowKit Ds
open K.P (HSt Keeps nQ vJ kG rZ uH enc)
theorem dyX (w:World):Calls prog 13 #[] w fun e w'=>e=.returned (.bool true)/\Below w.heap.size w w':=by
 have kc:=K.P.aiZ 2 4 1 2 0 (by decide) (by decide) (by decide +kernel) w;go_enter func13,ntmps13;go_wp2_with fail;refine kc.mono ?_;rintro e1 w1 ⟨rfl,hb1⟩;clear kc;go_wp2;go_ret;exact⟨rfl,bal hb1 _⟩
theorem dyZ (k L:Nat)(hL:L<=9):cY (dg k L) 0=0:=by
 unfold cY;have h1:=bfJ k L;have h2:=bgQ k L;rw[qQ (by omega),qQ (by rw[h2];simp)]
def kL (d:List Pt) (bits:List Int) (N0:Nat) (ov:Value) (W:World):Prop :=
 ∃ (g c:Nat) (e2 e3:Int) (t2 x2:Value) (ta:Option Addr) (tn tc:Nat) (xa:Option Addr) (xn xc:Nat) (us2 lu2 ld2 us3 lu3 ld3:Int),
  ov=.slice (some ⟨g,0,none⟩) 3 c/\N0<=g/\g<W.heap.size/\W.rangeAt g 6 [.int .i64 e2,t2,.int .i64 us2,.int .i64 lu2,.int .i64 ld2,x2]/\W.rangeAt g 12 [.int .i64 e3,.slice ta tn tc,.int .i64 us3,.int .i64 lu3,.int .i64 ld3,.slice xa xn xc] /\
  (e2≠0\/e3=4\/e3=10\/(e3=6/\wY d bits=none)\/(e3=0/\∃ z gz,wY d bits=some [z]/\ta=some ⟨gz,0,none⟩/\tn=1/\tc=1/\N0<=gz/\gz<W.heap.size/\K.RowI W gz [z]))
theorem dyJ {l:List K.Ds.vQ}{ts:List (List Int)}{x1 x2 x3:Stp}{lu ld:Int}{d:List Pt}(h1:x1.act=1)(h2:x2.act=2)(h3:x3.act=3)(hn:x2.nm=x3.pn)(hw:K.Ds.oZ l ts=0)
  (hA:cV x3.u x3.d x3.lo x3.hi l ts x3.q=([d],lu,ld,0)) (hb:cY x3.bits 0=0) (hd:∀ p∈d,∃ z,p.1=[z])
  {W0 w':World} {N0 bd bw:Nat} {a:Option Addr} {c:Nat} {hv ov:Value} {s:HSt} {os:List (K.P.Sn xA)} {M G:Nat->Prop} (hrun:yY l ts ⟨List.replicate 30 0,-1,false,false,[]⟩ [x1,x2,x3]=(s,os)) (HI:HuI W0 w' N0 bd bw a c l ts hv ov s os M G):kL d x3.bits N0 ov w':=by
 obtain⟨s',y1,y2,y3,hr,ho⟩:=dwJ (lu:=lu) (ld:=ld) (ls:=[d]) h1 h2 h3 hn hw hA hb;rw[hrun] at hr;simp only[cQ] at hr;obtain⟨rfl,rfl⟩:=hr;obtain⟨css,o1,o2,o3,o4⟩:=HI.out;obtain⟨cs2,g,cap,hov,hg1,hg2,hr2,hs2⟩:=awJ o1 o2 o4 (i:=1) (x:=y2) rfl;obtain⟨cs3,g',cap',hov',_,_,hr3,hs3⟩:=awJ o1 o2 o4 (i:=2) (x:=y3) rfl;rw[hov] at hov';simp only[eJ,sX,sD] at hov';obtain⟨⟨rfl,_⟩,_,rfl⟩:=hov';obtain⟨tv2,ev2,us2,lu2,ld2,rfl,_⟩:=hs2;obtain⟨tv3,ev3,us3,lu3,ld3,rfl,ht3,he3,_⟩:=hs3;obtain⟨xa,xc,rfl⟩:=uH he3
 obtain⟨ta,tn,tc,rfl⟩:∃ ta tn tc,tv3=.slice ta tn tc:=by
  rcases ht3 with⟨_,h,_⟩|⟨_,_,_,_,_,_,_,h,_⟩
  ·exact⟨_,_,_,h⟩
  ·exact⟨_,_,_,h⟩
 refine⟨g,cap,y2.err,y3.err,tv2,ev2,ta,tn,tc,xa,_,xc,us2,lu2,ld2,us3,lu3,ld3,hov,hg1,hg2,hr2,hr3,?_⟩;rcases ho with ho|ho|ho|⟨ho,he⟩|⟨vs,us,ho,he,ht⟩
 ·exact .inl ho
 ·exact .inr (.inl ho)
 ·exact .inr (.inr (.inl ho))
 ·exact .inr (.inr (.inr (.inl ⟨he,dxQ ho⟩)))
 ·obtain⟨q1,z,rfl⟩:=dxX hd ho
  refine .inr (.inr (.inr (.inr ⟨he,z,?_⟩)));rcases ht3 with⟨h,_⟩|⟨vs,n,gz,h,_,_,_,hv,_,hG,hrow⟩
  ·rw[ht] at h;cases h
  ·rw[ht] at h
   simp only[sX,cQ] at h;obtain⟨rfl,_⟩:=h;simp only[eJ] at hv;exact⟨gz,q1,hv.1,hv.2.1,hv.2.2,(HI.gg gz hG).1,(HI.gg gz hG).2.1,hrow⟩
theorem kL.mono {d:List Pt}{bits:List Int}{N0 N1:Nat}{ov:Value}{W:World}(h:kL d bits N0 ov W)(hN:N1<=N0):kL d bits N1 ov W:=by
 obtain⟨g,c,e2,e3,t2,x2,ta,tn,tc,xa,xn,xc,us2,lu2,ld2,us3,lu3,ld3,h1,h2,h3,h4,h5,h6⟩:=h;refine⟨g,c,e2,e3,t2,x2,ta,tn,tc,xa,xn,xc,us2,lu2,ld2,us3,lu3,ld3,h1,aQ hN h2,h3,h4,h5,?_⟩;rcases h6 with h|h|h|h|⟨h,z,gz,q1,q2,q3,q4,q5,q6⟩
 ·exact .inl h
 ·exact .inr (.inl h)
 ·exact .inr (.inr (.inl h))
 ·exact .inr (.inr (.inr (.inl h)))
 ·exact .inr (.inr (.inr (.inr ⟨h,z,gz,q1,q2,q3,q4,aQ hN q5,q6⟩)))
abbrev mG:ByteArray:=⟨#[112]⟩
def thr (q:K.Ds.Qu) (v0:Int) (v1:ByteArray) (v2 v3:Int) (a4:Option Addr) (n4 c4:Nat) (a5:Option Addr) (n5 c5:Nat) (u d lo hi:Int) (bits:List Int) (xa:Option Addr) (xc:Nat):Stv :=
 ⟨⟨3,0,⟨#[]⟩,0,0,mG,q,u,d,lo,hi,bits,0⟩,v0,v1,v2,v3,a4,n4,c4,a5,n5,c5,xa,xc⟩
theorem blP (bu bd:Int):prog.built 41 [(0,.int .i64 2),(2,.string mG),(3,.agg #[.int .i64 bu,.int .i64 bd])]=some (vA 2 bu bd mG).cs.toArray:=by kernel_rfl
theorem blA (q:K.Ds.Qu)(v0:Int)(v1:ByteArray)(v2 v3:Int)(a4:Option Addr)(n4 c4:Nat)(a5:Option Addr)(n5 c5:Nat)(u d lo hi:Int)(bits:List Int)(xa:Option Addr)(xc:Nat) :
  prog.built 41 [(0,.int .i64 3),(4,.agg ([.string mG,.int .i64 v0,.string v1,.int .i64 v2,.int .i64 v3,.slice a4 n4 c4,.slice a5 n5 c5,.int .i64 u,.int .i64 d,.int .i64 lo,.int .i64 hi,.slice xa bits.length xc]:List Value).toArray)]=some (thr q v0 v1 v2 v3 a4 n4 c4 a5 n5 c5 u d lo hi bits xa xc).cs.toArray:=by kernel_rfl
theorem dzZ {P:Program}{ops:Array Oper}{rest:List Oper}{o:Oper}{a:Act}{w:World}{Q:Exit->Act->World->Prop}(hg:o.guard=none)(t:TypeId)(n m:Nat)(x y:Operand)(ho:o.op=.build t #[(n,x),(m,y)])(d:Option Tmp)(hd:o.dst=d)(v v':Value)(hv:a.eval x=v)(hv':a.eval y=v')(cells:Array Value)(hf:P.built t [(n,v),(m,v')]=some cells)
  (h:wpList P ops Q rest (a.put d (.agg cells)) w):wpList P ops Q (o::rest) a w:=wpList_buildTo hg t _ ho d hd cells (by subst hv hv';simpa using hf) h
theorem dzJ:(prog.info? 32).map (fun i=>i.size)=some 2:=by kernel_rfl
theorem d0Q (A:World)(B g:Nat)(cv tv:Value)(l:List K.Ds.vQ)(rs:List K.Rw)(q:K.Ds.Qu)(v0:Int)(v1:ByteArray)(v2 v3:Int)(a4:Option Addr)(n4 c4:Nat)(a5:Option Addr)(n5 c5:Nat)(u d lo hi bu bd lu ld:Int)(bits:List Int)(xa:Option Addr)(xc:Nat)(D:List Pt)
  (hB:B<=A.heap.size) (hp:K.dQ A B cv l) (hr:K.iQ A B tv rs) (hq:K.Qm A B q (.int .i64 v0) (.string v1) (.int .i64 v2) (.int .i64 v3) (.slice a4 n4 c4) (.slice a5 n5 c5)) (hlo:tQ lo) (hhi:tQ hi)
  (hI:xQ A A.heap.size 0 (.slice xa bits.length xc) bits) (hx:xa=none->xc=0) (hg:xV A g 41 (sfl [vA 1 0 0 ⟨#[]⟩,vA 2 bu bd mG,thr q v0 v1 v2 v3 a4 n4 c4 a5 n5 c5 u d lo hi bits xa xc]))
  (hw:K.Ds.oZ l (K.rr rs)=0) (hA:cV u d lo hi l (K.rr rs) q=([D],lu,ld,0)) (hb:cY bits 0=0) (hd:∀ p∈D,∃ z,p.1=[z]) :
  ∀ V:World,Below A.heap.size A V->Calls prog 9 #[.agg #[cv,tv],.slice (some ⟨V.heap.size,0,none⟩) 30 30,.slice (some ⟨g,0,none⟩) 3 3] (V.alloc (.cells (madeCells #[.int .i64 0] 30) 2)) fun e W'=>∃ ov sl,e=.returned (.tuple #[ov,sl,.bool true])/\kL D bits A.heap.size ov W'/\Below A.heap.size A W':=by
 intro V hV;obtain⟨X,hX⟩:∃ X,V.alloc (.cells (madeCells #[.int .i64 0] 30) 2)=X:=⟨_,rfl⟩;have hbV:Below V.heap.size V X:=hX▸ba _ _;have hbX:Below A.heap.size A X:=bt hV hbV;have hsX:A.heap.size<=X.heap.size:=hbX.size
 have hsv:sB X X.heap.size (.slice (some ⟨g,0,none⟩) 3 3) [vA 1 0 0 ⟨#[]⟩,vA 2 bu bd mG,thr q v0 v1 v2 v3 a4 n4 c4 a5 n5 c5 u d lo hi bits xa xc]:=by
  refine dvQ (ss:=[vA 1 0 0 ⟨#[]⟩,vA 2 bu bd mG,thr q v0 v1 v2 v3 a4 n4 c4 a5 n5 c5 u d lo hi bits xa xc]) ((hbX.block g hg.lt).trans hg) (by simp) (fun s hs=>?_);simp only[kX,kJ,lJ] at hs;rcases hs with rfl|rfl|rfl
  ·exact axQ _ _ _ _ _ _ (by decide)
  ·exact axQ _ _ _ _ _ _ (by decide)
  ·have z0:tQ 0:=⟨by decide,by decide⟩
   exact⟨0,K.P.tP (aQ hB hsX) _ (K.Qm.at hq hB hbX),yV.of (hI.at2 hbX),hx,hlo,hhi,z0,z0,mQ _,show mG.size<=9223372036854775807 by decide⟩
 have hst:=dtZ hsv (by simp)
 have h1:=dtQ X.heap.size cv tv _ l rs (some ⟨V.heap.size,0,none⟩) 30 (List.replicate 30 0) _ X (jQ _) ((hp.at hB hbX).mono (aQ hB hsX)) ((hr.at hB hbX).mono (aQ hB hsX)) (fun h=>by cases h) (fun ad ha j u hj=>by
  simp only[sX] at ha;subst ha;have e:(⟨V.heap.size,0,none⟩:Addr).add j=⟨V.heap.size,j,none⟩:=by unfold Addr.add;split <;> simp_all
  refine⟨by rw[<-hX];simp,?_⟩;rw[e,<-hX,dN _ _ _ _ rfl];show(madeCells #[.int .i64 0] 30)[j]? = _;have e:(madeCells #[.int .i64 0] 30)[j]? = (List.replicate 30 (Value.int .i64 0))[j]?:=by rw[<-toList_madeCells_one,Array.getElem?_toList]
  rw[e];rw[bN] at hj ⊢;split at hj
  ·rename_i c
   rw[zQ c];simp only[sX] at hj;rw[<-hj]
  ·cases hj) (fun x hx=>by have:=dC hx;omega) (by decide) hst (by simp)
 rw[hX];refine h1.mono ?_;rintro x5 w' ⟨W0,b1,bw,a,c,hv,ov,s,os,M,G,rfl,hrun,hbel,HI⟩;refine⟨ov,_,rfl,?_,bt hbX hbel⟩;refine(dyJ (x1:=(vA 1 0 0 ⟨#[]⟩).x) (x2:=(vA 2 bu bd mG).x) (x3:=(thr q v0 v1 v2 v3 a4 n4 c4 a5 n5 c5 u d lo hi bits xa xc).x) rfl rfl rfl rfl hw hA hb hd hrun HI).mono (by omega)

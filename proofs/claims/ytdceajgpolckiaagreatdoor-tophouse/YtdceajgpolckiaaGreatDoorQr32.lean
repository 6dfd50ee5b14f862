import Derived.Test.YtdceajgpolckiaaGreatDoorQr22
import Derived.Test.YtdceajgpolckiaaGreatDoorQr11
open Go.Proofs.Tryz
set_option linter.unusedSimpArgs false
set_option maxHeartbeats 16000000
set_option maxRecDepth 100000
namespace Go.Proofs.YtdceajgpolckiaaGreatDoor
variable {c er left' p:Int} {d d' disk disk':List Int} {n:ByteArray} {i m:Nat} {P Q:Int->Prop} {l s:List Nat} {ws:List (Nat × Int)} {ok:Bool}
namespace K.P
open K.Ds
abbrev Rq:=Int × Int
abbrev En:=Int × ByteArray × Int × Int × Int
def iQ (a b:Rq):Rq × Int:=(((Rt.cG a.1 a.2 b.1 b.2).1,(Rt.cG a.1 a.2 b.1 b.2).2.1),(Rt.cG a.1 a.2 b.1 b.2).2.2)
theorem bbQ {a b d n m e:Int}(h:Rt.cG a b c d=(n,m,e)):iQ (a,b) (c,d)=((n,m),e):=by unfold iQ;simp[h]
theorem nB (a b:Rq):Rt.cG a.1 a.2 b.1 b.2=((iQ a b).1.1,(iQ a b).1.2,(iQ a b).2):=rfl
def aX (r:Rq):Prop:=Rt.pQ r.1 r.2=true/\r.2<=r.1
def rq (q:Rat):Rq:=(q.num,(q.den:Int))
theorem aX.rat {r:Rq}(h:aX r):∃ q:Rat,r=rq q/\Rt.Ok q/\1<=q:=by
 obtain⟨q,h1,h2,h3⟩:=Rt.ctJ h.1;refine⟨q,by unfold rq;rw[h1,h2],h3,?_⟩;have h4:=h.2;rw[<-h1,<-h2] at h4;rw[Rat.le_iff];simpa using h4
theorem dsQ {q:Rat}(h:Rt.Ok q)(h1:1<=q):aX (rq q):=⟨Rt.jB q h,by rw[Rat.le_iff] at h1;simpa [rq] using h1⟩
def mZ:Rq:=(1,1)
theorem aaX:aX mZ:=⟨by decide,by decide⟩
theorem bbX:rq 1=mZ:=rfl
def bZ (a b:Rq):Prop:=a.1*b.2<=b.1*a.2
instance (a b:Rq):Decidable (bZ a b):=inferInstanceAs (Decidable (_<=_))
theorem wO (x y:Rat):bZ (rq x) (rq y)↔x<=y:=by unfold bZ rq;rw[Rat.le_iff]
theorem oB {x y:Rat}(hx:1<=x)(hy:1<=y):1<=x*y/\x<=x*y:=by
 have h0:(0:Rat)<=x:=Rat.le_trans (by decide) hx;have h2:x*1<=x*y:=Rat.mul_le_mul_of_nonneg_left hy h0;rw[Rat.mul_one] at h2;exact⟨Rat.le_trans hx h2,h2⟩
theorem bbZ {x y:Rat}(hx:Rt.Ok x)(hy:Rt.Ok y)(h1:1<=x)(h2:1<=y):(Rt.Ok (x*y)/\iQ (rq x) (rq y)=(rq (x*y),0))\/(¬ Rt.Ok (x*y)/\iQ (rq x) (rq y)=((0,0),4)):=by
 have ht:=Rt.cuZ x y hx hy;have hp:(0:Rat)<=x*y:=Rat.le_trans (by decide) (oB h1 h2).1;have hn:0<=(x*y).num:=Rat.num_nonneg.2 hp;by_cases h:Rt.Ok (x*y)
 ·left;refine⟨h,?_⟩
  rw[Rt.cuQ _ h] at ht;exact bbQ ht
 ·right;refine⟨h,?_⟩
  have:Rt.tell (x*y)=(0,0,4):=by
   unfold Rt.tell;rw[xQ (by omega),zQ];unfold Rt.Ok at h;omega
  rw[this] at ht;exact bbQ ht
theorem bbJ:iQ mZ mZ=(mZ,0):=by
 have ho:Rt.Ok 1:=⟨by decide,by decide,by decide⟩;rcases bbZ ho ho Rat.le_refl Rat.le_refl with⟨_,e⟩|⟨h,_⟩
 ·rw[Rat.mul_one,bbX] at e;exact e
 ·rw[Rat.mul_one] at h;exact absurd ho h
theorem zN {a b:Rq}(ha:aX a)(hb:aX b):((iQ a b).2=0/\aX (iQ a b).1/\bZ a (iQ a b).1/\bZ b (iQ a b).1)\/iQ a b=((0,0),4):=by
 obtain⟨x,rfl,hx,hx1⟩:=ha.rat;obtain⟨y,rfl,hy,hy1⟩:=hb.rat;rcases bbZ hx hy hx1 hy1 with⟨h,e⟩|⟨_,e⟩
 ·left
  rw[e];refine⟨rfl,dsQ h (oB hx1 hy1).1,(wO _ _).2 (oB hx1 hy1).2,(wO _ _).2 ?_⟩;rw[Rat.mul_comm];exact(oB hy1 hx1).2
 ·right;exact e
theorem dsX (a:Rq):bZ a a:=aG _
theorem dsZ {a b c:Rq}(ha:aX a)(hb:aX b)(hc:aX c)(h1:bZ a b)(h2:bZ b c):bZ a c:=by
 obtain⟨x,rfl,_,_⟩:=ha.rat;obtain⟨y,rfl,_,_⟩:=hb.rat;obtain⟨z,rfl,_,_⟩:=hc.rat;rw[wO] at *
 exact Rat.le_trans h1 h2
theorem bcQ {a b:Rq}(ha:aX a)(hb:aX b)(h1:bZ a b)(h2:bZ b a):a=b:=by
 obtain⟨x,rfl,_,_⟩:=ha.rat;obtain⟨y,rfl,_,_⟩:=hb.rat;rw[wO] at *
 rw[Rat.le_antisymm h1 h2]
theorem bcX {a b:Rq}(ha:aX a)(hb:aX b)(h:¬ bZ a b):bZ b a:=by
 obtain⟨x,rfl,_,_⟩:=ha.rat;obtain⟨y,rfl,_,_⟩:=hb.rat;rw[wO] at *
 exact Rat.le_of_lt (Rat.not_le.1 h)
theorem aaZ {a:Rq}(h:aX a):bZ mZ a:=by
 obtain⟨x,rfl,_,h1⟩:=h.rat;rw[<-bbX,wO];exact h1
def rD (r:Rq):List Rq->Rq × Int
 | []=>(r,0)
 | x::xs=>if (iQ r x).2=0 then rD (iQ r x).1 xs else ((0,0),(iQ r x).2)
theorem bcZ (r:Rq)(l:List Rq)(x:Rq):rD r (l++[x])=if (rD r l).2=0 then (if (iQ (rD r l).1 x).2=0 then iQ (rD r l).1 x else ((0,0),(iQ (rD r l).1 x).2)) else rD r l:=by
 induction l generalizing r with
 | nil =>
  simp only[tN,rD];by_cases h:(iQ r x).2=0
  ·simp[h];rw[<-h]
  ·simp[h]
 | cons y l ih =>
  simp only[qG,rD];by_cases h:(iQ r y).2=0
  ·simp only[h,↓reduceIte];exact ih _
  ·simp[h]
def oI (n:ByteArray) (d p:Int) (e:En):Bool:=decide (e.2.1=n/\e.1=d/\(d≠3\/e.2.2.1=p))
def lss (done:List En) (n:ByteArray) (d p:Int):List Rq:=(done.filter (oI n d p)).map (·.2.2.2)
def lX (done:List En) (n:ByteArray):Rq × Int:=rD mZ (lss done n 2 0)
def oQ (done:List En) (n:ByteArray) (p:Int):Rq × Int:=rD mZ (lss done n 3 p)
def prs (done:List En) (n:ByteArray):List Int:=(done.filter fun e=>decide (e.2.1=n/\e.1=3)).map (·.2.2.1)
def sD (out:List Int):List Int->List Int
 | []=>out
 | p::ps=>if p∈out then sD out ps else sD (out++[p]) ps
def aJ (done:List En) (n:ByteArray):List Int:=sD [] (prs done n)
def xU (f:Int->Rq × Int) (m:Rq):List Int->Rq × Int
 | []=>(m,0)
 | p::ps=>if (f p).2=0 then xU f (if bZ m (f p).1 then (f p).1 else m) ps else ((0,0),(f p).2)
def mJ (done:List En) (n:ByteArray):Rq × Int :=
 if (lX done n).2=0 then (if (xU (oQ done n) mZ (prs done n)).2=0 then iQ (lX done n).1 (xU (oQ done n) mZ (prs done n)).1 else ((0,0),(xU (oQ done n) mZ (prs done n)).2)) else ((0,0),(lX done n).2)
def sX (done:List En) (n:ByteArray):Option Rq:=(done.find? fun e=>decide (e.1=1/\e.2.1=n)).map (·.2.2.2)
def dY (done:List En):List ByteArray:=(done.filter fun e=>decide (e.1=1)).map (·.2.1)
def nJ (e:En):Int:=if e.1<1\/3<e.1 then 1 else if aV e.2.1.data.toList=true/\Rt.pQ e.2.2.2.1 e.2.2.2.2=true then (if e.2.2.2.1<e.2.2.2.2 then 3 else 0) else 2
def eX (done:List En) (e:En):Int :=
 if nJ e≠0 then nJ e else if 4096<=done.length then 4 else
 match sX done e.2.1 with
 | none=>if e.1=1 then (if 64<=(dY done).length then 5 else 0) else 7
 | some b=>if e.1=1 then 7 else
  if e.1=3/\(e.2.2.1<0\/1073741824<e.2.2.1) then 3 else
  if e.1=3/\64<(aJ (done++[e]) e.2.1).length then 5 else
  if (mJ (done++[e]) e.2.1).2≠0 then (mJ (done++[e]) e.2.1).2 else if bZ (mJ (done++[e]) e.2.1).1 b then 0 else 10
def nrm (e:En):En:=if e.1=3 then e else (e.1,e.2.1,0,e.2.2.2)
theorem dsJ (e:En):(nrm e).1=e.1:=by unfold nrm;split <;> rfl
theorem aaJ (e:En):(nrm e).2.1=e.2.1:=by unfold nrm;split <;> rfl
theorem dtQ (e:En):(nrm e).2.2.2=e.2.2.2:=by unfold nrm;split <;> rfl
theorem abQ (e:En):nrm (nrm e)=nrm e:=by
 by_cases h:e.1=3
 ·simp[nrm,h]
 ·simp[nrm,h]
def mX (done:List En):List En->List Int × List En
 | []=>([],done)
 | e::es=>(eX done (nrm e)::(mX (if eX done (nrm e)=0 then done++[nrm e] else done) es).1,(mX (if eX done (nrm e)=0 then done++[nrm e] else done) es).2)
theorem dtX (done l m:List En):mX done (l++m)=((mX done l).1++(mX (mX done l).2 m).1,(mX (mX done l).2 m).2):=by
 induction l generalizing done with
 | nil=>simp[mX]
 | cons e es ih=>simp only[qG,mX,ih]
def sY (done:List En) (e:En):List En:=if eX done (nrm e)=0 then done++[nrm e] else done
theorem pB (done l:List En)(e:En):mX done (l++[e])=((mX done l).1++[eX (mX done l).2 (nrm e)],sY (mX done l).2 e):=by
 rw[dtX];simp only[mX,sY]
structure Top (f:Int->Rq) (P:Int->Prop) (m:Rq):Prop where
 ok:aX m
 oks:∀ p,P p->aX (f p)
 is:m=mZ\/∃ p,P p/\f p=m
 le:∀ p,P p->bZ (f p) m
theorem Top.uniq {f:Int->Rq}{a b:Rq}(ha:Top f P a)(hb:Top f P b):a=b:=by
 refine bcQ ha.ok hb.ok ?_ ?_
 ·rcases ha.is with rfl|⟨p,hp,rfl⟩
  ·exact aaZ hb.ok
  ·exact hb.le p hp
 ·rcases hb.is with rfl|⟨p,hp,rfl⟩
  ·exact aaZ ha.ok
  ·exact ha.le p hp
theorem Top.congr {f g:Int->Rq}{m:Rq}(h:Top f P m)(hP:∀ p,P p↔Q p)(hf:∀ p,P p->f p=g p):Top g Q m :=
 ⟨h.ok,fun p hp=>hf p ((hP p).2 hp)▸h.oks p ((hP p).2 hp),h.is.imp id fun⟨p,hp,e⟩=>⟨p,(hP p).1 hp,by rw[<-hf p hp];exact e⟩,fun p hp=>hf p ((hP p).2 hp)▸h.le p ((hP p).2 hp)⟩
theorem abX (f:Int->Rq):Top f (fun _=>False) mZ:=⟨aaX,fun _ h=>h.elim,.inl rfl,fun _ h=>h.elim⟩
theorem Top.more {f:Int->Rq}{P:Int->Prop}{m:Rq}(h:Top f P m){p:Int}(hp:aX (f p)):Top f (fun q=>P q\/q=p) (if bZ m (f p) then f p else m):=by
 have hoks:∀ q,(P q\/q=p)->aX (f q):=fun q hq=>by
  rcases hq with hq|rfl
  ·exact h.oks q hq
  ·exact hp
 by_cases c:bZ m (f p)
 ·rw[zQ c]
  refine⟨hp,hoks,.inr ⟨p,.inr rfl,rfl⟩,fun q hq=>?_⟩;rcases hq with hq|rfl
  ·exact dsZ (h.oks q hq) h.ok hp (h.le q hq) c
  ·exact dsX _
 ·rw[xQ c]
  refine⟨h.ok,hoks,h.is.imp id fun⟨q,hq,e⟩=>⟨q,.inl hq,e⟩,fun q hq=>?_⟩;rcases hq with hq|rfl
  ·exact h.le q hq
  ·exact bcX h.ok hp c
theorem dtZ {a b:Rq}(ha:aX a)(hb:aX b):(if bZ a b then b else a)=(if bZ b a then a else b):=by
 by_cases c:bZ a b
 ·by_cases c2:bZ b a
  ·rw[zQ c,zQ c2];exact bcQ hb ha c2 c
  ·rw[zQ c,xQ c2]
 ·rw[xQ c,zQ (bcX ha hb c)]
theorem bcJ {f:Int->Rq × Int}{m:Rq}(ps:List Int)(h:Top (fun p=>(f p).1) P m)(hf:∀ p∈ps,(f p).2=0/\aX (f p).1) :
  (xU f m ps).2=0/\Top (fun p=>(f p).1) (fun q=>P q\/q∈ps) (xU f m ps).1:=by
 induction ps generalizing P m with
 | nil=>exact⟨rfl,h.congr (by simp) (fun _ _=>rfl)⟩
 | cons p ps ih =>
  have h1:=hf p (qR ..);have h2:=ih (h.more (p:=p) h1.2) (fun q hq=>hf q (tP _ hq));simp only[xU,h1.1,↓reduceIte];refine⟨h2.1,h2.2.congr (fun q=>?_) (fun _ _=>rfl)⟩;simp only[fX];constructor
  ·rintro((h|h)|h)
   ·exact .inl h
   ·exact .inr (.inl h)
   ·exact .inr (.inr h)
  ·rintro(h|h|h)
   ·exact .inl (.inl h)
   ·exact .inl (.inr h)
   ·exact .inr h
theorem dtJ {f:Int->Rq × Int}{m:Rq}(ps:List Int)(hc:c≠0)(hf:∀ p∈ps,(f p).2=0\/(f p).2=c)(he:∃ p∈ps,(f p).2=c):xU f m ps=((0,0),c):=by
 induction ps generalizing m with
 | nil=>simp at he
 | cons p ps ih =>
  by_cases h:(f p).2=0
  ·simp only[xU,h,↓reduceIte]
   refine ih (fun q hq=>hf q (tP _ hq)) ?_;obtain⟨q,hq,e⟩:=he;rcases fX.1 hq with rfl|hq
   ·exact absurd (h.symm.trans e).symm hc
   ·exact⟨q,hq,e⟩
  ·simp only[xU,h,↓reduceIte]
   rcases hf p (qR ..) with e|e
   ·exact absurd e h
   ·rw[e]
theorem rB (done:List En)(e:En)(n:ByteArray)(d p:Int):lss (done++[e]) n d p=lss done n d p++(if oI n d p e=true then [e.2.2.2] else []):=by
 unfold lss;rw[lP,yY];by_cases h:oI n d p e=true <;> simp[h]
theorem sB (done:List En)(e:En)(n:ByteArray):prs (done++[e]) n=prs done n++(if e.2.1=n/\e.1=3 then [e.2.2.1] else []):=by
 unfold prs;rw[lP,yY];by_cases h:e.2.1=n/\e.1=3 <;> simp[h]
theorem abZ (done:List En)(e:En):dY (done++[e])=dY done++(if e.1=1 then [e.2.1] else []):=by
 unfold dY;rw[lP,yY];by_cases h:e.1=1 <;> simp[h]
theorem jN (done:List En)(e:En)(n:ByteArray):sX (done++[e]) n=(sX done n).or (if e.1=1/\e.2.1=n then some e.2.2.2 else none):=by
 unfold sX;rw[List.find?_append];by_cases h:e.1=1/\e.2.1=n
 ·cases hf:done.find? (fun e=>decide (e.1=1/\e.2.1=n)) <;> simp[h]
 ·cases hf:done.find? (fun e=>decide (e.1=1/\e.2.1=n)) <;> simp[h]
theorem tR (done:List En)(n:ByteArray):sX done n=none↔n ∉ dY done:=by
 unfold sX dY;simp only[Option.map_eq_none_iff,List.find?_eq_none,qY,tX,List.mem_filter,not_exists,not_and,and_imp]
theorem duQ (out l m:List Int):sD out (l++m)=sD (sD out l) m:=by
 induction l generalizing out with
 | nil=>rfl
 | cons p l ih=>simp only[qG,sD];split <;> exact ih _
theorem duX (out l:List Int)(x:Int):x∈sD out l↔x∈out\/x∈l:=by
 induction l generalizing out with
 | nil=>simp[sD]
 | cons p l ih =>
  simp only[sD];split
  ·next h =>
   rw[ih];simp only[fX];constructor
   ·rintro(h|h) <;> simp[h]
   ·rintro(h1|rfl|h1)
    ·exact .inl h1
    ·exact .inl h
    ·exact .inr h1
  ·rw[ih];simp only[kV,fX,yF,uF,or_assoc]
theorem tB (done:List En)(n:ByteArray)(p:Int):p∈aJ done n↔p∈prs done n:=by unfold aJ;rw[duX];simp
theorem abJ (done:List En)(e:En)(n:ByteArray):aJ (done++[e]) n=if e.2.1=n/\e.1=3/\e.2.2.1 ∉ aJ done n then aJ done n++[e.2.2.1] else aJ done n:=by
 unfold aJ;rw[sB,duQ];by_cases h:e.2.1=n/\e.1=3
 ·simp only[h,and_self,↓reduceIte,true_and,sD]
  split <;> simp_all
 ·rw[xQ h,xQ (fun c=>h ⟨c.1,c.2.1⟩)];rfl
structure Inv (done:List En):Prop where
 len:done.length<=4096
 bad:∀ e∈done,nJ e=0/\nrm e=e/\(e.1=3->0<=e.2.2.1/\e.2.2.1<=1073741824)/\∃ b,sX done e.2.1=some b
 all:∀ n,(lX done n).2=0/\aX (lX done n).1
 prt:∀ n p,(oQ done n p).2=0/\aX (oQ done n p).1
 ok:∀ n,(mJ done n).2=0
 le:∀ n b,sX done n=some b->bZ (mJ done n).1 b
 ops:(dY done).length<=64
 nod:(dY done).Nodup
 par:∀ n,(aJ done n).length<=64
theorem pH {e:En}(h:nJ e=0):1<=e.1/\e.1<=3/\aV e.2.1.data.toList=true/\aX e.2.2.2:=by
 unfold nJ at h;by_cases c1:e.1<1\/3<e.1
 ·rw[zQ c1] at h;omega
 rw[xQ c1] at h;by_cases c2:aV e.2.1.data.toList=true/\Rt.pQ e.2.2.2.1 e.2.2.2.2=true
 ·rw[zQ c2] at h
  by_cases c3:e.2.2.2.1<e.2.2.2.2
  ·rw[zQ c3] at h;omega
  ·exact⟨by omega,by omega,c2.1,c2.2,by omega⟩
 ·rw[xQ c2] at h;omega
theorem duZ:Inv []:=by
 refine⟨by simp,by simp,fun n=>⟨rfl,aaX⟩,fun n p=>⟨rfl,aaX⟩,fun n=>by simp[mJ,lX,lss,prs,rD,xU,bbJ],fun n b h=>by simp[sX] at h,by simp[dY],by simp[dY],fun n=>by simp[aJ,prs,sD]⟩
theorem Inv.top {done:List En}(h:Inv done)(n:ByteArray):(xU (oQ done n) mZ (prs done n)).2=0/\Top (fun p=>(oQ done n p).1) (fun p=>p∈prs done n) (xU (oQ done n) mZ (prs done n)).1:=by
 have:=bcJ (f:=oQ done n) (prs done n) (abX _) (fun p _=>h.prt n p);exact⟨this.1,this.2.congr (by simp) (fun _ _=>rfl)⟩
theorem bdQ {done:List En}(h1:(lX done n).2=0)(h2:(xU (oQ done n) mZ (prs done n)).2=0):mJ done n=iQ (lX done n).1 (xU (oQ done n) mZ (prs done n)).1:=by
 unfold mJ;rw[zQ h1,zQ h2]
theorem Inv.spent {done:List En}(h:Inv done)(n:ByteArray):mJ done n=iQ (lX done n).1 (xU (oQ done n) mZ (prs done n)).1:=bdQ (h.all n).1 (h.top n).1
theorem qP {done:List En}{e:En}(h:¬ (e.2.1=n/\e.1=2)):lX (done++[e]) n=lX done n:=by
 unfold lX;rw[rB,xQ,fU];simp[oI];intro h1 h2;exact h ⟨h1,h2⟩
theorem vN {done:List En}{e:En}(h:¬ (e.2.1=n/\e.1=3/\e.2.2.1=p)):oQ (done++[e]) n p=oQ done n p:=by
 unfold oQ;rw[rB,xQ,fU];simp[oI];intro h1 h2 h3;exact h ⟨h1,h2,h3⟩
theorem qS {done:List En}{e:En}(h:¬ (e.2.1=n/\e.1=3)):prs (done++[e]) n=prs done n:=by
 rw[sB,xQ h,fU]
theorem duJ {done:List En}(h:Inv done){e:En}(he:e.1=2):lX (done++[e]) e.2.1=if (iQ (lX done e.2.1).1 e.2.2.2).2=0 then iQ (lX done e.2.1).1 e.2.2.2 else ((0,0),(iQ (lX done e.2.1).1 e.2.2.2).2):=by
 have h1:=(h.all e.2.1).1;unfold lX at *
 rw[rB,zQ (by simp[oI,he]),bcZ,zQ h1]
theorem bdX {done:List En}(h:Inv done){e:En}(he:e.1=3):oQ (done++[e]) e.2.1 e.2.2.1=if (iQ (oQ done e.2.1 e.2.2.1).1 e.2.2.2).2=0 then iQ (oQ done e.2.1 e.2.2.1).1 e.2.2.2 else ((0,0),(iQ (oQ done e.2.1 e.2.2.1).1 e.2.2.2).2):=by
 have h1:=(h.prt e.2.1 e.2.2.1).1;unfold oQ at *
 rw[rB,zQ (by simp[oI,he]),bcZ,zQ h1]
theorem dvQ {done:List En}(h:p ∉ prs done n):oQ done n p=(mZ,0):=by
 have:lss done n 3 p=[]:=by
  unfold lss;rw[oE,pE];intro e he;simp only[oI,qY];rintro⟨h1,h2,h3⟩;refine h ?_;unfold prs;rw[tX];exact⟨e,List.mem_filter.2 ⟨he,by simp[h1,h2]⟩,by rcases h3 with h3|h3;exact absurd rfl h3;exact h3⟩
 unfold oQ;rw[this];rfl
theorem bdZ {done:List En}{e:En}(h:¬ (e.2.1=n/\(e.1=2\/e.1=3))):mJ (done++[e]) n=mJ done n:=by
 have h1:lX (done++[e]) n=lX done n:=qP fun c=>h ⟨c.1,.inl c.2⟩;have h2:prs (done++[e]) n=prs done n:=qS fun c=>h ⟨c.1,.inr c.2⟩;have h3:oQ (done++[e]) n=oQ done n:=funext fun p=>vN fun c=>h ⟨c.1,.inr c.2.1⟩;unfold mJ;rw[h1,h2,h3]
theorem acQ {done:List En}(h:Inv done){e:En}(he:e.1=2)(ho:aX e.2.2.2) :
  (iQ (lX done e.2.1).1 e.2.2.2=((0,0),4)/\mJ (done++[e]) e.2.1=((0,0),4)) \/
  ((iQ (lX done e.2.1).1 e.2.2.2).2=0/\aX (iQ (lX done e.2.1).1 e.2.2.2).1/\lX (done++[e]) e.2.1=iQ (lX done e.2.1).1 e.2.2.2/\mJ (done++[e]) e.2.1=iQ (iQ (lX done e.2.1).1 e.2.2.2).1 (xU (oQ done e.2.1) mZ (prs done e.2.1)).1):=by
 have ha:=duJ h he;have h2:prs (done++[e]) e.2.1=prs done e.2.1:=qS fun c=>by omega
 have h3:oQ (done++[e]) e.2.1=oQ done e.2.1:=funext fun p=>vN fun c=>by omega
 rcases zN (h.all e.2.1).2 ho with⟨h4,h5,_,_⟩|h4
 ·right
  rw[zQ h4] at ha;refine⟨h4,h5,ha,?_⟩;unfold mJ;rw[ha,h2,h3,zQ h4,zQ (h.top e.2.1).1]
 ·left
  refine⟨h4,?_⟩;rw[h4] at ha;unfold mJ;rw[ha];simp
theorem acX {done:List En}(h:Inv done){e:En}(he:e.1=3)(ho:aX e.2.2.2) :
  (iQ (oQ done e.2.1 e.2.2.1).1 e.2.2.2=((0,0),4)/\mJ (done++[e]) e.2.1=((0,0),4)) \/
  ((iQ (oQ done e.2.1 e.2.2.1).1 e.2.2.2).2=0/\aX (iQ (oQ done e.2.1 e.2.2.1).1 e.2.2.2).1/\oQ (done++[e]) e.2.1 e.2.2.1=iQ (oQ done e.2.1 e.2.2.1).1 e.2.2.2 /\
   (∀ m,Top (fun p=>(oQ (done++[e]) e.2.1 p).1) (fun p=>p∈prs (done++[e]) e.2.1) m->mJ (done++[e]) e.2.1=iQ (lX done e.2.1).1 m)/\∃ m,Top (fun p=>(oQ (done++[e]) e.2.1 p).1) (fun p=>p∈prs (done++[e]) e.2.1) m):=by
 have ha:=bdX h he;have h1:lX (done++[e]) e.2.1=lX done e.2.1:=qP fun c=>by omega
 have h2:prs (done++[e]) e.2.1=prs done e.2.1++[e.2.2.1]:=by rw[sB,zQ ⟨rfl,he⟩]
 have h3:∀ p,p≠e.2.2.1->oQ (done++[e]) e.2.1 p=oQ done e.2.1 p:=fun p hp=>vN fun c=>hp c.2.2.symm;rcases zN (h.prt e.2.1 e.2.2.1).2 ho with⟨h4,h5,_,_⟩|h4
 ·right
  rw[zQ h4] at ha
  have hok:∀ p,(oQ (done++[e]) e.2.1 p).2=0/\aX (oQ (done++[e]) e.2.1 p).1:=fun p=>by
   by_cases hp:p=e.2.2.1
   ·rw[hp,ha];exact⟨h4,h5⟩
   ·rw[h3 p hp];exact h.prt _ _
  have ht:=bcJ (f:=oQ (done++[e]) e.2.1) (prs (done++[e]) e.2.1) (abX _) (fun p _=>hok p);have ht2:Top (fun p=>(oQ (done++[e]) e.2.1 p).1) (fun p=>p∈prs (done++[e]) e.2.1) (xU (oQ (done++[e]) e.2.1) mZ (prs (done++[e]) e.2.1)).1:=ht.2.congr (by simp) (fun _ _=>rfl);refine⟨h4,h5,ha,fun m hm=>?_,_,ht2⟩;rw[bdQ (by rw[h1];exact(h.all _).1) ht.1,h1,hm.uniq ht2]
 ·left
  refine⟨h4,?_⟩
  have hb:xU (oQ (done++[e]) e.2.1) mZ (prs (done++[e]) e.2.1)=((0,0),4):=by
   rw[h4] at ha;refine dtJ _ (by decide) (fun p _=>?_) ⟨e.2.2.1,by rw[h2];simp,by rw[ha];simp⟩;by_cases hp:p=e.2.2.1
   ·right;rw[hp,ha];simp
   ·left;rw[h3 p hp];exact(h.prt _ _).1
  unfold mJ;rw[h1,zQ (h.all _).1,hb];simp
theorem wB {done:List En}{e:En}(h:eX done e=0):nJ e=0/\done.length<4096:=by
 unfold eX at h;by_cases c1:nJ e≠0
 ·rw[zQ c1] at h;exact absurd h c1
 rw[xQ c1] at h;by_cases c2:4096<=done.length
 ·rw[zQ c2] at h;omega
 ·exact⟨by omega,by omega⟩
theorem bdJ {done:List En}{e:En}(h:eX done e=0):nJ e=0/\done.length<4096/\((e.1=1/\sX done e.2.1=none/\(dY done).length<64) \/
  (e.1≠1/\∃ b,sX done e.2.1=some b/\(e.1=3->0<=e.2.2.1/\e.2.2.1<=1073741824/\(aJ (done++[e]) e.2.1).length<=64)/\(mJ (done++[e]) e.2.1).2=0/\bZ (mJ (done++[e]) e.2.1).1 b)):=by
 obtain⟨h1,h2⟩:=wB h;refine⟨h1,h2,?_⟩;unfold eX at h;rw[xQ (by omega),xQ (by omega)] at h;cases hb:sX done e.2.1 with
 | none =>
  left;simp only[hb] at h;by_cases c:e.1=1
  ·rw[zQ c] at h
   by_cases c2:64<=(dY done).length
   ·rw[zQ c2] at h;omega
   ·exact⟨c,rfl,by omega⟩
  ·rw[xQ c] at h;omega
 | some b =>
  right;simp only[hb] at h;by_cases c:e.1=1
  ·rw[zQ c] at h;omega
  rw[xQ c] at h;by_cases c1:e.1=3/\(e.2.2.1<0\/1073741824<e.2.2.1)
  ·rw[zQ c1] at h;omega
  rw[xQ c1] at h;by_cases c2:e.1=3/\64<(aJ (done++[e]) e.2.1).length
  ·rw[zQ c2] at h;omega
  rw[xQ c2] at h;by_cases c3:(mJ (done++[e]) e.2.1).2≠0
  ·rw[zQ c3] at h;exact absurd h c3
  rw[xQ c3] at h;by_cases c4:bZ (mJ (done++[e]) e.2.1).1 b
  ·exact⟨c,b,rfl,fun h3=>⟨by omega,by omega,by omega⟩,by omega,c4⟩
  ·rw[xQ c4] at h;omega
theorem dvX {done:List En}(h:Inv done){e:En}(hd:eX done e=0)(hn:nrm e=e):Inv (done++[e]):=by
 obtain⟨h1,h2,h3⟩:=bdJ hd;obtain⟨b1,b2,b3,b4⟩:=pH h1;have hbud:∀ n b,sX done n=some b->sX (done++[e]) n=some b:=fun n b hb=>by rw[jN,hb];rfl
 have hbude:∃ b,sX (done++[e]) e.2.1=some b:=by
  rcases h3 with⟨h4,h5,_⟩|⟨_,b,h5,_⟩
  ·rw[jN,h5,zQ ⟨h4,rfl⟩];exact⟨_,rfl⟩
  ·exact⟨b,hbud _ _ h5⟩
 have hall:∀ n,(lX (done++[e]) n).2=0/\aX (lX (done++[e]) n).1:=fun n=>by
  by_cases c:e.2.1=n/\e.1=2
  ·obtain⟨rfl,c2⟩:=c
   rcases acQ h c2 b4 with⟨_,h6⟩|⟨h5,h6,h7,_⟩
   ·rcases h3 with⟨h4,_⟩|⟨_,b,_,_,h7,_⟩
    ·omega
    ·rw[h6] at h7;simp at h7
   ·rw[h7];exact⟨h5,h6⟩
  ·rw[qP c];exact h.all n
 have hprt:∀ n p,(oQ (done++[e]) n p).2=0/\aX (oQ (done++[e]) n p).1:=fun n p=>by
  by_cases c:e.2.1=n/\e.1=3/\e.2.2.1=p
  ·obtain⟨rfl,c2,rfl⟩:=c
   rcases acX h c2 b4 with⟨_,h6⟩|⟨h5,h6,h7,_⟩
   ·rcases h3 with⟨h4,_⟩|⟨_,b,_,_,h7,_⟩
    ·omega
    ·rw[h6] at h7;simp at h7
   ·rw[h7];exact⟨h5,h6⟩
  ·rw[vN c];exact h.prt n p
 have hsp:∀ n,e.2.1=n->e.1≠1->(mJ (done++[e]) n).2=0/\∀ b,sX (done++[e]) n=some b->bZ (mJ (done++[e]) n).1 b:=fun n hn1 hn2=>by
  subst hn1;rcases h3 with⟨h4,_⟩|⟨_,b,h5,_,h7,h8⟩
  ·exact absurd h4 hn2
  ·refine⟨h7,fun b' hb'=>?_⟩
   rw[hbud _ _ h5] at hb';simp only[zX] at hb';exact hb'▸h8
 refine⟨by simp;omega,fun x hx=>?_,hall,hprt,fun n=>?_,fun n b hb=>?_,?_,?_,fun n=>?_⟩
 ·rw[kV] at hx
  rcases hx with hx|hx
  ·obtain⟨k1,k2,k3,b,k4⟩:=h.bad x hx
   exact⟨k1,k2,k3,b,hbud _ _ k4⟩
  ·simp only[pP] at hx
   subst hx;refine⟨h1,hn,fun c=>?_,hbude⟩;rcases h3 with⟨h4,_⟩|⟨_,b,_,h6,_⟩
   ·omega
   ·exact⟨(h6 c).1,(h6 c).2.1⟩
 ·by_cases c:e.2.1=n/\(e.1=2\/e.1=3)
  ·exact(hsp n c.1 (by omega)).1
  ·rw[bdZ c];exact h.ok n
 ·by_cases c:e.2.1=n/\(e.1=2\/e.1=3)
  ·exact(hsp n c.1 (by omega)).2 b hb
  ·rw[bdZ c]
   rw[jN] at hb;cases hb0:sX done n with
   | some b0 =>
    rw[hb0] at hb;simp only[Option.some_or,zX] at hb;exact hb▸h.le n b0 hb0
   | none =>
    rw[hb0] at hb
    have hz:prs done n=[]:=by
     unfold prs;rw[oE,pE];intro x hx;simp only[qY];rintro⟨k1,_⟩;obtain⟨_,_,_,b',k4⟩:=h.bad x hx;rw[k1,hb0] at k4;cases k4
    have hy:lss done n 2 0=[]:=by
     unfold lss;rw[oE,pE];intro x hx;simp only[oI,qY];rintro⟨k1,_⟩;obtain⟨_,_,_,b',k4⟩:=h.bad x hx;rw[k1,hb0] at k4;cases k4
    by_cases c2:e.1=1/\e.2.1=n
    ·rw[zQ c2] at hb
     simp only[Option.none_or,zX] at hb;subst hb
     have:mJ done n=(mZ,0):=by
      simp[mJ,lX,hz,hy,rD,xU,bbJ]
     rw[this];exact aaZ b4
    ·rw[xQ c2] at hb;simp at hb
 ·rw[abZ]
  by_cases c:e.1=1
  ·rw[zQ c]
   rcases h3 with⟨_,_,h6⟩|⟨h4,_⟩
   ·simp;omega
   ·exact absurd c h4
  ·rw[xQ c];simpa using h.ops
 ·rw[abZ]
  by_cases c:e.1=1
  ·rw[zQ c]
   rcases h3 with⟨_,h5,_⟩|⟨h4,_⟩
   ·rw[List.nodup_append]
    refine⟨h.nod,by simp,fun a ha b hb=>?_⟩;simp only[pP] at hb;subst hb;exact fun e'=>(tR done e.2.1).1 h5 (e'▸ha)
   ·exact absurd c h4
  ·rw[xQ c];simpa using h.nod
 ·by_cases c:e.2.1=n/\e.1=3
  ·obtain⟨rfl,c2⟩:=c
   rcases h3 with⟨h4,_⟩|⟨_,b,_,h6,_⟩
   ·omega
   ·exact(h6 c2).2.2
  ·rw[abJ,xQ (fun k=>c ⟨k.1,k.2.1⟩)];exact h.par n
def nA (n:Nat):Int:=if n<9223372036854775808 then (n:Int) else (n:Int) - 18446744073709551616
def zD (x:Int):Nat:=(x % 18446744073709551616).toNat
theorem acZ {n:Nat}(h:n<18446744073709551616):zD (nA n)=n:=by
 unfold zD nA;split <;> omega
theorem beQ {α:Type}{P:List α->Prop}(h0:P [])(h1:∀ l b,P l->P (l++[b]))(l:List α):P l:=by
 rw[<-List.reverse_reverse l]
 induction l.reverse with
 | nil=>exact h0
 | cons a r ih=>rw[List.reverse_cons];exact h1 _ _ ih
def mV (l:List Nat):Nat:=l.foldl (fun n b=>n*256+b) 0
theorem beX (l:List Nat)(b:Nat):mV (l++[b])=mV l*256+b:=by simp[mV]
theorem qC :(∀ b∈l,b<256)->mV l<256 ^ l.length:=by
 refine beQ (P:=fun l=>(∀ b∈l,b<256)->mV l<256 ^ l.length) (fun _=>by simp[mV]) (fun l b ih h=>?_) l;have h1:=ih fun x hx=>h x (by simp[hx]);have h2:=h b (by simp);rw[beX,dJ,bH,Nat.pow_succ];omega
def nU:Nat->Nat->List Nat
 | 0,_=>[]
 | k+1,n=>nU k (n / 256)++[n % 256]
theorem xC (k n:Nat):(nU k n).length=k:=by
 induction k generalizing n with
 | zero=>rfl
 | succ k ih=>simp[nU,ih]
theorem dvZ :(∀ b∈l,b<256)->nU l.length (mV l)=l:=by
 refine beQ (P:=fun l=>(∀ b∈l,b<256)->nU l.length (mV l)=l) (fun _=>rfl) (fun l b ih h=>?_) l;have h1:=ih fun x hx=>h x (by simp[hx]);have h2:=h b (by simp);rw[beX,dJ,bH];simp only[nU];rw[show(mV l*256+b) / 256=mV l by omega,show(mV l*256+b) % 256=b by omega,h1]
theorem dvJ (k n:Nat):∀ b∈nU k n,b<256:=by
 induction k generalizing n with
 | zero=>simp[nU]
 | succ k ih =>
  intro b hb;simp only[nU,kV,pP] at hb;rcases hb with hb|rfl
  ·exact ih _ b hb
  ·omega
def octs (s:List Nat) (w:Nat):List Nat:=(List.range 8).map fun i=>s.getD (8*w+i) 0
def bV (s:List Nat):List Int:=(List.range 4).map fun w=>nA (mV (octs s w))
def vG (l:List Int):List Nat:=l.flatMap fun x=>(nU 8 (zD x)).filter (·≠0)
theorem pI (s:List Nat):(bV s).length=4:=by simp[bV]
theorem jC (h:∀ b∈s,b<256)(w:Nat):∀ b∈octs s w,b<256:=by
 intro b hb;obtain⟨i,_,rfl⟩:=tX.1 hb;rw[List.getD];cases e:s[8*w+i]? with
 | none=>simp
 | some x=>simpa using h x (qX e)
theorem dwQ (s:List Nat)(k n:Nat):((List.range n).map fun i=>s.getD (k+i) 0).filter (·≠0)=((s.drop k).take n).filter (·≠0):=by
 induction n with
 | zero=>simp
 | succ n ih =>
  rw[List.range_succ,yY,lP,ih,fZ,lP];congr 1;rw[yK];cases e:s[k+n]? with
  | none=>simp[List.getD,e]
  | some x=>simp[List.getD,e]
theorem dwX (hl:s.length<=32)(h:∀ b∈s,b<256)(h0:∀ b∈s,b≠0):vG (bV s)=s:=by
 have one:∀ w,(nU 8 (zD (nA (mV (octs s w))))).filter (·≠0)=((s.drop (8*w)).take 8).filter (·≠0):=by
  intro w;have hlt:=jC h w;have h8:(octs s w).length=8:=by simp[octs]
  have hb:=qC hlt;rw[h8] at hb;rw[acZ (by simpa using hb)];have:=dvZ hlt;rw[h8] at this;rw[this];exact dwQ s (8*w) 8
 have nz:∀ k n,((s.drop k).take n).filter (·≠0)=(s.drop k).take n:=by
  intro k n;refine List.filter_eq_self.2 fun b hb=>?_;simpa using h0 b (zE (aH hb))
 unfold vG bV;rw[List.flatMap_map]
 have:(fun w=>(nU 8 (zD (nA (mV (octs s w))))).filter (·≠0))=fun w=>(s.drop (8*w)).take 8:=by
  funext w;rw[one,nz]
 show(List.range 4).flatMap (fun w=>(nU 8 (zD (nA (mV (octs s w))))).filter (·≠0))=s;rw[this];have e:List.range 4=[0,1,2,3]:=rfl;rw[e];simp only[mN,List.flatMap_nil,fU]
 have key:∀ (k n:Nat),s.drop k=(s.drop k).take n++s.drop (k+n):=fun k n=>by
  rw[<-List.drop_drop,fP]
 have h32:s.drop 32=[]:=fY hl
 conv=>rhs;rw[<-iP (l:=s),key 0 8,key (0+8) 8,key (0+8+8) 8,key (0+8+8+8) 8]
 rw[show 0+8+8+8+8=32 from rfl,h32];simp
def wU (n:ByteArray):List Nat:=n.data.toList.map UInt8.toNat
def qA (l:List Nat):ByteArray:=⟨(l.map UInt8.ofNat).toArray⟩
theorem dwZ (n:ByteArray):qA (wU n)=n:=by
 unfold qA wU;rw[List.map_map]
 have:(UInt8.ofNat ∘ UInt8.toNat)=id:=by funext b;simp
 rw[this,List.map_id]
theorem vC (n:ByteArray):∀ b∈wU n,b<256:=by
 intro b hb;obtain⟨x,_,rfl⟩:=tX.1 hb;exact UInt8.toNat_lt x
def qJ (e:En):List Int:=[1,e.1,e.2.2.1,e.2.2.2.1,e.2.2.2.2]++bV (wU e.2.1)
def tL (r:List Int):En:=(r.getD 1 0,qA (vG (r.drop 5)),r.getD 2 0,r.getD 3 0,r.getD 4 0)
theorem xS (e:En):(qJ e).length=9:=by simp[qJ,pI]
theorem dwJ (e:En)(hn:aV e.2.1.data.toList=true):tL (qJ e)=e:=by
 have h1:vG (bV (wU e.2.1))=wU e.2.1:=by
  unfold aV at hn;simp only[uK,qY] at hn;refine dwX ?_ (vC _) ?_
  ·simp only[wU,uU];omega
  ·intro b hb
   obtain⟨x,hx,rfl⟩:=tX.1 hb;have:=dL.1 hn.2 x hx;intro h0;have hx0:x=0:=UInt8.toNat_inj.1 (by simpa using h0);subst hx0;revert this;decide
 show(e.1,qA (vG (bV (wU e.2.1))),e.2.2.1,e.2.2.2.1,e.2.2.2.2)=e;rw[h1,dwZ]
def rcd (disk:List Int) (i:Nat):List Int:=(disk.drop (9*i)).take 9
def fG (disk:List Int) (done:List En) (i:Nat):Prop:=9*i+9<=disk.length/\(rcd disk i).getD 0 0=1/\qJ (tL (rcd disk i))=rcd disk i/\eX done (nrm (tL (rcd disk i)))=0
inductive Rds (disk:List Int):Nat->List En->Prop
 | nil:Rds disk 0 []
 | more {n:Nat} {done:List En}:Rds disk n done->fG disk done n->Rds disk (n+1) (done++[nrm (tL (rcd disk n))])
def jD (disk:List Int) (done:List En):Prop:=Rds disk done.length done/\¬ fG disk done done.length
theorem Rds.uniq {n:Nat}{a b:List En}(h:Rds disk n a)(k:Rds disk n b):a=b:=by
 induction h generalizing b with
 | nil=>cases k;rfl
 | more h1 _ ih =>
  cases k with
  | more k1 _=>rw[ih k1]
theorem Rds.pre {n:Nat}{a:List En}(h:Rds disk n a):∀ {m:Nat},m<n->∃ b,Rds disk m b/\fG disk b m:=by
 induction h with
 | nil=>intro m hm;omega
 | @more n done h1 h2 ih =>
  intro m hm;rcases Nat.lt_or_ge m n with c|c
  ·exact ih c
  ·obtain rfl:m=n:=by omega
   exact⟨done,h1,h2⟩
theorem jD.uniq {a b:List En}(h:jD disk a)(k:jD disk b):a=b:=by
 rcases Nat.lt_trichotomy a.length b.length with c|c|c
 ·obtain⟨x,hx,hc⟩:=k.1.pre c
  rw[<-h.1.uniq hx] at hc;exact absurd hc h.2
 ·exact h.1.uniq (c▸k.1)
 ·obtain⟨x,hx,hc⟩:=h.1.pre c
  rw[<-k.1.uniq hx] at hc;exact absurd hc k.2
theorem Rds.keep {n:Nat}{done:List En}(h:Rds disk n done)(hl:disk'.length=disk.length)(he:∀ i,i<n->rcd disk' i=rcd disk i):Rds disk' n done:=by
 induction h with
 | nil=>exact .nil
 | @more n done _ h2 ih =>
  have e:=he n (by omega);have h3:=ih fun i hi=>he i (by omega);have h4:fG disk' done n:=by unfold fG at *;rw[e,hl];exact h2
  have:=Rds.more h3 h4;rw[e] at this;exact this
def qZ:List Int->Int->List (Nat × Int)->List Int × Int × Bool
 | disk,left,[]=>(disk,left,true)
 | disk,left,(a,x)::r=>if left=0 then (disk,0,false) else qZ (disk.set a x) (if 0<left then left - 1 else left) r
def qV (disk:List Int) (ws:List (Nat × Int)):List Int:=ws.foldl (fun d p=>d.set p.1 p.2) disk
theorem rI (disk:List Int)(ws:List (Nat × Int)):(qV disk ws).length=disk.length:=by
 induction ws generalizing disk with
 | nil=>rfl
 | cons p ws ih=>unfold qV at *;rw[List.foldl_cons,ih];simp
theorem dxQ (disk:List Int)(a b:List (Nat × Int)):qV disk (a++b)=qV (qV disk a) b:=by simp[qV]
theorem acJ {left:Int}(h:qZ disk left ws=(disk',left',ok)) :
  ∃ m,m<=ws.length/\disk' = qV disk (ws.take m)/\(ok=true->m=ws.length)/\(ok=false->m<ws.length):=by
 induction ws generalizing disk left with
 | nil =>
  simp only[qZ,fQ] at h;exact⟨0,vQ _,by simp[qV,h.1],fun _=>rfl,fun e=>by rw[<-h.2.2] at e;cases e⟩
 | cons p ws ih =>
  obtain⟨a,x⟩:=p;simp only[qZ] at h;by_cases c:left=0
  ·rw[zQ c] at h
   simp only[fQ] at h;exact⟨0,kQ _,by simp[qV,h.1],(fun e=>by rw[<-h.2.2] at e;cases e),fun _=>by simp⟩
  ·rw[xQ c] at h
   obtain⟨m,h1,h2,h3,h4⟩:=ih h;refine⟨m+1,by simpa using h1,by rw[h2];simp[qV],fun e=>by rw[h3 e];rfl,fun e=>?_⟩;have:=h4 e;simp;omega
theorem beZ (disk:List Int)(ws:List (Nat × Int))(j:Nat)(h:∀ p∈ws,p.1≠j):(qV disk ws)[j]? = disk[j]?:=by
 induction ws generalizing disk with
 | nil=>rfl
 | cons p ws ih =>
  unfold qV at *
  rw[List.foldl_cons,ih _ fun q hq=>h q (by simp[hq]),oG (h p (by simp))]
theorem dxX (h:∀ j,9*i<=j->j<9*i+9->d'[j]? = d[j]?):rcd d' i=rcd d i:=by
 apply yM;intro j;unfold rcd;rw[aL,aL];by_cases c:j<9
 ·rw[zQ c,zQ c,yK,yK]
  exact h (9*i+j) (by omega) (by omega)
 ·rw[xQ c,xQ c]
theorem yN :(rcd d i).getD 0 0=d.getD (9*i) 0:=by
 unfold rcd;simp[List.getD,yK]
def wrs (n:Nat) (e:En):List (Nat × Int):=(9*n,0)::((List.range 8).map (fun j=>(9*n+(j+1),(qJ e).getD (j+1) 0))++[(9*n,1)])
theorem yC (n:Nat)(e:En):(wrs n e).length=10:=by simp[wrs]
theorem dxZ {n:Nat}{e:En}:∀ p∈wrs n e,9*n<=p.1/\p.1<9*n+9:=by
 intro p hp;simp only[wrs,fX,kV,tX,uH,yF,uF] at hp;rcases hp with rfl|⟨j,hj,rfl⟩|rfl
 ·simp
 ·simp;omega
 ·simp
theorem uC {n:Nat}{e:En}(h:i≠n):rcd (qV disk ((wrs n e).take m)) i=rcd disk i:=by
 refine dxX fun j h1 h2=>beZ _ _ _ fun p hp=>?_;have:=dxZ p (aH hp);omega
theorem beJ {n:Nat}{e:En}(hl:9*n<disk.length)(h1:1<=m)(h2:m<10):(qV disk ((wrs n e).take m)).getD (9*n) 0=0:=by
 obtain⟨k,rfl⟩:∃ k,m=k+1:=⟨m - 1,by omega⟩
 have e1:(wrs n e).take (k+1)=(9*n,0)::((List.range 8).map (fun j=>(9*n+(j+1),(qJ e).getD (j+1) 0))).take k:=by
  unfold wrs;rw[List.take_succ_cons,List.take_append_of_le_length (by simp;omega)]
 rw[e1];have e2:qV disk ((9*n,0)::((List.range 8).map (fun j=>(9*n+(j+1),(qJ e).getD (j+1) 0))).take k)=qV (disk.set (9*n) 0) (((List.range 8).map (fun j=>(9*n+(j+1),(qJ e).getD (j+1) 0))).take k):=by simp[qV]
 rw[e2,List.getD,beZ]
 ·rw[sA hl];rfl
 ·intro p hp
  obtain⟨j,_,rfl⟩:=tX.1 (aH hp);simp
theorem bfQ (disk:List Int)(a:Nat)(f:Nat->Int):∀ k,a+k<=disk.length->∀ j,j<k->(qV disk ((List.range k).map fun i=>(a+i,f i)))[a+j]? = some (f j)
 | 0,_,j,hj=>by omega
 | k+1,hl,j,hj=>by
  rw[List.range_succ,yY,dxQ];simp only[xV,nP];have e:∀ d:List Int,qV d [(a+k,f k)]=d.set (a+k) (f k):=fun d=>rfl;rw[e];by_cases c:j=k
  ·subst c
   rw[sA (by rw[rI];omega)]
  ·rw[oG (by omega)]
   exact bfQ disk a f k (by omega) j (by omega)
theorem dxJ {n:Nat}{e:En}(hl:9*n+9<=disk.length):rcd (qV disk (wrs n e)) n=qJ e:=by
 have e1:qV disk (wrs n e)=(qV (disk.set (9*n) 0) ((List.range 8).map (fun j=>(9*n+1+j,(qJ e).getD (j+1) 0)))).set (9*n) 1:=by
  have e0:((List.range 8).map fun j=>(9*n+(j+1),(qJ e).getD (j+1) 0))=(List.range 8).map fun j=>(9*n+1+j,(qJ e).getD (j+1) 0):=yE fun j _=>by rw[show 9*n+(j+1)=9*n+1+j by omega]
  unfold wrs;rw[e0];simp[qV]
 rw[e1];apply yM;intro j;unfold rcd;rw[aL];by_cases c:j<9
 ·rw[zQ c,yK]
  by_cases c0:j=0
  ·subst c0
   rw[show 9*n+0=9*n from rfl,sA (by rw[rI,oN];omega)];rfl
  ·rw[oG (by omega),show 9*n+j=9*n+1+(j - 1) by omega]
   rw[bfQ (disk.set (9*n) 0) (9*n+1) (fun j=>(qJ e).getD (j+1) 0) 8 (by simp;omega) (j - 1) (by omega)]
   show some ((qJ e).getD (j - 1+1) 0)=(qJ e)[j]?
   rw[show j - 1+1=j by omega,List.getD,zJ (by rw[xS];exact c)];rfl
 ·rw[xQ c,bL (by rw[xS];omega)]
def Hz (disk:List Int) (n:Nat):Prop:=∀ i,n<=i->9*i+9<=disk.length->disk.getD (9*i) 0≠1
theorem bfX (k:Nat):Hz (List.replicate k 0) 0:=by
 intro i _ _;rw[List.getD,xT];split <;> simp
theorem bfZ (k:Nat):jD (List.replicate k 0) []:=by
 refine⟨.nil,fun h=>?_⟩;have h1:=bfX k 0 (vQ _) h.1;rw[<-yN] at h1;exact h1 h.2.1
theorem dyQ {n:Nat}{e:En}(h:Hz disk n)(hl:9*n+9<=disk.length)(hm:m<10):Hz (qV disk ((wrs n e).take m)) n:=by
 intro i hi hli;rw[rI] at hli;by_cases c:i=n
 ·subst c
  by_cases c0:m=0
  ·subst c0;exact h i hi hli
  ·rw[beJ (by omega) (by omega) hm];decide
 ·rw[<-yN,uC c,yN]
  exact h i hi hli
theorem bfJ {n:Nat}{e:En}(h:Hz disk n):Hz (qV disk (wrs n e)) (n+1):=by
 intro i hi hli;rw[rI] at hli;have:=uC (disk:=disk) (n:=n) (i:=i) (m:=10) (e:=e) (by omega);rw[rJ (by rw[yC];exact vQ _)] at this;rw[<-yN,this,yN];exact h i (by omega) hli
theorem dyX {done:List En}{e:En}(h:jD disk done)(hl:9*done.length+9<=disk.length)(hm:m<10):jD (qV disk ((wrs done.length e).take m)) done:=by
 by_cases c0:m=0
 ·subst c0;exact h
 ·refine⟨h.1.keep (rI _ _) fun i hi=>uC (by omega),fun hc=>?_⟩
  have h1:=hc.2.1;rw[yN,beJ (by omega) (by omega) hm] at h1;exact absurd h1 (by decide)
theorem dyZ {done:List En}{e:En}(h:jD disk done)(hz:Hz disk done.length)(hl:9*done.length+9<=disk.length)(hd:eX done (nrm e)=0):jD (qV disk (wrs done.length (nrm e))) (done++[nrm e]):=by
 have hb:nJ (nrm e)=0:=by
  unfold eX at hd;by_cases c:nJ (nrm e)=0
  ·exact c
  ·rw[zQ c] at hd;exact absurd hd c
 have hn:aV (nrm e).2.1.data.toList=true:=by
  unfold nJ at hb;split at hb
  ·cases hb
  ·split at hb
   ·rename_i h1;exact h1.1
   ·cases hb
 have hr:=dxJ (e:=nrm e) hl;have ht:=dwJ (nrm e) hn
 have hk:Rds (qV disk (wrs done.length (nrm e))) done.length done:=h.1.keep (rI _ _) fun i hi=>by
  have:=uC (disk:=disk) (n:=done.length) (i:=i) (m:=10) (e:=nrm e) (by omega);rw[rJ (by rw[yC];exact vQ _)] at this;exact this
 have hc:fG (qV disk (wrs done.length (nrm e))) done done.length:=by
  refine⟨by rw[rI];exact hl,by rw[hr];rfl,by rw[hr,ht],by rw[hr,ht,abQ];exact hd⟩
 have hm:=Rds.more hk hc;rw[hr,ht,abQ] at hm;refine⟨by simpa using hm,fun hx=>?_⟩;rw[dJ,bH] at hx;have h1:=bfJ (e:=nrm e) hz (done.length+1) (vQ _) hx.1;rw[<-yN] at h1;exact h1 hx.2.1
instance (disk:List Int) (done:List En) (i:Nat):Decidable (fG disk done i):=by unfold fG;infer_instance
def aC (disk:List Int):Nat->List En->List En
 | 0,done=>done
 | f+1,done=>if fG disk done done.length then aC disk f (done++[nrm (tL (rcd disk done.length))]) else done
def oU (disk:List Int):List En:=aC disk (disk.length / 9) []
theorem bgQ (disk:List Int):∀ (f:Nat) (done:List En),Rds disk done.length done->disk.length<9*(done.length+f)+9->jD disk (aC disk f done)
 | 0,done,h,hl=>⟨h,fun hc=>by have h1:9*done.length+9<=disk.length:=hc.1;omega⟩
 | f+1,done,h,hl=>by
  unfold aC;by_cases c:fG disk done done.length
  ·rw[zQ c]
   refine bgQ disk f _ ?_ ?_
   ·rw[dJ,bH];exact .more h c
   ·rw[dJ,bH];omega
  ·rw[xQ c];exact⟨h,c⟩
theorem dyJ (disk:List Int):jD disk (oU disk):=bgQ disk _ [] .nil (by simp;omega)
theorem adQ {done:List En}(h:jD disk done):oU disk=done:=(dyJ disk).uniq h
structure HSt where
 disk:List Int
 left:Int
 up:Bool
 brk:Bool
 done:List En
def vZ (s:HSt) (e:En):HSt × Int :=
 if s.disk.length<9*s.done.length+9 then (s,4)
 else if eX s.done (nrm e)≠0 then (s,eX s.done (nrm e))
 else if (qZ s.disk s.left (wrs s.done.length (nrm e))).2.2=true
  then ({ s with disk:=(qZ s.disk s.left (wrs s.done.length (nrm e))).1,left:=(qZ s.disk s.left (wrs s.done.length (nrm e))).2.1,done:=s.done++[nrm e] },0)
  else ({ s with disk:=(qZ s.disk s.left (wrs s.done.length (nrm e))).1,left:=(qZ s.disk s.left (wrs s.done.length (nrm e))).2.1,brk:=true },11)
def Bok (disk:List Int) (done:List En):Prop:=jD disk done/\Hz disk done.length
theorem dzQ {s s':HSt}{e:En}(h:vZ s e=(s',er))(hb:Bok s.disk s.done) :
  Bok s'.disk s'.done/\s'.up=s.up/\s'.disk.length=s.disk.length /\
  ((er=0/\s'.done=s.done++[nrm e]/\s'.brk=s.brk)\/(er=11/\s'.done=s.done/\s'.brk=true)\/(er≠0/\s' = s/\(er=4\/er=eX s.done (nrm e)))):=by
 unfold vZ at h;by_cases c1:s.disk.length<9*s.done.length+9
 ·rw[zQ c1] at h
  simp only[fQ] at h;obtain⟨rfl,rfl⟩:=h;exact⟨hb,rfl,rfl,.inr (.inr ⟨by decide,rfl,.inl rfl⟩)⟩
 rw[xQ c1] at h;by_cases c2:eX s.done (nrm e)=0
 ·rw[xQ (by simpa using c2)] at h
  obtain⟨d',l',ok,hp⟩:∃ d' l' ok,qZ s.disk s.left (wrs s.done.length (nrm e))=(d',l',ok):=⟨_,_,_,rfl⟩;rw[hp] at h;obtain⟨m,h1,h2,h3,h4⟩:=acJ hp;rw[yC] at h1 h3 h4;by_cases c3:ok=true
  ·rw[zQ c3] at h
   simp only[fQ] at h;obtain⟨rfl,rfl⟩:=h;rw[h3 c3,rJ (by rw[yC];exact vQ _)] at h2;refine⟨⟨?_,?_⟩,rfl,by rw[h2];exact rI _ _,.inl ⟨rfl,rfl,rfl⟩⟩
   ·show jD d' (s.done++[nrm e])
    rw[h2];exact dyZ hb.1 hb.2 (by omega) c2
   ·show Hz d' (s.done++[nrm e]).length
    rw[h2,dJ,bH];exact bfJ hb.2
  ·rw[xQ c3] at h
   simp only[fQ] at h;obtain⟨rfl,rfl⟩:=h;have hm:=h4 (by simpa using c3);refine⟨⟨?_,?_⟩,rfl,by rw[h2];exact rI _ _,.inr (.inl ⟨rfl,rfl,rfl⟩)⟩
   ·show jD d' s.done
    rw[h2];exact dyX hb.1 (by omega) hm
   ·show Hz d' s.done.length
    rw[h2];exact dyQ hb.2 (by omega) hm
 ·rw[zQ c2] at h
  simp only[fQ] at h;obtain⟨rfl,rfl⟩:=h;exact⟨hb,rfl,rfl,.inr (.inr ⟨c2,rfl,.inr rfl⟩)⟩
inductive Ev (α:Type) where
 | opn | pow (n:Int) | oth | pur (e:En) | ask (pre:Int) (e:En) (tl:Option α) | loo
structure Sn (α:Type) where
 err:Int
 told:Option α
 ents:List En
def pZ {α:Type} (wr:Int) (s:HSt):Ev α->HSt × Sn α
 | .opn=>({ s with up:=decide (wr=0),brk:=false,done:=oU s.disk },⟨wr,none,[]⟩)
 | .pow n=>({ s with left:=n },⟨0,none,[]⟩)
 | .oth=>(s,⟨0,none,[]⟩)
 | .pur e=>if s.up=false then (s,⟨0,none,[]⟩) else if s.brk=true then (s,⟨9,none,[]⟩) else ((vZ s e).1,⟨(vZ s e).2,none,[]⟩)
 | .ask pre e tl=>if s.up=false then (s,⟨0,none,[]⟩) else if s.brk=true then (s,⟨9,none,[]⟩) else if pre≠0 then (s,⟨pre,none,[]⟩)
   else if (vZ s e).2≠0 then ((vZ s e).1,⟨(vZ s e).2,none,[]⟩)
   else match tl with
    | none=>((vZ s e).1,⟨6,none,[]⟩)
    | some t=>((vZ s e).1,⟨0,some t,[]⟩)
 | .loo=>if s.up=false then (s,⟨0,none,[]⟩) else if s.brk=true then (s,⟨9,none,[]⟩) else (s,⟨0,none,s.done⟩)

import Derived.Test.YtpmioeamdhdokaaGreatQq22
import Derived.Test.YtpmioeamdhdokaaGreatQq12
open Go.Proofs.Tryz
set_option linter.unusedSimpArgs false
set_option maxHeartbeats 16000000
set_option maxRecDepth 100000
namespace Go.Proofs.YtpmioeamdhdokaaGreat
variable {c left' p:Int} {d d' disk disk':List Int} {n:ByteArray} {i m:Nat} {P Q:Int->Prop} {l s:List Nat} {ws:List (Nat × Int)} {ok:Bool}
namespace K.P
open K.Ds
abbrev Rq:=Int × Int
abbrev En:=Int × ByteArray × Int × Int × Int
def iQ (a b:Rq):Rq × Int:=(((Rt.vG a.1 a.2 b.1 b.2).1,(Rt.vG a.1 a.2 b.1 b.2).2.1),(Rt.vG a.1 a.2 b.1 b.2).2.2)
theorem baQ {a b d n m e:Int}(h:Rt.vG a b c d=(n,m,e)):iQ (a,b) (c,d)=((n,m),e):=by unfold iQ;simp[h]
theorem fB (a b:Rq):Rt.vG a.1 a.2 b.1 b.2=((iQ a b).1.1,(iQ a b).1.2,(iQ a b).2):=rfl
def aX (r:Rq):Prop:=Rt.oQ r.1 r.2=true/\r.2<=r.1
def rq (q:Rat):Rq:=(q.num,(q.den:Int))
theorem aX.rat {r:Rq}(h:aX r):∃ q:Rat,r=rq q/\Rt.Ok q/\1<=q:=by
 obtain⟨q,h1,h2,h3⟩:=Rt.csQ h.1;refine⟨q,by unfold rq;rw[h1,h2],h3,?_⟩;have h4:=h.2;rw[<-h1,<-h2] at h4;rw[Rat.le_iff];simpa using h4
theorem dqQ {q:Rat}(h:Rt.Ok q)(h1:1<=q):aX (rq q):=⟨Rt.tT q h,by rw[Rat.le_iff] at h1;simpa [rq] using h1⟩
def mZ:Rq:=(1,1)
theorem o9:aX mZ:=⟨by decide,by decide⟩
theorem baX:rq 1=mZ:=rfl
def bZ (a b:Rq):Prop:=a.1*b.2<=b.1*a.2
instance (a b:Rq):Decidable (bZ a b):=inferInstanceAs (Decidable (_<=_))
theorem oO (x y:Rat):bZ (rq x) (rq y)↔x<=y:=by unfold bZ rq;rw[Rat.le_iff]
theorem iB {x y:Rat}(hx:1<=x)(hy:1<=y):1<=x*y/\x<=x*y:=by
 have h0:(0:Rat)<=x:=Rat.le_trans (by decide) hx;have h2:x*1<=x*y:=Rat.mul_le_mul_of_nonneg_left hy h0;rw[Rat.mul_one] at h2;exact⟨Rat.le_trans hx h2,h2⟩
theorem baZ {x y:Rat}(hx:Rt.Ok x)(hy:Rt.Ok y)(h1:1<=x)(h2:1<=y):(Rt.Ok (x*y)/\iQ (rq x) (rq y)=(rq (x*y),0))\/(¬ Rt.Ok (x*y)/\iQ (rq x) (rq y)=((0,0),4)):=by
 have ht:=Rt.csJ x y hx hy;have hp:(0:Rat)<=x*y:=Rat.le_trans (by decide) (iB h1 h2).1;have hn:0<=(x*y).num:=Rat.num_nonneg.2 hp;by_cases h:Rt.Ok (x*y)
 ·left;refine⟨h,?_⟩
  rw[Rt.csX _ h] at ht;exact baQ ht
 ·right;refine⟨h,?_⟩
  have:Rt.tell (x*y)=(0,0,4):=by
   unfold Rt.tell;rw[xQ (by omega),zQ];unfold Rt.Ok at h;omega
  rw[this] at ht;exact baQ ht
theorem baJ:iQ mZ mZ=(mZ,0):=by
 have ho:Rt.Ok 1:=⟨by decide,by decide,by decide⟩;rcases baZ ho ho Rat.le_refl Rat.le_refl with⟨_,e⟩|⟨h,_⟩
 ·rw[Rat.mul_one,baX] at e;exact e
 ·rw[Rat.mul_one] at h;exact absurd ho h
theorem rM {a b:Rq}(ha:aX a)(hb:aX b):((iQ a b).2=0/\aX (iQ a b).1/\bZ a (iQ a b).1/\bZ b (iQ a b).1)\/iQ a b=((0,0),4):=by
 obtain⟨x,rfl,hx,hx1⟩:=ha.rat;obtain⟨y,rfl,hy,hy1⟩:=hb.rat;rcases baZ hx hy hx1 hy1 with⟨h,e⟩|⟨_,e⟩
 ·left
  rw[e];refine⟨rfl,dqQ h (iB hx1 hy1).1,(oO _ _).2 (iB hx1 hy1).2,(oO _ _).2 ?_⟩;rw[Rat.mul_comm];exact(iB hy1 hx1).2
 ·right;exact e
theorem dqX (a:Rq):bZ a a:=zG _
theorem dqZ {a b c:Rq}(ha:aX a)(hb:aX b)(hc:aX c)(h1:bZ a b)(h2:bZ b c):bZ a c:=by
 obtain⟨x,rfl,_,_⟩:=ha.rat;obtain⟨y,rfl,_,_⟩:=hb.rat;obtain⟨z,rfl,_,_⟩:=hc.rat;rw[oO] at *
 exact Rat.le_trans h1 h2
theorem bbQ {a b:Rq}(ha:aX a)(hb:aX b)(h1:bZ a b)(h2:bZ b a):a=b:=by
 obtain⟨x,rfl,_,_⟩:=ha.rat;obtain⟨y,rfl,_,_⟩:=hb.rat;rw[oO] at *
 rw[Rat.le_antisymm h1 h2]
theorem bbX {a b:Rq}(ha:aX a)(hb:aX b)(h:¬ bZ a b):bZ b a:=by
 obtain⟨x,rfl,_,_⟩:=ha.rat;obtain⟨y,rfl,_,_⟩:=hb.rat;rw[oO] at *
 exact Rat.le_of_lt (Rat.not_le.1 h)
theorem aaQ {a:Rq}(h:aX a):bZ mZ a:=by
 obtain⟨x,rfl,_,h1⟩:=h.rat;rw[<-baX,oO];exact h1
def lD (r:Rq):List Rq->Rq × Int
 | []=>(r,0)
 | x::xs=>if (iQ r x).2=0 then lD (iQ r x).1 xs else ((0,0),(iQ r x).2)
theorem bbZ (r:Rq)(l:List Rq)(x:Rq):lD r (l++[x])=if (lD r l).2=0 then (if (iQ (lD r l).1 x).2=0 then iQ (lD r l).1 x else ((0,0),(iQ (lD r l).1 x).2)) else lD r l:=by
 induction l generalizing r with
 | nil =>
  simp only[gP,lD];by_cases h:(iQ r x).2=0
  ·simp[h];rw[<-h]
  ·simp[h]
 | cons y l ih =>
  simp only[pA,lD];by_cases h:(iQ r y).2=0
  ·simp only[h,↓reduceIte];exact ih _
  ·simp[h]
def mI (n:ByteArray) (d p:Int) (e:En):Bool:=decide (e.2.1=n/\e.1=d/\(d≠3\/e.2.2.1=p))
def lss (done:List En) (n:ByteArray) (d p:Int):List Rq:=(done.filter (mI n d p)).map (·.2.2.2)
def lX (done:List En) (n:ByteArray):Rq × Int:=lD mZ (lss done n 2 0)
def pQ (done:List En) (n:ByteArray) (p:Int):Rq × Int:=lD mZ (lss done n 3 p)
def prs (done:List En) (n:ByteArray):List Int:=(done.filter fun e=>decide (e.2.1=n/\e.1=3)).map (·.2.2.1)
def mD (out:List Int):List Int->List Int
 | []=>out
 | p::ps=>if p∈out then mD out ps else mD (out++[p]) ps
def vJ (done:List En) (n:ByteArray):List Int:=mD [] (prs done n)
def qU (f:Int->Rq × Int) (m:Rq):List Int->Rq × Int
 | []=>(m,0)
 | p::ps=>if (f p).2=0 then qU f (if bZ m (f p).1 then (f p).1 else m) ps else ((0,0),(f p).2)
def lJ (done:List En) (n:ByteArray):Rq × Int :=
 if (lX done n).2=0 then (if (qU (pQ done n) mZ (prs done n)).2=0 then iQ (lX done n).1 (qU (pQ done n) mZ (prs done n)).1 else ((0,0),(qU (pQ done n) mZ (prs done n)).2)) else ((0,0),(lX done n).2)
def sX (done:List En) (n:ByteArray):Option Rq:=(done.find? fun e=>decide (e.1=1/\e.2.1=n)).map (·.2.2.2)
def eY (done:List En):List ByteArray:=(done.filter fun e=>decide (e.1=1)).map (·.2.1)
def mJ (e:En):Int:=if e.1<1\/3<e.1 then 1 else if yV e.2.1.data.toList=true/\Rt.oQ e.2.2.2.1 e.2.2.2.2=true then (if e.2.2.2.1<e.2.2.2.2 then 3 else 0) else 2
def fX (done:List En) (e:En):Int :=
 if mJ e≠0 then mJ e else if 4096<=done.length then 4 else
 match sX done e.2.1 with
 | none=>if e.1=1 then (if 64<=(eY done).length then 5 else 0) else 7
 | some b=>if e.1=1 then 7 else
  if e.1=3/\(e.2.2.1<0\/1073741824<e.2.2.1) then 3 else
  if e.1=3/\64<(vJ (done++[e]) e.2.1).length then 5 else
  if (lJ (done++[e]) e.2.1).2≠0 then (lJ (done++[e]) e.2.1).2 else if bZ (lJ (done++[e]) e.2.1).1 b then 0 else 10
def nrm (e:En):En:=if e.1=3 then e else (e.1,e.2.1,0,e.2.2.2)
theorem dqJ (e:En):(nrm e).1=e.1:=by unfold nrm;split <;> rfl
theorem aaX (e:En):(nrm e).2.1=e.2.1:=by unfold nrm;split <;> rfl
theorem drQ (e:En):(nrm e).2.2.2=e.2.2.2:=by unfold nrm;split <;> rfl
theorem aaZ (e:En):nrm (nrm e)=nrm e:=by
 by_cases h:e.1=3
 ·simp[nrm,h]
 ·simp[nrm,h]
def mX (done:List En):List En->List Int × List En
 | []=>([],done)
 | e::es=>(fX done (nrm e)::(mX (if fX done (nrm e)=0 then done++[nrm e] else done) es).1,(mX (if fX done (nrm e)=0 then done++[nrm e] else done) es).2)
theorem drX (done l m:List En):mX done (l++m)=((mX done l).1++(mX (mX done l).2 m).1,(mX (mX done l).2 m).2):=by
 induction l generalizing done with
 | nil=>simp[mX]
 | cons e es ih=>simp only[pA,mX,ih]
def sY (done:List En) (e:En):List En:=if fX done (nrm e)=0 then done++[nrm e] else done
theorem lB (done l:List En)(e:En):mX done (l++[e])=((mX done l).1++[fX (mX done l).2 (nrm e)],sY (mX done l).2 e):=by
 rw[drX];simp only[mX,sY]
structure Top (f:Int->Rq) (P:Int->Prop) (m:Rq):Prop where
 ok:aX m
 oks:∀ p,P p->aX (f p)
 is:m=mZ\/∃ p,P p/\f p=m
 le:∀ p,P p->bZ (f p) m
theorem Top.uniq {f:Int->Rq}{a b:Rq}(ha:Top f P a)(hb:Top f P b):a=b:=by
 refine bbQ ha.ok hb.ok ?_ ?_
 ·rcases ha.is with rfl|⟨p,hp,rfl⟩
  ·exact aaQ hb.ok
  ·exact hb.le p hp
 ·rcases hb.is with rfl|⟨p,hp,rfl⟩
  ·exact aaQ ha.ok
  ·exact ha.le p hp
theorem Top.congr {f g:Int->Rq}{m:Rq}(h:Top f P m)(hP:∀ p,P p↔Q p)(hf:∀ p,P p->f p=g p):Top g Q m :=
 ⟨h.ok,fun p hp=>hf p ((hP p).2 hp)▸h.oks p ((hP p).2 hp),h.is.imp id fun⟨p,hp,e⟩=>⟨p,(hP p).1 hp,by rw[<-hf p hp];exact e⟩,fun p hp=>hf p ((hP p).2 hp)▸h.le p ((hP p).2 hp)⟩
theorem aaJ (f:Int->Rq):Top f (fun _=>False) mZ:=⟨o9,fun _ h=>h.elim,.inl rfl,fun _ h=>h.elim⟩
theorem Top.more {f:Int->Rq}{P:Int->Prop}{m:Rq}(h:Top f P m){p:Int}(hp:aX (f p)):Top f (fun q=>P q\/q=p) (if bZ m (f p) then f p else m):=by
 have hoks:∀ q,(P q\/q=p)->aX (f q):=fun q hq=>by
  rcases hq with hq|rfl
  ·exact h.oks q hq
  ·exact hp
 by_cases c:bZ m (f p)
 ·rw[zQ c]
  refine⟨hp,hoks,.inr ⟨p,.inr rfl,rfl⟩,fun q hq=>?_⟩;rcases hq with hq|rfl
  ·exact dqZ (h.oks q hq) h.ok hp (h.le q hq) c
  ·exact dqX _
 ·rw[xQ c]
  refine⟨h.ok,hoks,h.is.imp id fun⟨q,hq,e⟩=>⟨q,.inl hq,e⟩,fun q hq=>?_⟩;rcases hq with hq|rfl
  ·exact h.le q hq
  ·exact bbX h.ok hp c
theorem drZ {a b:Rq}(ha:aX a)(hb:aX b):(if bZ a b then b else a)=(if bZ b a then a else b):=by
 by_cases c:bZ a b
 ·by_cases c2:bZ b a
  ·rw[zQ c,zQ c2];exact bbQ hb ha c2 c
  ·rw[zQ c,xQ c2]
 ·rw[xQ c,zQ (bbX ha hb c)]
theorem bbJ {f:Int->Rq × Int}{m:Rq}(ps:List Int)(h:Top (fun p=>(f p).1) P m)(hf:∀ p∈ps,(f p).2=0/\aX (f p).1) :
  (qU f m ps).2=0/\Top (fun p=>(f p).1) (fun q=>P q\/q∈ps) (qU f m ps).1:=by
 induction ps generalizing P m with
 | nil=>exact⟨rfl,h.congr (by simp) (fun _ _=>rfl)⟩
 | cons p ps ih =>
  have h1:=hf p (mP ..);have h2:=ih (h.more (p:=p) h1.2) (fun q hq=>hf q (lP _ hq));simp only[qU,h1.1,↓reduceIte];refine⟨h2.1,h2.2.congr (fun q=>?_) (fun _ _=>rfl)⟩;simp only[eX];constructor
  ·rintro((h|h)|h)
   ·exact .inl h
   ·exact .inr (.inl h)
   ·exact .inr (.inr h)
  ·rintro(h|h|h)
   ·exact .inl (.inl h)
   ·exact .inl (.inr h)
   ·exact .inr h
theorem drJ {f:Int->Rq × Int}{m:Rq}(ps:List Int)(hc:c≠0)(hf:∀ p∈ps,(f p).2=0\/(f p).2=c)(he:∃ p∈ps,(f p).2=c):qU f m ps=((0,0),c):=by
 induction ps generalizing m with
 | nil=>simp at he
 | cons p ps ih =>
  by_cases h:(f p).2=0
  ·simp only[qU,h,↓reduceIte]
   refine ih (fun q hq=>hf q (lP _ hq)) ?_;obtain⟨q,hq,e⟩:=he;rcases eX.1 hq with rfl|hq
   ·exact absurd (h.symm.trans e).symm hc
   ·exact⟨q,hq,e⟩
  ·simp only[qU,h,↓reduceIte]
   rcases hf p (mP ..) with e|e
   ·exact absurd e h
   ·rw[e]
theorem mB (done:List En)(e:En)(n:ByteArray)(d p:Int):lss (done++[e]) n d p=lss done n d p++(if mI n d p e=true then [e.2.2.2] else []):=by
 unfold lss;rw[pS,vY];by_cases h:mI n d p e=true <;> simp[h]
theorem nB (done:List En)(e:En)(n:ByteArray):prs (done++[e]) n=prs done n++(if e.2.1=n/\e.1=3 then [e.2.2.1] else []):=by
 unfold prs;rw[pS,vY];by_cases h:e.2.1=n/\e.1=3 <;> simp[h]
theorem abQ (done:List En)(e:En):eY (done++[e])=eY done++(if e.1=1 then [e.2.1] else []):=by
 unfold eY;rw[pS,vY];by_cases h:e.1=1 <;> simp[h]
theorem sM (done:List En)(e:En)(n:ByteArray):sX (done++[e]) n=(sX done n).or (if e.1=1/\e.2.1=n then some e.2.2.2 else none):=by
 unfold sX;rw[List.find?_append];by_cases h:e.1=1/\e.2.1=n
 ·cases hf:done.find? (fun e=>decide (e.1=1/\e.2.1=n)) <;> simp[h]
 ·cases hf:done.find? (fun e=>decide (e.1=1/\e.2.1=n)) <;> simp[h]
theorem lR (done:List En)(n:ByteArray):sX done n=none↔n ∉ eY done:=by
 unfold sX eY;simp only[Option.map_eq_none_iff,List.find?_eq_none,qY,wX,vE,not_exists,not_and,and_imp]
theorem dsQ (out l m:List Int):mD out (l++m)=mD (mD out l) m:=by
 induction l generalizing out with
 | nil=>rfl
 | cons p l ih=>simp only[pA,mD];split <;> exact ih _
theorem dsX (out l:List Int)(x:Int):x∈mD out l↔x∈out\/x∈l:=by
 induction l generalizing out with
 | nil=>simp[mD]
 | cons p l ih =>
  simp only[mD];split
  ·next h =>
   rw[ih];simp only[eX];constructor
   ·rintro(h|h) <;> simp[h]
   ·rintro(h1|rfl|h1)
    ·exact .inl h1
    ·exact .inl h
    ·exact .inr h1
  ·rw[ih];simp only[gV,eX,zF,jF,or_assoc]
theorem oB (done:List En)(n:ByteArray)(p:Int):p∈vJ done n↔p∈prs done n:=by unfold vJ;rw[dsX];simp
theorem abX (done:List En)(e:En)(n:ByteArray):vJ (done++[e]) n=if e.2.1=n/\e.1=3/\e.2.2.1 ∉ vJ done n then vJ done n++[e.2.2.1] else vJ done n:=by
 unfold vJ;rw[nB,dsQ];by_cases h:e.2.1=n/\e.1=3
 ·simp only[h,and_self,↓reduceIte,true_and,mD]
  split <;> simp_all
 ·rw[xQ h,xQ (fun c=>h ⟨c.1,c.2.1⟩)];rfl
structure Inv (done:List En):Prop where
 len:done.length<=4096
 bad:∀ e∈done,mJ e=0/\nrm e=e/\(e.1=3->0<=e.2.2.1/\e.2.2.1<=1073741824)/\∃ b,sX done e.2.1=some b
 all:∀ n,(lX done n).2=0/\aX (lX done n).1
 prt:∀ n p,(pQ done n p).2=0/\aX (pQ done n p).1
 ok:∀ n,(lJ done n).2=0
 le:∀ n b,sX done n=some b->bZ (lJ done n).1 b
 ops:(eY done).length<=64
 nod:(eY done).Nodup
 par:∀ n,(vJ done n).length<=64
theorem oH {e:En}(h:mJ e=0):1<=e.1/\e.1<=3/\yV e.2.1.data.toList=true/\aX e.2.2.2:=by
 unfold mJ at h;by_cases c1:e.1<1\/3<e.1
 ·rw[zQ c1] at h;omega
 rw[xQ c1] at h;by_cases c2:yV e.2.1.data.toList=true/\Rt.oQ e.2.2.2.1 e.2.2.2.2=true
 ·rw[zQ c2] at h
  by_cases c3:e.2.2.2.1<e.2.2.2.2
  ·rw[zQ c3] at h;omega
  ·exact⟨by omega,by omega,c2.1,c2.2,by omega⟩
 ·rw[xQ c2] at h;omega
theorem dsZ:Inv []:=by
 refine⟨by simp,by simp,fun n=>⟨rfl,o9⟩,fun n p=>⟨rfl,o9⟩,fun n=>by simp[lJ,lX,lss,prs,lD,qU,baJ],fun n b h=>by simp[sX] at h,by simp[eY],by simp[eY],fun n=>by simp[vJ,prs,mD]⟩
theorem Inv.top {done:List En}(h:Inv done)(n:ByteArray):(qU (pQ done n) mZ (prs done n)).2=0/\Top (fun p=>(pQ done n p).1) (fun p=>p∈prs done n) (qU (pQ done n) mZ (prs done n)).1:=by
 have:=bbJ (f:=pQ done n) (prs done n) (aaJ _) (fun p _=>h.prt n p);exact⟨this.1,this.2.congr (by simp) (fun _ _=>rfl)⟩
theorem bcQ {done:List En}(h1:(lX done n).2=0)(h2:(qU (pQ done n) mZ (prs done n)).2=0):lJ done n=iQ (lX done n).1 (qU (pQ done n) mZ (prs done n)).1:=by
 unfold lJ;rw[zQ h1,zQ h2]
theorem Inv.spent {done:List En}(h:Inv done)(n:ByteArray):lJ done n=iQ (lX done n).1 (qU (pQ done n) mZ (prs done n)).1:=bcQ (h.all n).1 (h.top n).1
theorem pO {done:List En}{e:En}(h:¬ (e.2.1=n/\e.1=2)):lX (done++[e]) n=lX done n:=by
 unfold lX;rw[mB,xQ,yU];simp[mI];intro h1 h2;exact h ⟨h1,h2⟩
theorem tM {done:List En}{e:En}(h:¬ (e.2.1=n/\e.1=3/\e.2.2.1=p)):pQ (done++[e]) n p=pQ done n p:=by
 unfold pQ;rw[mB,xQ,yU];simp[mI];intro h1 h2 h3;exact h ⟨h1,h2,h3⟩
theorem mR {done:List En}{e:En}(h:¬ (e.2.1=n/\e.1=3)):prs (done++[e]) n=prs done n:=by
 rw[nB,xQ h,yU]
theorem dsJ {done:List En}(h:Inv done){e:En}(he:e.1=2):lX (done++[e]) e.2.1=if (iQ (lX done e.2.1).1 e.2.2.2).2=0 then iQ (lX done e.2.1).1 e.2.2.2 else ((0,0),(iQ (lX done e.2.1).1 e.2.2.2).2):=by
 have h1:=(h.all e.2.1).1;unfold lX at *
 rw[mB,zQ (by simp[mI,he]),bbZ,zQ h1]
theorem bcX {done:List En}(h:Inv done){e:En}(he:e.1=3):pQ (done++[e]) e.2.1 e.2.2.1=if (iQ (pQ done e.2.1 e.2.2.1).1 e.2.2.2).2=0 then iQ (pQ done e.2.1 e.2.2.1).1 e.2.2.2 else ((0,0),(iQ (pQ done e.2.1 e.2.2.1).1 e.2.2.2).2):=by
 have h1:=(h.prt e.2.1 e.2.2.1).1;unfold pQ at *
 rw[mB,zQ (by simp[mI,he]),bbZ,zQ h1]
theorem dtQ {done:List En}(h:p ∉ prs done n):pQ done n p=(mZ,0):=by
 have:lss done n 3 p=[]:=by
  unfold lss;rw[oE,pE];intro e he;simp only[mI,qY];rintro⟨h1,h2,h3⟩;refine h ?_;unfold prs;rw[wX];exact⟨e,vE.2 ⟨he,by simp[h1,h2]⟩,by rcases h3 with h3|h3;exact absurd rfl h3;exact h3⟩
 unfold pQ;rw[this];rfl
theorem bcZ {done:List En}{e:En}(h:¬ (e.2.1=n/\(e.1=2\/e.1=3))):lJ (done++[e]) n=lJ done n:=by
 have h1:lX (done++[e]) n=lX done n:=pO fun c=>h ⟨c.1,.inl c.2⟩;have h2:prs (done++[e]) n=prs done n:=mR fun c=>h ⟨c.1,.inr c.2⟩;have h3:pQ (done++[e]) n=pQ done n:=funext fun p=>tM fun c=>h ⟨c.1,.inr c.2.1⟩;unfold lJ;rw[h1,h2,h3]
theorem abZ {done:List En}(h:Inv done){e:En}(he:e.1=2)(ho:aX e.2.2.2) :
  (iQ (lX done e.2.1).1 e.2.2.2=((0,0),4)/\lJ (done++[e]) e.2.1=((0,0),4)) \/
  ((iQ (lX done e.2.1).1 e.2.2.2).2=0/\aX (iQ (lX done e.2.1).1 e.2.2.2).1/\lX (done++[e]) e.2.1=iQ (lX done e.2.1).1 e.2.2.2/\lJ (done++[e]) e.2.1=iQ (iQ (lX done e.2.1).1 e.2.2.2).1 (qU (pQ done e.2.1) mZ (prs done e.2.1)).1):=by
 have ha:=dsJ h he;have h2:prs (done++[e]) e.2.1=prs done e.2.1:=mR fun c=>by omega
 have h3:pQ (done++[e]) e.2.1=pQ done e.2.1:=funext fun p=>tM fun c=>by omega
 rcases rM (h.all e.2.1).2 ho with⟨h4,h5,_,_⟩|h4
 ·right
  rw[zQ h4] at ha;refine⟨h4,h5,ha,?_⟩;unfold lJ;rw[ha,h2,h3,zQ h4,zQ (h.top e.2.1).1]
 ·left
  refine⟨h4,?_⟩;rw[h4] at ha;unfold lJ;rw[ha];simp
theorem abJ {done:List En}(h:Inv done){e:En}(he:e.1=3)(ho:aX e.2.2.2) :
  (iQ (pQ done e.2.1 e.2.2.1).1 e.2.2.2=((0,0),4)/\lJ (done++[e]) e.2.1=((0,0),4)) \/
  ((iQ (pQ done e.2.1 e.2.2.1).1 e.2.2.2).2=0/\aX (iQ (pQ done e.2.1 e.2.2.1).1 e.2.2.2).1/\pQ (done++[e]) e.2.1 e.2.2.1=iQ (pQ done e.2.1 e.2.2.1).1 e.2.2.2 /\
   (∀ m,Top (fun p=>(pQ (done++[e]) e.2.1 p).1) (fun p=>p∈prs (done++[e]) e.2.1) m->lJ (done++[e]) e.2.1=iQ (lX done e.2.1).1 m)/\∃ m,Top (fun p=>(pQ (done++[e]) e.2.1 p).1) (fun p=>p∈prs (done++[e]) e.2.1) m):=by
 have ha:=bcX h he;have h1:lX (done++[e]) e.2.1=lX done e.2.1:=pO fun c=>by omega
 have h2:prs (done++[e]) e.2.1=prs done e.2.1++[e.2.2.1]:=by rw[nB,zQ ⟨rfl,he⟩]
 have h3:∀ p,p≠e.2.2.1->pQ (done++[e]) e.2.1 p=pQ done e.2.1 p:=fun p hp=>tM fun c=>hp c.2.2.symm;rcases rM (h.prt e.2.1 e.2.2.1).2 ho with⟨h4,h5,_,_⟩|h4
 ·right
  rw[zQ h4] at ha
  have hok:∀ p,(pQ (done++[e]) e.2.1 p).2=0/\aX (pQ (done++[e]) e.2.1 p).1:=fun p=>by
   by_cases hp:p=e.2.2.1
   ·rw[hp,ha];exact⟨h4,h5⟩
   ·rw[h3 p hp];exact h.prt _ _
  have ht:=bbJ (f:=pQ (done++[e]) e.2.1) (prs (done++[e]) e.2.1) (aaJ _) (fun p _=>hok p);have ht2:Top (fun p=>(pQ (done++[e]) e.2.1 p).1) (fun p=>p∈prs (done++[e]) e.2.1) (qU (pQ (done++[e]) e.2.1) mZ (prs (done++[e]) e.2.1)).1:=ht.2.congr (by simp) (fun _ _=>rfl);refine⟨h4,h5,ha,fun m hm=>?_,_,ht2⟩;rw[bcQ (by rw[h1];exact(h.all _).1) ht.1,h1,hm.uniq ht2]
 ·left
  refine⟨h4,?_⟩
  have hb:qU (pQ (done++[e]) e.2.1) mZ (prs (done++[e]) e.2.1)=((0,0),4):=by
   rw[h4] at ha;refine drJ _ (by decide) (fun p _=>?_) ⟨e.2.2.1,by rw[h2];simp,by rw[ha];simp⟩;by_cases hp:p=e.2.2.1
   ·right;rw[hp,ha];simp
   ·left;rw[h3 p hp];exact(h.prt _ _).1
  unfold lJ;rw[h1,zQ (h.all _).1,hb];simp
theorem pB {done:List En}{e:En}(h:fX done e=0):mJ e=0/\done.length<4096:=by
 unfold fX at h;by_cases c1:mJ e≠0
 ·rw[zQ c1] at h;exact absurd h c1
 rw[xQ c1] at h;by_cases c2:4096<=done.length
 ·rw[zQ c2] at h;omega
 ·exact⟨by omega,by omega⟩
theorem bcJ {done:List En}{e:En}(h:fX done e=0):mJ e=0/\done.length<4096/\((e.1=1/\sX done e.2.1=none/\(eY done).length<64) \/
  (e.1≠1/\∃ b,sX done e.2.1=some b/\(e.1=3->0<=e.2.2.1/\e.2.2.1<=1073741824/\(vJ (done++[e]) e.2.1).length<=64)/\(lJ (done++[e]) e.2.1).2=0/\bZ (lJ (done++[e]) e.2.1).1 b)):=by
 obtain⟨h1,h2⟩:=pB h;refine⟨h1,h2,?_⟩;unfold fX at h;rw[xQ (by omega),xQ (by omega)] at h;cases hb:sX done e.2.1 with
 | none =>
  left;simp only[hb] at h;by_cases c:e.1=1
  ·rw[zQ c] at h
   by_cases c2:64<=(eY done).length
   ·rw[zQ c2] at h;omega
   ·exact⟨c,rfl,by omega⟩
  ·rw[xQ c] at h;omega
 | some b =>
  right;simp only[hb] at h;by_cases c:e.1=1
  ·rw[zQ c] at h;omega
  rw[xQ c] at h;by_cases c1:e.1=3/\(e.2.2.1<0\/1073741824<e.2.2.1)
  ·rw[zQ c1] at h;omega
  rw[xQ c1] at h;by_cases c2:e.1=3/\64<(vJ (done++[e]) e.2.1).length
  ·rw[zQ c2] at h;omega
  rw[xQ c2] at h;by_cases c3:(lJ (done++[e]) e.2.1).2≠0
  ·rw[zQ c3] at h;exact absurd h c3
  rw[xQ c3] at h;by_cases c4:bZ (lJ (done++[e]) e.2.1).1 b
  ·exact⟨c,b,rfl,fun h3=>⟨by omega,by omega,by omega⟩,by omega,c4⟩
  ·rw[xQ c4] at h;omega
theorem dtX {done:List En}(h:Inv done){e:En}(hd:fX done e=0)(hn:nrm e=e):Inv (done++[e]):=by
 obtain⟨h1,h2,h3⟩:=bcJ hd;obtain⟨b1,b2,b3,b4⟩:=oH h1;have hbud:∀ n b,sX done n=some b->sX (done++[e]) n=some b:=fun n b hb=>by rw[sM,hb];rfl
 have hbude:∃ b,sX (done++[e]) e.2.1=some b:=by
  rcases h3 with⟨h4,h5,_⟩|⟨_,b,h5,_⟩
  ·rw[sM,h5,zQ ⟨h4,rfl⟩];exact⟨_,rfl⟩
  ·exact⟨b,hbud _ _ h5⟩
 have hall:∀ n,(lX (done++[e]) n).2=0/\aX (lX (done++[e]) n).1:=fun n=>by
  by_cases c:e.2.1=n/\e.1=2
  ·obtain⟨rfl,c2⟩:=c
   rcases abZ h c2 b4 with⟨_,h6⟩|⟨h5,h6,h7,_⟩
   ·rcases h3 with⟨h4,_⟩|⟨_,b,_,_,h7,_⟩
    ·omega
    ·rw[h6] at h7;simp at h7
   ·rw[h7];exact⟨h5,h6⟩
  ·rw[pO c];exact h.all n
 have hprt:∀ n p,(pQ (done++[e]) n p).2=0/\aX (pQ (done++[e]) n p).1:=fun n p=>by
  by_cases c:e.2.1=n/\e.1=3/\e.2.2.1=p
  ·obtain⟨rfl,c2,rfl⟩:=c
   rcases abJ h c2 b4 with⟨_,h6⟩|⟨h5,h6,h7,_⟩
   ·rcases h3 with⟨h4,_⟩|⟨_,b,_,_,h7,_⟩
    ·omega
    ·rw[h6] at h7;simp at h7
   ·rw[h7];exact⟨h5,h6⟩
  ·rw[tM c];exact h.prt n p
 have hsp:∀ n,e.2.1=n->e.1≠1->(lJ (done++[e]) n).2=0/\∀ b,sX (done++[e]) n=some b->bZ (lJ (done++[e]) n).1 b:=fun n hn1 hn2=>by
  subst hn1;rcases h3 with⟨h4,_⟩|⟨_,b,h5,_,h7,h8⟩
  ·exact absurd h4 hn2
  ·refine⟨h7,fun b' hb'=>?_⟩
   rw[hbud _ _ h5] at hb';simp only[xX] at hb';exact hb'▸h8
 refine⟨by simp;omega,fun x hx=>?_,hall,hprt,fun n=>?_,fun n b hb=>?_,?_,?_,fun n=>?_⟩
 ·rw[gV] at hx
  rcases hx with hx|hx
  ·obtain⟨k1,k2,k3,b,k4⟩:=h.bad x hx
   exact⟨k1,k2,k3,b,hbud _ _ k4⟩
  ·simp only[fP] at hx
   subst hx;refine⟨h1,hn,fun c=>?_,hbude⟩;rcases h3 with⟨h4,_⟩|⟨_,b,_,h6,_⟩
   ·omega
   ·exact⟨(h6 c).1,(h6 c).2.1⟩
 ·by_cases c:e.2.1=n/\(e.1=2\/e.1=3)
  ·exact(hsp n c.1 (by omega)).1
  ·rw[bcZ c];exact h.ok n
 ·by_cases c:e.2.1=n/\(e.1=2\/e.1=3)
  ·exact(hsp n c.1 (by omega)).2 b hb
  ·rw[bcZ c]
   rw[sM] at hb;cases hb0:sX done n with
   | some b0 =>
    rw[hb0] at hb;simp only[Option.some_or,xX] at hb;exact hb▸h.le n b0 hb0
   | none =>
    rw[hb0] at hb
    have hz:prs done n=[]:=by
     unfold prs;rw[oE,pE];intro x hx;simp only[qY];rintro⟨k1,_⟩;obtain⟨_,_,_,b',k4⟩:=h.bad x hx;rw[k1,hb0] at k4;cases k4
    have hy:lss done n 2 0=[]:=by
     unfold lss;rw[oE,pE];intro x hx;simp only[mI,qY];rintro⟨k1,_⟩;obtain⟨_,_,_,b',k4⟩:=h.bad x hx;rw[k1,hb0] at k4;cases k4
    by_cases c2:e.1=1/\e.2.1=n
    ·rw[zQ c2] at hb
     simp only[Option.none_or,xX] at hb;subst hb
     have:lJ done n=(mZ,0):=by
      simp[lJ,lX,hz,hy,lD,qU,baJ]
     rw[this];exact aaQ b4
    ·rw[xQ c2] at hb;simp at hb
 ·rw[abQ]
  by_cases c:e.1=1
  ·rw[zQ c]
   rcases h3 with⟨_,_,h6⟩|⟨h4,_⟩
   ·simp;omega
   ·exact absurd c h4
  ·rw[xQ c];simpa using h.ops
 ·rw[abQ]
  by_cases c:e.1=1
  ·rw[zQ c]
   rcases h3 with⟨_,h5,_⟩|⟨h4,_⟩
   ·rw[List.nodup_append]
    refine⟨h.nod,by simp,fun a ha b hb=>?_⟩;simp only[fP] at hb;subst hb;exact fun e'=>(lR done e.2.1).1 h5 (e'▸ha)
   ·exact absurd c h4
  ·rw[xQ c];simpa using h.nod
 ·by_cases c:e.2.1=n/\e.1=3
  ·obtain⟨rfl,c2⟩:=c
   rcases h3 with⟨h4,_⟩|⟨_,b,_,h6,_⟩
   ·omega
   ·exact(h6 c2).2.2
  ·rw[abX,xQ (fun k=>c ⟨k.1,k.2.1⟩)];exact h.par n
def fA (n:Nat):Int:=if n<9223372036854775808 then (n:Int) else (n:Int) - 18446744073709551616
def oG (x:Int):Nat:=(x % 18446744073709551616).toNat
theorem acQ {n:Nat}(h:n<18446744073709551616):oG (fA n)=n:=by
 unfold oG fA;split <;> omega
theorem bdQ {α:Type}{P:List α->Prop}(h0:P [])(h1:∀ l b,P l->P (l++[b]))(l:List α):P l:=by
 rw[<-List.reverse_reverse l]
 induction l.reverse with
 | nil=>exact h0
 | cons a r ih=>rw[List.reverse_cons];exact h1 _ _ ih
def kV (l:List Nat):Nat:=l.foldl (fun n b=>n*256+b) 0
theorem bdX (l:List Nat)(b:Nat):kV (l++[b])=kV l*256+b:=by simp[kV]
theorem rB :(∀ b∈l,b<256)->kV l<256 ^ l.length:=by
 refine bdQ (P:=fun l=>(∀ b∈l,b<256)->kV l<256 ^ l.length) (fun _=>by simp[kV]) (fun l b ih h=>?_) l;have h1:=ih fun x hx=>h x (by simp[hx]);have h2:=h b (by simp);rw[bdX,bJ,vH,Nat.pow_succ];omega
def kU:Nat->Nat->List Nat
 | 0,_=>[]
 | k+1,n=>kU k (n / 256)++[n % 256]
theorem sB (k n:Nat):(kU k n).length=k:=by
 induction k generalizing n with
 | zero=>rfl
 | succ k ih=>simp[kU,ih]
theorem dtZ :(∀ b∈l,b<256)->kU l.length (kV l)=l:=by
 refine bdQ (P:=fun l=>(∀ b∈l,b<256)->kU l.length (kV l)=l) (fun _=>rfl) (fun l b ih h=>?_) l;have h1:=ih fun x hx=>h x (by simp[hx]);have h2:=h b (by simp);rw[bdX,bJ,vH];simp only[kU];rw[show(kV l*256+b) / 256=kV l by omega,show(kV l*256+b) % 256=b by omega,h1]
theorem dtJ (k n:Nat):∀ b∈kU k n,b<256:=by
 induction k generalizing n with
 | zero=>simp[kU]
 | succ k ih =>
  intro b hb;simp only[kU,gV,fP] at hb;rcases hb with hb|rfl
  ·exact ih _ b hb
  ·omega
def octs (s:List Nat) (w:Nat):List Nat:=(List.range 8).map fun i=>s.getD (8*w+i) 0
def tV (s:List Nat):List Int:=(List.range 4).map fun w=>fA (kV (octs s w))
def gA (l:List Int):List Nat:=l.flatMap fun x=>(kU 8 (oG x)).filter (·≠0)
theorem nR (s:List Nat):(tV s).length=4:=by simp[tV]
theorem tB (h:∀ b∈s,b<256)(w:Nat):∀ b∈octs s w,b<256:=by
 intro b hb;obtain⟨i,_,rfl⟩:=wX.1 hb;rw[List.getD];cases e:s[8*w+i]? with
 | none=>simp
 | some x=>simpa using h x (rQ e)
theorem duQ (s:List Nat)(k n:Nat):((List.range n).map fun i=>s.getD (k+i) 0).filter (·≠0)=((s.drop k).take n).filter (·≠0):=by
 induction n with
 | zero=>simp
 | succ n ih =>
  rw[List.range_succ,vY,pS,ih,gZ,pS];congr 1;rw[zK];cases e:s[k+n]? with
  | none=>simp[List.getD,e]
  | some x=>simp[List.getD,e]
theorem duX (hl:s.length<=32)(h:∀ b∈s,b<256)(h0:∀ b∈s,b≠0):gA (tV s)=s:=by
 have one:∀ w,(kU 8 (oG (fA (kV (octs s w))))).filter (·≠0)=((s.drop (8*w)).take 8).filter (·≠0):=by
  intro w;have hlt:=tB h w;have h8:(octs s w).length=8:=by simp[octs]
  have hb:=rB hlt;rw[h8] at hb;rw[acQ (by simpa using hb)];have:=dtZ hlt;rw[h8] at this;rw[this];exact duQ s (8*w) 8
 have nz:∀ k n,((s.drop k).take n).filter (·≠0)=(s.drop k).take n:=by
  intro k n;refine List.filter_eq_self.2 fun b hb=>?_;simpa using h0 b (wC (jH hb))
 unfold gA tV;rw[List.flatMap_map]
 have:(fun w=>(kU 8 (oG (fA (kV (octs s w))))).filter (·≠0))=fun w=>(s.drop (8*w)).take 8:=by
  funext w;rw[one,nz]
 show(List.range 4).flatMap (fun w=>(kU 8 (oG (fA (kV (octs s w))))).filter (·≠0))=s;rw[this];have e:List.range 4=[0,1,2,3]:=rfl;rw[e];simp only[cN,List.flatMap_nil,yU]
 have key:∀ (k n:Nat),s.drop k=(s.drop k).take n++s.drop (k+n):=fun k n=>by
  rw[<-List.drop_drop,oS]
 have h32:s.drop 32=[]:=fY hl
 conv=>rhs;rw[<-bP (l:=s),key 0 8,key (0+8) 8,key (0+8+8) 8,key (0+8+8+8) 8]
 rw[show 0+8+8+8+8=32 from rfl,h32];simp
def pG (n:ByteArray):List Nat:=n.data.toList.map UInt8.toNat
def nD (l:List Nat):ByteArray:=⟨(l.map UInt8.ofNat).toArray⟩
theorem duZ (n:ByteArray):nD (pG n)=n:=by
 unfold nD pG;rw[List.map_map]
 have:(UInt8.ofNat ∘ UInt8.toNat)=id:=by funext b;simp
 rw[this,List.map_id]
theorem wB (n:ByteArray):∀ b∈pG n,b<256:=by
 intro b hb;obtain⟨x,_,rfl⟩:=wX.1 hb;exact UInt8.toNat_lt x
def fJ (e:En):List Int:=[1,e.1,e.2.2.1,e.2.2.2.1,e.2.2.2.2]++tV (pG e.2.1)
def kL (r:List Int):En:=(r.getD 1 0,nD (gA (r.drop 5)),r.getD 2 0,r.getD 3 0,r.getD 4 0)
theorem oR (e:En):(fJ e).length=9:=by simp[fJ,nR]
theorem duJ (e:En)(hn:yV e.2.1.data.toList=true):kL (fJ e)=e:=by
 have h1:gA (tV (pG e.2.1))=pG e.2.1:=by
  unfold yV at hn;simp only[jK,qY] at hn;refine duX ?_ (wB _) ?_
  ·simp only[pG,wU];omega
  ·intro b hb
   obtain⟨x,hx,rfl⟩:=wX.1 hb;have:=jM.1 hn.2 x hx;intro h0;have hx0:x=0:=UInt8.toNat_inj.1 (by simpa using h0);subst hx0;revert this;decide
 show(e.1,nD (gA (tV (pG e.2.1))),e.2.2.1,e.2.2.2.1,e.2.2.2.2)=e;rw[h1,duZ]
def rcd (disk:List Int) (i:Nat):List Int:=(disk.drop (9*i)).take 9
def aG (disk:List Int) (done:List En) (i:Nat):Prop:=9*i+9<=disk.length/\(rcd disk i).getD 0 0=1/\fJ (kL (rcd disk i))=rcd disk i/\fX done (nrm (kL (rcd disk i)))=0
inductive Rds (disk:List Int):Nat->List En->Prop
 | nil:Rds disk 0 []
 | more {n:Nat} {done:List En}:Rds disk n done->aG disk done n->Rds disk (n+1) (done++[nrm (kL (rcd disk n))])
def rG (disk:List Int) (done:List En):Prop:=Rds disk done.length done/\¬ aG disk done done.length
theorem Rds.uniq {n:Nat}{a b:List En}(h:Rds disk n a)(k:Rds disk n b):a=b:=by
 induction h generalizing b with
 | nil=>cases k;rfl
 | more h1 _ ih =>
  cases k with
  | more k1 _=>rw[ih k1]
theorem Rds.pre {n:Nat}{a:List En}(h:Rds disk n a):∀ {m:Nat},m<n->∃ b,Rds disk m b/\aG disk b m:=by
 induction h with
 | nil=>intro m hm;omega
 | @more n done h1 h2 ih =>
  intro m hm;rcases Nat.lt_or_ge m n with c|c
  ·exact ih c
  ·obtain rfl:m=n:=by omega
   exact⟨done,h1,h2⟩
theorem rG.uniq {a b:List En}(h:rG disk a)(k:rG disk b):a=b:=by
 rcases Nat.lt_trichotomy a.length b.length with c|c|c
 ·obtain⟨x,hx,hc⟩:=k.1.pre c
  rw[<-h.1.uniq hx] at hc;exact absurd hc h.2
 ·exact h.1.uniq (c▸k.1)
 ·obtain⟨x,hx,hc⟩:=h.1.pre c
  rw[<-k.1.uniq hx] at hc;exact absurd hc k.2
theorem Rds.keep {n:Nat}{done:List En}(h:Rds disk n done)(hl:disk'.length=disk.length)(he:∀ i,i<n->rcd disk' i=rcd disk i):Rds disk' n done:=by
 induction h with
 | nil=>exact .nil
 | @more n done _ h2 ih =>
  have e:=he n (by omega);have h3:=ih fun i hi=>he i (by omega);have h4:aG disk' done n:=by unfold aG at *;rw[e,hl];exact h2
  have:=Rds.more h3 h4;rw[e] at this;exact this
def jZ:List Int->Int->List (Nat × Int)->List Int × Int × Bool
 | disk,left,[]=>(disk,left,true)
 | disk,left,(a,x)::r=>if left=0 then (disk,0,false) else jZ (disk.set a x) (if 0<left then left - 1 else left) r
def xV (disk:List Int) (ws:List (Nat × Int)):List Int:=ws.foldl (fun d p=>d.set p.1 p.2) disk
theorem nI (disk:List Int)(ws:List (Nat × Int)):(xV disk ws).length=disk.length:=by
 induction ws generalizing disk with
 | nil=>rfl
 | cons p ws ih=>unfold xV at *;rw[List.foldl_cons,ih];simp
theorem dvQ (disk:List Int)(a b:List (Nat × Int)):xV disk (a++b)=xV (xV disk a) b:=by simp[xV]
theorem acX {left:Int}(h:jZ disk left ws=(disk',left',ok)) :
  ∃ m,m<=ws.length/\disk' = xV disk (ws.take m)/\(ok=true->m=ws.length)/\(ok=false->m<ws.length):=by
 induction ws generalizing disk left with
 | nil =>
  simp only[jZ,dQ] at h;exact⟨0,vQ _,by simp[xV,h.1],fun _=>rfl,fun e=>by rw[<-h.2.2] at e;cases e⟩
 | cons p ws ih =>
  obtain⟨a,x⟩:=p;simp only[jZ] at h;by_cases c:left=0
  ·rw[zQ c] at h
   simp only[dQ] at h;exact⟨0,kQ _,by simp[xV,h.1],(fun e=>by rw[<-h.2.2] at e;cases e),fun _=>by simp⟩
  ·rw[xQ c] at h
   obtain⟨m,h1,h2,h3,h4⟩:=ih h;refine⟨m+1,by simpa using h1,by rw[h2];simp[xV],fun e=>by rw[h3 e];rfl,fun e=>?_⟩;have:=h4 e;simp;omega
theorem bdZ (disk:List Int)(ws:List (Nat × Int))(j:Nat)(h:∀ p∈ws,p.1≠j):(xV disk ws)[j]? = disk[j]?:=by
 induction ws generalizing disk with
 | nil=>rfl
 | cons p ws ih =>
  unfold xV at *
  rw[List.foldl_cons,ih _ fun q hq=>h q (by simp[hq]),xF (h p (by simp))]
theorem dvX (h:∀ j,9*i<=j->j<9*i+9->d'[j]? = d[j]?):rcd d' i=rcd d i:=by
 apply cP;intro j;unfold rcd;rw[qL,qL];by_cases c:j<9
 ·rw[zQ c,zQ c,zK,zK]
  exact h (9*i+j) (by omega) (by omega)
 ·rw[xQ c,xQ c]
theorem wM :(rcd d i).getD 0 0=d.getD (9*i) 0:=by
 unfold rcd;simp[List.getD,zK]
def wrs (n:Nat) (e:En):List (Nat × Int):=(9*n,0)::((List.range 8).map (fun j=>(9*n+(j+1),(fJ e).getD (j+1) 0))++[(9*n,1)])
theorem qC (n:Nat)(e:En):(wrs n e).length=10:=by simp[wrs]
theorem dvZ {n:Nat}{e:En}:∀ p∈wrs n e,9*n<=p.1/\p.1<9*n+9:=by
 intro p hp;simp only[wrs,eX,gV,wX,zH,zF,jF] at hp;rcases hp with rfl|⟨j,hj,rfl⟩|rfl
 ·simp
 ·simp;omega
 ·simp
theorem xC {n:Nat}{e:En}(h:i≠n):rcd (xV disk ((wrs n e).take m)) i=rcd disk i:=by
 refine dvX fun j h1 h2=>bdZ _ _ _ fun p hp=>?_;have:=dvZ p (jH hp);omega
theorem bdJ {n:Nat}{e:En}(hl:9*n<disk.length)(h1:1<=m)(h2:m<10):(xV disk ((wrs n e).take m)).getD (9*n) 0=0:=by
 obtain⟨k,rfl⟩:∃ k,m=k+1:=⟨m - 1,by omega⟩
 have e1:(wrs n e).take (k+1)=(9*n,0)::((List.range 8).map (fun j=>(9*n+(j+1),(fJ e).getD (j+1) 0))).take k:=by
  unfold wrs;rw[List.take_succ_cons,List.take_append_of_le_length (by simp;omega)]
 rw[e1];have e2:xV disk ((9*n,0)::((List.range 8).map (fun j=>(9*n+(j+1),(fJ e).getD (j+1) 0))).take k)=xV (disk.set (9*n) 0) (((List.range 8).map (fun j=>(9*n+(j+1),(fJ e).getD (j+1) 0))).take k):=by simp[xV]
 rw[e2,List.getD,bdZ]
 ·rw[fG hl];rfl
 ·intro p hp
  obtain⟨j,_,rfl⟩:=wX.1 (jH hp);simp
theorem beQ (disk:List Int)(a:Nat)(f:Nat->Int):∀ k,a+k<=disk.length->∀ j,j<k->(xV disk ((List.range k).map fun i=>(a+i,f i)))[a+j]? = some (f j)
 | 0,_,j,hj=>by omega
 | k+1,hl,j,hj=>by
  rw[List.range_succ,vY,dvQ];simp only[fV,dP];have e:∀ d:List Int,xV d [(a+k,f k)]=d.set (a+k) (f k):=fun d=>rfl;rw[e];by_cases c:j=k
  ·subst c
   rw[fG (by rw[nI];omega)]
  ·rw[xF (by omega)]
   exact beQ disk a f k (by omega) j (by omega)
theorem dvJ {n:Nat}{e:En}(hl:9*n+9<=disk.length):rcd (xV disk (wrs n e)) n=fJ e:=by
 have e1:xV disk (wrs n e)=(xV (disk.set (9*n) 0) ((List.range 8).map (fun j=>(9*n+1+j,(fJ e).getD (j+1) 0)))).set (9*n) 1:=by
  have e0:((List.range 8).map fun j=>(9*n+(j+1),(fJ e).getD (j+1) 0))=(List.range 8).map fun j=>(9*n+1+j,(fJ e).getD (j+1) 0):=yE fun j _=>by rw[show 9*n+(j+1)=9*n+1+j by omega]
  unfold wrs;rw[e0];simp[xV]
 rw[e1];apply cP;intro j;unfold rcd;rw[qL];by_cases c:j<9
 ·rw[zQ c,zK]
  by_cases c0:j=0
  ·subst c0
   rw[show 9*n+0=9*n from rfl,fG (by rw[nI,fN];omega)];rfl
  ·rw[xF (by omega),show 9*n+j=9*n+1+(j - 1) by omega]
   rw[beQ (disk.set (9*n) 0) (9*n+1) (fun j=>(fJ e).getD (j+1) 0) 8 (by simp;omega) (j - 1) (by omega)]
   show some ((fJ e).getD (j - 1+1) 0)=(fJ e)[j]?
   rw[show j - 1+1=j by omega,List.getD,iJ (by rw[oR];exact c)];rfl
 ·rw[xQ c,rS (by rw[oR];omega)]
def Hz (disk:List Int) (n:Nat):Prop:=∀ i,n<=i->9*i+9<=disk.length->disk.getD (9*i) 0≠1
theorem beX (k:Nat):Hz (List.replicate k 0) 0:=by
 intro i _ _;rw[List.getD,List.getElem?_replicate];split <;> simp
theorem beZ (k:Nat):rG (List.replicate k 0) []:=by
 refine⟨.nil,fun h=>?_⟩;have h1:=beX k 0 (vQ _) h.1;rw[<-wM] at h1;exact h1 h.2.1
theorem dwQ {n:Nat}{e:En}(h:Hz disk n)(hl:9*n+9<=disk.length)(hm:m<10):Hz (xV disk ((wrs n e).take m)) n:=by
 intro i hi hli;rw[nI] at hli;by_cases c:i=n
 ·subst c
  by_cases c0:m=0
  ·subst c0;exact h i hi hli
  ·rw[bdJ (by omega) (by omega) hm];decide
 ·rw[<-wM,xC c,wM]
  exact h i hi hli
theorem beJ {n:Nat}{e:En}(h:Hz disk n):Hz (xV disk (wrs n e)) (n+1):=by
 intro i hi hli;rw[nI] at hli;have:=xC (disk:=disk) (n:=n) (i:=i) (m:=10) (e:=e) (by omega);rw[pJ (by rw[qC];exact vQ _)] at this;rw[<-wM,this,wM];exact h i (by omega) hli
theorem dwX {done:List En}{e:En}(h:rG disk done)(hl:9*done.length+9<=disk.length)(hm:m<10):rG (xV disk ((wrs done.length e).take m)) done:=by
 by_cases c0:m=0
 ·subst c0;exact h
 ·refine⟨h.1.keep (nI _ _) fun i hi=>xC (by omega),fun hc=>?_⟩
  have h1:=hc.2.1;rw[wM,bdJ (by omega) (by omega) hm] at h1;exact absurd h1 (by decide)
theorem dwZ {done:List En}{e:En}(h:rG disk done)(hz:Hz disk done.length)(hl:9*done.length+9<=disk.length)(hd:fX done (nrm e)=0):rG (xV disk (wrs done.length (nrm e))) (done++[nrm e]):=by
 have hb:mJ (nrm e)=0:=by
  unfold fX at hd;by_cases c:mJ (nrm e)=0
  ·exact c
  ·rw[zQ c] at hd;exact absurd hd c
 have hn:yV (nrm e).2.1.data.toList=true:=by
  unfold mJ at hb;split at hb
  ·cases hb
  ·split at hb
   ·rename_i h1;exact h1.1
   ·cases hb
 have hr:=dvJ (e:=nrm e) hl;have ht:=duJ (nrm e) hn
 have hk:Rds (xV disk (wrs done.length (nrm e))) done.length done:=h.1.keep (nI _ _) fun i hi=>by
  have:=xC (disk:=disk) (n:=done.length) (i:=i) (m:=10) (e:=nrm e) (by omega);rw[pJ (by rw[qC];exact vQ _)] at this;exact this
 have hc:aG (xV disk (wrs done.length (nrm e))) done done.length:=by
  refine⟨by rw[nI];exact hl,by rw[hr];rfl,by rw[hr,ht],by rw[hr,ht,aaZ];exact hd⟩
 have hm:=Rds.more hk hc;rw[hr,ht,aaZ] at hm;refine⟨by simpa using hm,fun hx=>?_⟩;rw[bJ,vH] at hx;have h1:=beJ (e:=nrm e) hz (done.length+1) (vQ _) hx.1;rw[<-wM] at h1;exact h1 hx.2.1
end K.P
end Go.Proofs.YtpmioeamdhdokaaGreat

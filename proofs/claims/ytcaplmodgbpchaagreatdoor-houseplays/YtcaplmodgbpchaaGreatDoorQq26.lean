import Derived.Test.YtcaplmodgbpchaaGreatDoorQq19
import Derived.Test.YtcaplmodgbpchaaGreatDoorQq04
import Derived.Test.YtcaplmodgbpchaaGreatDoorQq02
import Derived.Test.YtcaplmodgbpchaaGreatDoorQq05
import Derived.Maps.Own
import Derived.Maps.OwnOps
import Derived.Maps.OwnSet
import Derived.Maps.Views
import Derived.Laws.StructEq
open Go.Proofs.Tryz
open Go.Value(int)
open Go.IntKind(i64)
set_option linter.unusedSimpArgs false
set_option maxHeartbeats 16000000
set_option maxRecDepth 100000
namespace Go.Proofs.YtcaplmodgbpchaaGreatDoor
variable {a b w w' wr:World} {B E R base i nb size:Nat} {v x y:Value} {xs:List Int} {e:TypeId} {n:ByteArray} {c p z:Int} {P Q:Int->Prop} {r:Option Nat}
namespace K
open Go.RowKit K.Ds
theorem yQ.at2 (h:yQ w w.heap.size nb v xs)(a:xQ w w'):yQ w' w'.heap.size nb v xs:=(h.keep a).mono a.size (.inl rfl)
theorem xJ {n:Nat}{xs:List Value}(h:w.ownsRow base e size v n xs):∀ k,v.ownBlock=some k->base<=k:=by
 intro k a;obtain⟨_,⟨rfl,_⟩|⟨g,cap,cur,rfl,i,_⟩⟩:=h
 ·simp[Value.ownBlock] at a
 ·simp[Value.ownBlock] at a;omega
theorem zP {w:World}{base nb:Nat}{v:Value}{xs:List Int}{n:Nat}(o:n=xs.length)(l:xs.length<=9223372036854775807)(h:w.ownsRow base 3 1 v n (xs.map (int i64)))(p:nb<base):yQ w w.heap.size nb v xs:=by
 subst o;obtain⟨_,⟨j,A⟩|⟨g,cap,cur,j,B,a,hc,_,y,z⟩⟩:=h
 ·obtain rfl:xs=[]:=by cases xs <;> simp_all
  exact⟨none,0,j,vQ _,l,fun h=>absurd rfl h⟩
 ·refine⟨_,cap,j,hc,l,fun _=>⟨g,0,rfl,(mY.1 a).1,by omega,fun i x hi=>?_⟩⟩
  have m:i<xs.length:=(fQ.1 hi).1
  have:cur[i]? = some (int i64 x):=by
   have k:(xs.map (Value.int .i64))[i]? = some (int i64 x):=by simp[hi]
   rw[<-z,oG (by omega)] at k;simpa using k
  simp[World.cell?,a,this]
end K
namespace K.P
open K.Ds
abbrev Rq:=Int × Int
abbrev En:=Int × ByteArray × Int × Int × Int
def oQ (a b:Rq):Rq × Int:=(((Rt.eG a.1 a.2 b.1 b.2).1,(Rt.eG a.1 a.2 b.1 b.2).2.1),(Rt.eG a.1 a.2 b.1 b.2).2.2)
theorem asZ {a b d n m e:Int}(h:Rt.eG a b c d=(n,m,e)):oQ (a,b) (c,d)=((n,m),e):=by unfold oQ;simp[h]
theorem eN (a b:Rq):Rt.eG a.1 a.2 b.1 b.2=((oQ a b).1.1,(oQ a b).1.2,(oQ a b).2):=rfl
def pQ (r:Rq):Prop:=Rt.rQ r.1 r.2=true/\r.2<=r.1
def rq (q:Rat):Rq:=(q.num,(q.den:Int))
theorem pQ.rat {r:Rq}(h:pQ r):∃ q:Rat,r=rq q/\Rt.Ok q/\1<=q:=by
 obtain⟨q,a,g,j⟩:=Rt.ceQ h.1;refine⟨q,by unfold rq;rw[a,g],j,?_⟩;have i:=h.2;rw[<-a,<-g] at i;rw[Rat.le_iff];simpa using i
theorem cfQ {q:Rat}(h:Rt.Ok q)(a:1<=q):pQ (rq q):=⟨Rt.xE q h,by rw[Rat.le_iff] at a;simpa [rq] using a⟩
def pX:Rq:=(1,1)
theorem sK:pQ pX:=⟨by decide,by decide⟩
theorem asJ:rq 1=pX:=rfl
def sX (a b:Rq):Prop:=a.1*b.2<=b.1*a.2
instance (a b:Rq):Decidable (sX a b):=inferInstanceAs (Decidable (_<=_))
theorem fN (x y:Rat):sX (rq x) (rq y)↔x<=y:=by unfold sX rq;rw[Rat.le_iff]
theorem nS {x y:Rat}(g:1<=x)(i:1<=y):1<=x*y/\x<=x*y:=by
 have h:(0:Rat)<=x:=Rat.le_trans (by decide) g;have a:x*1<=x*y:=Rat.mul_le_mul_of_nonneg_left i h;rw[Rat.mul_one] at a;exact⟨Rat.le_trans g a,a⟩
theorem atQ {x y:Rat}(k:Rt.Ok x)(l:Rt.Ok y)(g:1<=x)(i:1<=y):(Rt.Ok (x*y)/\oQ (rq x) (rq y)=(rq (x*y),0))\/(¬ Rt.Ok (x*y)/\oQ (rq x) (rq y)=((0,0),4)):=by
 have a:=Rt.ceJ x y k l;have j:(0:Rat)<=x*y:=Rat.le_trans (by decide) (nS g i).1;have m:0<=(x*y).num:=Rat.num_nonneg.2 j;by_cases h:Rt.Ok (x*y)
 ·left;refine⟨h,?_⟩
  rw[Rt.ceX _ h] at a;exact asZ a
 ·right;refine⟨h,?_⟩
  have:Rt.tell (x*y)=(0,0,4):=by
   unfold Rt.tell;rw[zQ (by omega),jQ];unfold Rt.Ok at h;omega
  rw[this] at a;exact asZ a
theorem atX:oQ pX pX=(pX,0):=by
 have a:Rt.Ok 1:=⟨by decide,by decide,by decide⟩;rcases atQ a a Rat.le_refl Rat.le_refl with⟨_,e⟩|⟨h,_⟩
 ·rw[Rat.mul_one,asJ] at e;exact e
 ·rw[Rat.mul_one] at h;exact absurd a h
theorem rI {a b:Rq}(ha:pQ a)(j:pQ b):((oQ a b).2=0/\pQ (oQ a b).1/\sX a (oQ a b).1/\sX b (oQ a b).1)\/oQ a b=((0,0),4):=by
 obtain⟨x,rfl,k,g⟩:=ha.rat;obtain⟨y,rfl,l,i⟩:=j.rat;rcases atQ k l g i with⟨h,e⟩|⟨_,e⟩
 ·left
  rw[e];refine⟨rfl,cfQ h (nS g i).1,(fN _ _).2 (nS g i).2,(fN _ _).2 ?_⟩;rw[Rat.mul_comm];exact(nS i g).2
 ·right;exact e
theorem cfX (a:Rq):sX a a:=iK _
theorem cfZ {a b c:Rq}(ha:pQ a)(i:pQ b)(hc:pQ c)(g:sX a b)(h:sX b c):sX a c:=by
 obtain⟨x,rfl,_,_⟩:=ha.rat;obtain⟨y,rfl,_,_⟩:=i.rat;obtain⟨z,rfl,_,_⟩:=hc.rat;rw[fN] at *
 exact Rat.le_trans g h
theorem atZ {a b:Rq}(ha:pQ a)(i:pQ b)(g:sX a b)(h:sX b a):a=b:=by
 obtain⟨x,rfl,_,_⟩:=ha.rat;obtain⟨y,rfl,_,_⟩:=i.rat;rw[fN] at *
 rw[Rat.le_antisymm g h]
theorem atJ {a b:Rq}(ha:pQ a)(g:pQ b)(h:¬ sX a b):sX b a:=by
 obtain⟨x,rfl,_,_⟩:=ha.rat;obtain⟨y,rfl,_,_⟩:=g.rat;rw[fN] at *
 exact Rat.le_of_lt (Rat.not_le.1 h)
theorem zE {a:Rq}(h:pQ a):sX pX a:=by
 obtain⟨x,rfl,_,g⟩:=h.rat;rw[<-asJ,fN];exact g
def oV (r:Rq):List Rq->Rq × Int
 | []=>(r,0)
 | x::xs=>if (oQ r x).2=0 then oV (oQ r x).1 xs else ((0,0),(oQ r x).2)
theorem jE (r:Rq)(l:List Rq)(x:Rq):oV r (l++[x])=if (oV r l).2=0 then (if (oQ (oV r l).1 x).2=0 then oQ (oV r l).1 x else ((0,0),(oQ (oV r l).1 x).2)) else oV r l:=by
 induction l generalizing r with
 | nil =>
  simp only[List.nil_append,oV];by_cases h:(oQ r x).2=0
  ·simp[h];rw[<-h]
  ·simp[h]
 | cons y l ih =>
  simp only[xF,oV];by_cases h:(oQ r y).2=0
  ·simp only[h,↓reduceIte];exact ih _
  ·simp[h]
def qD (n:ByteArray) (d p:Int) (e:En):Bool:=decide (e.2.1=n/\e.1=d/\(d≠3\/e.2.2.1=p))
def lss (done:List En) (n:ByteArray) (d p:Int):List Rq:=(done.filter (qD n d p)).map (·.2.2.2)
def kX (done:List En) (n:ByteArray):Rq × Int:=oV pX (lss done n 2 0)
def mQ (done:List En) (n:ByteArray) (p:Int):Rq × Int:=oV pX (lss done n 3 p)
def prs (done:List En) (n:ByteArray):List Int:=(done.filter fun e=>decide (e.2.1=n/\e.1=3)).map (·.2.2.1)
def xD (out:List Int):List Int->List Int
 | []=>out
 | p::ps=>if p∈out then xD out ps else xD (out++[p]) ps
def bZ (done:List En) (n:ByteArray):List Int:=xD [] (prs done n)
def oZ (f:Int->Rq × Int) (m:Rq):List Int->Rq × Int
 | []=>(m,0)
 | p::ps=>if (f p).2=0 then oZ f (if sX m (f p).1 then (f p).1 else m) ps else ((0,0),(f p).2)
def cJ (done:List En) (n:ByteArray):Rq × Int :=
 if (kX done n).2=0 then (if (oZ (mQ done n) pX (prs done n)).2=0 then oQ (kX done n).1 (oZ (mQ done n) pX (prs done n)).1 else ((0,0),(oZ (mQ done n) pX (prs done n)).2)) else ((0,0),(kX done n).2)
def iX (done:List En) (n:ByteArray):Option Rq:=(done.find? fun e=>decide (e.1=1/\e.2.1=n)).map (·.2.2.2)
def bY (done:List En):List ByteArray:=(done.filter fun e=>decide (e.1=1)).map (·.2.1)
def mZ (e:En):Int:=if e.1<1\/3<e.1 then 1 else if mJ e.2.1.data.toList=true/\Rt.rQ e.2.2.2.1 e.2.2.2.2=true then (if e.2.2.2.1<e.2.2.2.2 then 3 else 0) else 2
def zZ (done:List En) (e:En):Int :=
 if mZ e≠0 then mZ e else if 4096<=done.length then 4 else
 match iX done e.2.1 with
 | none=>if e.1=1 then (if 64<=(bY done).length then 5 else 0) else 7
 | some b=>if e.1=1 then 7 else
  if e.1=3/\(e.2.2.1<0\/1073741824<e.2.2.1) then 3 else
  if e.1=3/\64<(bZ (done++[e]) e.2.1).length then 5 else
  if (cJ (done++[e]) e.2.1).2≠0 then (cJ (done++[e]) e.2.1).2 else if sX (cJ (done++[e]) e.2.1).1 b then 0 else 10
def nrm (e:En):En:=if e.1=3 then e else (e.1,e.2.1,0,e.2.2.2)
theorem cfJ (e:En):(nrm e).1=e.1:=by unfold nrm;split <;> rfl
theorem vE (e:En):(nrm e).2.1=e.2.1:=by unfold nrm;split <;> rfl
theorem cgQ (e:En):(nrm e).2.2.2=e.2.2.2:=by unfold nrm;split <;> rfl
theorem oS (e:En):nrm (nrm e)=nrm e:=by
 by_cases h:e.1=3
 ·simp[nrm,h]
 ·simp[nrm,h]
def xG (done:List En) (e:En):List En:=if zZ done (nrm e)=0 then done++[nrm e] else done
structure Top (f:Int->Rq) (P:Int->Prop) (m:Rq):Prop where
 ok:pQ m
 oks:∀ p,P p->pQ (f p)
 is:m=pX\/∃ p,P p/\f p=m
 le:∀ p,P p->sX (f p) m
theorem Top.uniq {f:Int->Rq}{a b:Rq}(ha:Top f P a)(g:Top f P b):a=b:=by
 refine atZ ha.ok g.ok ?_ ?_
 ·rcases ha.is with rfl|⟨p,h,rfl⟩
  ·exact zE g.ok
  ·exact g.le p h
 ·rcases g.is with rfl|⟨p,h,rfl⟩
  ·exact zE ha.ok
  ·exact ha.le p h
theorem Top.congr {f g:Int->Rq}{m:Rq}(h:Top f P m)(a:∀ p,P p↔Q p)(i:∀ p,P p->f p=g p):Top g Q m :=
 ⟨h.ok,fun p hp=>i p ((a p).2 hp)▸h.oks p ((a p).2 hp),h.is.imp id fun⟨p,hp,e⟩=>⟨p,(a p).1 hp,by rw[<-i p hp];exact e⟩,fun p hp=>i p ((a p).2 hp)▸h.le p ((a p).2 hp)⟩
theorem yE (f:Int->Rq):Top f (fun _=>False) pX:=⟨sK,fun _ h=>h.elim,.inl rfl,fun _ h=>h.elim⟩
theorem Top.more {f:Int->Rq}{P:Int->Prop}{m:Rq}(h:Top f P m){p:Int}(i:pQ (f p)):Top f (fun q=>P q\/q=p) (if sX m (f p) then f p else m):=by
 have g:∀ q,(P q\/q=p)->pQ (f q):=fun q a=>by
  rcases a with a|rfl
  ·exact h.oks q a
  ·exact i
 by_cases c:sX m (f p)
 ·rw[jQ c]
  refine⟨i,g,.inr ⟨p,.inr rfl,rfl⟩,fun q a=>?_⟩;rcases a with a|rfl
  ·exact cfZ (h.oks q a) h.ok i (h.le q a) c
  ·exact cfX _
 ·rw[zQ c]
  refine⟨h.ok,g,h.is.imp id fun⟨q,a,e⟩=>⟨q,.inl a,e⟩,fun q a=>?_⟩;rcases a with a|rfl
  ·exact h.le q a
  ·exact atJ h.ok i c
theorem cgX {a b:Rq}(ha:pQ a)(g:pQ b):(if sX a b then b else a)=(if sX b a then a else b):=by
 by_cases c:sX a b
 ·by_cases c2:sX b a
  ·rw[jQ c,jQ c2];exact atZ g ha c2 c
  ·rw[jQ c,zQ c2]
 ·rw[zQ c,jQ (atJ ha g c)]
theorem auQ {f:Int->Rq × Int}{m:Rq}(ps:List Int)(h:Top (fun p=>(f p).1) P m)(i:∀ p∈ps,(f p).2=0/\pQ (f p).1) :
  (oZ f m ps).2=0/\Top (fun p=>(f p).1) (fun q=>P q\/q∈ps) (oZ f m ps).1:=by
 induction ps generalizing P m with
 | nil=>exact⟨rfl,h.congr (by simp) (fun _ _=>rfl)⟩
 | cons p ps ih =>
  have a:=i p (bN ..);have g:=ih (h.more (p:=p) a.2) (fun q hq=>i q (qM _ hq));simp only[oZ,a.1,↓reduceIte];refine⟨g.1,g.2.congr (fun q=>?_) (fun _ _=>rfl)⟩;simp only[kJ];constructor
  ·rintro((h|h)|h)
   ·exact .inl h
   ·exact .inr (.inl h)
   ·exact .inr (.inr h)
  ·rintro(h|h|h)
   ·exact .inl (.inl h)
   ·exact .inl (.inr h)
   ·exact .inr h
theorem cgZ {f:Int->Rq × Int}{m:Rq}(ps:List Int)(hc:c≠0)(i:∀ p∈ps,(f p).2=0\/(f p).2=c)(g:∃ p∈ps,(f p).2=c):oZ f m ps=((0,0),c):=by
 induction ps generalizing m with
 | nil=>simp at g
 | cons p ps ih =>
  by_cases h:(f p).2=0
  ·simp only[oZ,h,↓reduceIte]
   refine ih (fun q a=>i q (qM _ a)) ?_;obtain⟨q,a,e⟩:=g;rcases kJ.1 a with rfl|a
   ·exact absurd (h.symm.trans e).symm hc
   ·exact⟨q,a,e⟩
  ·simp only[oZ,h,↓reduceIte]
   rcases i p (bN ..) with e|e
   ·exact absurd e h
   ·rw[e]
theorem jP (done:List En)(e:En)(n:ByteArray)(d p:Int):lss (done++[e]) n d p=lss done n d p++(if qD n d p e=true then [e.2.2.2] else []):=by
 unfold lss;rw[zN,iA];by_cases h:qD n d p e=true <;> simp[h]
theorem vP (done:List En)(e:En)(n:ByteArray):prs (done++[e]) n=prs done n++(if e.2.1=n/\e.1=3 then [e.2.2.1] else []):=by
 unfold prs;rw[zN,iA];by_cases h:e.2.1=n/\e.1=3 <;> simp[h]
theorem yP (done:List En)(e:En):bY (done++[e])=bY done++(if e.1=1 then [e.2.1] else []):=by
 unfold bY;rw[zN,iA];by_cases h:e.1=1 <;> simp[h]
theorem vM (done:List En)(e:En)(n:ByteArray):iX (done++[e]) n=(iX done n).or (if e.1=1/\e.2.1=n then some e.2.2.2 else none):=by
 unfold iX;rw[List.find?_append];by_cases h:e.1=1/\e.2.1=n
 ·cases hf:done.find? (fun e=>decide (e.1=1/\e.2.1=n)) <;> simp[h]
 ·cases hf:done.find? (fun e=>decide (e.1=1/\e.2.1=n)) <;> simp[h]
theorem cgJ (done:List En)(n:ByteArray):iX done n=none↔n ∉ bY done:=by
 unfold iX bY;simp only[Option.map_eq_none_iff,List.find?_eq_none,dJ,iJ,bI,not_exists,not_and,and_imp]
theorem chQ (out l m:List Int):xD out (l++m)=xD (xD out l) m:=by
 induction l generalizing out with
 | nil=>rfl
 | cons p l ih=>simp only[xF,xD];split <;> exact ih _
theorem chX (out l:List Int)(x:Int):x∈xD out l↔x∈out\/x∈l:=by
 induction l generalizing out with
 | nil=>simp[xD]
 | cons p l ih =>
  simp only[xD];split
  ·next h =>
   rw[ih];simp only[kJ];constructor
   ·rintro(h|h) <;> simp[h]
   ·rintro(a|rfl|a)
    ·exact .inl a
    ·exact .inl h
    ·exact .inr a
  ·rw[ih];simp only[aV,kJ,cI,dI,or_assoc]
theorem pS (done:List En)(n:ByteArray)(p:Int):p∈bZ done n↔p∈prs done n:=by unfold bZ;rw[chX];simp
theorem rS (done:List En)(e:En)(n:ByteArray):bZ (done++[e]) n=if e.2.1=n/\e.1=3/\e.2.2.1 ∉ bZ done n then bZ done n++[e.2.2.1] else bZ done n:=by
 unfold bZ;rw[vP,chQ];by_cases h:e.2.1=n/\e.1=3
 ·simp only[h,and_self,↓reduceIte,true_and,xD]
  split <;> simp_all
 ·rw[zQ h,zQ (fun c=>h ⟨c.1,c.2.1⟩)];rfl
structure Inv (done:List En):Prop where
 len:done.length<=4096
 bad:∀ e∈done,mZ e=0/\nrm e=e/\(e.1=3->0<=e.2.2.1/\e.2.2.1<=1073741824)/\∃ b,iX done e.2.1=some b
 all:∀ n,(kX done n).2=0/\pQ (kX done n).1
 prt:∀ n p,(mQ done n p).2=0/\pQ (mQ done n p).1
 ok:∀ n,(cJ done n).2=0
 le:∀ n b,iX done n=some b->sX (cJ done n).1 b
 ops:(bY done).length<=64
 nod:(bY done).Nodup
 par:∀ n,(bZ done n).length<=64
theorem fD {e:En}(h:mZ e=0):1<=e.1/\e.1<=3/\mJ e.2.1.data.toList=true/\pQ e.2.2.2:=by
 unfold mZ at h;by_cases c1:e.1<1\/3<e.1
 ·rw[jQ c1] at h;omega
 rw[zQ c1] at h;by_cases c2:mJ e.2.1.data.toList=true/\Rt.rQ e.2.2.2.1 e.2.2.2.2=true
 ·rw[jQ c2] at h
  by_cases c3:e.2.2.2.1<e.2.2.2.2
  ·rw[jQ c3] at h;omega
  ·exact⟨by omega,by omega,c2.1,c2.2,by omega⟩
 ·rw[zQ c2] at h;omega
theorem uE:Inv []:=by
 refine⟨by simp,by simp,fun n=>⟨rfl,sK⟩,fun n p=>⟨rfl,sK⟩,fun n=>by simp[cJ,kX,lss,prs,oV,oZ,atX],fun n b h=>by simp[iX] at h,by simp[bY],by simp[bY],fun n=>by simp[bZ,prs,xD]⟩
theorem Inv.top {done:List En}(h:Inv done)(n:ByteArray):(oZ (mQ done n) pX (prs done n)).2=0/\Top (fun p=>(mQ done n p).1) (fun p=>p∈prs done n) (oZ (mQ done n) pX (prs done n)).1:=by
 have:=auQ (f:=mQ done n) (prs done n) (yE _) (fun p _=>h.prt n p);exact⟨this.1,this.2.congr (by simp) (fun _ _=>rfl)⟩
theorem chZ {done:List En}(a:(kX done n).2=0)(g:(oZ (mQ done n) pX (prs done n)).2=0):cJ done n=oQ (kX done n).1 (oZ (mQ done n) pX (prs done n)).1:=by
 unfold cJ;rw[jQ a,jQ g]
theorem gN {done:List En}{e:En}(h:¬ (e.2.1=n/\e.1=2)):kX (done++[e]) n=kX done n:=by
 unfold kX;rw[jP,zQ,bG];simp[qD];intro a g;exact h ⟨a,g⟩
theorem yM {done:List En}{e:En}(h:¬ (e.2.1=n/\e.1=3/\e.2.2.1=p)):mQ (done++[e]) n p=mQ done n p:=by
 unfold mQ;rw[jP,zQ,bG];simp[qD];intro a g i;exact h ⟨a,g,i⟩
theorem uP {done:List En}{e:En}(h:¬ (e.2.1=n/\e.1=3)):prs (done++[e]) n=prs done n:=by
 rw[vP,zQ h,bG]
theorem chJ {done:List En}(h:Inv done){e:En}(g:e.1=2):kX (done++[e]) e.2.1=if (oQ (kX done e.2.1).1 e.2.2.2).2=0 then oQ (kX done e.2.1).1 e.2.2.2 else ((0,0),(oQ (kX done e.2.1).1 e.2.2.2).2):=by
 have a:=(h.all e.2.1).1;unfold kX at *
 rw[jP,jQ (by simp[qD,g]),jE,jQ a]
theorem auX {done:List En}(h:Inv done){e:En}(g:e.1=3):mQ (done++[e]) e.2.1 e.2.2.1=if (oQ (mQ done e.2.1 e.2.2.1).1 e.2.2.2).2=0 then oQ (mQ done e.2.1 e.2.2.1).1 e.2.2.2 else ((0,0),(oQ (mQ done e.2.1 e.2.2.1).1 e.2.2.2).2):=by
 have a:=(h.prt e.2.1 e.2.2.1).1;unfold mQ at *
 rw[jP,jQ (by simp[qD,g]),jE,jQ a]
theorem ciQ {done:List En}(h:p ∉ prs done n):mQ done n p=(pX,0):=by
 have:lss done n 3 p=[]:=by
  unfold lss;rw[yS,pC];intro e j;simp only[qD,dJ];rintro⟨g,i,a⟩;refine h ?_;unfold prs;rw[iJ];exact⟨e,bI.2 ⟨j,by simp[g,i]⟩,by rcases a with a|a;exact absurd rfl a;exact a⟩
 unfold mQ;rw[this];rfl
theorem auZ {done:List En}{e:En}(h:¬ (e.2.1=n/\(e.1=2\/e.1=3))):cJ (done++[e]) n=cJ done n:=by
 have a:kX (done++[e]) n=kX done n:=gN fun c=>h ⟨c.1,.inl c.2⟩;have g:prs (done++[e]) n=prs done n:=uP fun c=>h ⟨c.1,.inr c.2⟩;have i:mQ (done++[e]) n=mQ done n:=funext fun p=>yM fun c=>h ⟨c.1,.inr c.2.1⟩;unfold cJ;rw[a,g,i]
theorem aE {done:List En}(h:Inv done){e:En}(k:e.1=2)(l:pQ e.2.2.2) :
  (oQ (kX done e.2.1).1 e.2.2.2=((0,0),4)/\cJ (done++[e]) e.2.1=((0,0),4)) \/
  ((oQ (kX done e.2.1).1 e.2.2.2).2=0/\pQ (oQ (kX done e.2.1).1 e.2.2.2).1/\kX (done++[e]) e.2.1=oQ (kX done e.2.1).1 e.2.2.2/\cJ (done++[e]) e.2.1=oQ (oQ (kX done e.2.1).1 e.2.2.2).1 (oZ (mQ done e.2.1) pX (prs done e.2.1)).1):=by
 have ha:=chJ h k;have g:prs (done++[e]) e.2.1=prs done e.2.1:=uP fun c=>by omega
 have i:mQ (done++[e]) e.2.1=mQ done e.2.1:=funext fun p=>yM fun c=>by omega
 rcases rI (h.all e.2.1).2 l with⟨a,j,_,_⟩|a
 ·right
  rw[jQ a] at ha;refine⟨a,j,ha,?_⟩;unfold cJ;rw[ha,g,i,jQ a,jQ (h.top e.2.1).1]
 ·left
  refine⟨a,?_⟩;rw[a] at ha;unfold cJ;rw[ha];simp
theorem bE {done:List En}(h:Inv done){e:En}(v:e.1=3)(B:pQ e.2.2.2) :
  (oQ (mQ done e.2.1 e.2.2.1).1 e.2.2.2=((0,0),4)/\cJ (done++[e]) e.2.1=((0,0),4)) \/
  ((oQ (mQ done e.2.1 e.2.2.1).1 e.2.2.2).2=0/\pQ (oQ (mQ done e.2.1 e.2.2.1).1 e.2.2.2).1/\mQ (done++[e]) e.2.1 e.2.2.1=oQ (mQ done e.2.1 e.2.2.1).1 e.2.2.2 /\
   (∀ m,Top (fun p=>(mQ (done++[e]) e.2.1 p).1) (fun p=>p∈prs (done++[e]) e.2.1) m->cJ (done++[e]) e.2.1=oQ (kX done e.2.1).1 m)/\∃ m,Top (fun p=>(mQ (done++[e]) e.2.1 p).1) (fun p=>p∈prs (done++[e]) e.2.1) m):=by
 have ha:=auX h v;have j:kX (done++[e]) e.2.1=kX done e.2.1:=gN fun c=>by omega
 have z:prs (done++[e]) e.2.1=prs done e.2.1++[e.2.2.1]:=by rw[vP,jQ ⟨rfl,v⟩]
 have l:∀ p,p≠e.2.2.1->mQ (done++[e]) e.2.1 p=mQ done e.2.1 p:=fun p a=>yM fun c=>a c.2.2.symm;rcases rI (h.prt e.2.1 e.2.2.1).2 B with⟨g,o,_,_⟩|g
 ·right
  rw[jQ g] at ha
  have k:∀ p,(mQ (done++[e]) e.2.1 p).2=0/\pQ (mQ (done++[e]) e.2.1 p).1:=fun p=>by
   by_cases a:p=e.2.2.1
   ·rw[a,ha];exact⟨g,o⟩
   ·rw[l p a];exact h.prt _ _
  have y:=auQ (f:=mQ (done++[e]) e.2.1) (prs (done++[e]) e.2.1) (yE _) (fun p _=>k p);have i:Top (fun p=>(mQ (done++[e]) e.2.1 p).1) (fun p=>p∈prs (done++[e]) e.2.1) (oZ (mQ (done++[e]) e.2.1) pX (prs (done++[e]) e.2.1)).1:=y.2.congr (by simp) (fun _ _=>rfl);refine⟨g,o,ha,fun m hm=>?_,_,i⟩;rw[chZ (by rw[j];exact(h.all _).1) y.1,j,hm.uniq i]
 ·left
  refine⟨g,?_⟩
  have A:oZ (mQ (done++[e]) e.2.1) pX (prs (done++[e]) e.2.1)=((0,0),4):=by
   rw[g] at ha;refine cgZ _ (by decide) (fun p _=>?_) ⟨e.2.2.1,by rw[z];simp,by rw[ha];simp⟩;by_cases a:p=e.2.2.1
   ·right;rw[a,ha];simp
   ·left;rw[l p a];exact(h.prt _ _).1
  unfold cJ;rw[j,jQ (h.all _).1,A];simp
theorem sS {done:List En}{e:En}(h:zZ done e=0):mZ e=0/\done.length<4096:=by
 unfold zZ at h;by_cases c1:mZ e≠0
 ·rw[jQ c1] at h;exact absurd h c1
 rw[zQ c1] at h;by_cases c2:4096<=done.length
 ·rw[jQ c2] at h;omega
 ·exact⟨by omega,by omega⟩
theorem auJ {done:List En}{e:En}(h:zZ done e=0):mZ e=0/\done.length<4096/\((e.1=1/\iX done e.2.1=none/\(bY done).length<64) \/
  (e.1≠1/\∃ b,iX done e.2.1=some b/\(e.1=3->0<=e.2.2.1/\e.2.2.1<=1073741824/\(bZ (done++[e]) e.2.1).length<=64)/\(cJ (done++[e]) e.2.1).2=0/\sX (cJ (done++[e]) e.2.1).1 b)):=by
 obtain⟨a,g⟩:=sS h;refine⟨a,g,?_⟩;unfold zZ at h;rw[zQ (by omega),zQ (by omega)] at h;cases hb:iX done e.2.1 with
 | none =>
  left;simp only[hb] at h;by_cases c:e.1=1
  ·rw[jQ c] at h
   by_cases c2:64<=(bY done).length
   ·rw[jQ c2] at h;omega
   ·exact⟨c,rfl,by omega⟩
  ·rw[zQ c] at h;omega
 | some b =>
  right;simp only[hb] at h;by_cases c:e.1=1
  ·rw[jQ c] at h;omega
  rw[zQ c] at h;by_cases c1:e.1=3/\(e.2.2.1<0\/1073741824<e.2.2.1)
  ·rw[jQ c1] at h;omega
  rw[zQ c1] at h;by_cases c2:e.1=3/\64<(bZ (done++[e]) e.2.1).length
  ·rw[jQ c2] at h;omega
  rw[zQ c2] at h;by_cases c3:(cJ (done++[e]) e.2.1).2≠0
  ·rw[jQ c3] at h;exact absurd h c3
  rw[zQ c3] at h;by_cases c4:sX (cJ (done++[e]) e.2.1).1 b
  ·exact⟨c,b,rfl,fun h3=>⟨by omega,by omega,by omega⟩,by omega,c4⟩
  ·rw[zQ c4] at h;omega
theorem tS {done:List En}(h:Inv done){e:En}(G:zZ done e=0)(H:nrm e=e):Inv (done++[e]):=by
 obtain⟨E,O,v⟩:=auJ G;obtain⟨b1,b2,N,b4⟩:=fD E;have m:∀ n b,iX done n=some b->iX (done++[e]) n=some b:=fun n b hb=>by rw[vM,hb];rfl
 have y:∃ b,iX (done++[e]) e.2.1=some b:=by
  rcases v with⟨i,j,_⟩|⟨_,b,j,_⟩
  ·rw[vM,j,jQ ⟨i,rfl⟩];exact⟨_,rfl⟩
  ·exact⟨b,m _ _ j⟩
 have A:∀ n,(kX (done++[e]) n).2=0/\pQ (kX (done++[e]) n).1:=fun n=>by
  by_cases c:e.2.1=n/\e.1=2
  ·obtain⟨rfl,c2⟩:=c
   rcases aE h c2 b4 with⟨_,g⟩|⟨j,g,l,_⟩
   ·rcases v with⟨i,_⟩|⟨_,b,_,_,l,_⟩
    ·omega
    ·rw[g] at l;simp at l
   ·rw[l];exact⟨j,g⟩
  ·rw[gN c];exact h.all n
 have B:∀ n p,(mQ (done++[e]) n p).2=0/\pQ (mQ (done++[e]) n p).1:=fun n p=>by
  by_cases c:e.2.1=n/\e.1=3/\e.2.2.1=p
  ·obtain⟨rfl,c2,rfl⟩:=c
   rcases bE h c2 b4 with⟨_,g⟩|⟨j,g,l,_⟩
   ·rcases v with⟨i,_⟩|⟨_,b,_,_,l,_⟩
    ·omega
    ·rw[g] at l;simp at l
   ·rw[l];exact⟨j,g⟩
  ·rw[yM c];exact h.prt n p
 have C:∀ n,e.2.1=n->e.1≠1->(cJ (done++[e]) n).2=0/\∀ b,iX (done++[e]) n=some b->sX (cJ (done++[e]) n).1 b:=fun n hn1 hn2=>by
  subst hn1;rcases v with⟨i,_⟩|⟨_,b,j,_,l,F⟩
  ·exact absurd i hn2
  ·refine⟨l,fun b' hb'=>?_⟩
   rw[m _ _ j] at hb';simp only[aZ] at hb';exact hb'▸F
 refine⟨by simp;omega,fun x o=>?_,A,B,fun n=>?_,fun n b hb=>?_,?_,?_,fun n=>?_⟩
 ·rw[aV] at o
  rcases o with o|o
  ·obtain⟨D,L,M,b,z⟩:=h.bad x o
   exact⟨D,L,M,b,m _ _ z⟩
  ·simp only[uN] at o
   subst o;refine⟨E,H,fun c=>?_,y⟩;rcases v with⟨i,_⟩|⟨_,b,_,g,_⟩
   ·omega
   ·exact⟨(g c).1,(g c).2.1⟩
 ·by_cases c:e.2.1=n/\(e.1=2\/e.1=3)
  ·exact(C n c.1 (by omega)).1
  ·rw[auZ c];exact h.ok n
 ·by_cases c:e.2.1=n/\(e.1=2\/e.1=3)
  ·exact(C n c.1 (by omega)).2 b hb
  ·rw[auZ c]
   rw[vM] at hb;cases hb0:iX done n with
   | some b0 =>
    rw[hb0] at hb;simp only[Option.some_or,aZ] at hb;exact hb▸h.le n b0 hb0
   | none =>
    rw[hb0] at hb
    have J:prs done n=[]:=by
     unfold prs;rw[yS,pC];intro x o;simp only[dJ];rintro⟨D,_⟩;obtain⟨_,_,_,b',z⟩:=h.bad x o;rw[D,hb0] at z;cases z
    have I:lss done n 2 0=[]:=by
     unfold lss;rw[yS,pC];intro x o;simp only[qD,dJ];rintro⟨D,_⟩;obtain⟨_,_,_,b',z⟩:=h.bad x o;rw[D,hb0] at z;cases z
    by_cases c2:e.1=1/\e.2.1=n
    ·rw[jQ c2] at hb
     simp only[Option.none_or,aZ] at hb;subst hb
     have:cJ done n=(pX,0):=by
      simp[cJ,kX,J,I,oV,oZ,atX]
     rw[this];exact zE b4
    ·rw[zQ c2] at hb;simp at hb
 ·rw[yP]
  by_cases c:e.1=1
  ·rw[jQ c]
   rcases v with⟨_,_,g⟩|⟨i,_⟩
   ·simp;omega
   ·exact absurd c i
  ·rw[zQ c];simpa using h.ops
 ·rw[yP]
  by_cases c:e.1=1
  ·rw[jQ c]
   rcases v with⟨_,j,_⟩|⟨i,_⟩
   ·rw[List.nodup_append]
    refine⟨h.nod,by simp,fun a ha b hb=>?_⟩;simp only[uN] at hb;subst hb;exact fun e'=>(cgJ done e.2.1).1 j (e'▸ha)
   ·exact absurd c i
  ·rw[zQ c];simpa using h.nod
 ·by_cases c:e.2.1=n/\e.1=3
  ·obtain⟨rfl,c2⟩:=c
   rcases v with⟨i,_⟩|⟨_,b,_,g,_⟩
   ·omega
   ·exact(g c2).2.2
  ·rw[rS,zQ (fun k=>c ⟨k.1,k.2.1⟩)];exact h.par n
end K.P
namespace K.P
open Go.RowKit K.Ds Go.Maps Go.Sort Go.Shelf
theorem ciX (m:Nat):AnyZI.SortsIn prog Tryz.sortedI_ren Fence.wide m :=
 ⟨fun blk off cap ss W hH hblk hsz=>callsIn_wide.2 (AnyM.slices_Sort_int Tryz.sortI blk off cap ss W hH hblk hsz),
  fun p cap W=>callsIn_wide.2 (AnyM.slices_Sort_int_none Tryz.sortI p cap W)⟩
theorem ciZ (a:Option Nat)(W:World):Calls prog 218 #[.map a] W fun e w'=>e=.returned (.func (.func 241) #[] #[.pointer (some ⟨W.heap.size,0,none⟩)])/\w' = W.alloc (.cells #[.map a] 164) :=
 callsIn_wide.1 (AnyZI.keys_in Tryz.keysI Fence.wide 5 trivial rfl a W)
theorem ciJ {H:Type}(g b nn:Nat)(i:DataW H)(R:Value->Option (DataW H × List MemPlace))(w:World)(z:g<w.heap.size)(hc:w.cell? ⟨g,0,none⟩=some (.map (some b)))(a:w.ownsMap prog 3 R b nn i)(B:nn<=1048576) :
  Calls prog 217 #[.func (.func 241) #[] #[.pointer (some ⟨g,0,none⟩)]] w fun e w'=>∃ (v:Value) (h:List Int),e=.returned v/\h.Perm (intKeys i) /\
   w'.ownsRow w.heap.size 3 1 v h.length ((h.mergeSort (fun x y=>decide (x<=y))).map encZ)/\xQ w w':=by
 have A:=a.size_le
 have j:SeqGives Fence.wide 2 prog 241 #[.pointer (some ⟨g,0,none⟩)] encZ (fun h=>h.Perm (intKeys i)) (Maps.size i) w :=
  AnyZI.keys_gives (ρ:=Tryz.keysI_ren) { Tryz.keysI with } Fence.wide _ trivial rfl (by omega) g b nn i _ z hc a
 have k:=AnyZI.sorted_in Tryz.sortedI Fence.wide 5 trivial trivial trivial trivial rfl (by omega) (ciX _) (enters_of func240 (by kernel_rfl) rfl) 241 #[.pointer (some ⟨g,0,none⟩)] trivial (enters_of func241 (by kernel_rfl) rfl) _ _ (by unfold maxLen;omega) (by omega) _ j;refine(callsIn_wide.1 k).mono ?_;rintro e w' ⟨v,h,l,m,o,_,p⟩;exact⟨v,h,l,m,o,p⟩
theorem cjQ {H:Type}{b nn:Nat}{D0:DataW H}{R:Value->Option (DataW H × List MemPlace)}(h:w.ownsMap prog 3 R b nn D0)(x:Int):x∈intKeys D0↔has D0 (.int .i64 x)=true:=by
 obtain⟨j,rfl,i⟩:=h.keysOf
 have k:∀ p∈j,∃ x,p.1=.int .i64 x:=fun p hp=>by
  obtain⟨v,m⟩:=i p hp;obtain⟨y,_,o,_⟩:=Maps.keyOf_i64 underlying3 m;exact⟨y,o⟩
 rw[has_eq,List.any_eq_true]
 show x∈j.map (fun p=>Go.intOf p.1)↔_
 rw[iJ];constructor
 ·rintro⟨p,g,rfl⟩
  obtain⟨a,ha⟩:=k p g;exact⟨p,g,by rw[ha];simp[Lit.sameKey,Go.intOf]⟩
 ·rintro⟨p,g,l⟩
  obtain⟨a,ha⟩:=k p g;rw[ha] at l;exact⟨p,g,by rw[ha];simpa [Lit.sameKey,Go.intOf] using l⟩
theorem avQ {H:Type}(R:Value->Option (DataW H × List MemPlace))(b n:Nat)(D:DataW H)(w:World)(a:w.ownsMap prog 3 R b n D) :
  Calls prog 178 #[.map (some b)] w fun e w'=>e=.returned (.map (some w.heap.size))/\w'.ownsMap prog 3 R w.heap.size n D/\xQ w w'/\w.heap.size<w'.heap.size:=by
 refine(AnyW.maps_Clone_owns Tryz.cloneM 3 R b n D w a).mono ?_;rintro e w' ⟨h,g,_,i⟩;exact⟨h,g,i,g.lt⟩
theorem avX (s:ByteArray)(w:World)(g:s.size<=281474976710656):Calls prog 42 #[.string s] w (iQ w (.string s)):=by
 have hc:=fun W=>AnyPu.stringslite_Clone Tryz.cloneT s W g;change ∀ W,Calls prog 79 _ W _ at hc;go_enter func42,ntmps42;go_wp2_with (go_at_call 79;refine(hc _).mono ?_;rintro e w' ⟨rfl,a⟩);go_ret;exact⟨rfl,a⟩
end K.P
namespace K.P
open Go.RowKit K.Ds
open Go.Maps (Keyed int_keyed string_keyed keyOf_int_mk)
open Go.WideMaps (keyOf_string_mk)
theorem wX (w:World)(r:Option Nat):w.grownBy w r:=qP w r
theorem sU {c:World}(h:a.grownBy b r)(k:b.grownBy c r):a.grownBy c r :=
 ⟨k.os.trans h.os,k.tape.trans h.tape,k.output.trans h.output,bQ h.size k.size,fun i hi hr=>(k.block i (lQ hi h.size) hr).trans (h.block i hi hr)⟩
theorem fG (h:a.grownBy b r)(o:Obj):a.grownBy (b.alloc o) r:=sU h (World.grownBy_alloc b o r)
theorem kV (h:a.grownBy b r):a.grownBy b.drew r:=⟨h.os,h.tape,h.output,h.size,h.block⟩
theorem aX (h:a.grownBy b (some E))(k:Nat)(u:Value):a.grownBy (b.setCell ⟨E,k,none⟩ u) (some E) :=
 sU h ⟨rfl,rfl,rfl,by simp[World.setCell],fun i _ hr=>fO _ _ _ _ (by intro e;exact hr (by rw[e]))⟩
theorem zH (h:xQ a b):a.grownBy b r:=⟨h.os,h.tape,h.output,h.size,fun k hk _=>h.block k hk⟩
theorem yF (h:a.grownBy b (some E))(hB:B<=E)(g:B<=a.heap.size):Below B a b:=⟨h.os,h.tape,h.output,h.size,fun k hk=>h.block k (by omega) (by simp;omega)⟩
theorem coQ (h:yQ w B nb v xs)(k:w.grownBy w' (some nb)):yQ w' B nb v xs:=by
 obtain⟨a,c,m,hc,l,p⟩:=h;refine⟨a,c,m,hc,l,fun hne=>?_⟩;obtain⟨b,o,ha,hB,j,g⟩:=p hne;exact⟨b,o,ha,hB,j,fun i x hi=>k.cell (g i x hi) (by simpa using j)⟩
theorem coX {a:Option Addr}{n c:Nat}(h:yQ w B nb (.slice a n c) xs)(hi:i<xs.length) :
  ∃ b o x,a=some ⟨b,o,none⟩/\b<B/\xs[i]? = some x/\w.cell? ⟨b,o+i,none⟩=some (int i64 x):=by
 obtain⟨m,p,k,_,_,j⟩:=h;simp only[yZ] at k;obtain⟨rfl,rfl,rfl⟩:=k;obtain⟨b,o,ha,l,_,g⟩:=j (ne_of_lt hi);obtain⟨x,j⟩:=fX hi;exact⟨b,o,x,ha,l,j,g i x j⟩
theorem zP:type_of% @Go.Proofs.YtcaplmodgbpchaaGreatDoor.K.zP:=@Go.Proofs.YtcaplmodgbpchaaGreatDoor.K.zP
structure TwoB (w:World) (R:Nat) (x y:Value):Prop where
 c0:w.cell? ⟨R,0,none⟩=some x
 c1:w.cell? ⟨R,1,none⟩=some y
 f0:w.frozen? ⟨R,0,none⟩=false
 f1:w.frozen? ⟨R,1,none⟩=false
 lt:R<w.heap.size
theorem TwoB.below (h:TwoB w R x y)(b:xQ w w'):TwoB w' R x y :=
 ⟨(b.cell (p:=⟨R,0,none⟩) h.lt).trans h.c0,(b.cell (p:=⟨R,1,none⟩) h.lt).trans h.c1,(b.frozen (p:=⟨R,0,none⟩) h.lt).trans h.f0,(b.frozen (p:=⟨R,1,none⟩) h.lt).trans h.f1,lQ h.lt b.size⟩
theorem TwoB.new (w:World)(x y:Value)(t:TypeId)(N:Nat)(a:N=w.heap.size):TwoB (w.alloc (.cells #[x,y] t)) N x y :=
 ⟨nc _ _ 0 _ a rfl,nc _ _ 1 _ a rfl,nf _ _ 0 a,nf _ _ 1 a,by simp;omega⟩
theorem TwoB.put (h:TwoB w R x y)(u v:Value):TwoB ((w.setCell ⟨R,0,none⟩ u).setCell ⟨R,1,none⟩ v) R u v:=by
 have a:TwoB (w.setCell ⟨R,0,none⟩ u) R u y:=⟨uU h.c0,(jX (by simp)).trans h.c1,eJ.trans h.f0,eJ.trans h.f1,by simpa using h.lt⟩;exact⟨(jX (by simp)).trans a.c0,uU a.c1,eJ.trans a.f0,eJ.trans a.f1,by simpa using a.lt⟩
def hR:Value->Option (DataW Value × List MemPlace):=fun v=>some (.held v,[])
theorem zL:Keyed prog 3:=int_keyed underlying3
theorem qW:Keyed prog 9:=string_keyed underlying9
theorem axQ (w:World):(zeroValue 37).run prog w=.ok (rv 0 0) w:=by kernel_rfl
abbrev rvq (r:Rq):Value:=rv r.1 r.2
abbrev pv (b a:Rq) (m:Nat):Value:=.agg #[int i64 b.1,int i64 b.2,int i64 a.1,int i64 a.2,.map (some m)]
theorem coZ (w:World):(zeroValue 166).run prog w=.ok (.agg #[int i64 0,int i64 0,int i64 0,int i64 0,.map none]) w:=by kernel_rfl
structure Pts (w:World) (b n:Nat) (D:DataW Value) (P:Int->Prop) (f:Int->Rq):Prop where
 own:w.ownsMap prog 3 hR b n D
 is:∀ z,Maps.has D (.int .i64 z)=true↔P z
 el:∀ z,P z->D.atKey (.int .i64 z) (.held (rv 0 0))=.held (rvq (f z))
 rng:∀ z,P z->0<=z/\z<=1073741824
theorem cZ (h:xQ w w'):w.grownBy w' none:=zH h
theorem Pts.gb {b n:Nat}{D:DataW Value}{f:Int->Rq}(h:Pts w b n D P f)(g:w.grownBy w' r)(a:some b≠r):Pts w' b n D P f :=
 ⟨h.own.kept g a,h.is,h.el,h.rng⟩
theorem Pts.keep {b n:Nat}{D:DataW Value}{f:Int->Rq}(h:Pts w b n D P f)(a:xQ w w'):Pts w' b n D P f:=h.gb (cZ a) (by simp)
theorem Pts.look {b n:Nat}{D:DataW Value}{f:Int->Rq}(h:Pts w b n D P f)(j:P z) :
  (Instr.lookup 164 (.map (some b)) (.int .i64 z) false).run prog w=.ok (rvq (f z)) w:=by
 have i:(Lit.int .i64 z).wf=true:=WalkArith.wf_i64 (by have:=h.rng z j;omega);obtain⟨k,ps,g,a⟩:=h.own.lookup zL underlying164 (axQ w) (zd:=.held (rv 0 0)) (zp:=[]) rfl (keyOf_int_mk underlying3 i);rw[h.el z j] at a;simp[hR] at a;rw[g,a.1]
theorem vT (w:World):Calls prog 177 #[] w fun e w'=>e=.returned (rv 1 1)/\xQ w w':=by
 go_enter func177,ntmps177;go_wp2;exact eQ (v:=rv 1 1) (by simp[results,results177,go_sem]) rfl ⟨rfl,ba _ _⟩
theorem yT (a b:Rq)(ha:pQ a)(m:pQ b)(r:Bool)(l:decide (sX a b) = !r)(w:World):Calls prog 200 #[rvq a,rvq b] w (iQ w (.bool r)):=by
 have h:=mN a.1 a.2 b.1 b.2;cases r with
 | true =>
  have i:Rt.jM a.1 a.2 b.1 b.2=(1,0):=by
   have:¬ sX a b:=tL l;unfold sX at this;unfold Rt.jM;rw[jQ ⟨ha.1,m.1⟩,zQ (by omega),jQ (by omega)]
  have k:=h 1 0 i;clear h i l;go_enter func200,ntmps200;go_wp2_with fail;refine(k _).mono ?_;rintro e v ⟨rfl,g⟩;go_wp2;go_ret;exact⟨rfl,bt (bal (ba _ _) _) g⟩
 | false =>
  obtain⟨j,p,i⟩:∃ j:Int,j<=0/\Rt.jM a.1 a.2 b.1 b.2=(j,0):=by
   have:sX a b:=tD l;unfold sX at this;unfold Rt.jM;rw[jQ ⟨ha.1,m.1⟩];by_cases c:a.1*b.2<b.1*a.2
   ·exact⟨-1,by omega,by rw[jQ c]⟩
   ·exact⟨0,by omega,by rw[zQ c,zQ (by omega)]⟩
  have k:=h j 0 i;clear h i l;go_enter func200,ntmps200;go_wp2_with fail;refine(k _).mono ?_;rintro e v ⟨rfl,g⟩;go_wp2;have o:decide (0<j)=false:=lZ (by omega);go_ret;exact⟨by simp[o],bt (bal (ba _ _) _) g⟩
theorem coJ {b n:Nat}{D:DataW Value}(h:w.ownsMap prog 3 hR b n D):(intKeys D).length<=n:=by
 have a:=h.size_le;obtain⟨g,rfl,_⟩:=h.keysOf;simpa [intKeys,Maps.size] using a
theorem axX {f:Int->Rq}{m:Rq}(h:Top f (fun q=>q∈xs.take i) m)(j:xs[i]? = some z)(g:pQ (f z)):Top f (fun q=>q∈xs.take (i+1)) (if sX (f z) m then m else f z):=by
 have a:=h.more (p:=z) g;rw[cgX h.ok g] at a;refine a.congr (fun q=>?_) (fun _ _=>rfl);rw[rX,j];simp
theorem cpQ (Q G:Rq)(L n:Nat)(D:DataW Value)(P:Int->Prop)(f:Int->Rq)(w:World)(hp:Pts w L n D P f)(hn:n<=1048576)(m:Rq)(ht:Top f P m)(r:Rq)(e:Int)(hr:oQ G m=(r,e)) :
  Calls prog 199 #[pv Q G L] w (iQ w (.tuple #[rvq r,.int .i64 e])):=by
 have HP:Hid (Pts w L n D P f):=hp;have HT:Hid (Top f P m):=ht;have HR:Hid (oQ G m=(r,e)):=hr;have br:=hp.own.lt;clear hp ht hr;go_enter func199,ntmps199;go_wp2_with fail;refine(vT _).mono ?_;rintro e1 C ⟨rfl,A⟩;have bz:w.heap.size+1+1<=C.heap.size:=by have:=A.size;simpa using this
 have R:w.heap.size<C.heap.size:=by omega
 have k0:C.cell? ⟨w.heap.size,2,none⟩=some (.int .i64 G.1):=by rw[A.cell (p:=⟨w.heap.size,2,none⟩) (by simp <;> omega)];simp[go_sem]
 have k1:C.cell? ⟨w.heap.size,3,none⟩=some (.int .i64 G.2):=by rw[A.cell (p:=⟨w.heap.size,3,none⟩) (by simp <;> omega)];simp[go_sem]
 have k4:C.cell? ⟨w.heap.size,4,none⟩=some (.map (some L)):=by rw[A.cell (p:=⟨w.heap.size,4,none⟩) (by simp <;> omega)];simp[go_sem]
 have G1:=bt (bal (ba _ _) _) A;go_wp2_with fail;refine(ciZ _ _).mono ?_;rintro e2 w2 ⟨rfl,rfl⟩;have E:Hid (Pts ((C.alloc (.cells #[.int .i64 1,.int .i64 1] 37)).alloc (.cells #[.map (some L)] 164)) L n D P f):=(HP.out.keep (bal (bal G1 _) _));go_wp2_with fail;refine(ciJ _ L n D hR _ (by simp) (nc _ _ 0 _ (by simp) rfl) E.out.own hn).mono ?_;rintro e3 j ⟨v,ss,rfl,k,I,g⟩;obtain⟨l,N⟩:∃ l,ss.mergeSort (fun x y=>decide (x<=y))=l:=⟨_,rfl⟩;have H:ss.length=l.length:=by rw[<-N,List.length_mergeSort]
 have O:∀ q,q∈l↔P q:=fun q=>by
  rw[<-N,List.mem_mergeSort,k.mem_iff,cjQ E.out.own,E.out.is]
 have bx:l.length<=1048576:=by rw[<-H,k.length_eq];exact bQ (coJ E.out.own) hn
 rw[N,H] at I;have HI:Hid (yQ j j.heap.size C.heap.size v l):=zP rfl (by omega) I (by simp;omega);have HM:Hid (∀ q,q∈l↔P q):=O;have c6:C.heap.size+1+1<=j.heap.size:=by have:=g.size;simpa using this
 have a8:Hid (Pts j L n D P f):=E.out.keep g;have T3:TwoB j C.heap.size (.int .i64 1) (.int .i64 1):=(((TwoB.new C (.int .i64 1) (.int .i64 1) 37 _ rfl).below (ba _ _)).below g);have U:TwoB j (w.heap.size+1) (.int .i64 0) (.int .i64 0):=((((TwoB.new (w.alloc (.cells #[.int .i64 Q.1,.int .i64 Q.2,.int .i64 G.1,.int .i64 G.2,.map (some L)] 166)) (.int .i64 0) (.int .i64 0) 37 _ (by simp)).below A).below (bal (ba _ _) _)).below g);have A0:j.cell? ⟨w.heap.size,2,none⟩=some (.int .i64 G.1):=by rw[g.cell (p:=⟨w.heap.size,2,none⟩) (by simp <;> omega)];simp[go_sem,R,k0]
 have A1:j.cell? ⟨w.heap.size,3,none⟩=some (.int .i64 G.2):=by rw[g.cell (p:=⟨w.heap.size,3,none⟩) (by simp <;> omega)];simp[go_sem,R,k1]
 have A4:j.cell? ⟨w.heap.size,4,none⟩=some (.map (some L)):=by rw[g.cell (p:=⟨w.heap.size,4,none⟩) (by simp <;> omega)];simp[go_sem,R,k4]
 have B3:xQ w j:=bt (bal (bal G1 _) _) g;have T0:Top f (fun q=>q∈l.take 0) pX:=(yE f).congr (fun q=>by simp) (fun _ _=>rfl);obtain⟨a,c,rfl,hc,_⟩:=id HI.out;clear k I O N H k0 k1 k4;go_wp2_with fail
 go_loopw [14] (fun s wr=>∃ (i:Nat) (h:Rq),s=.int .i64 (i:Int)/\i<=l.length/\Hid (Top f (fun q=>q∈l.take i) h)/\Hid (j.grownBy wr (some C.heap.size))/\Hid (TwoB wr C.heap.size (.int .i64 h.1) (.int .i64 h.2))) (fun s _=>l.length - (intOf s).toNat)
 case atStart=>exact⟨0,pX,rfl,dQ _,T0,wX _ _,T3⟩
 case round =>
  obtain⟨i,h,rfl,hi,F,J,Z⟩:=hrel;have a0:=J.out.cell A0 (by simp;omega);have a1:=J.out.cell A1 (by simp;omega);have a4:=J.out.cell A4 (by simp;omega);have c7:=J.out.size;obtain⟨c0,c1,f0,f1,bw⟩:=Z.out;by_cases h1:i<l.length
  ·obtain⟨b,o,z,rfl,hb,S,bv⟩:=coX (coQ HI.out J.out) h1
   have HZ:Hid (l[i]? = some z):=S;have V:P z:=(HM.out z).1 (qX S);have M:pQ (f z):=HT.out.oks z V;have ac:=fun W (hW:xQ wr W)=>((a8.out.gb J.out (by simp;omega)).keep hW).look V;have aq:=ac wr (uQ _ _);clear S;cases hle:decide (sX (f z) h) with
   | true =>
    have km:=yT (f z) h M F.out.ok false hle;have HL:Hid (sX (f z) h):=(tD hle:sX (f z) h);clear hle;go_wp2_with fail;refine(km _).mono ?_;rintro e4 w4 ⟨rfl,B⟩;go_wp2_with fail
    go_roundw
    case rel=>exact⟨i+1,h,by go_num,by omega,by have:=axX F.out HZ.out M;rw[jQ HL.out] at this;exact this,sU J.out (zH (bt (ba _ _) B)),(Z.out.below (ba _ _)).below B⟩
    case measure=>simp[intOf];omega
   | false =>
    have km:=yT (f z) h M F.out.ok true hle;have HL:Hid (¬ sX (f z) h):=(tL hle:¬ sX (f z) h);clear hle;go_wp2_with fail;refine(km _).mono ?_;rintro e4 w4 ⟨rfl,B⟩;have T:Hid (TwoB w4 C.heap.size (.int .i64 h.1) (.int .i64 h.2)):=(Z.out.below (ba _ _)).below B;obtain⟨d0,d1,g0,g1,au⟩:=T.out;have a7:TwoB w4 wr.heap.size (.int .i64 (f z).1) (.int .i64 (f z).2):=(TwoB.new wr _ _ 37 _ rfl).below B;obtain⟨n0,n1,_,_,ax⟩:=a7;go_wp2_with fail
    go_roundw
    case rel=>exact⟨i+1,f z,by go_num,by omega,by have:=axX F.out HZ.out M;rw[zQ HL.out] at this;exact this,aX (aX (sU J.out (zH (bt (ba _ _) B))) _ _) _ _,T.out.put _ _⟩
    case measure=>simp[intOf];omega
  ·have aa:i=l.length:=by omega
   subst aa
   have ae:h=m:=by
    have h2:=F.out;rw[bU] at h2;exact(h2.congr HM.out (fun _ _=>rfl)).uniq HT.out
   subst ae;have kt:=times_any G.1 G.2 h.1 h.2 r.1 r.2 e (by rw[eN,HR.out])
   have a9:Hid (TwoB wr (w.heap.size+1) (.int .i64 0) (.int .i64 0)):=by
    have Y:wr.heap[w.heap.size+1]? = j.heap[w.heap.size+1]?:=J.out.block _ U.lt (by simp;omega);exact⟨(vJ (w:=j) (a:=⟨w.heap.size+1,0,none⟩) Y).trans U.c0,(vJ (w:=j) (a:=⟨w.heap.size+1,1,none⟩) Y).trans U.c1,(nV (w:=j) (a:=⟨w.heap.size+1,0,none⟩) Y).trans U.f0,(nV (w:=j) (a:=⟨w.heap.size+1,1,none⟩) Y).trans U.f1,by omega⟩
   go_wp2_with fail;refine(kt _).mono ?_;rintro e5 w5 ⟨rfl,X⟩;obtain⟨r0,r1,q0,q1,aw⟩:=a9.out.below X;have Bz:xQ w w5:=bt (B3.trans (yF J.out (by omega) (by omega))) X;go_wp2_with fail;exact eQ (v:=.tuple #[rvq r,.int .i64 e]) (by simp[results,results199,go_sem,r0,r1]) rfl ⟨rfl,bs (bs Bz (by simp) _) (by simp) _⟩
def uJ (w:World) (B:Nat) (v:Value) (l:List En):Prop :=
 ∃ a c,v=.slice a l.length c/\l.length<=c/\l.length<=9223372036854775807/\(∀ x∈l,x.2.1.size<=9223372036854775807) /\
  (l≠[]->∃ b o,a=some ⟨b,o,none⟩/\b<B/\∀ i x,l[i]? = some x->w.cell? ⟨b,o+i*5,none⟩=some (int i64 x.1)/\w.cell? ⟨b,o+i*5+1,none⟩=some (.string x.2.1)/\w.cell? ⟨b,o+i*5+2,none⟩=some (int i64 x.2.2.1)/\w.cell? ⟨b,o+i*5+3,none⟩=some (int i64 x.2.2.2.1)/\w.cell? ⟨b,o+i*5+4,none⟩=some (int i64 x.2.2.2.2))
theorem uJ.keep {l:List En}(h:uJ w B v l)(j:Below B w w'):uJ w' B v l:=by
 obtain⟨a,c,E,hc,C,D,F⟩:=h;refine⟨a,c,E,hc,C,D,fun hne=>?_⟩;obtain⟨b,o,ha,hB,g⟩:=F hne;refine⟨b,o,ha,hB,fun i x hi=>?_⟩;obtain⟨k,m,y,z,A⟩:=g i x hi;exact⟨(j.cell (p:=⟨b,o+i*5,none⟩) hB).trans k,(j.cell (p:=⟨b,o+i*5+1,none⟩) hB).trans m,(j.cell (p:=⟨b,o+i*5+2,none⟩) hB).trans y,(j.cell (p:=⟨b,o+i*5+3,none⟩) hB).trans z,(j.cell (p:=⟨b,o+i*5+4,none⟩) hB).trans A⟩
theorem uJ.at {l:List En}(h:uJ w B v l)(hB:B<=w.heap.size)(a:xQ w w'):uJ w' B v l:=h.keep (a.mono hB)
theorem uJ.slice {l:List En}(h:uJ w B v l):∃ a c,v=.slice a l.length c/\l.length<=c/\l.length<=9223372036854775807:=by
 obtain⟨a,c,i,hc,g,_⟩:=h;exact⟨a,c,i,hc,g⟩
theorem uJ.get {a:Option Addr}{n c:Nat}{l:List En}(h:uJ w B (.slice a n c) l)(hB:B<=w.heap.size)(E:xQ w wr)(hi:i<l.length) :
  ∃ b o d nm p u v,a=some ⟨b,o,none⟩/\b<B/\l[i]? = some (d,nm,p,u,v)/\wr.cell? ⟨b,o+i*5,none⟩=some (int i64 d)/\wr.cell? ⟨b,o+i*5+1,none⟩=some (.string nm)/\wr.cell? ⟨b,o+i*5+2,none⟩=some (int i64 p)/\wr.cell? ⟨b,o+i*5+3,none⟩=some (int i64 u)/\wr.cell? ⟨b,o+i*5+4,none⟩=some (int i64 v)/\nm.size<=9223372036854775807:=by
 obtain⟨G,H,m,_,_,F,j⟩:=h.at hB E;simp only[yZ] at m;obtain⟨rfl,rfl,rfl⟩:=m;obtain⟨b,o,rfl,k,g⟩:=j (ne_of_lt hi);obtain⟨⟨d,nm,p,u,v⟩,j⟩:=fX hi;obtain⟨y,z,A,C,D⟩:=g i _ j;exact⟨b,o,d,nm,p,u,v,rfl,k,j,y,z,A,C,D,F _ (qX j)⟩
theorem cpX:prog.underlying 72=some (.struct (prog.fieldsOf 72)):=by rw[Program.fieldsOf,underlying72]
theorem cpZ:prog.stoodInHeld 72=false:=by kernel_rfl
theorem cpJ : ∃ f0 f1 f2 f3 : Field, (prog.fieldsOf 72).toList = [f0, f1, f2, f3] ∧ f0.name ≠ "_" ∧ f1.name ≠ "_" ∧ f2.name ≠ "_" ∧ f3.name ≠ "_" ∧ f0.type = 3 ∧ f1.type = 9 ∧ f2.type = 3 ∧ f3.type = 37 ∧ f0.offset = 0 ∧ f1.offset = 1 ∧ f2.offset = 2 ∧ f3.offset = 3 := by
 refine⟨_,_,_,_,by rw[Program.fieldsOf,underlying72],by decide,by decide,by decide,by decide,rfl,rfl,rfl,rfl,rfl,rfl,rfl,rfl⟩
theorem axZ (d g p h u i v j:Int)(nm a:ByteArray)(r:Bool)(A:(!decide ((d,nm,p,u,v)=(g,a,h,i,j)))=r)(W:World) :
  (binOp .neq 72 (.agg #[int i64 d,.string nm,int i64 p,int i64 u,int i64 v]) (.agg #[int i64 g,.string a,int i64 h,int i64 i,int i64 j])).run prog W=.ok (.bool r) W:=by
 obtain⟨f0,f1,f2,f3,z,B,C,D,E,t0,t1,t2,t3,F,G,H,I⟩:=cpJ;rw[run_neq_struct,run_equalIn_struct W 9999 72 _ _ cpX cpZ,z,<-A];simp[Op.eqFields,B,C,D,E,t0,t1,t2,t3,F,G,H,I,go_sem,underlying9,underlying3,wG];by_cases k:d=g <;> by_cases l:nm=a <;> by_cases m:p=h <;> by_cases o:u=i <;> by_cases y:v=j <;> simp[k,l,m,o,y]
theorem cqQ {α:Type} [DecidableEq α] {x y:List α}{a b:α}(g:x[i]? = some a)(j:y[i]? = some b)(h:x.take i=y.take i):x.take (i+1)=y.take (i+1)↔a=b:=by
 rw[rX,rX,g,j,h];simp
theorem axJ (B:Nat)(v1 v2:Value)(x y:List En)(w:World)(hB:B<=w.heap.size)(O:uJ w B v1 x)(P:uJ w B v2 y)(r:Bool)(N:decide (x=y)=r) :
  Calls prog 8 #[v1,v2] w (iQ w (.bool r)):=by
 have R:=qQ O;have S:=qQ P;have z:=qQ N;obtain⟨a,c,rfl,hc,hl⟩:=O.slice;obtain⟨a2,c2,rfl,X,Y⟩:=P.slice;clear N;by_cases g:x.length=y.length
 ·have Z:((x.length:Int) != (y.length:Int))=false:=by simp[g]
  have I:=qQ g;clear g;go_enter func8,ntmps8;go_wp2
  go_loopw [13] (fun s wr=>∃ (i:Nat),s=int i64 (i:Int)/\i<=x.length/\Hid (x.take i=y.take i)/\xQ w wr) (fun s _=>x.length - (intOf s).toNat)
  case atStart=>exact⟨0,rfl,dQ _,by simp[Hid],uQ _ _⟩
  case round =>
   obtain⟨i,rfl,hi,H,h⟩:=hrel;by_cases T:i<x.length
   ·have U:i<y.length:=by have:=I.out;omega
    obtain⟨b,o,d,nm,p,u,v,rfl,hb,M,e0,e1,e2,e3,e4,_⟩:=R.out.get hB h T;obtain⟨b',o',A,j,E,F,G,rfl,V,l,g0,g1,g2,g3,g4,_⟩:=S.out.get hB h U;have J:=qQ (cqQ M l H.out);clear M l;by_cases k:(d,nm,p,u,v)=(A,j,E,F,G)
    ·have D:=fun W=>axZ d A p E u F v G nm j false (by simpa using k) W
     have Q:=qQ k;clear k;go_wp2;go_quiet (fail);go_wp2
     go_roundw
     case rel=>exact⟨i+1,by go_num,by omega,J.out.2 Q.out,below_drewN h _⟩
     case measure=>simp[intOf];omega
    ·have D:=fun W=>axZ d A p E u F v G nm j true (by rw[lZ k];rfl) W
     have C:false=r:=by
      rw[<-z.out];refine(lZ fun e=>k (J.out.1 (by rw[e]))).symm
     subst C;clear k;go_wp2;go_quiet (fail);go_wp2;go_ret;exact⟨rfl,below_drewN h _⟩
   ·have m:i=x.length:=by omega
    have ht:true=r:=by
     rw[<-z.out];have L:=H.out;rw[m,bU,I.out,bU] at L;exact(sJ L).symm
    subst ht;subst m;go_wp2;go_ret;exact⟨rfl,h⟩
 ·have Z:((x.length:Int) != (y.length:Int))=true:=by simp;omega
  have C:false=r:=by rw[<-z.out];exact(lZ fun e=>g (by rw[e])).symm
  subst C;clear g;go_enter func8,ntmps8;go_wp2;go_ret;exact⟨rfl,uQ _ _⟩

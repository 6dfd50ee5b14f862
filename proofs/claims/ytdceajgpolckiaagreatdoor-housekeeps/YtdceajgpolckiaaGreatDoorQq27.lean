import Derived.Test.YtdceajgpolckiaaGreatDoorQq17
import Derived.Test.YtdceajgpolckiaaGreatDoorQq10
open Go.Proofs.Tryz
set_option linter.unusedSimpArgs false
set_option maxHeartbeats 16000000
set_option maxRecDepth 100000
namespace Go.Proofs.YtdceajgpolckiaaGreatDoor
namespace K.P
open K.Ds
abbrev Rq:=Int × Int
abbrev En:=Int × ByteArray × Int × Int × Int
def kQ (a b:Rq):Rq × Int:=(((Rt.sY a.1 a.2 b.1 b.2).1,(Rt.sY a.1 a.2 b.1 b.2).2.1),(Rt.sY a.1 a.2 b.1 b.2).2.2)
theorem aeX {a b c d n m e:Int}(h:Rt.sY a b c d=(n,m,e)):kQ (a,b) (c,d)=((n,m),e):=by unfold kQ;simp[h]
theorem nP (a b:Rq):Rt.sY a.1 a.2 b.1 b.2=((kQ a b).1.1,(kQ a b).1.2,(kQ a b).2):=rfl
def tQ (r:Rq):Prop:=Rt.fQ r.1 r.2=true/\r.2<=r.1
def rq (q:Rat):Rq:=(q.num,(q.den:Int))
theorem tQ.rat {r:Rq}(h:tQ r):∃ q:Rat,r=rq q/\Rt.Ok q/\1<=q:=by
 obtain⟨q,h1,h2,h3⟩:=Rt.brX h.1;refine⟨q,by unfold rq;rw[h1,h2],h3,?_⟩;have h4:=h.2;rw[<-h1,<-h2] at h4;rw[Rat.le_iff];simpa using h4
theorem cpZ {q:Rat}(h:Rt.Ok q)(h1:1<=q):tQ (rq q):=⟨Rt.bT q h,by rw[Rat.le_iff] at h1;simpa [rq] using h1⟩
def bZ:Rq:=(1,1)
theorem vB:tQ bZ:=⟨by decide,by decide⟩
theorem aeZ:rq 1=bZ:=rfl
def sX (a b:Rq):Prop:=a.1*b.2<=b.1*a.2
instance (a b:Rq):Decidable (sX a b):=inferInstanceAs (Decidable (_<=_))
theorem aM (x y:Rat):sX (rq x) (rq y)↔x<=y:=by unfold sX rq;rw[Rat.le_iff]
theorem oP {x y:Rat}(hx:1<=x)(hy:1<=y):1<=x*y/\x<=x*y:=by
 have h0:(0:Rat)<=x:=Rat.le_trans (by decide) hx;have h2:x*1<=x*y:=Rat.mul_le_mul_of_nonneg_left hy h0;rw[Rat.mul_one] at h2;exact⟨Rat.le_trans hx h2,h2⟩
theorem aeJ {x y:Rat}(hx:Rt.Ok x)(hy:Rt.Ok y)(h1:1<=x)(h2:1<=y):(Rt.Ok (x*y)/\kQ (rq x) (rq y)=(rq (x*y),0))\/(¬ Rt.Ok (x*y)/\kQ (rq x) (rq y)=((0,0),4)):=by
 have ht:=Rt.bsQ x y hx hy;have hp:(0:Rat)<=x*y:=Rat.le_trans (by decide) (oP h1 h2).1;have hn:0<=(x*y).num:=Rat.num_nonneg.2 hp;by_cases h:Rt.Ok (x*y)
 ·left;refine⟨h,?_⟩
  rw[Rt.brZ _ h] at ht;exact aeX ht
 ·right;refine⟨h,?_⟩
  have:Rt.tell (x*y)=(0,0,4):=by
   unfold Rt.tell;rw[qQ (by omega),xQ];unfold Rt.Ok at h;omega
  rw[this] at ht;exact aeX ht
theorem afQ:kQ bZ bZ=(bZ,0):=by
 have ho:Rt.Ok 1:=⟨by decide,by decide,by decide⟩;rcases aeJ ho ho Rat.le_refl Rat.le_refl with⟨_,e⟩|⟨h,_⟩
 ·rw[Rat.mul_one,aeZ] at e;exact e
 ·rw[Rat.mul_one] at h;exact absurd ho h
theorem oK {a b:Rq}(ha:tQ a)(hb:tQ b):((kQ a b).2=0/\tQ (kQ a b).1/\sX a (kQ a b).1/\sX b (kQ a b).1)\/kQ a b=((0,0),4):=by
 obtain⟨x,rfl,hx,hx1⟩:=ha.rat;obtain⟨y,rfl,hy,hy1⟩:=hb.rat;rcases aeJ hx hy hx1 hy1 with⟨h,e⟩|⟨_,e⟩
 ·left
  rw[e];refine⟨rfl,cpZ h (oP hx1 hy1).1,(aM _ _).2 (oP hx1 hy1).2,(aM _ _).2 ?_⟩;rw[Rat.mul_comm];exact(oP hy1 hx1).2
 ·right;exact e
theorem cpJ (a:Rq):sX a a:=zI _
theorem cqQ {a b c:Rq}(ha:tQ a)(hb:tQ b)(hc:tQ c)(h1:sX a b)(h2:sX b c):sX a c:=by
 obtain⟨x,rfl,_,_⟩:=ha.rat;obtain⟨y,rfl,_,_⟩:=hb.rat;obtain⟨z,rfl,_,_⟩:=hc.rat;rw[aM] at *
 exact Rat.le_trans h1 h2
theorem afX {a b:Rq}(ha:tQ a)(hb:tQ b)(h1:sX a b)(h2:sX b a):a=b:=by
 obtain⟨x,rfl,_,_⟩:=ha.rat;obtain⟨y,rfl,_,_⟩:=hb.rat;rw[aM] at *
 rw[Rat.le_antisymm h1 h2]
theorem afZ {a b:Rq}(ha:tQ a)(hb:tQ b)(h:¬ sX a b):sX b a:=by
 obtain⟨x,rfl,_,_⟩:=ha.rat;obtain⟨y,rfl,_,_⟩:=hb.rat;rw[aM] at *
 exact Rat.le_of_lt (Rat.not_le.1 h)
theorem yB {a:Rq}(h:tQ a):sX bZ a:=by
 obtain⟨x,rfl,_,h1⟩:=h.rat;rw[<-aeZ,aM];exact h1
def rA (r:Rq):List Rq->Rq × Int
 | []=>(r,0)
 | x::xs=>if (kQ r x).2=0 then rA (kQ r x).1 xs else ((0,0),(kQ r x).2)
theorem afJ (r:Rq)(l:List Rq)(x:Rq):rA r (l++[x])=if (rA r l).2=0 then (if (kQ (rA r l).1 x).2=0 then kQ (rA r l).1 x else ((0,0),(kQ (rA r l).1 x).2)) else rA r l:=by
 induction l generalizing r with
 | nil =>
  simp only[List.nil_append,rA];by_cases h:(kQ r x).2=0
  ·simp[h];rw[<-h]
  ·simp[h]
 | cons y l ih =>
  simp only[fH,rA];by_cases h:(kQ r y).2=0
  ·simp only[h,↓reduceIte];exact ih _
  ·simp[h]
def qH (n:ByteArray) (d p:Int) (e:En):Bool:=decide (e.2.1=n/\e.1=d/\(d≠3\/e.2.2.1=p))
def lss (done:List En) (n:ByteArray) (d p:Int):List Rq:=(done.filter (qH n d p)).map (·.2.2.2)
def zX (done:List En) (n:ByteArray):Rq × Int:=rA bZ (lss done n 2 0)
def mQ (done:List En) (n:ByteArray) (p:Int):Rq × Int:=rA bZ (lss done n 3 p)
def prs (done:List En) (n:ByteArray):List Int:=(done.filter fun e=>decide (e.2.1=n/\e.1=3)).map (·.2.2.1)
def aD (out:List Int):List Int->List Int
 | []=>out
 | p::ps=>if p∈out then aD out ps else aD (out++[p]) ps
def pZ (done:List En) (n:ByteArray):List Int:=aD [] (prs done n)
def iY (f:Int->Rq × Int) (m:Rq):List Int->Rq × Int
 | []=>(m,0)
 | p::ps=>if (f p).2=0 then iY f (if sX m (f p).1 then (f p).1 else m) ps else ((0,0),(f p).2)
def yJ (done:List En) (n:ByteArray):Rq × Int :=
 if (zX done n).2=0 then (if (iY (mQ done n) bZ (prs done n)).2=0 then kQ (zX done n).1 (iY (mQ done n) bZ (prs done n)).1 else ((0,0),(iY (mQ done n) bZ (prs done n)).2)) else ((0,0),(zX done n).2)
def fX (done:List En) (n:ByteArray):Option Rq:=(done.find? fun e=>decide (e.1=1/\e.2.1=n)).map (·.2.2.2)
def aA (done:List En):List ByteArray:=(done.filter fun e=>decide (e.1=1)).map (·.2.1)
def sZ (e:En):Int:=if e.1<1\/3<e.1 then 1 else if eZ e.2.1.data.toList=true/\Rt.fQ e.2.2.2.1 e.2.2.2.2=true then (if e.2.2.2.1<e.2.2.2.2 then 3 else 0) else 2
def cZ (done:List En) (e:En):Int :=
 if sZ e≠0 then sZ e else if 4096<=done.length then 4 else
 match fX done e.2.1 with
 | none=>if e.1=1 then (if 64<=(aA done).length then 5 else 0) else 7
 | some b=>if e.1=1 then 7 else
  if e.1=3/\(e.2.2.1<0\/1073741824<e.2.2.1) then 3 else
  if e.1=3/\64<(pZ (done++[e]) e.2.1).length then 5 else
  if (yJ (done++[e]) e.2.1).2≠0 then (yJ (done++[e]) e.2.1).2 else if sX (yJ (done++[e]) e.2.1).1 b then 0 else 10
def nrm (e:En):En:=if e.1=3 then e else (e.1,e.2.1,0,e.2.2.2)
theorem cqX (e:En):(nrm e).1=e.1:=by unfold nrm;split <;> rfl
theorem uB (e:En):(nrm e).2.1=e.2.1:=by unfold nrm;split <;> rfl
theorem cqZ (e:En):(nrm e).2.2.2=e.2.2.2:=by unfold nrm;split <;> rfl
theorem aB (e:En):nrm (nrm e)=nrm e:=by
 by_cases h:e.1=3
 ·simp[nrm,h]
 ·simp[nrm,h]
def iU (done:List En) (e:En):List En:=if cZ done (nrm e)=0 then done++[nrm e] else done
structure Top (f:Int->Rq) (P:Int->Prop) (m:Rq):Prop where
 ok:tQ m
 oks:∀ p,P p->tQ (f p)
 is:m=bZ\/∃ p,P p/\f p=m
 le:∀ p,P p->sX (f p) m
theorem Top.uniq {f:Int->Rq}{P:Int->Prop}{a b:Rq}(ha:Top f P a)(hb:Top f P b):a=b:=by
 refine afX ha.ok hb.ok ?_ ?_
 ·rcases ha.is with rfl|⟨p,hp,rfl⟩
  ·exact yB hb.ok
  ·exact hb.le p hp
 ·rcases hb.is with rfl|⟨p,hp,rfl⟩
  ·exact yB ha.ok
  ·exact ha.le p hp
theorem Top.congr {f g:Int->Rq}{P Q:Int->Prop}{m:Rq}(h:Top f P m)(hP:∀ p,P p↔Q p)(hf:∀ p,P p->f p=g p):Top g Q m :=
 ⟨h.ok,fun p hp=>hf p ((hP p).2 hp)▸h.oks p ((hP p).2 hp),h.is.imp id fun⟨p,hp,e⟩=>⟨p,(hP p).1 hp,by rw[<-hf p hp];exact e⟩,fun p hp=>hf p ((hP p).2 hp)▸h.le p ((hP p).2 hp)⟩
theorem bB (f:Int->Rq):Top f (fun _=>False) bZ:=⟨vB,fun _ h=>h.elim,.inl rfl,fun _ h=>h.elim⟩
theorem Top.more {f:Int->Rq}{P:Int->Prop}{m:Rq}(h:Top f P m){p:Int}(hp:tQ (f p)):Top f (fun q=>P q\/q=p) (if sX m (f p) then f p else m):=by
 have hoks:∀ q,(P q\/q=p)->tQ (f q):=fun q hq=>by
  rcases hq with hq|rfl
  ·exact h.oks q hq
  ·exact hp
 by_cases c:sX m (f p)
 ·rw[xQ c]
  refine⟨hp,hoks,.inr ⟨p,.inr rfl,rfl⟩,fun q hq=>?_⟩;rcases hq with hq|rfl
  ·exact cqQ (h.oks q hq) h.ok hp (h.le q hq) c
  ·exact cpJ _
 ·rw[qQ c]
  refine⟨h.ok,hoks,h.is.imp id fun⟨q,hq,e⟩=>⟨q,.inl hq,e⟩,fun q hq=>?_⟩;rcases hq with hq|rfl
  ·exact h.le q hq
  ·exact afZ h.ok hp c
theorem cqJ {a b:Rq}(ha:tQ a)(hb:tQ b):(if sX a b then b else a)=(if sX b a then a else b):=by
 by_cases c:sX a b
 ·by_cases c2:sX b a
  ·rw[xQ c,xQ c2];exact afX hb ha c2 c
  ·rw[xQ c,qQ c2]
 ·rw[qQ c,xQ (afZ ha hb c)]
theorem agQ {f:Int->Rq × Int}{P:Int->Prop}{m:Rq}(ps:List Int)(h:Top (fun p=>(f p).1) P m)(hf:∀ p∈ps,(f p).2=0/\tQ (f p).1) :
  (iY f m ps).2=0/\Top (fun p=>(f p).1) (fun q=>P q\/q∈ps) (iY f m ps).1:=by
 induction ps generalizing P m with
 | nil=>exact⟨rfl,h.congr (by simp) (fun _ _=>rfl)⟩
 | cons p ps ih =>
  have h1:=hf p (yN ..);have h2:=ih (h.more (p:=p) h1.2) (fun q hq=>hf q (vN _ hq));simp only[iY,h1.1,↓reduceIte];refine⟨h2.1,h2.2.congr (fun q=>?_) (fun _ _=>rfl)⟩;simp only[yX];constructor
  ·rintro((h|h)|h)
   ·exact .inl h
   ·exact .inr (.inl h)
   ·exact .inr (.inr h)
  ·rintro(h|h|h)
   ·exact .inl (.inl h)
   ·exact .inl (.inr h)
   ·exact .inr h
theorem crQ {f:Int->Rq × Int}{m:Rq}(ps:List Int){c:Int}(hc:c≠0)(hf:∀ p∈ps,(f p).2=0\/(f p).2=c)(he:∃ p∈ps,(f p).2=c):iY f m ps=((0,0),c):=by
 induction ps generalizing m with
 | nil=>simp at he
 | cons p ps ih =>
  by_cases h:(f p).2=0
  ·simp only[iY,h,↓reduceIte]
   refine ih (fun q hq=>hf q (vN _ hq)) ?_;obtain⟨q,hq,e⟩:=he;rcases yX.1 hq with rfl|hq
   ·exact absurd (h.symm.trans e).symm hc
   ·exact⟨q,hq,e⟩
  ·simp only[iY,h,↓reduceIte]
   rcases hf p (yN ..) with e|e
   ·exact absurd e h
   ·rw[e]
theorem pP (done:List En)(e:En)(n:ByteArray)(d p:Int):lss (done++[e]) n d p=lss done n d p++(if qH n d p e=true then [e.2.2.2] else []):=by
 unfold lss;rw[sM,uG];by_cases h:qH n d p e=true <;> simp[h]
theorem rP (done:List En)(e:En)(n:ByteArray):prs (done++[e]) n=prs done n++(if e.2.1=n/\e.1=3 then [e.2.2.1] else []):=by
 unfold prs;rw[sM,uG];by_cases h:e.2.1=n/\e.1=3 <;> simp[h]
theorem cB (done:List En)(e:En):aA (done++[e])=aA done++(if e.1=1 then [e.2.1] else []):=by
 unfold aA;rw[sM,uG];by_cases h:e.1=1 <;> simp[h]
theorem pK (done:List En)(e:En)(n:ByteArray):fX (done++[e]) n=(fX done n).or (if e.1=1/\e.2.1=n then some e.2.2.2 else none):=by
 unfold fX;rw[List.find?_append];by_cases h:e.1=1/\e.2.1=n
 ·cases hf:done.find? (fun e=>decide (e.1=1/\e.2.1=n)) <;> simp[h]
 ·cases hf:done.find? (fun e=>decide (e.1=1/\e.2.1=n)) <;> simp[h]
theorem crX (done:List En)(n:ByteArray):fX done n=none↔n ∉ aA done:=by
 unfold fX aA;simp only[Option.map_eq_none_iff,List.find?_eq_none,oV,tZ,List.mem_filter,not_exists,not_and,and_imp]
theorem crZ (out l m:List Int):aD out (l++m)=aD (aD out l) m:=by
 induction l generalizing out with
 | nil=>rfl
 | cons p l ih=>simp only[fH,aD];split <;> exact ih _
theorem crJ (out l:List Int)(x:Int):x∈aD out l↔x∈out\/x∈l:=by
 induction l generalizing out with
 | nil=>simp[aD]
 | cons p l ih =>
  simp only[aD];split
  ·next h =>
   rw[ih];simp only[yX];constructor
   ·rintro(h|h) <;> simp[h]
   ·rintro(h1|rfl|h1)
    ·exact .inl h1
    ·exact .inl h
    ·exact .inr h1
  ·rw[ih];simp only[zY,yX,jJ,vJ,or_assoc]
theorem sP (done:List En)(n:ByteArray)(p:Int):p∈pZ done n↔p∈prs done n:=by unfold pZ;rw[crJ];simp
theorem dB (done:List En)(e:En)(n:ByteArray):pZ (done++[e]) n=if e.2.1=n/\e.1=3/\e.2.2.1 ∉ pZ done n then pZ done n++[e.2.2.1] else pZ done n:=by
 unfold pZ;rw[rP,crZ];by_cases h:e.2.1=n/\e.1=3
 ·simp only[h,and_self,↓reduceIte,true_and,aD]
  split <;> simp_all
 ·rw[qQ h,qQ (fun c=>h ⟨c.1,c.2.1⟩)];rfl
structure Inv (done:List En):Prop where
 len:done.length<=4096
 bad:∀ e∈done,sZ e=0/\nrm e=e/\(e.1=3->0<=e.2.2.1/\e.2.2.1<=1073741824)/\∃ b,fX done e.2.1=some b
 all:∀ n,(zX done n).2=0/\tQ (zX done n).1
 prt:∀ n p,(mQ done n p).2=0/\tQ (mQ done n p).1
 ok:∀ n,(yJ done n).2=0
 le:∀ n b,fX done n=some b->sX (yJ done n).1 b
 ops:(aA done).length<=64
 nod:(aA done).Nodup
 par:∀ n,(pZ done n).length<=64
theorem xH {e:En}(h:sZ e=0):1<=e.1/\e.1<=3/\eZ e.2.1.data.toList=true/\tQ e.2.2.2:=by
 unfold sZ at h;by_cases c1:e.1<1\/3<e.1
 ·rw[xQ c1] at h;omega
 rw[qQ c1] at h;by_cases c2:eZ e.2.1.data.toList=true/\Rt.fQ e.2.2.2.1 e.2.2.2.2=true
 ·rw[xQ c2] at h
  by_cases c3:e.2.2.2.1<e.2.2.2.2
  ·rw[xQ c3] at h;omega
  ·exact⟨by omega,by omega,c2.1,c2.2,by omega⟩
 ·rw[qQ c2] at h;omega
theorem csQ:Inv []:=by
 refine⟨by simp,by simp,fun n=>⟨rfl,vB⟩,fun n p=>⟨rfl,vB⟩,fun n=>by simp[yJ,zX,lss,prs,rA,iY,afQ],fun n b h=>by simp[fX] at h,by simp[aA],by simp[aA],fun n=>by simp[pZ,prs,aD]⟩
theorem Inv.top {done:List En}(h:Inv done)(n:ByteArray):(iY (mQ done n) bZ (prs done n)).2=0/\Top (fun p=>(mQ done n p).1) (fun p=>p∈prs done n) (iY (mQ done n) bZ (prs done n)).1:=by
 have:=agQ (f:=mQ done n) (prs done n) (bB _) (fun p _=>h.prt n p);exact⟨this.1,this.2.congr (by simp) (fun _ _=>rfl)⟩
theorem csX {done:List En}{n:ByteArray}(h1:(zX done n).2=0)(h2:(iY (mQ done n) bZ (prs done n)).2=0):yJ done n=kQ (zX done n).1 (iY (mQ done n) bZ (prs done n)).1:=by
 unfold yJ;rw[xQ h1,xQ h2]
theorem bM {done:List En}{e:En}{n:ByteArray}(h:¬ (e.2.1=n/\e.1=2)):zX (done++[e]) n=zX done n:=by
 unfold zX;rw[pP,qQ,xD];simp[qH];intro h1 h2;exact h ⟨h1,h2⟩
theorem rK {done:List En}{e:En}{n:ByteArray}{p:Int}(h:¬ (e.2.1=n/\e.1=3/\e.2.2.1=p)):mQ (done++[e]) n p=mQ done n p:=by
 unfold mQ;rw[pP,qQ,xD];simp[qH];intro h1 h2 h3;exact h ⟨h1,h2,h3⟩
theorem oN {done:List En}{e:En}{n:ByteArray}(h:¬ (e.2.1=n/\e.1=3)):prs (done++[e]) n=prs done n:=by
 rw[rP,qQ h,xD]
theorem csZ {done:List En}(h:Inv done){e:En}(he:e.1=2):zX (done++[e]) e.2.1=if (kQ (zX done e.2.1).1 e.2.2.2).2=0 then kQ (zX done e.2.1).1 e.2.2.2 else ((0,0),(kQ (zX done e.2.1).1 e.2.2.2).2):=by
 have h1:=(h.all e.2.1).1;unfold zX at *
 rw[pP,xQ (by simp[qH,he]),afJ,xQ h1]
theorem agX {done:List En}(h:Inv done){e:En}(he:e.1=3):mQ (done++[e]) e.2.1 e.2.2.1=if (kQ (mQ done e.2.1 e.2.2.1).1 e.2.2.2).2=0 then kQ (mQ done e.2.1 e.2.2.1).1 e.2.2.2 else ((0,0),(kQ (mQ done e.2.1 e.2.2.1).1 e.2.2.2).2):=by
 have h1:=(h.prt e.2.1 e.2.2.1).1;unfold mQ at *
 rw[pP,xQ (by simp[qH,he]),afJ,xQ h1]
theorem csJ {done:List En}{n:ByteArray}{p:Int}(h:p ∉ prs done n):mQ done n p=(bZ,0):=by
 have:lss done n 3 p=[]:=by
  unfold lss;rw[rR,sR];intro e he;simp only[qH,oV];rintro⟨h1,h2,h3⟩;refine h ?_;unfold prs;rw[tZ];exact⟨e,List.mem_filter.2 ⟨he,by simp[h1,h2]⟩,by rcases h3 with h3|h3;exact absurd rfl h3;exact h3⟩
 unfold mQ;rw[this];rfl
theorem agZ {done:List En}{e:En}{n:ByteArray}(h:¬ (e.2.1=n/\(e.1=2\/e.1=3))):yJ (done++[e]) n=yJ done n:=by
 have h1:zX (done++[e]) n=zX done n:=bM fun c=>h ⟨c.1,.inl c.2⟩;have h2:prs (done++[e]) n=prs done n:=oN fun c=>h ⟨c.1,.inr c.2⟩;have h3:mQ (done++[e]) n=mQ done n:=funext fun p=>rK fun c=>h ⟨c.1,.inr c.2.1⟩;unfold yJ;rw[h1,h2,h3]
theorem eB {done:List En}(h:Inv done){e:En}(he:e.1=2)(ho:tQ e.2.2.2) :
  (kQ (zX done e.2.1).1 e.2.2.2=((0,0),4)/\yJ (done++[e]) e.2.1=((0,0),4)) \/
  ((kQ (zX done e.2.1).1 e.2.2.2).2=0/\tQ (kQ (zX done e.2.1).1 e.2.2.2).1/\zX (done++[e]) e.2.1=kQ (zX done e.2.1).1 e.2.2.2/\yJ (done++[e]) e.2.1=kQ (kQ (zX done e.2.1).1 e.2.2.2).1 (iY (mQ done e.2.1) bZ (prs done e.2.1)).1):=by
 have ha:=csZ h he;have h2:prs (done++[e]) e.2.1=prs done e.2.1:=oN fun c=>by omega
 have h3:mQ (done++[e]) e.2.1=mQ done e.2.1:=funext fun p=>rK fun c=>by omega
 rcases oK (h.all e.2.1).2 ho with⟨h4,h5,_,_⟩|h4
 ·right
  rw[xQ h4] at ha;refine⟨h4,h5,ha,?_⟩;unfold yJ;rw[ha,h2,h3,xQ h4,xQ (h.top e.2.1).1]
 ·left
  refine⟨h4,?_⟩;rw[h4] at ha;unfold yJ;rw[ha];simp
theorem fB {done:List En}(h:Inv done){e:En}(he:e.1=3)(ho:tQ e.2.2.2) :
  (kQ (mQ done e.2.1 e.2.2.1).1 e.2.2.2=((0,0),4)/\yJ (done++[e]) e.2.1=((0,0),4)) \/
  ((kQ (mQ done e.2.1 e.2.2.1).1 e.2.2.2).2=0/\tQ (kQ (mQ done e.2.1 e.2.2.1).1 e.2.2.2).1/\mQ (done++[e]) e.2.1 e.2.2.1=kQ (mQ done e.2.1 e.2.2.1).1 e.2.2.2 /\
   (∀ m,Top (fun p=>(mQ (done++[e]) e.2.1 p).1) (fun p=>p∈prs (done++[e]) e.2.1) m->yJ (done++[e]) e.2.1=kQ (zX done e.2.1).1 m)/\∃ m,Top (fun p=>(mQ (done++[e]) e.2.1 p).1) (fun p=>p∈prs (done++[e]) e.2.1) m):=by
 have ha:=agX h he;have h1:zX (done++[e]) e.2.1=zX done e.2.1:=bM fun c=>by omega
 have h2:prs (done++[e]) e.2.1=prs done e.2.1++[e.2.2.1]:=by rw[rP,xQ ⟨rfl,he⟩]
 have h3:∀ p,p≠e.2.2.1->mQ (done++[e]) e.2.1 p=mQ done e.2.1 p:=fun p hp=>rK fun c=>hp c.2.2.symm;rcases oK (h.prt e.2.1 e.2.2.1).2 ho with⟨h4,h5,_,_⟩|h4
 ·right
  rw[xQ h4] at ha
  have hok:∀ p,(mQ (done++[e]) e.2.1 p).2=0/\tQ (mQ (done++[e]) e.2.1 p).1:=fun p=>by
   by_cases hp:p=e.2.2.1
   ·rw[hp,ha];exact⟨h4,h5⟩
   ·rw[h3 p hp];exact h.prt _ _
  have ht:=agQ (f:=mQ (done++[e]) e.2.1) (prs (done++[e]) e.2.1) (bB _) (fun p _=>hok p);have ht2:Top (fun p=>(mQ (done++[e]) e.2.1 p).1) (fun p=>p∈prs (done++[e]) e.2.1) (iY (mQ (done++[e]) e.2.1) bZ (prs (done++[e]) e.2.1)).1:=ht.2.congr (by simp) (fun _ _=>rfl);refine⟨h4,h5,ha,fun m hm=>?_,_,ht2⟩;rw[csX (by rw[h1];exact(h.all _).1) ht.1,h1,hm.uniq ht2]
 ·left
  refine⟨h4,?_⟩
  have hb:iY (mQ (done++[e]) e.2.1) bZ (prs (done++[e]) e.2.1)=((0,0),4):=by
   rw[h4] at ha;refine crQ _ (by decide) (fun p _=>?_) ⟨e.2.2.1,by rw[h2];simp,by rw[ha];simp⟩;by_cases hp:p=e.2.2.1
   ·right;rw[hp,ha];simp
   ·left;rw[h3 p hp];exact(h.prt _ _).1
  unfold yJ;rw[h1,xQ (h.all _).1,hb];simp
theorem pN {done:List En}{e:En}(h:cZ done e=0):sZ e=0/\done.length<4096:=by
 unfold cZ at h;by_cases c1:sZ e≠0
 ·rw[xQ c1] at h;exact absurd h c1
 rw[qQ c1] at h;by_cases c2:4096<=done.length
 ·rw[xQ c2] at h;omega
 ·exact⟨by omega,by omega⟩
theorem agJ {done:List En}{e:En}(h:cZ done e=0):sZ e=0/\done.length<4096/\((e.1=1/\fX done e.2.1=none/\(aA done).length<64) \/
  (e.1≠1/\∃ b,fX done e.2.1=some b/\(e.1=3->0<=e.2.2.1/\e.2.2.1<=1073741824/\(pZ (done++[e]) e.2.1).length<=64)/\(yJ (done++[e]) e.2.1).2=0/\sX (yJ (done++[e]) e.2.1).1 b)):=by
 obtain⟨h1,h2⟩:=pN h;refine⟨h1,h2,?_⟩;unfold cZ at h;rw[qQ (by omega),qQ (by omega)] at h;cases hb:fX done e.2.1 with
 | none =>
  left;simp only[hb] at h;by_cases c:e.1=1
  ·rw[xQ c] at h
   by_cases c2:64<=(aA done).length
   ·rw[xQ c2] at h;omega
   ·exact⟨c,rfl,by omega⟩
  ·rw[qQ c] at h;omega
 | some b =>
  right;simp only[hb] at h;by_cases c:e.1=1
  ·rw[xQ c] at h;omega
  rw[qQ c] at h;by_cases c1:e.1=3/\(e.2.2.1<0\/1073741824<e.2.2.1)
  ·rw[xQ c1] at h;omega
  rw[qQ c1] at h;by_cases c2:e.1=3/\64<(pZ (done++[e]) e.2.1).length
  ·rw[xQ c2] at h;omega
  rw[qQ c2] at h;by_cases c3:(yJ (done++[e]) e.2.1).2≠0
  ·rw[xQ c3] at h;exact absurd h c3
  rw[qQ c3] at h;by_cases c4:sX (yJ (done++[e]) e.2.1).1 b
  ·exact⟨c,b,rfl,fun h3=>⟨by omega,by omega,by omega⟩,by omega,c4⟩
  ·rw[qQ c4] at h;omega
theorem ctQ {done:List En}(h:Inv done){e:En}(hd:cZ done e=0)(hn:nrm e=e):Inv (done++[e]):=by
 obtain⟨h1,h2,h3⟩:=agJ hd;obtain⟨b1,b2,b3,b4⟩:=xH h1;have hbud:∀ n b,fX done n=some b->fX (done++[e]) n=some b:=fun n b hb=>by rw[pK,hb];rfl
 have hbude:∃ b,fX (done++[e]) e.2.1=some b:=by
  rcases h3 with⟨h4,h5,_⟩|⟨_,b,h5,_⟩
  ·rw[pK,h5,xQ ⟨h4,rfl⟩];exact⟨_,rfl⟩
  ·exact⟨b,hbud _ _ h5⟩
 have hall:∀ n,(zX (done++[e]) n).2=0/\tQ (zX (done++[e]) n).1:=fun n=>by
  by_cases c:e.2.1=n/\e.1=2
  ·obtain⟨rfl,c2⟩:=c
   rcases eB h c2 b4 with⟨_,h6⟩|⟨h5,h6,h7,_⟩
   ·rcases h3 with⟨h4,_⟩|⟨_,b,_,_,h7,_⟩
    ·omega
    ·rw[h6] at h7;simp at h7
   ·rw[h7];exact⟨h5,h6⟩
  ·rw[bM c];exact h.all n
 have hprt:∀ n p,(mQ (done++[e]) n p).2=0/\tQ (mQ (done++[e]) n p).1:=fun n p=>by
  by_cases c:e.2.1=n/\e.1=3/\e.2.2.1=p
  ·obtain⟨rfl,c2,rfl⟩:=c
   rcases fB h c2 b4 with⟨_,h6⟩|⟨h5,h6,h7,_⟩
   ·rcases h3 with⟨h4,_⟩|⟨_,b,_,_,h7,_⟩
    ·omega
    ·rw[h6] at h7;simp at h7
   ·rw[h7];exact⟨h5,h6⟩
  ·rw[rK c];exact h.prt n p
 have hsp:∀ n,e.2.1=n->e.1≠1->(yJ (done++[e]) n).2=0/\∀ b,fX (done++[e]) n=some b->sX (yJ (done++[e]) n).1 b:=fun n hn1 hn2=>by
  subst hn1;rcases h3 with⟨h4,_⟩|⟨_,b,h5,_,h7,h8⟩
  ·exact absurd h4 hn2
  ·refine⟨h7,fun b' hb'=>?_⟩
   rw[hbud _ _ h5] at hb';simp only[vX] at hb';exact hb'▸h8
 refine⟨by simp;omega,fun x hx=>?_,hall,hprt,fun n=>?_,fun n b hb=>?_,?_,?_,fun n=>?_⟩
 ·rw[zY] at hx
  rcases hx with hx|hx
  ·obtain⟨k1,k2,k3,b,k4⟩:=h.bad x hx
   exact⟨k1,k2,k3,b,hbud _ _ k4⟩
  ·simp only[uI] at hx
   subst hx;refine⟨h1,hn,fun c=>?_,hbude⟩;rcases h3 with⟨h4,_⟩|⟨_,b,_,h6,_⟩
   ·omega
   ·exact⟨(h6 c).1,(h6 c).2.1⟩
 ·by_cases c:e.2.1=n/\(e.1=2\/e.1=3)
  ·exact(hsp n c.1 (by omega)).1
  ·rw[agZ c];exact h.ok n
 ·by_cases c:e.2.1=n/\(e.1=2\/e.1=3)
  ·exact(hsp n c.1 (by omega)).2 b hb
  ·rw[agZ c]
   rw[pK] at hb;cases hb0:fX done n with
   | some b0 =>
    rw[hb0] at hb;simp only[Option.some_or,vX] at hb;exact hb▸h.le n b0 hb0
   | none =>
    rw[hb0] at hb
    have hz:prs done n=[]:=by
     unfold prs;rw[rR,sR];intro x hx;simp only[oV];rintro⟨k1,_⟩;obtain⟨_,_,_,b',k4⟩:=h.bad x hx;rw[k1,hb0] at k4;cases k4
    have hy:lss done n 2 0=[]:=by
     unfold lss;rw[rR,sR];intro x hx;simp only[qH,oV];rintro⟨k1,_⟩;obtain⟨_,_,_,b',k4⟩:=h.bad x hx;rw[k1,hb0] at k4;cases k4
    by_cases c2:e.1=1/\e.2.1=n
    ·rw[xQ c2] at hb
     simp only[Option.none_or,vX] at hb;subst hb
     have:yJ done n=(bZ,0):=by
      simp[yJ,zX,hz,hy,rA,iY,afQ]
     rw[this];exact yB b4
    ·rw[qQ c2] at hb;simp at hb
 ·rw[cB]
  by_cases c:e.1=1
  ·rw[xQ c]
   rcases h3 with⟨_,_,h6⟩|⟨h4,_⟩
   ·simp;omega
   ·exact absurd c h4
  ·rw[qQ c];simpa using h.ops
 ·rw[cB]
  by_cases c:e.1=1
  ·rw[xQ c]
   rcases h3 with⟨_,h5,_⟩|⟨h4,_⟩
   ·rw[List.nodup_append]
    refine⟨h.nod,by simp,fun a ha b hb=>?_⟩;simp only[uI] at hb;subst hb;exact fun e'=>(crX done e.2.1).1 h5 (e'▸ha)
   ·exact absurd c h4
  ·rw[qQ c];simpa using h.nod
 ·by_cases c:e.2.1=n/\e.1=3
  ·obtain⟨rfl,c2⟩:=c
   rcases h3 with⟨h4,_⟩|⟨_,b,_,h6,_⟩
   ·omega
   ·exact(h6 c2).2.2
  ·rw[dB,qQ (fun k=>c ⟨k.1,k.2.1⟩)];exact h.par n
def sU (n:Nat):Int:=if n<9223372036854775808 then (n:Int) else (n:Int) - 18446744073709551616
def nG (x:Int):Nat:=(x % 18446744073709551616).toNat
theorem gB {n:Nat}(h:n<18446744073709551616):nG (sU n)=n:=by
 unfold nG sU;split <;> omega
theorem ahQ {α:Type}{P:List α->Prop}(h0:P [])(h1:∀ l b,P l->P (l++[b]))(l:List α):P l:=by
 rw[<-List.reverse_reverse l]
 induction l.reverse with
 | nil=>exact h0
 | cons a r ih=>rw[List.reverse_cons];exact h1 _ _ ih
def uV (l:List Nat):Nat:=l.foldl (fun n b=>n*256+b) 0
theorem ahX (l:List Nat)(b:Nat):uV (l++[b])=uV l*256+b:=by simp[uV]
theorem tP {l:List Nat}:(∀ b∈l,b<256)->uV l<256 ^ l.length:=by
 refine ahQ (P:=fun l=>(∀ b∈l,b<256)->uV l<256 ^ l.length) (fun _=>by simp[uV]) (fun l b ih h=>?_) l;have h1:=ih fun x hx=>h x (by simp[hx]);have h2:=h b (by simp);rw[ahX,zJ,bY,Nat.pow_succ];omega
def yU:Nat->Nat->List Nat
 | 0,_=>[]
 | k+1,n=>yU k (n / 256)++[n % 256]
theorem qR (k n:Nat):(yU k n).length=k:=by
 induction k generalizing n with
 | zero=>rfl
 | succ k ih=>simp[yU,ih]
theorem ctX {l:List Nat}:(∀ b∈l,b<256)->yU l.length (uV l)=l:=by
 refine ahQ (P:=fun l=>(∀ b∈l,b<256)->yU l.length (uV l)=l) (fun _=>rfl) (fun l b ih h=>?_) l;have h1:=ih fun x hx=>h x (by simp[hx]);have h2:=h b (by simp);rw[ahX,zJ,bY];simp only[yU];rw[show(uV l*256+b) / 256=uV l by omega,show(uV l*256+b) % 256=b by omega,h1]
theorem ctZ (k n:Nat):∀ b∈yU k n,b<256:=by
 induction k generalizing n with
 | zero=>simp[yU]
 | succ k ih =>
  intro b hb;simp only[yU,zY,uI] at hb;rcases hb with hb|rfl
  ·exact ih _ b hb
  ·omega
def octs (s:List Nat) (w:Nat):List Nat:=(List.range 8).map fun i=>s.getD (8*w+i) 0
def eJ (s:List Nat):List Int:=(List.range 4).map fun w=>sU (uV (octs s w))
def bA (l:List Int):List Nat:=l.flatMap fun x=>(yU 8 (nG x)).filter (·≠0)
theorem zH (s:List Nat):(eJ s).length=4:=by simp[eJ]
theorem xR {s:List Nat}(h:∀ b∈s,b<256)(w:Nat):∀ b∈octs s w,b<256:=by
 intro b hb;obtain⟨i,_,rfl⟩:=tZ.1 hb;rw[List.getD];cases e:s[8*w+i]? with
 | none=>simp
 | some x=>simpa using h x (uX e)
theorem ctJ (s:List Nat)(k n:Nat):((List.range n).map fun i=>s.getD (k+i) 0).filter (·≠0)=((s.drop k).take n).filter (·≠0):=by
 induction n with
 | zero=>simp
 | succ n ih =>
  rw[List.range_succ,uG,sM,ih,kZ,sM];congr 1;rw[kF];cases e:s[k+n]? with
  | none=>simp[List.getD,e]
  | some x=>simp[List.getD,e]
theorem cuQ {s:List Nat}(hl:s.length<=32)(h:∀ b∈s,b<256)(h0:∀ b∈s,b≠0):bA (eJ s)=s:=by
 have one:∀ w,(yU 8 (nG (sU (uV (octs s w))))).filter (·≠0)=((s.drop (8*w)).take 8).filter (·≠0):=by
  intro w;have hlt:=xR h w;have h8:(octs s w).length=8:=by simp[octs]
  have hb:=tP hlt;rw[h8] at hb;rw[gB (by simpa using hb)];have:=ctX hlt;rw[h8] at this;rw[this];exact ctJ s (8*w) 8
 have nz:∀ k n,((s.drop k).take n).filter (·≠0)=(s.drop k).take n:=by
  intro k n;refine List.filter_eq_self.2 fun b hb=>?_;simpa using h0 b (tC (lF hb))
 unfold bA eJ;rw[List.flatMap_map]
 have:(fun w=>(yU 8 (nG (sU (uV (octs s w))))).filter (·≠0))=fun w=>(s.drop (8*w)).take 8:=by
  funext w;rw[one,nz]
 show(List.range 4).flatMap (fun w=>(yU 8 (nG (sU (uV (octs s w))))).filter (·≠0))=s;rw[this];have e:List.range 4=[0,1,2,3]:=rfl;rw[e];simp only[wI,List.flatMap_nil,xD]
 have key:∀ (k n:Nat),s.drop k=(s.drop k).take n++s.drop (k+n):=fun k n=>by
  rw[<-List.drop_drop,gR]
 have h32:s.drop 32=[]:=qD hl
 conv=>rhs;rw[<-rM (l:=s),key 0 8,key (0+8) 8,key (0+8+8) 8,key (0+8+8+8) 8]
 rw[show 0+8+8+8+8=32 from rfl,h32];simp
def dU (n:ByteArray):List Nat:=n.data.toList.map UInt8.toNat
def eU (l:List Nat):ByteArray:=⟨(l.map UInt8.ofNat).toArray⟩
theorem cuX (n:ByteArray):eU (dU n)=n:=by
 unfold eU dU;rw[List.map_map]
 have:(UInt8.ofNat ∘ UInt8.toNat)=id:=by funext b;simp
 rw[this,List.map_id]
theorem zR (n:ByteArray):∀ b∈dU n,b<256:=by
 intro b hb;obtain⟨x,_,rfl⟩:=tZ.1 hb;exact UInt8.toNat_lt x
def vZ (e:En):List Int:=[1,e.1,e.2.2.1,e.2.2.2.1,e.2.2.2.2]++eJ (dU e.2.1)
def pI (r:List Int):En:=(r.getD 1 0,eU (bA (r.drop 5)),r.getD 2 0,r.getD 3 0,r.getD 4 0)
theorem rN (e:En):(vZ e).length=9:=by simp[vZ,zH]
theorem cuZ (e:En)(hn:eZ e.2.1.data.toList=true):pI (vZ e)=e:=by
 have h1:bA (eJ (dU e.2.1))=dU e.2.1:=by
  unfold eZ at hn;simp only[wM,oV] at hn;refine cuQ ?_ (zR _) ?_
  ·simp only[dU,nY];omega
  ·intro b hb
   obtain⟨x,hx,rfl⟩:=tZ.1 hb;have:=fO.1 hn.2 x hx;intro h0;have hx0:x=0:=UInt8.toNat_inj.1 (by simpa using h0);subst hx0;revert this;decide
 show(e.1,eU (bA (eJ (dU e.2.1))),e.2.2.1,e.2.2.2.1,e.2.2.2.2)=e;rw[h1,cuX]
def rcd (disk:List Int) (i:Nat):List Int:=(disk.drop (9*i)).take 9
def sA (disk:List Int) (done:List En) (i:Nat):Prop:=9*i+9<=disk.length/\(rcd disk i).getD 0 0=1/\vZ (pI (rcd disk i))=rcd disk i/\cZ done (nrm (pI (rcd disk i)))=0
inductive Rds (disk:List Int):Nat->List En->Prop
 | nil:Rds disk 0 []
 | more {n:Nat} {done:List En}:Rds disk n done->sA disk done n->Rds disk (n+1) (done++[nrm (pI (rcd disk n))])
def oG (disk:List Int) (done:List En):Prop:=Rds disk done.length done/\¬ sA disk done done.length
theorem Rds.uniq {disk:List Int}{n:Nat}{a b:List En}(h:Rds disk n a)(k:Rds disk n b):a=b:=by
 induction h generalizing b with
 | nil=>cases k;rfl
 | more h1 _ ih =>
  cases k with
  | more k1 _=>rw[ih k1]
theorem Rds.pre {disk:List Int}{n:Nat}{a:List En}(h:Rds disk n a):∀ {m:Nat},m<n->∃ b,Rds disk m b/\sA disk b m:=by
 induction h with
 | nil=>intro m hm;omega
 | @more n done h1 h2 ih =>
  intro m hm;rcases Nat.lt_or_ge m n with c|c
  ·exact ih c
  ·obtain rfl:m=n:=by omega
   exact⟨done,h1,h2⟩
theorem oG.uniq {disk:List Int}{a b:List En}(h:oG disk a)(k:oG disk b):a=b:=by
 rcases Nat.lt_trichotomy a.length b.length with c|c|c
 ·obtain⟨x,hx,hc⟩:=k.1.pre c
  rw[<-h.1.uniq hx] at hc;exact absurd hc h.2
 ·exact h.1.uniq (c▸k.1)
 ·obtain⟨x,hx,hc⟩:=h.1.pre c
  rw[<-k.1.uniq hx] at hc;exact absurd hc k.2
theorem Rds.keep {disk disk':List Int}{n:Nat}{done:List En}(h:Rds disk n done)(hl:disk'.length=disk.length)(he:∀ i,i<n->rcd disk' i=rcd disk i):Rds disk' n done:=by
 induction h with
 | nil=>exact .nil
 | @more n done _ h2 ih =>
  have e:=he n (by omega);have h3:=ih fun i hi=>he i (by omega);have h4:sA disk' done n:=by unfold sA at *;rw[e,hl];exact h2
  have:=Rds.more h3 h4;rw[e] at this;exact this
def iX:List Int->Int->List (Nat × Int)->List Int × Int × Bool
 | disk,left,[]=>(disk,left,true)
 | disk,left,(a,x)::r=>if left=0 then (disk,0,false) else iX (disk.set a x) (if 0<left then left - 1 else left) r
def uJ (disk:List Int) (ws:List (Nat × Int)):List Int:=ws.foldl (fun d p=>d.set p.1 p.2) disk
theorem jH (disk:List Int)(ws:List (Nat × Int)):(uJ disk ws).length=disk.length:=by
 induction ws generalizing disk with
 | nil=>rfl
 | cons p ws ih=>unfold uJ at *;rw[List.foldl_cons,ih];simp
theorem cuJ (disk:List Int)(a b:List (Nat × Int)):uJ disk (a++b)=uJ (uJ disk a) b:=by simp[uJ]
theorem iB {disk disk':List Int}{left left':Int}{ws:List (Nat × Int)}{ok:Bool}(h:iX disk left ws=(disk',left',ok)) :
  ∃ m,m<=ws.length/\disk' = uJ disk (ws.take m)/\(ok=true->m=ws.length)/\(ok=false->m<ws.length):=by
 induction ws generalizing disk left with
 | nil =>
  simp only[iX,cQ] at h;exact⟨0,vQ _,by simp[uJ,h.1],fun _=>rfl,fun e=>by rw[<-h.2.2] at e;cases e⟩
 | cons p ws ih =>
  obtain⟨a,x⟩:=p;simp only[iX] at h;by_cases c:left=0
  ·rw[xQ c] at h
   simp only[cQ] at h;exact⟨0,nQ _,by simp[uJ,h.1],(fun e=>by rw[<-h.2.2] at e;cases e),fun _=>by simp⟩
  ·rw[qQ c] at h
   obtain⟨m,h1,h2,h3,h4⟩:=ih h;refine⟨m+1,by simpa using h1,by rw[h2];simp[uJ],fun e=>by rw[h3 e];rfl,fun e=>?_⟩;have:=h4 e;simp;omega
theorem ahZ (disk:List Int)(ws:List (Nat × Int))(j:Nat)(h:∀ p∈ws,p.1≠j):(uJ disk ws)[j]? = disk[j]?:=by
 induction ws generalizing disk with
 | nil=>rfl
 | cons p ws ih =>
  unfold uJ at *
  rw[List.foldl_cons,ih _ fun q hq=>h q (by simp[hq]),yG (h p (by simp))]
theorem cvQ {d d':List Int}{i:Nat}(h:∀ j,9*i<=j->j<9*i+9->d'[j]? = d[j]?):rcd d' i=rcd d i:=by
 apply zK;intro j;unfold rcd;rw[eH,eH];by_cases c:j<9
 ·rw[xQ c,xQ c,kF,kF]
  exact h (9*i+j) (by omega) (by omega)
 ·rw[qQ c,qQ c]
theorem sK {d:List Int}{i:Nat}:(rcd d i).getD 0 0=d.getD (9*i) 0:=by
 unfold rcd;simp[List.getD,kF]
def wrs (n:Nat) (e:En):List (Nat × Int):=(9*n,0)::((List.range 8).map (fun j=>(9*n+(j+1),(vZ e).getD (j+1) 0))++[(9*n,1)])
theorem jR (n:Nat)(e:En):(wrs n e).length=10:=by simp[wrs]
theorem cvX {n:Nat}{e:En}:∀ p∈wrs n e,9*n<=p.1/\p.1<9*n+9:=by
 intro p hp;simp only[wrs,yX,zY,tZ,jK,jJ,vJ] at hp;rcases hp with rfl|⟨j,hj,rfl⟩|rfl
 ·simp
 ·simp;omega
 ·simp
theorem vR {disk:List Int}{n i m:Nat}{e:En}(h:i≠n):rcd (uJ disk ((wrs n e).take m)) i=rcd disk i:=by
 refine cvQ fun j h1 h2=>ahZ _ _ _ fun p hp=>?_;have:=cvX p (lF hp);omega
theorem ahJ {disk:List Int}{n m:Nat}{e:En}(hl:9*n<disk.length)(h1:1<=m)(h2:m<10):(uJ disk ((wrs n e).take m)).getD (9*n) 0=0:=by
 obtain⟨k,rfl⟩:∃ k,m=k+1:=⟨m - 1,by omega⟩
 have e1:(wrs n e).take (k+1)=(9*n,0)::((List.range 8).map (fun j=>(9*n+(j+1),(vZ e).getD (j+1) 0))).take k:=by
  unfold wrs;rw[List.take_succ_cons,List.take_append_of_le_length (by simp;omega)]
 rw[e1];have e2:uJ disk ((9*n,0)::((List.range 8).map (fun j=>(9*n+(j+1),(vZ e).getD (j+1) 0))).take k)=uJ (disk.set (9*n) 0) (((List.range 8).map (fun j=>(9*n+(j+1),(vZ e).getD (j+1) 0))).take k):=by simp[uJ]
 rw[e2,List.getD,ahZ]
 ·rw[lA hl];rfl
 ·intro p hp
  obtain⟨j,_,rfl⟩:=tZ.1 (lF hp);simp
theorem aiQ (disk:List Int)(a:Nat)(f:Nat->Int):∀ k,a+k<=disk.length->∀ j,j<k->(uJ disk ((List.range k).map fun i=>(a+i,f i)))[a+j]? = some (f j)
 | 0,_,j,hj=>by omega
 | k+1,hl,j,hj=>by
  rw[List.range_succ,uG,cuJ];simp only[qI,List.map_nil];have e:∀ d:List Int,uJ d [(a+k,f k)]=d.set (a+k) (f k):=fun d=>rfl;rw[e];by_cases c:j=k
  ·subst c
   rw[lA (by rw[jH];omega)]
  ·rw[yG (by omega)]
   exact aiQ disk a f k (by omega) j (by omega)
theorem cvZ {disk:List Int}{n:Nat}{e:En}(hl:9*n+9<=disk.length):rcd (uJ disk (wrs n e)) n=vZ e:=by
 have e1:uJ disk (wrs n e)=(uJ (disk.set (9*n) 0) ((List.range 8).map (fun j=>(9*n+1+j,(vZ e).getD (j+1) 0)))).set (9*n) 1:=by
  have e0:((List.range 8).map fun j=>(9*n+(j+1),(vZ e).getD (j+1) 0))=(List.range 8).map fun j=>(9*n+1+j,(vZ e).getD (j+1) 0):=lR fun j _=>by rw[show 9*n+(j+1)=9*n+1+j by omega]
  unfold wrs;rw[e0];simp[uJ]
 rw[e1];apply zK;intro j;unfold rcd;rw[eH];by_cases c:j<9
 ·rw[xQ c,kF]
  by_cases c0:j=0
  ·subst c0
   rw[show 9*n+0=9*n from rfl,lA (by rw[jH,yL];omega)];rfl
  ·rw[yG (by omega),show 9*n+j=9*n+1+(j - 1) by omega]
   rw[aiQ (disk.set (9*n) 0) (9*n+1) (fun j=>(vZ e).getD (j+1) 0) 8 (by simp;omega) (j - 1) (by omega)]
   show some ((vZ e).getD (j - 1+1) 0)=(vZ e)[j]?
   rw[show j - 1+1=j by omega,List.getD,dZ (by rw[rN];exact c)];rfl
 ·rw[qQ c,uL (by rw[rN];omega)]
def Hz (disk:List Int) (n:Nat):Prop:=∀ i,n<=i->9*i+9<=disk.length->disk.getD (9*i) 0≠1
theorem aiX (k:Nat):Hz (List.replicate k 0) 0:=by
 intro i _ _;rw[List.getD,tM];split <;> simp
theorem cvJ (k:Nat):oG (List.replicate k 0) []:=by
 refine⟨.nil,fun h=>?_⟩;have h1:=aiX k 0 (vQ _) h.1;rw[<-sK] at h1;exact h1 h.2.1
theorem cwQ {disk:List Int}{n m:Nat}{e:En}(h:Hz disk n)(hl:9*n+9<=disk.length)(hm:m<10):Hz (uJ disk ((wrs n e).take m)) n:=by
 intro i hi hli;rw[jH] at hli;by_cases c:i=n
 ·subst c
  by_cases c0:m=0
  ·subst c0;exact h i hi hli
  ·rw[ahJ (by omega) (by omega) hm];decide
 ·rw[<-sK,vR c,sK]
  exact h i hi hli
theorem aiZ {disk:List Int}{n:Nat}{e:En}(h:Hz disk n):Hz (uJ disk (wrs n e)) (n+1):=by
 intro i hi hli;rw[jH] at hli;have:=vR (disk:=disk) (n:=n) (i:=i) (m:=10) (e:=e) (by omega);rw[fV (by rw[jR];exact vQ _)] at this;rw[<-sK,this,sK];exact h i (by omega) hli
theorem cwX {disk:List Int}{done:List En}{m:Nat}{e:En}(h:oG disk done)(hl:9*done.length+9<=disk.length)(hm:m<10):oG (uJ disk ((wrs done.length e).take m)) done:=by
 by_cases c0:m=0
 ·subst c0;exact h
 ·refine⟨h.1.keep (jH _ _) fun i hi=>vR (by omega),fun hc=>?_⟩
  have h1:=hc.2.1;rw[sK,ahJ (by omega) (by omega) hm] at h1;exact absurd h1 (by decide)
theorem cwZ {disk:List Int}{done:List En}{e:En}(h:oG disk done)(hz:Hz disk done.length)(hl:9*done.length+9<=disk.length)(hd:cZ done (nrm e)=0):oG (uJ disk (wrs done.length (nrm e))) (done++[nrm e]):=by
 have hb:sZ (nrm e)=0:=by
  unfold cZ at hd;by_cases c:sZ (nrm e)=0
  ·exact c
  ·rw[xQ c] at hd;exact absurd hd c
 have hn:eZ (nrm e).2.1.data.toList=true:=by
  unfold sZ at hb;split at hb
  ·cases hb
  ·split at hb
   ·rename_i h1;exact h1.1
   ·cases hb
 have hr:=cvZ (e:=nrm e) hl;have ht:=cuZ (nrm e) hn
 have hk:Rds (uJ disk (wrs done.length (nrm e))) done.length done:=h.1.keep (jH _ _) fun i hi=>by
  have:=vR (disk:=disk) (n:=done.length) (i:=i) (m:=10) (e:=nrm e) (by omega);rw[fV (by rw[jR];exact vQ _)] at this;exact this
 have hc:sA (uJ disk (wrs done.length (nrm e))) done done.length:=by
  refine⟨by rw[jH];exact hl,by rw[hr];rfl,by rw[hr,ht],by rw[hr,ht,aB];exact hd⟩
 have hm:=Rds.more hk hc;rw[hr,ht,aB] at hm;refine⟨by simpa using hm,fun hx=>?_⟩;rw[zJ,bY] at hx;have h1:=aiZ (e:=nrm e) hz (done.length+1) (vQ _) hx.1;rw[<-sK] at h1;exact h1 hx.2.1

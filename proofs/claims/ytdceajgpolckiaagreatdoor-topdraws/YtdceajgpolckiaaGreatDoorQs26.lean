import Derived.Test.YtdceajgpolckiaaGreatDoorQs17
import Derived.Test.YtdceajgpolckiaaGreatDoorQs10
open Go.Proofs.Tryz
set_option linter.unusedSimpArgs false
set_option maxHeartbeats 16000000
set_option maxRecDepth 100000
namespace Go.Proofs.YtdceajgpolckiaaGreatDoor
namespace K.P
open K.Ds
abbrev Rq:=Int × Int
abbrev En:=Int × ByteArray × Int × Int × Int
def kQ (a b:Rq):Rq × Int:=(((Rt.bY a.1 a.2 b.1 b.2).1,(Rt.bY a.1 a.2 b.1 b.2).2.1),(Rt.bY a.1 a.2 b.1 b.2).2.2)
theorem abZ {a b c d n m e:Int}(h:Rt.bY a b c d=(n,m,e)):kQ (a,b) (c,d)=((n,m),e):=by unfold kQ;simp[h]
theorem xP (a b:Rq):Rt.bY a.1 a.2 b.1 b.2=((kQ a b).1.1,(kQ a b).1.2,(kQ a b).2):=rfl
def oQ (r:Rq):Prop:=Rt.bQ r.1 r.2=true/\r.2<=r.1
def rq (q:Rat):Rq:=(q.num,(q.den:Int))
theorem oQ.rat {r:Rq}(h:oQ r):∃ q:Rat,r=rq q/\Rt.Ok q/\1<=q:=by
 obtain⟨q,h1,h2,h3⟩:=Rt.bnQ h.1;refine⟨q,by unfold rq;rw[h1,h2],h3,?_⟩;have h4:=h.2;rw[<-h1,<-h2] at h4;rw[Rat.le_iff];simpa using h4
theorem clX {q:Rat}(h:Rt.Ok q)(h1:1<=q):oQ (rq q):=⟨Rt.wS q h,by rw[Rat.le_iff] at h1;simpa [rq] using h1⟩
def uZ:Rq:=(1,1)
theorem rT:oQ uZ:=⟨by decide,by decide⟩
theorem abJ:rq 1=uZ:=rfl
def wX (a b:Rq):Prop:=a.1*b.2<=b.1*a.2
instance (a b:Rq):Decidable (wX a b):=inferInstanceAs (Decidable (_<=_))
theorem cL (x y:Rat):wX (rq x) (rq y)↔x<=y:=by unfold wX rq;rw[Rat.le_iff]
theorem zP {x y:Rat}(hx:1<=x)(hy:1<=y):1<=x*y/\x<=x*y:=by
 have h0:(0:Rat)<=x:=Rat.le_trans (by decide) hx;have h2:x*1<=x*y:=Rat.mul_le_mul_of_nonneg_left hy h0;rw[Rat.mul_one] at h2;exact⟨Rat.le_trans hx h2,h2⟩
theorem acQ {x y:Rat}(hx:Rt.Ok x)(hy:Rt.Ok y)(h1:1<=x)(h2:1<=y):(Rt.Ok (x*y)/\kQ (rq x) (rq y)=(rq (x*y),0))\/(¬ Rt.Ok (x*y)/\kQ (rq x) (rq y)=((0,0),4)):=by
 have ht:=Rt.bnJ x y hx hy;have hp:(0:Rat)<=x*y:=Rat.le_trans (by decide) (zP h1 h2).1;have hn:0<=(x*y).num:=Rat.num_nonneg.2 hp;by_cases h:Rt.Ok (x*y)
 ·left;refine⟨h,?_⟩
  rw[Rt.bnX _ h] at ht;exact abZ ht
 ·right;refine⟨h,?_⟩
  have:Rt.tell (x*y)=(0,0,4):=by
   unfold Rt.tell;rw[qQ (by omega),zQ];unfold Rt.Ok at h;omega
  rw[this] at ht;exact abZ ht
theorem acX:kQ uZ uZ=(uZ,0):=by
 have ho:Rt.Ok 1:=⟨by decide,by decide,by decide⟩;rcases acQ ho ho Rat.le_refl Rat.le_refl with⟨_,e⟩|⟨h,_⟩
 ·rw[Rat.mul_one,abJ] at e;exact e
 ·rw[Rat.mul_one] at h;exact absurd ho h
theorem jH {a b:Rq}(ha:oQ a)(hb:oQ b):((kQ a b).2=0/\oQ (kQ a b).1/\wX a (kQ a b).1/\wX b (kQ a b).1)\/kQ a b=((0,0),4):=by
 obtain⟨x,rfl,hx,hx1⟩:=ha.rat;obtain⟨y,rfl,hy,hy1⟩:=hb.rat;rcases acQ hx hy hx1 hy1 with⟨h,e⟩|⟨_,e⟩
 ·left
  rw[e];refine⟨rfl,clX h (zP hx1 hy1).1,(cL _ _).2 (zP hx1 hy1).2,(cL _ _).2 ?_⟩;rw[Rat.mul_comm];exact(zP hy1 hx1).2
 ·right;exact e
theorem clZ (a:Rq):wX a a:=oD _
theorem clJ {a b c:Rq}(ha:oQ a)(hb:oQ b)(hc:oQ c)(h1:wX a b)(h2:wX b c):wX a c:=by
 obtain⟨x,rfl,_,_⟩:=ha.rat;obtain⟨y,rfl,_,_⟩:=hb.rat;obtain⟨z,rfl,_,_⟩:=hc.rat;rw[cL] at *
 exact Rat.le_trans h1 h2
theorem acZ {a b:Rq}(ha:oQ a)(hb:oQ b)(h1:wX a b)(h2:wX b a):a=b:=by
 obtain⟨x,rfl,_,_⟩:=ha.rat;obtain⟨y,rfl,_,_⟩:=hb.rat;rw[cL] at *
 rw[Rat.le_antisymm h1 h2]
theorem acJ {a b:Rq}(ha:oQ a)(hb:oQ b)(h:¬ wX a b):wX b a:=by
 obtain⟨x,rfl,_,_⟩:=ha.rat;obtain⟨y,rfl,_,_⟩:=hb.rat;rw[cL] at *
 exact Rat.le_of_lt (Rat.not_le.1 h)
theorem sT {a:Rq}(h:oQ a):wX uZ a:=by
 obtain⟨x,rfl,_,h1⟩:=h.rat;rw[<-abJ,cL];exact h1
def iG (r:Rq):List Rq->Rq × Int
 | []=>(r,0)
 | x::xs=>if (kQ r x).2=0 then iG (kQ r x).1 xs else ((0,0),(kQ r x).2)
theorem adQ (r:Rq)(l:List Rq)(x:Rq):iG r (l++[x])=if (iG r l).2=0 then (if (kQ (iG r l).1 x).2=0 then kQ (iG r l).1 x else ((0,0),(kQ (iG r l).1 x).2)) else iG r l:=by
 induction l generalizing r with
 | nil =>
  simp only[List.nil_append,iG];by_cases h:(kQ r x).2=0
  ·simp[h];rw[<-h]
  ·simp[h]
 | cons y l ih =>
  simp only[kF,iG];by_cases h:(kQ r y).2=0
  ·simp only[h,↓reduceIte];exact ih _
  ·simp[h]
def vF (n:ByteArray) (d p:Int) (e:En):Bool:=decide (e.2.1=n/\e.1=d/\(d≠3\/e.2.2.1=p))
def lss (done:List En) (n:ByteArray) (d p:Int):List Rq:=(done.filter (vF n d p)).map (·.2.2.2)
def jX (done:List En) (n:ByteArray):Rq × Int:=iG uZ (lss done n 2 0)
def lQ (done:List En) (n:ByteArray) (p:Int):Rq × Int:=iG uZ (lss done n 3 p)
def prs (done:List En) (n:ByteArray):List Int:=(done.filter fun e=>decide (e.2.1=n/\e.1=3)).map (·.2.2.1)
def lU (out:List Int):List Int->List Int
 | []=>out
 | p::ps=>if p∈out then lU out ps else lU (out++[p]) ps
def bZ (done:List En) (n:ByteArray):List Int:=lU [] (prs done n)
def jY (f:Int->Rq × Int) (m:Rq):List Int->Rq × Int
 | []=>(m,0)
 | p::ps=>if (f p).2=0 then jY f (if wX m (f p).1 then (f p).1 else m) ps else ((0,0),(f p).2)
def lZ (done:List En) (n:ByteArray):Rq × Int :=
 if (jX done n).2=0 then (if (jY (lQ done n) uZ (prs done n)).2=0 then kQ (jX done n).1 (jY (lQ done n) uZ (prs done n)).1 else ((0,0),(jY (lQ done n) uZ (prs done n)).2)) else ((0,0),(jX done n).2)
def yX (done:List En) (n:ByteArray):Option Rq:=(done.find? fun e=>decide (e.1=1/\e.2.1=n)).map (·.2.2.2)
def mU (done:List En):List ByteArray:=(done.filter fun e=>decide (e.1=1)).map (·.2.1)
def eZ (e:En):Int:=if e.1<1\/3<e.1 then 1 else if fJ e.2.1.data.toList=true/\Rt.bQ e.2.2.2.1 e.2.2.2.2=true then (if e.2.2.2.1<e.2.2.2.2 then 3 else 0) else 2
def qZ (done:List En) (e:En):Int :=
 if eZ e≠0 then eZ e else if 4096<=done.length then 4 else
 match yX done e.2.1 with
 | none=>if e.1=1 then (if 64<=(mU done).length then 5 else 0) else 7
 | some b=>if e.1=1 then 7 else
  if e.1=3/\(e.2.2.1<0\/1073741824<e.2.2.1) then 3 else
  if e.1=3/\64<(bZ (done++[e]) e.2.1).length then 5 else
  if (lZ (done++[e]) e.2.1).2≠0 then (lZ (done++[e]) e.2.1).2 else if wX (lZ (done++[e]) e.2.1).1 b then 0 else 10
def nrm (e:En):En:=if e.1=3 then e else (e.1,e.2.1,0,e.2.2.2)
theorem adX (e:En):(nrm e).1=e.1:=by unfold nrm;split <;> rfl
theorem jP (e:En):(nrm e).2.1=e.2.1:=by unfold nrm;split <;> rfl
theorem adZ (e:En):(nrm e).2.2.2=e.2.2.2:=by unfold nrm;split <;> rfl
theorem tT (e:En):nrm (nrm e)=nrm e:=by
 by_cases h:e.1=3
 ·simp[nrm,h]
 ·simp[nrm,h]
def rY (done:List En) (e:En):List En:=if qZ done (nrm e)=0 then done++[nrm e] else done
structure Top (f:Int->Rq) (P:Int->Prop) (m:Rq):Prop where
 ok:oQ m
 oks:∀ p,P p->oQ (f p)
 is:m=uZ\/∃ p,P p/\f p=m
 le:∀ p,P p->wX (f p) m
theorem Top.uniq {f:Int->Rq}{P:Int->Prop}{a b:Rq}(ha:Top f P a)(hb:Top f P b):a=b:=by
 refine acZ ha.ok hb.ok ?_ ?_
 ·rcases ha.is with rfl|⟨p,hp,rfl⟩
  ·exact sT hb.ok
  ·exact hb.le p hp
 ·rcases hb.is with rfl|⟨p,hp,rfl⟩
  ·exact sT ha.ok
  ·exact ha.le p hp
theorem Top.congr {f g:Int->Rq}{P Q:Int->Prop}{m:Rq}(h:Top f P m)(hP:∀ p,P p↔Q p)(hf:∀ p,P p->f p=g p):Top g Q m :=
 ⟨h.ok,fun p hp=>hf p ((hP p).2 hp)▸h.oks p ((hP p).2 hp),h.is.imp id fun⟨p,hp,e⟩=>⟨p,(hP p).1 hp,by rw[<-hf p hp];exact e⟩,fun p hp=>hf p ((hP p).2 hp)▸h.le p ((hP p).2 hp)⟩
theorem wT (f:Int->Rq):Top f (fun _=>False) uZ:=⟨rT,fun _ h=>h.elim,.inl rfl,fun _ h=>h.elim⟩
theorem Top.more {f:Int->Rq}{P:Int->Prop}{m:Rq}(h:Top f P m){p:Int}(hp:oQ (f p)):Top f (fun q=>P q\/q=p) (if wX m (f p) then f p else m):=by
 have hoks:∀ q,(P q\/q=p)->oQ (f q):=fun q hq=>by
  rcases hq with hq|rfl
  ·exact h.oks q hq
  ·exact hp
 by_cases c:wX m (f p)
 ·rw[zQ c]
  refine⟨hp,hoks,.inr ⟨p,.inr rfl,rfl⟩,fun q hq=>?_⟩;rcases hq with hq|rfl
  ·exact clJ (h.oks q hq) h.ok hp (h.le q hq) c
  ·exact clZ _
 ·rw[qQ c]
  refine⟨h.ok,hoks,h.is.imp id fun⟨q,hq,e⟩=>⟨q,.inl hq,e⟩,fun q hq=>?_⟩;rcases hq with hq|rfl
  ·exact h.le q hq
  ·exact acJ h.ok hp c
theorem cmQ {a b:Rq}(ha:oQ a)(hb:oQ b):(if wX a b then b else a)=(if wX b a then a else b):=by
 by_cases c:wX a b
 ·by_cases c2:wX b a
  ·rw[zQ c,zQ c2];exact acZ hb ha c2 c
  ·rw[zQ c,qQ c2]
 ·rw[qQ c,zQ (acJ ha hb c)]
theorem adJ {f:Int->Rq × Int}{P:Int->Prop}{m:Rq}(ps:List Int)(h:Top (fun p=>(f p).1) P m)(hf:∀ p∈ps,(f p).2=0/\oQ (f p).1) :
  (jY f m ps).2=0/\Top (fun p=>(f p).1) (fun q=>P q\/q∈ps) (jY f m ps).1:=by
 induction ps generalizing P m with
 | nil=>exact⟨rfl,h.congr (by simp) (fun _ _=>rfl)⟩
 | cons p ps ih =>
  have h1:=hf p (zM ..);have h2:=ih (h.more (p:=p) h1.2) (fun q hq=>hf q (xM _ hq));simp only[jY,h1.1,↓reduceIte];refine⟨h2.1,h2.2.congr (fun q=>?_) (fun _ _=>rfl)⟩;simp only[kX];constructor
  ·rintro((h|h)|h)
   ·exact .inl h
   ·exact .inr (.inl h)
   ·exact .inr (.inr h)
  ·rintro(h|h|h)
   ·exact .inl (.inl h)
   ·exact .inl (.inr h)
   ·exact .inr h
theorem cmX {f:Int->Rq × Int}{m:Rq}(ps:List Int){c:Int}(hc:c≠0)(hf:∀ p∈ps,(f p).2=0\/(f p).2=c)(he:∃ p∈ps,(f p).2=c):jY f m ps=((0,0),c):=by
 induction ps generalizing m with
 | nil=>simp at he
 | cons p ps ih =>
  by_cases h:(f p).2=0
  ·simp only[jY,h,↓reduceIte]
   refine ih (fun q hq=>hf q (xM _ hq)) ?_;obtain⟨q,hq,e⟩:=he;rcases kX.1 hq with rfl|hq
   ·exact absurd (h.symm.trans e).symm hc
   ·exact⟨q,hq,e⟩
  ·simp only[jY,h,↓reduceIte]
   rcases hf p (zM ..) with e|e
   ·exact absurd e h
   ·rw[e]
theorem vP (done:List En)(e:En)(n:ByteArray)(d p:Int):lss (done++[e]) n d p=lss done n d p++(if vF n d p e=true then [e.2.2.2] else []):=by
 unfold lss;rw[rL,aG];by_cases h:vF n d p e=true <;> simp[h]
theorem yP (done:List En)(e:En)(n:ByteArray):prs (done++[e]) n=prs done n++(if e.2.1=n/\e.1=3 then [e.2.2.1] else []):=by
 unfold prs;rw[rL,aG];by_cases h:e.2.1=n/\e.1=3 <;> simp[h]
theorem qB (done:List En)(e:En):mU (done++[e])=mU done++(if e.1=1 then [e.2.1] else []):=by
 unfold mU;rw[rL,aG];by_cases h:e.1=1 <;> simp[h]
theorem qK (done:List En)(e:En)(n:ByteArray):yX (done++[e]) n=(yX done n).or (if e.1=1/\e.2.1=n then some e.2.2.2 else none):=by
 unfold yX;rw[List.find?_append];by_cases h:e.1=1/\e.2.1=n
 ·cases hf:done.find? (fun e=>decide (e.1=1/\e.2.1=n)) <;> simp[h]
 ·cases hf:done.find? (fun e=>decide (e.1=1/\e.2.1=n)) <;> simp[h]
theorem cmZ (done:List En)(n:ByteArray):yX done n=none↔n ∉ mU done:=by
 unfold yX mU;simp only[Option.map_eq_none_iff,List.find?_eq_none,oJ,yJ,List.mem_filter,not_exists,not_and,and_imp]
theorem cmJ (out l m:List Int):lU out (l++m)=lU (lU out l) m:=by
 induction l generalizing out with
 | nil=>rfl
 | cons p l ih=>simp only[kF,lU];split <;> exact ih _
theorem cnQ (out l:List Int)(x:Int):x∈lU out l↔x∈out\/x∈l:=by
 induction l generalizing out with
 | nil=>simp[lU]
 | cons p l ih =>
  simp only[lU];split
  ·next h =>
   rw[ih];simp only[kX];constructor
   ·rintro(h|h) <;> simp[h]
   ·rintro(h1|rfl|h1)
    ·exact .inl h1
    ·exact .inl h
    ·exact .inr h1
  ·rw[ih];simp only[uY,kX,kJ,lJ,or_assoc]
theorem uP (done:List En)(n:ByteArray)(p:Int):p∈bZ done n↔p∈prs done n:=by unfold bZ;rw[cnQ];simp
theorem xB (done:List En)(e:En)(n:ByteArray):bZ (done++[e]) n=if e.2.1=n/\e.1=3/\e.2.2.1 ∉ bZ done n then bZ done n++[e.2.2.1] else bZ done n:=by
 unfold bZ;rw[yP,cmJ];by_cases h:e.2.1=n/\e.1=3
 ·simp only[h,and_self,↓reduceIte,true_and,lU]
  split <;> simp_all
 ·rw[qQ h,qQ (fun c=>h ⟨c.1,c.2.1⟩)];rfl
structure Inv (done:List En):Prop where
 len:done.length<=4096
 bad:∀ e∈done,eZ e=0/\nrm e=e/\(e.1=3->0<=e.2.2.1/\e.2.2.1<=1073741824)/\∃ b,yX done e.2.1=some b
 all:∀ n,(jX done n).2=0/\oQ (jX done n).1
 prt:∀ n p,(lQ done n p).2=0/\oQ (lQ done n p).1
 ok:∀ n,(lZ done n).2=0
 le:∀ n b,yX done n=some b->wX (lZ done n).1 b
 ops:(mU done).length<=64
 nod:(mU done).Nodup
 par:∀ n,(bZ done n).length<=64
theorem gD {e:En}(h:eZ e=0):1<=e.1/\e.1<=3/\fJ e.2.1.data.toList=true/\oQ e.2.2.2:=by
 unfold eZ at h;by_cases c1:e.1<1\/3<e.1
 ·rw[zQ c1] at h;omega
 rw[qQ c1] at h;by_cases c2:fJ e.2.1.data.toList=true/\Rt.bQ e.2.2.2.1 e.2.2.2.2=true
 ·rw[zQ c2] at h
  by_cases c3:e.2.2.2.1<e.2.2.2.2
  ·rw[zQ c3] at h;omega
  ·exact⟨by omega,by omega,c2.1,c2.2,by omega⟩
 ·rw[qQ c2] at h;omega
theorem aeQ:Inv []:=by
 refine⟨by simp,by simp,fun n=>⟨rfl,rT⟩,fun n p=>⟨rfl,rT⟩,fun n=>by simp[lZ,jX,lss,prs,iG,jY,acX],fun n b h=>by simp[yX] at h,by simp[mU],by simp[mU],fun n=>by simp[bZ,prs,lU]⟩
theorem Inv.top {done:List En}(h:Inv done)(n:ByteArray):(jY (lQ done n) uZ (prs done n)).2=0/\Top (fun p=>(lQ done n p).1) (fun p=>p∈prs done n) (jY (lQ done n) uZ (prs done n)).1:=by
 have:=adJ (f:=lQ done n) (prs done n) (wT _) (fun p _=>h.prt n p);exact⟨this.1,this.2.congr (by simp) (fun _ _=>rfl)⟩
theorem cnX {done:List En}{n:ByteArray}(h1:(jX done n).2=0)(h2:(jY (lQ done n) uZ (prs done n)).2=0):lZ done n=kQ (jX done n).1 (jY (lQ done n) uZ (prs done n)).1:=by
 unfold lZ;rw[zQ h1,zQ h2]
theorem dL {done:List En}{e:En}{n:ByteArray}(h:¬ (e.2.1=n/\e.1=2)):jX (done++[e]) n=jX done n:=by
 unfold jX;rw[vP,qQ,yG];simp[vF];intro h1 h2;exact h ⟨h1,h2⟩
theorem xK {done:List En}{e:En}{n:ByteArray}{p:Int}(h:¬ (e.2.1=n/\e.1=3/\e.2.2.1=p)):lQ (done++[e]) n p=lQ done n p:=by
 unfold lQ;rw[vP,qQ,yG];simp[vF];intro h1 h2 h3;exact h ⟨h1,h2,h3⟩
theorem iM {done:List En}{e:En}{n:ByteArray}(h:¬ (e.2.1=n/\e.1=3)):prs (done++[e]) n=prs done n:=by
 rw[yP,qQ h,yG]
theorem cnZ {done:List En}(h:Inv done){e:En}(he:e.1=2):jX (done++[e]) e.2.1=if (kQ (jX done e.2.1).1 e.2.2.2).2=0 then kQ (jX done e.2.1).1 e.2.2.2 else ((0,0),(kQ (jX done e.2.1).1 e.2.2.2).2):=by
 have h1:=(h.all e.2.1).1;unfold jX at *
 rw[vP,zQ (by simp[vF,he]),adQ,zQ h1]
theorem aeX {done:List En}(h:Inv done){e:En}(he:e.1=3):lQ (done++[e]) e.2.1 e.2.2.1=if (kQ (lQ done e.2.1 e.2.2.1).1 e.2.2.2).2=0 then kQ (lQ done e.2.1 e.2.2.1).1 e.2.2.2 else ((0,0),(kQ (lQ done e.2.1 e.2.2.1).1 e.2.2.2).2):=by
 have h1:=(h.prt e.2.1 e.2.2.1).1;unfold lQ at *
 rw[vP,zQ (by simp[vF,he]),adQ,zQ h1]
theorem cnJ {done:List En}{n:ByteArray}{p:Int}(h:p ∉ prs done n):lQ done n p=(uZ,0):=by
 have:lss done n 3 p=[]:=by
  unfold lss;rw[lR,mR];intro e he;simp only[vF,oJ];rintro⟨h1,h2,h3⟩;refine h ?_;unfold prs;rw[yJ];exact⟨e,List.mem_filter.2 ⟨he,by simp[h1,h2]⟩,by rcases h3 with h3|h3;exact absurd rfl h3;exact h3⟩
 unfold lQ;rw[this];rfl
theorem aeZ {done:List En}{e:En}{n:ByteArray}(h:¬ (e.2.1=n/\(e.1=2\/e.1=3))):lZ (done++[e]) n=lZ done n:=by
 have h1:jX (done++[e]) n=jX done n:=dL fun c=>h ⟨c.1,.inl c.2⟩;have h2:prs (done++[e]) n=prs done n:=iM fun c=>h ⟨c.1,.inr c.2⟩;have h3:lQ (done++[e]) n=lQ done n:=funext fun p=>xK fun c=>h ⟨c.1,.inr c.2.1⟩;unfold lZ;rw[h1,h2,h3]
theorem aP {done:List En}(h:Inv done){e:En}(he:e.1=2)(ho:oQ e.2.2.2) :
  (kQ (jX done e.2.1).1 e.2.2.2=((0,0),4)/\lZ (done++[e]) e.2.1=((0,0),4)) \/
  ((kQ (jX done e.2.1).1 e.2.2.2).2=0/\oQ (kQ (jX done e.2.1).1 e.2.2.2).1/\jX (done++[e]) e.2.1=kQ (jX done e.2.1).1 e.2.2.2/\lZ (done++[e]) e.2.1=kQ (kQ (jX done e.2.1).1 e.2.2.2).1 (jY (lQ done e.2.1) uZ (prs done e.2.1)).1):=by
 have ha:=cnZ h he;have h2:prs (done++[e]) e.2.1=prs done e.2.1:=iM fun c=>by omega
 have h3:lQ (done++[e]) e.2.1=lQ done e.2.1:=funext fun p=>xK fun c=>by omega
 rcases jH (h.all e.2.1).2 ho with⟨h4,h5,_,_⟩|h4
 ·right
  rw[zQ h4] at ha;refine⟨h4,h5,ha,?_⟩;unfold lZ;rw[ha,h2,h3,zQ h4,zQ (h.top e.2.1).1]
 ·left
  refine⟨h4,?_⟩;rw[h4] at ha;unfold lZ;rw[ha];simp
theorem bP {done:List En}(h:Inv done){e:En}(he:e.1=3)(ho:oQ e.2.2.2) :
  (kQ (lQ done e.2.1 e.2.2.1).1 e.2.2.2=((0,0),4)/\lZ (done++[e]) e.2.1=((0,0),4)) \/
  ((kQ (lQ done e.2.1 e.2.2.1).1 e.2.2.2).2=0/\oQ (kQ (lQ done e.2.1 e.2.2.1).1 e.2.2.2).1/\lQ (done++[e]) e.2.1 e.2.2.1=kQ (lQ done e.2.1 e.2.2.1).1 e.2.2.2 /\
   (∀ m,Top (fun p=>(lQ (done++[e]) e.2.1 p).1) (fun p=>p∈prs (done++[e]) e.2.1) m->lZ (done++[e]) e.2.1=kQ (jX done e.2.1).1 m)/\∃ m,Top (fun p=>(lQ (done++[e]) e.2.1 p).1) (fun p=>p∈prs (done++[e]) e.2.1) m):=by
 have ha:=aeX h he;have h1:jX (done++[e]) e.2.1=jX done e.2.1:=dL fun c=>by omega
 have h2:prs (done++[e]) e.2.1=prs done e.2.1++[e.2.2.1]:=by rw[yP,zQ ⟨rfl,he⟩]
 have h3:∀ p,p≠e.2.2.1->lQ (done++[e]) e.2.1 p=lQ done e.2.1 p:=fun p hp=>xK fun c=>hp c.2.2.symm;rcases jH (h.prt e.2.1 e.2.2.1).2 ho with⟨h4,h5,_,_⟩|h4
 ·right
  rw[zQ h4] at ha
  have hok:∀ p,(lQ (done++[e]) e.2.1 p).2=0/\oQ (lQ (done++[e]) e.2.1 p).1:=fun p=>by
   by_cases hp:p=e.2.2.1
   ·rw[hp,ha];exact⟨h4,h5⟩
   ·rw[h3 p hp];exact h.prt _ _
  have ht:=adJ (f:=lQ (done++[e]) e.2.1) (prs (done++[e]) e.2.1) (wT _) (fun p _=>hok p);have ht2:Top (fun p=>(lQ (done++[e]) e.2.1 p).1) (fun p=>p∈prs (done++[e]) e.2.1) (jY (lQ (done++[e]) e.2.1) uZ (prs (done++[e]) e.2.1)).1:=ht.2.congr (by simp) (fun _ _=>rfl);refine⟨h4,h5,ha,fun m hm=>?_,_,ht2⟩;rw[cnX (by rw[h1];exact(h.all _).1) ht.1,h1,hm.uniq ht2]
 ·left
  refine⟨h4,?_⟩
  have hb:jY (lQ (done++[e]) e.2.1) uZ (prs (done++[e]) e.2.1)=((0,0),4):=by
   rw[h4] at ha;refine cmX _ (by decide) (fun p _=>?_) ⟨e.2.2.1,by rw[h2];simp,by rw[ha];simp⟩;by_cases hp:p=e.2.2.1
   ·right;rw[hp,ha];simp
   ·left;rw[h3 p hp];exact(h.prt _ _).1
  unfold lZ;rw[h1,zQ (h.all _).1,hb];simp
theorem kM {done:List En}{e:En}(h:qZ done e=0):eZ e=0/\done.length<4096:=by
 unfold qZ at h;by_cases c1:eZ e≠0
 ·rw[zQ c1] at h;exact absurd h c1
 rw[qQ c1] at h;by_cases c2:4096<=done.length
 ·rw[zQ c2] at h;omega
 ·exact⟨by omega,by omega⟩
theorem aeJ {done:List En}{e:En}(h:qZ done e=0):eZ e=0/\done.length<4096/\((e.1=1/\yX done e.2.1=none/\(mU done).length<64) \/
  (e.1≠1/\∃ b,yX done e.2.1=some b/\(e.1=3->0<=e.2.2.1/\e.2.2.1<=1073741824/\(bZ (done++[e]) e.2.1).length<=64)/\(lZ (done++[e]) e.2.1).2=0/\wX (lZ (done++[e]) e.2.1).1 b)):=by
 obtain⟨h1,h2⟩:=kM h;refine⟨h1,h2,?_⟩;unfold qZ at h;rw[qQ (by omega),qQ (by omega)] at h;cases hb:yX done e.2.1 with
 | none =>
  left;simp only[hb] at h;by_cases c:e.1=1
  ·rw[zQ c] at h
   by_cases c2:64<=(mU done).length
   ·rw[zQ c2] at h;omega
   ·exact⟨c,rfl,by omega⟩
  ·rw[qQ c] at h;omega
 | some b =>
  right;simp only[hb] at h;by_cases c:e.1=1
  ·rw[zQ c] at h;omega
  rw[qQ c] at h;by_cases c1:e.1=3/\(e.2.2.1<0\/1073741824<e.2.2.1)
  ·rw[zQ c1] at h;omega
  rw[qQ c1] at h;by_cases c2:e.1=3/\64<(bZ (done++[e]) e.2.1).length
  ·rw[zQ c2] at h;omega
  rw[qQ c2] at h;by_cases c3:(lZ (done++[e]) e.2.1).2≠0
  ·rw[zQ c3] at h;exact absurd h c3
  rw[qQ c3] at h;by_cases c4:wX (lZ (done++[e]) e.2.1).1 b
  ·exact⟨c,b,rfl,fun h3=>⟨by omega,by omega,by omega⟩,by omega,c4⟩
  ·rw[qQ c4] at h;omega
theorem afQ {done:List En}(h:Inv done){e:En}(hd:qZ done e=0)(hn:nrm e=e):Inv (done++[e]):=by
 obtain⟨h1,h2,h3⟩:=aeJ hd;obtain⟨b1,b2,b3,b4⟩:=gD h1;have hbud:∀ n b,yX done n=some b->yX (done++[e]) n=some b:=fun n b hb=>by rw[qK,hb];rfl
 have hbude:∃ b,yX (done++[e]) e.2.1=some b:=by
  rcases h3 with⟨h4,h5,_⟩|⟨_,b,h5,_⟩
  ·rw[qK,h5,zQ ⟨h4,rfl⟩];exact⟨_,rfl⟩
  ·exact⟨b,hbud _ _ h5⟩
 have hall:∀ n,(jX (done++[e]) n).2=0/\oQ (jX (done++[e]) n).1:=fun n=>by
  by_cases c:e.2.1=n/\e.1=2
  ·obtain⟨rfl,c2⟩:=c
   rcases aP h c2 b4 with⟨_,h6⟩|⟨h5,h6,h7,_⟩
   ·rcases h3 with⟨h4,_⟩|⟨_,b,_,_,h7,_⟩
    ·omega
    ·rw[h6] at h7;simp at h7
   ·rw[h7];exact⟨h5,h6⟩
  ·rw[dL c];exact h.all n
 have hprt:∀ n p,(lQ (done++[e]) n p).2=0/\oQ (lQ (done++[e]) n p).1:=fun n p=>by
  by_cases c:e.2.1=n/\e.1=3/\e.2.2.1=p
  ·obtain⟨rfl,c2,rfl⟩:=c
   rcases bP h c2 b4 with⟨_,h6⟩|⟨h5,h6,h7,_⟩
   ·rcases h3 with⟨h4,_⟩|⟨_,b,_,_,h7,_⟩
    ·omega
    ·rw[h6] at h7;simp at h7
   ·rw[h7];exact⟨h5,h6⟩
  ·rw[xK c];exact h.prt n p
 have hsp:∀ n,e.2.1=n->e.1≠1->(lZ (done++[e]) n).2=0/\∀ b,yX (done++[e]) n=some b->wX (lZ (done++[e]) n).1 b:=fun n hn1 hn2=>by
  subst hn1;rcases h3 with⟨h4,_⟩|⟨_,b,h5,_,h7,h8⟩
  ·exact absurd h4 hn2
  ·refine⟨h7,fun b' hb'=>?_⟩
   rw[hbud _ _ h5] at hb';simp only[sX] at hb';exact hb'▸h8
 refine⟨by simp;omega,fun x hx=>?_,hall,hprt,fun n=>?_,fun n b hb=>?_,?_,?_,fun n=>?_⟩
 ·rw[uY] at hx
  rcases hx with hx|hx
  ·obtain⟨k1,k2,k3,b,k4⟩:=h.bad x hx
   exact⟨k1,k2,k3,b,hbud _ _ k4⟩
  ·simp only[eN] at hx
   subst hx;refine⟨h1,hn,fun c=>?_,hbude⟩;rcases h3 with⟨h4,_⟩|⟨_,b,_,h6,_⟩
   ·omega
   ·exact⟨(h6 c).1,(h6 c).2.1⟩
 ·by_cases c:e.2.1=n/\(e.1=2\/e.1=3)
  ·exact(hsp n c.1 (by omega)).1
  ·rw[aeZ c];exact h.ok n
 ·by_cases c:e.2.1=n/\(e.1=2\/e.1=3)
  ·exact(hsp n c.1 (by omega)).2 b hb
  ·rw[aeZ c]
   rw[qK] at hb;cases hb0:yX done n with
   | some b0 =>
    rw[hb0] at hb;simp only[Option.some_or,sX] at hb;exact hb▸h.le n b0 hb0
   | none =>
    rw[hb0] at hb
    have hz:prs done n=[]:=by
     unfold prs;rw[lR,mR];intro x hx;simp only[oJ];rintro⟨k1,_⟩;obtain⟨_,_,_,b',k4⟩:=h.bad x hx;rw[k1,hb0] at k4;cases k4
    have hy:lss done n 2 0=[]:=by
     unfold lss;rw[lR,mR];intro x hx;simp only[vF,oJ];rintro⟨k1,_⟩;obtain⟨_,_,_,b',k4⟩:=h.bad x hx;rw[k1,hb0] at k4;cases k4
    by_cases c2:e.1=1/\e.2.1=n
    ·rw[zQ c2] at hb
     simp only[Option.none_or,sX] at hb;subst hb
     have:lZ done n=(uZ,0):=by
      simp[lZ,jX,hz,hy,iG,jY,acX]
     rw[this];exact sT b4
    ·rw[qQ c2] at hb;simp at hb
 ·rw[qB]
  by_cases c:e.1=1
  ·rw[zQ c]
   rcases h3 with⟨_,_,h6⟩|⟨h4,_⟩
   ·simp;omega
   ·exact absurd c h4
  ·rw[qQ c];simpa using h.ops
 ·rw[qB]
  by_cases c:e.1=1
  ·rw[zQ c]
   rcases h3 with⟨_,h5,_⟩|⟨h4,_⟩
   ·rw[List.nodup_append]
    refine⟨h.nod,by simp,fun a ha b hb=>?_⟩;simp only[eN] at hb;subst hb;exact fun e'=>(cmZ done e.2.1).1 h5 (e'▸ha)
   ·exact absurd c h4
  ·rw[qQ c];simpa using h.nod
 ·by_cases c:e.2.1=n/\e.1=3
  ·obtain⟨rfl,c2⟩:=c
   rcases h3 with⟨h4,_⟩|⟨_,b,_,h6,_⟩
   ·omega
   ·exact(h6 c2).2.2
  ·rw[xB,qQ (fun k=>c ⟨k.1,k.2.1⟩)];exact h.par n
def zU (n:Nat):Int:=if n<9223372036854775808 then (n:Int) else (n:Int) - 18446744073709551616
def sA (x:Int):Nat:=(x % 18446744073709551616).toNat
theorem jB {n:Nat}(h:n<18446744073709551616):sA (zU n)=n:=by
 unfold sA zU;split <;> omega
theorem afX {α:Type}{P:List α->Prop}(h0:P [])(h1:∀ l b,P l->P (l++[b]))(l:List α):P l:=by
 rw[<-List.reverse_reverse l]
 induction l.reverse with
 | nil=>exact h0
 | cons a r ih=>rw[List.reverse_cons];exact h1 _ _ ih
def cJ (l:List Nat):Nat:=l.foldl (fun n b=>n*256+b) 0
theorem afZ (l:List Nat)(b:Nat):cJ (l++[b])=cJ l*256+b:=by simp[cJ]
theorem cP {l:List Nat}:(∀ b∈l,b<256)->cJ l<256 ^ l.length:=by
 refine afX (P:=fun l=>(∀ b∈l,b<256)->cJ l<256 ^ l.length) (fun _=>by simp[cJ]) (fun l b ih h=>?_) l;have h1:=ih fun x hx=>h x (by simp[hx]);have h2:=h b (by simp);rw[afZ,yA,dI,eR];omega
def vY:Nat->Nat->List Nat
 | 0,_=>[]
 | k+1,n=>vY k (n / 256)++[n % 256]
theorem dP (k n:Nat):(vY k n).length=k:=by
 induction k generalizing n with
 | zero=>rfl
 | succ k ih=>simp[vY,ih]
theorem coQ {l:List Nat}:(∀ b∈l,b<256)->vY l.length (cJ l)=l:=by
 refine afX (P:=fun l=>(∀ b∈l,b<256)->vY l.length (cJ l)=l) (fun _=>rfl) (fun l b ih h=>?_) l;have h1:=ih fun x hx=>h x (by simp[hx]);have h2:=h b (by simp);rw[afZ,yA,dI];simp only[vY];rw[show(cJ l*256+b) / 256=cJ l by omega,show(cJ l*256+b) % 256=b by omega,h1]
theorem coX (k n:Nat):∀ b∈vY k n,b<256:=by
 induction k generalizing n with
 | zero=>simp[vY]
 | succ k ih =>
  intro b hb;simp only[vY,uY,eN] at hb;rcases hb with hb|rfl
  ·exact ih _ b hb
  ·omega
def octs (s:List Nat) (w:Nat):List Nat:=(List.range 8).map fun i=>s.getD (8*w+i) 0
def wZ (s:List Nat):List Int:=(List.range 4).map fun w=>zU (cJ (octs s w))
def nU (l:List Int):List Nat:=l.flatMap fun x=>(vY 8 (sA x)).filter (·≠0)
theorem yF (s:List Nat):(wZ s).length=4:=by simp[wZ]
theorem eP {s:List Nat}(h:∀ b∈s,b<256)(w:Nat):∀ b∈octs s w,b<256:=by
 intro b hb;obtain⟨i,_,rfl⟩:=yJ.1 hb;rw[List.getD];cases e:s[8*w+i]? with
 | none=>simp
 | some x=>simpa using h x (vX e)
theorem coZ (s:List Nat)(k n:Nat):((List.range n).map fun i=>s.getD (k+i) 0).filter (·≠0)=((s.drop k).take n).filter (·≠0):=by
 induction n with
 | zero=>simp
 | succ n ih =>
  rw[List.range_succ,aG,rL,ih,nZ,rL];congr 1;rw[iF];cases e:s[k+n]? with
  | none=>simp[List.getD,e]
  | some x=>simp[List.getD,e]
theorem coJ {s:List Nat}(hl:s.length<=32)(h:∀ b∈s,b<256)(h0:∀ b∈s,b≠0):nU (wZ s)=s:=by
 have one:∀ w,(vY 8 (sA (zU (cJ (octs s w))))).filter (·≠0)=((s.drop (8*w)).take 8).filter (·≠0):=by
  intro w;have hlt:=eP h w;have h8:(octs s w).length=8:=by simp[octs]
  have hb:=cP hlt;rw[h8] at hb;rw[jB (by simpa using hb)];have:=coQ hlt;rw[h8] at this;rw[this];exact coZ s (8*w) 8
 have nz:∀ k n,((s.drop k).take n).filter (·≠0)=(s.drop k).take n:=by
  intro k n;refine List.filter_eq_self.2 fun b hb=>?_;simpa using h0 b (jC (rD hb))
 unfold nU wZ;rw[List.flatMap_map]
 have:(fun w=>(vY 8 (sA (zU (cJ (octs s w))))).filter (·≠0))=fun w=>(s.drop (8*w)).take 8:=by
  funext w;rw[one,nz]
 show(List.range 4).flatMap (fun w=>(vY 8 (sA (zU (cJ (octs s w))))).filter (·≠0))=s;rw[this];have e:List.range 4=[0,1,2,3]:=rfl;rw[e];simp only[oL,List.flatMap_nil,yG]
 have key:∀ (k n:Nat),s.drop k=(s.drop k).take n++s.drop (k+n):=fun k n=>by
  rw[<-List.drop_drop,xC]
 have h32:s.drop 32=[]:=uA hl
 conv=>rhs;rw[<-aK (l:=s),key 0 8,key (0+8) 8,key (0+8+8) 8,key (0+8+8+8) 8]
 rw[show 0+8+8+8+8=32 from rfl,h32];simp
def fY (n:ByteArray):List Nat:=n.data.toList.map UInt8.toNat
def iY (l:List Nat):ByteArray:=⟨(l.map UInt8.ofNat).toArray⟩
theorem cpQ (n:ByteArray):iY (fY n)=n:=by
 unfold iY fY;rw[List.map_map]
 have:(UInt8.ofNat ∘ UInt8.toNat)=id:=by funext b;simp
 rw[this,List.map_id]
theorem fP (n:ByteArray):∀ b∈fY n,b<256:=by
 intro b hb;obtain⟨x,_,rfl⟩:=yJ.1 hb;exact UInt8.toNat_lt x
def yZ (e:En):List Int:=[1,e.1,e.2.2.1,e.2.2.2.1,e.2.2.2.2]++wZ (fY e.2.1)
def yI (r:List Int):En:=(r.getD 1 0,iY (nU (r.drop 5)),r.getD 2 0,r.getD 3 0,r.getD 4 0)
theorem lM (e:En):(yZ e).length=9:=by simp[yZ,yF]
theorem cpX (e:En)(hn:fJ e.2.1.data.toList=true):yI (yZ e)=e:=by
 have h1:nU (wZ (fY e.2.1))=fY e.2.1:=by
  unfold fJ at hn;simp only[cN,oJ] at hn;refine coJ ?_ (fP _) ?_
  ·simp only[fY,bU];omega
  ·intro b hb
   obtain⟨x,hx,rfl⟩:=yJ.1 hb;have:=mN.1 hn.2 x hx;intro h0;have hx0:x=0:=UInt8.toNat_inj.1 (by simpa using h0);subst hx0;revert this;decide
 show(e.1,iY (nU (wZ (fY e.2.1))),e.2.2.1,e.2.2.2.1,e.2.2.2.2)=e;rw[h1,cpQ]
def rcd (disk:List Int) (i:Nat):List Int:=(disk.drop (9*i)).take 9
def wU (disk:List Int) (done:List En) (i:Nat):Prop:=9*i+9<=disk.length/\(rcd disk i).getD 0 0=1/\yZ (yI (rcd disk i))=rcd disk i/\qZ done (nrm (yI (rcd disk i)))=0
inductive Rds (disk:List Int):Nat->List En->Prop
 | nil:Rds disk 0 []
 | more {n:Nat} {done:List En}:Rds disk n done->wU disk done n->Rds disk (n+1) (done++[nrm (yI (rcd disk n))])
def wA (disk:List Int) (done:List En):Prop:=Rds disk done.length done/\¬ wU disk done done.length
theorem Rds.uniq {disk:List Int}{n:Nat}{a b:List En}(h:Rds disk n a)(k:Rds disk n b):a=b:=by
 induction h generalizing b with
 | nil=>cases k;rfl
 | more h1 _ ih =>
  cases k with
  | more k1 _=>rw[ih k1]
theorem Rds.pre {disk:List Int}{n:Nat}{a:List En}(h:Rds disk n a):∀ {m:Nat},m<n->∃ b,Rds disk m b/\wU disk b m:=by
 induction h with
 | nil=>intro m hm;omega
 | @more n done h1 h2 ih =>
  intro m hm;rcases Nat.lt_or_ge m n with c|c
  ·exact ih c
  ·obtain rfl:m=n:=by omega
   exact⟨done,h1,h2⟩
theorem wA.uniq {disk:List Int}{a b:List En}(h:wA disk a)(k:wA disk b):a=b:=by
 rcases Nat.lt_trichotomy a.length b.length with c|c|c
 ·obtain⟨x,hx,hc⟩:=k.1.pre c
  rw[<-h.1.uniq hx] at hc;exact absurd hc h.2
 ·exact h.1.uniq (c▸k.1)
 ·obtain⟨x,hx,hc⟩:=h.1.pre c
  rw[<-k.1.uniq hx] at hc;exact absurd hc k.2
theorem Rds.keep {disk disk':List Int}{n:Nat}{done:List En}(h:Rds disk n done)(hl:disk'.length=disk.length)(he:∀ i,i<n->rcd disk' i=rcd disk i):Rds disk' n done:=by
 induction h with
 | nil=>exact .nil
 | @more n done _ h2 ih =>
  have e:=he n (by omega);have h3:=ih fun i hi=>he i (by omega);have h4:wU disk' done n:=by unfold wU at *;rw[e,hl];exact h2
  have:=Rds.more h3 h4;rw[e] at this;exact this
def dX:List Int->Int->List (Nat × Int)->List Int × Int × Bool
 | disk,left,[]=>(disk,left,true)
 | disk,left,(a,x)::r=>if left=0 then (disk,0,false) else dX (disk.set a x) (if 0<left then left - 1 else left) r
def pZ (disk:List Int) (ws:List (Nat × Int)):List Int:=ws.foldl (fun d p=>d.set p.1 p.2) disk
theorem uF (disk:List Int)(ws:List (Nat × Int)):(pZ disk ws).length=disk.length:=by
 induction ws generalizing disk with
 | nil=>rfl
 | cons p ws ih=>unfold pZ at *;rw[List.foldl_cons,ih];simp
theorem cpZ (disk:List Int)(a b:List (Nat × Int)):pZ disk (a++b)=pZ (pZ disk a) b:=by simp[pZ]
theorem vB {disk disk':List Int}{left left':Int}{ws:List (Nat × Int)}{ok:Bool}(h:dX disk left ws=(disk',left',ok)) :
  ∃ m,m<=ws.length/\disk' = pZ disk (ws.take m)/\(ok=true->m=ws.length)/\(ok=false->m<ws.length):=by
 induction ws generalizing disk left with
 | nil =>
  simp only[dX,cQ] at h;exact⟨0,jQ _,by simp[pZ,h.1],fun _=>rfl,fun e=>by rw[<-h.2.2] at e;cases e⟩
 | cons p ws ih =>
  obtain⟨a,x⟩:=p;simp only[dX] at h;by_cases c:left=0
  ·rw[zQ c] at h
   simp only[cQ] at h;exact⟨0,mQ _,by simp[pZ,h.1],(fun e=>by rw[<-h.2.2] at e;cases e),fun _=>by simp⟩
  ·rw[qQ c] at h
   obtain⟨m,h1,h2,h3,h4⟩:=ih h;refine⟨m+1,by simpa using h1,by rw[h2];simp[pZ],fun e=>by rw[h3 e];rfl,fun e=>?_⟩;have:=h4 e;simp;omega
theorem afJ (disk:List Int)(ws:List (Nat × Int))(j:Nat)(h:∀ p∈ws,p.1≠j):(pZ disk ws)[j]? = disk[j]?:=by
 induction ws generalizing disk with
 | nil=>rfl
 | cons p ws ih =>
  unfold pZ at *
  rw[List.foldl_cons,ih _ fun q hq=>h q (by simp[hq]),oU (h p (by simp))]
theorem cpJ {d d':List Int}{i:Nat}(h:∀ j,9*i<=j->j<9*i+9->d'[j]? = d[j]?):rcd d' i=rcd d i:=by
 apply bI;intro j;unfold rcd;rw[iH,iH];by_cases c:j<9
 ·rw[zQ c,zQ c,iF,iF]
  exact h (9*i+j) (by omega) (by omega)
 ·rw[qQ c,qQ c]
theorem zK {d:List Int}{i:Nat}:(rcd d i).getD 0 0=d.getD (9*i) 0:=by
 unfold rcd;simp[List.getD,iF]
def wrs (n:Nat) (e:En):List (Nat × Int):=(9*n,0)::((List.range 8).map (fun j=>(9*n+(j+1),(yZ e).getD (j+1) 0))++[(9*n,1)])
theorem gP (n:Nat)(e:En):(wrs n e).length=10:=by simp[wrs]
theorem cqQ {n:Nat}{e:En}:∀ p∈wrs n e,9*n<=p.1/\p.1<9*n+9:=by
 intro p hp;simp only[wrs,kX,uY,yJ,aN,kJ,lJ] at hp;rcases hp with rfl|⟨j,hj,rfl⟩|rfl
 ·simp
 ·simp;omega
 ·simp
theorem iP {disk:List Int}{n i m:Nat}{e:En}(h:i≠n):rcd (pZ disk ((wrs n e).take m)) i=rcd disk i:=by
 refine cpJ fun j h1 h2=>afJ _ _ _ fun p hp=>?_;have:=cqQ p (rD hp);omega
theorem agQ {disk:List Int}{n m:Nat}{e:En}(hl:9*n<disk.length)(h1:1<=m)(h2:m<10):(pZ disk ((wrs n e).take m)).getD (9*n) 0=0:=by
 obtain⟨k,rfl⟩:∃ k,m=k+1:=⟨m - 1,by omega⟩
 have e1:(wrs n e).take (k+1)=(9*n,0)::((List.range 8).map (fun j=>(9*n+(j+1),(yZ e).getD (j+1) 0))).take k:=by
  unfold wrs;rw[List.take_succ_cons,List.take_append_of_le_length (by simp;omega)]
 rw[e1];have e2:pZ disk ((9*n,0)::((List.range 8).map (fun j=>(9*n+(j+1),(yZ e).getD (j+1) 0))).take k)=pZ (disk.set (9*n) 0) (((List.range 8).map (fun j=>(9*n+(j+1),(yZ e).getD (j+1) 0))).take k):=by simp[pZ]
 rw[e2,List.getD,afJ]
 ·rw[cU hl];rfl
 ·intro p hp
  obtain⟨j,_,rfl⟩:=yJ.1 (rD hp);simp
theorem agX (disk:List Int)(a:Nat)(f:Nat->Int):∀ k,a+k<=disk.length->∀ j,j<k->(pZ disk ((List.range k).map fun i=>(a+i,f i)))[a+j]? = some (f j)
 | 0,_,j,hj=>by omega
 | k+1,hl,j,hj=>by
  rw[List.range_succ,aG,cpZ];simp only[bH,List.map_nil];have e:∀ d:List Int,pZ d [(a+k,f k)]=d.set (a+k) (f k):=fun d=>rfl;rw[e];by_cases c:j=k
  ·subst c
   rw[cU (by rw[uF];omega)]
  ·rw[oU (by omega)]
   exact agX disk a f k (by omega) j (by omega)
theorem cqX {disk:List Int}{n:Nat}{e:En}(hl:9*n+9<=disk.length):rcd (pZ disk (wrs n e)) n=yZ e:=by
 have e1:pZ disk (wrs n e)=(pZ (disk.set (9*n) 0) ((List.range 8).map (fun j=>(9*n+1+j,(yZ e).getD (j+1) 0)))).set (9*n) 1:=by
  have e0:((List.range 8).map fun j=>(9*n+(j+1),(yZ e).getD (j+1) 0))=(List.range 8).map fun j=>(9*n+1+j,(yZ e).getD (j+1) 0):=uR fun j _=>by rw[show 9*n+(j+1)=9*n+1+j by omega]
  unfold wrs;rw[e0];simp[pZ]
 rw[e1];apply bI;intro j;unfold rcd;rw[iH];by_cases c:j<9
 ·rw[zQ c,iF]
  by_cases c0:j=0
  ·subst c0
   rw[show 9*n+0=9*n from rfl,cU (by rw[uF,cK];omega)];rfl
  ·rw[oU (by omega),show 9*n+j=9*n+1+(j - 1) by omega]
   rw[agX (disk.set (9*n) 0) (9*n+1) (fun j=>(yZ e).getD (j+1) 0) 8 (by simp;omega) (j - 1) (by omega)]
   show some ((yZ e).getD (j - 1+1) 0)=(yZ e)[j]?
   rw[show j - 1+1=j by omega,List.getD,fZ (by rw[lM];exact c)];rfl
 ·rw[qQ c,cI (by rw[lM];omega)]
def Hz (disk:List Int) (n:Nat):Prop:=∀ i,n<=i->9*i+9<=disk.length->disk.getD (9*i) 0≠1
theorem agZ (k:Nat):Hz (List.replicate k 0) 0:=by
 intro i _ _;rw[List.getD,bN];split <;> simp
theorem agJ (k:Nat):wA (List.replicate k 0) []:=by
 refine⟨.nil,fun h=>?_⟩;have h1:=agZ k 0 (jQ _) h.1;rw[<-zK] at h1;exact h1 h.2.1
theorem cqZ {disk:List Int}{n m:Nat}{e:En}(h:Hz disk n)(hl:9*n+9<=disk.length)(hm:m<10):Hz (pZ disk ((wrs n e).take m)) n:=by
 intro i hi hli;rw[uF] at hli;by_cases c:i=n
 ·subst c
  by_cases c0:m=0
  ·subst c0;exact h i hi hli
  ·rw[agQ (by omega) (by omega) hm];decide
 ·rw[<-zK,iP c,zK]
  exact h i hi hli
theorem ahQ {disk:List Int}{n:Nat}{e:En}(h:Hz disk n):Hz (pZ disk (wrs n e)) (n+1):=by
 intro i hi hli;rw[uF] at hli;have:=iP (disk:=disk) (n:=n) (i:=i) (m:=10) (e:=e) (by omega);rw[eV (by rw[gP];exact jQ _)] at this;rw[<-zK,this,zK];exact h i (by omega) hli
theorem cqJ {disk:List Int}{done:List En}{m:Nat}{e:En}(h:wA disk done)(hl:9*done.length+9<=disk.length)(hm:m<10):wA (pZ disk ((wrs done.length e).take m)) done:=by
 by_cases c0:m=0
 ·subst c0;exact h
 ·refine⟨h.1.keep (uF _ _) fun i hi=>iP (by omega),fun hc=>?_⟩
  have h1:=hc.2.1;rw[zK,agQ (by omega) (by omega) hm] at h1;exact absurd h1 (by decide)
theorem crQ {disk:List Int}{done:List En}{e:En}(h:wA disk done)(hz:Hz disk done.length)(hl:9*done.length+9<=disk.length)(hd:qZ done (nrm e)=0):wA (pZ disk (wrs done.length (nrm e))) (done++[nrm e]):=by
 have hb:eZ (nrm e)=0:=by
  unfold qZ at hd;by_cases c:eZ (nrm e)=0
  ·exact c
  ·rw[zQ c] at hd;exact absurd hd c
 have hn:fJ (nrm e).2.1.data.toList=true:=by
  unfold eZ at hb;split at hb
  ·cases hb
  ·split at hb
   ·rename_i h1;exact h1.1
   ·cases hb
 have hr:=cqX (e:=nrm e) hl;have ht:=cpX (nrm e) hn
 have hk:Rds (pZ disk (wrs done.length (nrm e))) done.length done:=h.1.keep (uF _ _) fun i hi=>by
  have:=iP (disk:=disk) (n:=done.length) (i:=i) (m:=10) (e:=nrm e) (by omega);rw[eV (by rw[gP];exact jQ _)] at this;exact this
 have hc:wU (pZ disk (wrs done.length (nrm e))) done done.length:=by
  refine⟨by rw[uF];exact hl,by rw[hr];rfl,by rw[hr,ht],by rw[hr,ht,tT];exact hd⟩
 have hm:=Rds.more hk hc;rw[hr,ht,tT] at hm;refine⟨by simpa using hm,fun hx=>?_⟩;rw[yA,dI] at hx;have h1:=ahQ (e:=nrm e) hz (done.length+1) (jQ _) hx.1;rw[<-zK] at h1;exact h1 hx.2.1
instance (disk:List Int) (done:List En) (i:Nat):Decidable (wU disk done i):=by unfold wU;infer_instance
def lP (disk:List Int):Nat->List En->List En
 | 0,done=>done
 | f+1,done=>if wU disk done done.length then lP disk f (done++[nrm (yI (rcd disk done.length))]) else done
def mJ (disk:List Int):List En:=lP disk (disk.length / 9) []
theorem ahX (disk:List Int):∀ (f:Nat) (done:List En),Rds disk done.length done->disk.length<9*(done.length+f)+9->wA disk (lP disk f done)
 | 0,done,h,hl=>⟨h,fun hc=>by have h1:9*done.length+9<=disk.length:=hc.1;omega⟩
 | f+1,done,h,hl=>by
  unfold lP;by_cases c:wU disk done done.length
  ·rw[zQ c]
   refine ahX disk f _ ?_ ?_
   ·rw[yA,dI];exact .more h c
   ·rw[yA,dI];omega
  ·rw[qQ c];exact⟨h,c⟩
theorem crX (disk:List Int):wA disk (mJ disk):=ahX disk _ [] .nil (by simp;omega)
theorem ahZ {disk:List Int}{done:List En}(h:wA disk done):mJ disk=done:=(crX disk).uniq h
structure HSt where
 disk:List Int
 left:Int
 up:Bool
 brk:Bool
 done:List En
def xZ (s:HSt) (e:En):HSt × Int :=
 if s.disk.length<9*s.done.length+9 then (s,4)
 else if qZ s.done (nrm e)≠0 then (s,qZ s.done (nrm e))
 else if (dX s.disk s.left (wrs s.done.length (nrm e))).2.2=true
  then ({ s with disk:=(dX s.disk s.left (wrs s.done.length (nrm e))).1,left:=(dX s.disk s.left (wrs s.done.length (nrm e))).2.1,done:=s.done++[nrm e] },0)
  else ({ s with disk:=(dX s.disk s.left (wrs s.done.length (nrm e))).1,left:=(dX s.disk s.left (wrs s.done.length (nrm e))).2.1,brk:=true },11)
def Bok (disk:List Int) (done:List En):Prop:=wA disk done/\Hz disk done.length
theorem crZ {s s':HSt}{e:En}{er:Int}(h:xZ s e=(s',er))(hb:Bok s.disk s.done) :
  Bok s'.disk s'.done/\s'.up=s.up/\s'.disk.length=s.disk.length /\
  ((er=0/\s'.done=s.done++[nrm e]/\s'.brk=s.brk)\/(er=11/\s'.done=s.done/\s'.brk=true)\/(er≠0/\s' = s/\(er=4\/er=qZ s.done (nrm e)))):=by
 unfold xZ at h;by_cases c1:s.disk.length<9*s.done.length+9
 ·rw[zQ c1] at h
  simp only[cQ] at h;obtain⟨rfl,rfl⟩:=h;exact⟨hb,rfl,rfl,.inr (.inr ⟨by decide,rfl,.inl rfl⟩)⟩
 rw[qQ c1] at h;by_cases c2:qZ s.done (nrm e)=0
 ·rw[qQ (by simpa using c2)] at h
  obtain⟨d',l',ok,hp⟩:∃ d' l' ok,dX s.disk s.left (wrs s.done.length (nrm e))=(d',l',ok):=⟨_,_,_,rfl⟩;rw[hp] at h;obtain⟨m,h1,h2,h3,h4⟩:=vB hp;rw[gP] at h1 h3 h4;by_cases c3:ok=true
  ·rw[zQ c3] at h
   simp only[cQ] at h;obtain⟨rfl,rfl⟩:=h;rw[h3 c3,eV (by rw[gP];exact jQ _)] at h2;refine⟨⟨?_,?_⟩,rfl,by rw[h2];exact uF _ _,.inl ⟨rfl,rfl,rfl⟩⟩
   ·show wA d' (s.done++[nrm e])
    rw[h2];exact crQ hb.1 hb.2 (by omega) c2
   ·show Hz d' (s.done++[nrm e]).length
    rw[h2,yA,dI];exact ahQ hb.2
  ·rw[qQ c3] at h
   simp only[cQ] at h;obtain⟨rfl,rfl⟩:=h;have hm:=h4 (by simpa using c3);refine⟨⟨?_,?_⟩,rfl,by rw[h2];exact uF _ _,.inr (.inl ⟨rfl,rfl,rfl⟩)⟩
   ·show wA d' s.done
    rw[h2];exact cqJ hb.1 (by omega) hm
   ·show Hz d' s.done.length
    rw[h2];exact cqZ hb.2 (by omega) hm
 ·rw[zQ c2] at h
  simp only[cQ] at h;obtain⟨rfl,rfl⟩:=h;exact⟨hb,rfl,rfl,.inr (.inr ⟨c2,rfl,.inr rfl⟩)⟩
inductive Ev (α:Type) where
 | opn | pow (n:Int) | oth | pur (e:En) | ask (pre:Int) (e:En) (tl:Option α) | loo
structure Sn (α:Type) where
 err:Int
 told:Option α
 ents:List En
def nX {α:Type} (wr:Int) (s:HSt):Ev α->HSt × Sn α
 | .opn=>({ s with up:=decide (wr=0),brk:=false,done:=mJ s.disk },⟨wr,none,[]⟩)
 | .pow n=>({ s with left:=n },⟨0,none,[]⟩)
 | .oth=>(s,⟨0,none,[]⟩)
 | .pur e=>if s.up=false then (s,⟨0,none,[]⟩) else if s.brk=true then (s,⟨9,none,[]⟩) else ((xZ s e).1,⟨(xZ s e).2,none,[]⟩)
 | .ask pre e tl=>if s.up=false then (s,⟨0,none,[]⟩) else if s.brk=true then (s,⟨9,none,[]⟩) else if pre≠0 then (s,⟨pre,none,[]⟩)
   else if (xZ s e).2≠0 then ((xZ s e).1,⟨(xZ s e).2,none,[]⟩)
   else match tl with
    | none=>((xZ s e).1,⟨6,none,[]⟩)
    | some t=>((xZ s e).1,⟨0,some t,[]⟩)
 | .loo=>if s.up=false then (s,⟨0,none,[]⟩) else if s.brk=true then (s,⟨9,none,[]⟩) else (s,⟨0,none,s.done⟩)

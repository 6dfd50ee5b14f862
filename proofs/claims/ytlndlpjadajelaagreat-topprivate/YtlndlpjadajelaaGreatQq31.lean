import Derived.Test.YtlndlpjadajelaaGreatQq19
import Derived.Test.YtlndlpjadajelaaGreatQq12
import Derived.Test.YtlndlpjadajelaaGreatQq30
import Derived.Test.YtlndlpjadajelaaGreatQq01
namespace Go.Proofs.YtlndlpjadajelaaGreat.K.P
open Go.Proofs.YtlndlpjadajelaaGreat.K.Ds
abbrev Rq:=Int × Int
abbrev En:=Int × ByteArray × Int × Int × Int
def mulT (a b:Rq):Rq × Int:=(((Rt.timesT a.1 a.2 b.1 b.2).1,(Rt.timesT a.1 a.2 b.1 b.2).2.1),(Rt.timesT a.1 a.2 b.1 b.2).2.2)
theorem mulT_of {a b c d n m e:Int} (h:Rt.timesT a b c d=(n,m,e)):mulT (a,b) (c,d)=((n,m),e):=by unfold mulT; simp [h]
theorem mulT_is (a b:Rq):Rt.timesT a.1 a.2 b.1 b.2=((mulT a b).1.1,(mulT a b).1.2,(mulT a b).2):=rfl
def OkR (r:Rq):Prop:=Rt.rightB r.1 r.2=true∧r.2≤r.1
def rq (q:Rat):Rq:=(q.num,(q.den:Int))
theorem OkR.rat {r:Rq} (h:OkR r):∃ q:Rat,r=rq q∧Rt.Ok q∧1≤q:=by
 obtain ⟨q,h1,h2,h3⟩:=Rt.right_rat h.1
 refine ⟨q,by unfold rq; rw [h1,h2],h3,?_⟩
 have h4:=h.2
 rw [← h1,← h2] at h4
 rw [Rat.le_iff]; simpa using h4
theorem okR_of {q:Rat} (h:Rt.Ok q) (h1:1≤q):OkR (rq q):=⟨Rt.rat_right q h,by rw [Rat.le_iff] at h1; simpa [rq] using h1⟩
theorem OkR.bd {r:Rq} (h:OkR r):0≤r.1∧r.1≤1073741824∧1≤r.2∧r.2≤1073741824:=Rt.right_bd h.1
def oneQ:Rq:=(1,1)
theorem ok_one:OkR oneQ:=⟨by decide,by decide⟩
theorem rq_one:rq 1=oneQ:=rfl
def LeR (a b:Rq):Prop:=a.1 * b.2≤b.1 * a.2
instance (a b:Rq):Decidable (LeR a b):=inferInstanceAs (Decidable (_≤_))
theorem leR_rq (x y:Rat):LeR (rq x) (rq y)↔x≤y:=by unfold LeR rq; rw [Rat.le_iff]
theorem one_mul_le {x y:Rat} (hx:1≤x) (hy:1≤y):1≤x * y∧x≤x * y:=by
 have h0:(0:Rat)≤x:=Rat.le_trans (by decide) hx
 have h2:x * 1≤x * y:=Rat.mul_le_mul_of_nonneg_left hy h0
 rw [Rat.mul_one] at h2
 exact ⟨Rat.le_trans hx h2,h2⟩
theorem mul_rq {x y:Rat} (hx:Rt.Ok x) (hy:Rt.Ok y) (h1:1≤x) (h2:1≤y):(Rt.Ok (x * y)∧mulT (rq x) (rq y)=(rq (x * y),0))∨(¬ Rt.Ok (x * y)∧mulT (rq x) (rq y)=((0,0),4)):=by
 have ht:=Rt.times_rat x y hx hy
 have hp:(0:Rat)≤x * y:=Rat.le_trans (by decide) (one_mul_le h1 h2).1
 have hn:0≤(x * y).num:=Rat.num_nonneg.2 hp
 by_cases h:Rt.Ok (x * y)
 ·left; refine ⟨h,?_⟩
  rw [Rt.tell_of _ h] at ht
  exact mulT_of ht
 ·right; refine ⟨h,?_⟩
  have:Rt.tell (x * y)=(0,0,4):=by
   unfold Rt.tell
   rw [if_neg (by omega),if_pos]
   unfold Rt.Ok at h
   omega
  rw [this] at ht
  exact mulT_of ht
theorem mul_one_one:mulT oneQ oneQ=(oneQ,0):=by
 have ho:Rt.Ok 1:=⟨by decide,by decide,by decide⟩
 rcases mul_rq ho ho Rat.le_refl Rat.le_refl with ⟨_,e⟩ | ⟨h,_⟩
 ·rw [Rat.mul_one,rq_one] at e; exact e
 ·rw [Rat.mul_one] at h; exact absurd ho h
theorem mul_cases {a b:Rq} (ha:OkR a) (hb:OkR b):((mulT a b).2=0∧OkR (mulT a b).1∧LeR a (mulT a b).1∧LeR b (mulT a b).1)∨mulT a b=((0,0),4):=by
 obtain ⟨x,rfl,hx,hx1⟩:=ha.rat
 obtain ⟨y,rfl,hy,hy1⟩:=hb.rat
 rcases mul_rq hx hy hx1 hy1 with ⟨h,e⟩ | ⟨_,e⟩
 ·left
  rw [e]
  refine ⟨rfl,okR_of h (one_mul_le hx1 hy1).1,(leR_rq _ _).2 (one_mul_le hx1 hy1).2,(leR_rq _ _).2 ?_⟩
  rw [Rat.mul_comm]; exact (one_mul_le hy1 hx1).2
 ·right; exact e
theorem leR_refl (a:Rq):LeR a a:=Int.le_refl _
theorem leR_trans {a b c:Rq} (ha:OkR a) (hb:OkR b) (hc:OkR c) (h1:LeR a b) (h2:LeR b c):LeR a c:=by
 obtain ⟨x,rfl,_,_⟩:=ha.rat
 obtain ⟨y,rfl,_,_⟩:=hb.rat
 obtain ⟨z,rfl,_,_⟩:=hc.rat
 rw [leR_rq] at *
 exact Rat.le_trans h1 h2
theorem leR_anti {a b:Rq} (ha:OkR a) (hb:OkR b) (h1:LeR a b) (h2:LeR b a):a=b:=by
 obtain ⟨x,rfl,_,_⟩:=ha.rat
 obtain ⟨y,rfl,_,_⟩:=hb.rat
 rw [leR_rq] at *
 rw [Rat.le_antisymm h1 h2]
theorem leR_total {a b:Rq} (ha:OkR a) (hb:OkR b) (h:¬ LeR a b):LeR b a:=by
 obtain ⟨x,rfl,_,_⟩:=ha.rat
 obtain ⟨y,rfl,_,_⟩:=hb.rat
 rw [leR_rq] at *
 exact Rat.le_of_lt (Rat.not_le.1 h)
theorem one_le {a:Rq} (h:OkR a):LeR oneQ a:=by
 obtain ⟨x,rfl,_,h1⟩:=h.rat
 rw [← rq_one,leR_rq]; exact h1
def prodT (r:Rq):List Rq→Rq × Int
 | []=>(r,0)
 | x :: xs=>if (mulT r x).2=0 then prodT (mulT r x).1 xs else ((0,0),(mulT r x).2)
theorem prod_snoc (r:Rq) (l:List Rq) (x:Rq):prodT r (l ++ [x])=if (prodT r l).2=0 then (if (mulT (prodT r l).1 x).2=0 then mulT (prodT r l).1 x else ((0,0),(mulT (prodT r l).1 x).2)) else prodT r l:=by
 induction l generalizing r with
 | nil =>
  simp only [List.nil_append,prodT]
  by_cases h:(mulT r x).2=0
  ·simp [h]; rw [← h]
  ·simp [h]
 | cons y l ih =>
  simp only [List.cons_append,prodT]
  by_cases h:(mulT r y).2=0
  ·simp only [h,↓reduceIte]; exact ih _
  ·simp [h]
def isE (n:ByteArray) (d p:Int) (e:En):Bool:=decide (e.2.1=n∧e.1=d∧(d≠3∨e.2.2.1=p))
def lss (done:List En) (n:ByteArray) (d p:Int):List Rq:=(done.filter (isE n d p)).map (·.2.2.2)
def allP (done:List En) (n:ByteArray):Rq × Int:=prodT oneQ (lss done n 2 0)
def prtP (done:List En) (n:ByteArray) (p:Int):Rq × Int:=prodT oneQ (lss done n 3 p)
def prs (done:List En) (n:ByteArray):List Int:=(done.filter fun e=>decide (e.2.1=n∧e.1=3)).map (·.2.2.1)
def onceT (out:List Int):List Int→List Int
 | []=>out
 | p :: ps=>if p∈out then onceT out ps else onceT (out ++ [p]) ps
def parT (done:List En) (n:ByteArray):List Int:=onceT [] (prs done n)
def mostT (f:Int→Rq × Int) (m:Rq):List Int→Rq × Int
 | []=>(m,0)
 | p :: ps=>if (f p).2=0 then mostT f (if LeR m (f p).1 then (f p).1 else m) ps else ((0,0),(f p).2)
def spentT (done:List En) (n:ByteArray):Rq × Int :=
 if (allP done n).2=0 then (if (mostT (prtP done n) oneQ (prs done n)).2=0 then mulT (allP done n).1 (mostT (prtP done n) oneQ (prs done n)).1 else ((0,0),(mostT (prtP done n) oneQ (prs done n)).2)) else ((0,0),(allP done n).2)
def budT (done:List En) (n:ByteArray):Option Rq:=(done.find? fun e=>decide (e.1=1∧e.2.1=n)).map (·.2.2.2)
def opsT (done:List En):List ByteArray:=(done.filter fun e=>decide (e.1=1)).map (·.2.1)
def badT (e:En):Int:=if e.1 < 1∨3 < e.1 then 1 else if namB e.2.1.data.toList=true∧Rt.rightB e.2.2.2.1 e.2.2.2.2=true then (if e.2.2.2.1 < e.2.2.2.2 then 3 else 0) else 2
def doT (done:List En) (e:En):Int :=
 if badT e≠0 then badT e else if 4096≤done.length then 4 else
 match budT done e.2.1 with
 | none=>if e.1=1 then (if 64≤(opsT done).length then 5 else 0) else 7
 | some b=>if e.1=1 then 7 else
  if e.1=3∧(e.2.2.1 < 0∨1073741824 < e.2.2.1) then 3 else
  if e.1=3∧64 < (parT (done ++ [e]) e.2.1).length then 5 else
  if (spentT (done ++ [e]) e.2.1).2≠0 then (spentT (done ++ [e]) e.2.1).2 else if LeR (spentT (done ++ [e]) e.2.1).1 b then 0 else 10
def nrm (e:En):En:=if e.1=3 then e else (e.1,e.2.1,0,e.2.2.2)
theorem nrm_1 (e:En):(nrm e).1=e.1:=by unfold nrm; split <;> rfl
theorem nrm_n (e:En):(nrm e).2.1=e.2.1:=by unfold nrm; split <;> rfl
theorem nrm_l (e:En):(nrm e).2.2.2=e.2.2.2:=by unfold nrm; split <;> rfl
theorem nrm_nrm (e:En):nrm (nrm e)=nrm e:=by
 by_cases h:e.1=3
 ·simp [nrm,h]
 ·simp [nrm,h]
def bookT (done:List En):List En→List Int × List En
 | []=>([],done)
 | e :: es=>(doT done (nrm e) :: (bookT (if doT done (nrm e)=0 then done ++ [nrm e] else done) es).1,(bookT (if doT done (nrm e)=0 then done ++ [nrm e] else done) es).2)
theorem book_app (done l m:List En):bookT done (l ++ m)=((bookT done l).1 ++ (bookT (bookT done l).2 m).1,(bookT (bookT done l).2 m).2):=by
 induction l generalizing done with
 | nil=>simp [bookT]
 | cons e es ih=>simp only [List.cons_append,bookT,ih]
def stepD (done:List En) (e:En):List En:=if doT done (nrm e)=0 then done ++ [nrm e] else done
theorem book_snoc (done l:List En) (e:En):bookT done (l ++ [e])=((bookT done l).1 ++ [doT (bookT done l).2 (nrm e)],stepD (bookT done l).2 e):=by
 rw [book_app]; simp only [bookT,stepD]
structure Top (f:Int→Rq) (P:Int→Prop) (m:Rq):Prop where
 ok:OkR m
 oks:∀ p,P p→OkR (f p)
 is:m=oneQ∨∃ p,P p∧f p=m
 le:∀ p,P p→LeR (f p) m
theorem Top.uniq {f:Int→Rq} {P:Int→Prop} {a b:Rq} (ha:Top f P a) (hb:Top f P b):a=b:=by
 refine leR_anti ha.ok hb.ok ?_ ?_
 ·rcases ha.is with rfl | ⟨p,hp,rfl⟩
  ·exact one_le hb.ok
  ·exact hb.le p hp
 ·rcases hb.is with rfl | ⟨p,hp,rfl⟩
  ·exact one_le ha.ok
  ·exact ha.le p hp
theorem Top.congr {f g:Int→Rq} {P Q:Int→Prop} {m:Rq} (h:Top f P m) (hP:∀ p,P p↔Q p) (hf:∀ p,P p→f p=g p):Top g Q m :=
 ⟨h.ok,fun p hp=>hf p ((hP p).2 hp)▸h.oks p ((hP p).2 hp),h.is.imp id fun ⟨p,hp,e⟩=>⟨p,(hP p).1 hp,by rw [← hf p hp]; exact e⟩,fun p hp=>hf p ((hP p).2 hp)▸h.le p ((hP p).2 hp)⟩
theorem top_none (f:Int→Rq):Top f (fun _=>False) oneQ:=⟨ok_one,fun _ h=>h.elim,.inl rfl,fun _ h=>h.elim⟩
theorem Top.more {f:Int→Rq} {P:Int→Prop} {m:Rq} (h:Top f P m) {p:Int} (hp:OkR (f p)):Top f (fun q=>P q∨q=p) (if LeR m (f p) then f p else m):=by
 have hoks:∀ q,(P q∨q=p)→OkR (f q):=fun q hq=>by
  rcases hq with hq | rfl
  ·exact h.oks q hq
  ·exact hp
 by_cases c:LeR m (f p)
 ·rw [if_pos c]
  refine ⟨hp,hoks,.inr ⟨p,.inr rfl,rfl⟩,fun q hq=>?_⟩
  rcases hq with hq | rfl
  ·exact leR_trans (h.oks q hq) h.ok hp (h.le q hq) c
  ·exact leR_refl _
 ·rw [if_neg c]
  refine ⟨h.ok,hoks,h.is.imp id fun ⟨q,hq,e⟩=>⟨q,.inl hq,e⟩,fun q hq=>?_⟩
  rcases hq with hq | rfl
  ·exact h.le q hq
  ·exact leR_total h.ok hp c
theorem pick_same {a b:Rq} (ha:OkR a) (hb:OkR b):(if LeR a b then b else a)=(if LeR b a then a else b):=by
 by_cases c:LeR a b
 ·by_cases c2:LeR b a
  ·rw [if_pos c,if_pos c2]; exact leR_anti hb ha c2 c
  ·rw [if_pos c,if_neg c2]
 ·rw [if_neg c,if_pos (leR_total ha hb c)]
theorem most_top {f:Int→Rq × Int} {P:Int→Prop} {m:Rq} (ps:List Int) (h:Top (fun p=>(f p).1) P m) (hf:∀ p∈ps,(f p).2=0∧OkR (f p).1) :
  (mostT f m ps).2=0∧Top (fun p=>(f p).1) (fun q=>P q∨q∈ps) (mostT f m ps).1:=by
 induction ps generalizing P m with
 | nil=>exact ⟨rfl,h.congr (by simp) (fun _ _=>rfl)⟩
 | cons p ps ih =>
  have h1:=hf p (List.mem_cons_self ..)
  have h2:=ih (h.more (p:=p) h1.2) (fun q hq=>hf q (List.mem_cons_of_mem _ hq))
  simp only [mostT,h1.1,↓reduceIte]
  refine ⟨h2.1,h2.2.congr (fun q=>?_) (fun _ _=>rfl)⟩
  simp only [List.mem_cons]
  constructor
  ·rintro ((h | h) | h)
   ·exact .inl h
   ·exact .inr (.inl h)
   ·exact .inr (.inr h)
  ·rintro (h | h | h)
   ·exact .inl (.inl h)
   ·exact .inl (.inr h)
   ·exact .inr h
theorem most_bad {f:Int→Rq × Int} {m:Rq} (ps:List Int) {c:Int} (hc:c≠0) (hf:∀ p∈ps,(f p).2=0∨(f p).2=c) (he:∃ p∈ps,(f p).2=c):mostT f m ps=((0,0),c):=by
 induction ps generalizing m with
 | nil=>simp at he
 | cons p ps ih =>
  by_cases h:(f p).2=0
  ·simp only [mostT,h,↓reduceIte]
   refine ih (fun q hq=>hf q (List.mem_cons_of_mem _ hq)) ?_
   obtain ⟨q,hq,e⟩:=he
   rcases List.mem_cons.1 hq with rfl | hq
   ·exact absurd (h.symm.trans e).symm hc
   ·exact ⟨q,hq,e⟩
  ·simp only [mostT,h,↓reduceIte]
   rcases hf p (List.mem_cons_self ..) with e | e
   ·exact absurd e h
   ·rw [e]
theorem lss_snoc (done:List En) (e:En) (n:ByteArray) (d p:Int):lss (done ++ [e]) n d p=lss done n d p ++ (if isE n d p e=true then [e.2.2.2] else []):=by
 unfold lss
 rw [List.filter_append,List.map_append]
 by_cases h:isE n d p e=true <;> simp [h]
theorem prs_snoc (done:List En) (e:En) (n:ByteArray):prs (done ++ [e]) n=prs done n ++ (if e.2.1=n∧e.1=3 then [e.2.2.1] else []):=by
 unfold prs
 rw [List.filter_append,List.map_append]
 by_cases h:e.2.1=n∧e.1=3 <;> simp [h]
theorem ops_snoc (done:List En) (e:En):opsT (done ++ [e])=opsT done ++ (if e.1=1 then [e.2.1] else []):=by
 unfold opsT
 rw [List.filter_append,List.map_append]
 by_cases h:e.1=1 <;> simp [h]
theorem bud_snoc (done:List En) (e:En) (n:ByteArray):budT (done ++ [e]) n=(budT done n).or (if e.1=1∧e.2.1=n then some e.2.2.2 else none):=by
 unfold budT
 rw [List.find?_append]
 by_cases h:e.1=1∧e.2.1=n
 ·cases hf:done.find? (fun e=>decide (e.1=1∧e.2.1=n)) <;> simp [h]
 ·cases hf:done.find? (fun e=>decide (e.1=1∧e.2.1=n)) <;> simp [h]
theorem bud_ops (done:List En) (n:ByteArray):budT done n=none↔n ∉ opsT done:=by
 unfold budT opsT
 simp only [Option.map_eq_none_iff,List.find?_eq_none,decide_eq_true_eq,List.mem_map,List.mem_filter,not_exists,not_and,and_imp]
theorem once_app (out l m:List Int):onceT out (l ++ m)=onceT (onceT out l) m:=by
 induction l generalizing out with
 | nil=>rfl
 | cons p l ih=>simp only [List.cons_append,onceT]; split <;> exact ih _
theorem once_mem (out l:List Int) (x:Int):x∈onceT out l↔x∈out∨x∈l:=by
 induction l generalizing out with
 | nil=>simp [onceT]
 | cons p l ih =>
  simp only [onceT]
  split
  ·next h =>
   rw [ih]; simp only [List.mem_cons]
   constructor
   ·rintro (h | h) <;> simp [h]
   ·rintro (h1 | rfl | h1)
    ·exact .inl h1
    ·exact .inl h
    ·exact .inr h1
  ·rw [ih]; simp only [List.mem_append,List.mem_cons,List.not_mem_nil,or_false,or_assoc]
theorem par_mem (done:List En) (n:ByteArray) (p:Int):p∈parT done n↔p∈prs done n:=by unfold parT; rw [once_mem]; simp
theorem par_snoc (done:List En) (e:En) (n:ByteArray):parT (done ++ [e]) n=if e.2.1=n∧e.1=3∧e.2.2.1 ∉ parT done n then parT done n ++ [e.2.2.1] else parT done n:=by
 unfold parT
 rw [prs_snoc,once_app]
 by_cases h:e.2.1=n∧e.1=3
 ·simp only [h,and_self,↓reduceIte,true_and,onceT]
  split <;> simp_all
 ·rw [if_neg h,if_neg (fun c=>h ⟨c.1,c.2.1⟩)]; rfl
structure Inv (done:List En):Prop where
 len:done.length≤4096
 bad:∀ e∈done,badT e=0∧nrm e=e∧(e.1=3→0≤e.2.2.1∧e.2.2.1≤1073741824)∧∃ b,budT done e.2.1=some b
 all:∀ n,(allP done n).2=0∧OkR (allP done n).1
 prt:∀ n p,(prtP done n p).2=0∧OkR (prtP done n p).1
 ok:∀ n,(spentT done n).2=0
 le:∀ n b,budT done n=some b→LeR (spentT done n).1 b
 ops:(opsT done).length≤64
 nod:(opsT done).Nodup
 par:∀ n,(parT done n).length≤64
theorem bad_ok {e:En} (h:badT e=0):1≤e.1∧e.1≤3∧namB e.2.1.data.toList=true∧OkR e.2.2.2:=by
 unfold badT at h
 by_cases c1:e.1 < 1∨3 < e.1
 ·rw [if_pos c1] at h; omega
 rw [if_neg c1] at h
 by_cases c2:namB e.2.1.data.toList=true∧Rt.rightB e.2.2.2.1 e.2.2.2.2=true
 ·rw [if_pos c2] at h
  by_cases c3:e.2.2.2.1 < e.2.2.2.2
  ·rw [if_pos c3] at h; omega
  ·exact ⟨by omega,by omega,c2.1,c2.2,by omega⟩
 ·rw [if_neg c2] at h; omega
theorem inv_nil:Inv []:=by
 refine ⟨by simp,by simp,fun n=>⟨rfl,ok_one⟩,fun n p=>⟨rfl,ok_one⟩,fun n=>by simp [spentT,allP,lss,prs,prodT,mostT,mul_one_one],fun n b h=>by simp [budT] at h,by simp [opsT],by simp [opsT],fun n=>by simp [parT,prs,onceT]⟩
theorem Inv.top {done:List En} (h:Inv done) (n:ByteArray):(mostT (prtP done n) oneQ (prs done n)).2=0∧Top (fun p=>(prtP done n p).1) (fun p=>p∈prs done n) (mostT (prtP done n) oneQ (prs done n)).1:=by
 have:=most_top (f:=prtP done n) (prs done n) (top_none _) (fun p _=>h.prt n p)
 exact ⟨this.1,this.2.congr (by simp) (fun _ _=>rfl)⟩
theorem spent_of {done:List En} {n:ByteArray} (h1:(allP done n).2=0) (h2:(mostT (prtP done n) oneQ (prs done n)).2=0):spentT done n=mulT (allP done n).1 (mostT (prtP done n) oneQ (prs done n)).1:=by
 unfold spentT; rw [if_pos h1,if_pos h2]
theorem Inv.spent {done:List En} (h:Inv done) (n:ByteArray):spentT done n=mulT (allP done n).1 (mostT (prtP done n) oneQ (prs done n)).1:=spent_of (h.all n).1 (h.top n).1
theorem all_other {done:List En} {e:En} {n:ByteArray} (h:¬ (e.2.1=n∧e.1=2)):allP (done ++ [e]) n=allP done n:=by
 unfold allP; rw [lss_snoc,if_neg,List.append_nil]; simp [isE]; intro h1 h2; exact h ⟨h1,h2⟩
theorem prt_other {done:List En} {e:En} {n:ByteArray} {p:Int} (h:¬ (e.2.1=n∧e.1=3∧e.2.2.1=p)):prtP (done ++ [e]) n p=prtP done n p:=by
 unfold prtP; rw [lss_snoc,if_neg,List.append_nil]; simp [isE]; intro h1 h2 h3; exact h ⟨h1,h2,h3⟩
theorem prs_other {done:List En} {e:En} {n:ByteArray} (h:¬ (e.2.1=n∧e.1=3)):prs (done ++ [e]) n=prs done n:=by
 rw [prs_snoc,if_neg h,List.append_nil]
theorem all_this {done:List En} (h:Inv done) {e:En} (he:e.1=2):allP (done ++ [e]) e.2.1=if (mulT (allP done e.2.1).1 e.2.2.2).2=0 then mulT (allP done e.2.1).1 e.2.2.2 else ((0,0),(mulT (allP done e.2.1).1 e.2.2.2).2):=by
 have h1:=(h.all e.2.1).1
 unfold allP at *
 rw [lss_snoc,if_pos (by simp [isE,he]),prod_snoc,if_pos h1]
theorem prt_this {done:List En} (h:Inv done) {e:En} (he:e.1=3):prtP (done ++ [e]) e.2.1 e.2.2.1=if (mulT (prtP done e.2.1 e.2.2.1).1 e.2.2.2).2=0 then mulT (prtP done e.2.1 e.2.2.1).1 e.2.2.2 else ((0,0),(mulT (prtP done e.2.1 e.2.2.1).1 e.2.2.2).2):=by
 have h1:=(h.prt e.2.1 e.2.2.1).1
 unfold prtP at *
 rw [lss_snoc,if_pos (by simp [isE,he]),prod_snoc,if_pos h1]
theorem prt_none {done:List En} {n:ByteArray} {p:Int} (h:p ∉ prs done n):prtP done n p=(oneQ,0):=by
 have:lss done n 3 p=[]:=by
  unfold lss
  rw [List.map_eq_nil_iff,List.filter_eq_nil_iff]
  intro e he
  simp only [isE,decide_eq_true_eq]
  rintro ⟨h1,h2,h3⟩
  refine h ?_
  unfold prs
  rw [List.mem_map]
  exact ⟨e,List.mem_filter.2 ⟨he,by simp [h1,h2]⟩,by rcases h3 with h3 | h3; exact absurd rfl h3; exact h3⟩
 unfold prtP; rw [this]; rfl
theorem spent_other {done:List En} {e:En} {n:ByteArray} (h:¬ (e.2.1=n∧(e.1=2∨e.1=3))):spentT (done ++ [e]) n=spentT done n:=by
 have h1:allP (done ++ [e]) n=allP done n:=all_other fun c=>h ⟨c.1,.inl c.2⟩
 have h2:prs (done ++ [e]) n=prs done n:=prs_other fun c=>h ⟨c.1,.inr c.2⟩
 have h3:prtP (done ++ [e]) n=prtP done n:=funext fun p=>prt_other fun c=>h ⟨c.1,.inr c.2.1⟩
 unfold spentT; rw [h1,h2,h3]
theorem spent_all {done:List En} (h:Inv done) {e:En} (he:e.1=2) (ho:OkR e.2.2.2) :
  (mulT (allP done e.2.1).1 e.2.2.2=((0,0),4)∧spentT (done ++ [e]) e.2.1=((0,0),4)) ∨
  ((mulT (allP done e.2.1).1 e.2.2.2).2=0∧OkR (mulT (allP done e.2.1).1 e.2.2.2).1∧allP (done ++ [e]) e.2.1=mulT (allP done e.2.1).1 e.2.2.2∧spentT (done ++ [e]) e.2.1=mulT (mulT (allP done e.2.1).1 e.2.2.2).1 (mostT (prtP done e.2.1) oneQ (prs done e.2.1)).1):=by
 have ha:=all_this h he
 have h2:prs (done ++ [e]) e.2.1=prs done e.2.1:=prs_other fun c=>by omega
 have h3:prtP (done ++ [e]) e.2.1=prtP done e.2.1:=funext fun p=>prt_other fun c=>by omega
 rcases mul_cases (h.all e.2.1).2 ho with ⟨h4,h5,_,_⟩ | h4
 ·right
  rw [if_pos h4] at ha
  refine ⟨h4,h5,ha,?_⟩
  unfold spentT
  rw [ha,h2,h3,if_pos h4,if_pos (h.top e.2.1).1]
 ·left
  refine ⟨h4,?_⟩
  rw [h4] at ha
  unfold spentT
  rw [ha]; simp
theorem spent_part {done:List En} (h:Inv done) {e:En} (he:e.1=3) (ho:OkR e.2.2.2) :
  (mulT (prtP done e.2.1 e.2.2.1).1 e.2.2.2=((0,0),4)∧spentT (done ++ [e]) e.2.1=((0,0),4)) ∨
  ((mulT (prtP done e.2.1 e.2.2.1).1 e.2.2.2).2=0∧OkR (mulT (prtP done e.2.1 e.2.2.1).1 e.2.2.2).1∧prtP (done ++ [e]) e.2.1 e.2.2.1=mulT (prtP done e.2.1 e.2.2.1).1 e.2.2.2 ∧
   (∀ m,Top (fun p=>(prtP (done ++ [e]) e.2.1 p).1) (fun p=>p∈prs (done ++ [e]) e.2.1) m→spentT (done ++ [e]) e.2.1=mulT (allP done e.2.1).1 m)∧∃ m,Top (fun p=>(prtP (done ++ [e]) e.2.1 p).1) (fun p=>p∈prs (done ++ [e]) e.2.1) m):=by
 have ha:=prt_this h he
 have h1:allP (done ++ [e]) e.2.1=allP done e.2.1:=all_other fun c=>by omega
 have h2:prs (done ++ [e]) e.2.1=prs done e.2.1 ++ [e.2.2.1]:=by rw [prs_snoc,if_pos ⟨rfl,he⟩]
 have h3:∀ p,p≠e.2.2.1→prtP (done ++ [e]) e.2.1 p=prtP done e.2.1 p:=fun p hp=>prt_other fun c=>hp c.2.2.symm
 rcases mul_cases (h.prt e.2.1 e.2.2.1).2 ho with ⟨h4,h5,_,_⟩ | h4
 ·right
  rw [if_pos h4] at ha
  have hok:∀ p,(prtP (done ++ [e]) e.2.1 p).2=0∧OkR (prtP (done ++ [e]) e.2.1 p).1:=fun p=>by
   by_cases hp:p=e.2.2.1
   ·rw [hp,ha]; exact ⟨h4,h5⟩
   ·rw [h3 p hp]; exact h.prt _ _
  have ht:=most_top (f:=prtP (done ++ [e]) e.2.1) (prs (done ++ [e]) e.2.1) (top_none _) (fun p _=>hok p)
  have ht2:Top (fun p=>(prtP (done ++ [e]) e.2.1 p).1) (fun p=>p∈prs (done ++ [e]) e.2.1) (mostT (prtP (done ++ [e]) e.2.1) oneQ (prs (done ++ [e]) e.2.1)).1:=ht.2.congr (by simp) (fun _ _=>rfl)
  refine ⟨h4,h5,ha,fun m hm=>?_,_,ht2⟩
  rw [spent_of (by rw [h1]; exact (h.all _).1) ht.1,h1,hm.uniq ht2]
 ·left
  refine ⟨h4,?_⟩
  have hb:mostT (prtP (done ++ [e]) e.2.1) oneQ (prs (done ++ [e]) e.2.1)=((0,0),4):=by
   rw [h4] at ha
   refine most_bad _ (by decide) (fun p _=>?_) ⟨e.2.2.1,by rw [h2]; simp,by rw [ha]; simp⟩
   by_cases hp:p=e.2.2.1
   ·right; rw [hp,ha]; simp
   ·left; rw [h3 p hp]; exact (h.prt _ _).1
  unfold spentT
  rw [h1,if_pos (h.all _).1,hb]; simp
theorem doT_bad {done:List En} {e:En} (h:doT done e=0):badT e=0∧done.length < 4096:=by
 unfold doT at h
 by_cases c1:badT e≠0
 ·rw [if_pos c1] at h; exact absurd h c1
 rw [if_neg c1] at h
 by_cases c2:4096≤done.length
 ·rw [if_pos c2] at h; omega
 ·exact ⟨by omega,by omega⟩
theorem doT_ok {done:List En} {e:En} (h:doT done e=0):badT e=0∧done.length < 4096∧((e.1=1∧budT done e.2.1=none∧(opsT done).length < 64) ∨
  (e.1≠1∧∃ b,budT done e.2.1=some b∧(e.1=3→0≤e.2.2.1∧e.2.2.1≤1073741824∧(parT (done ++ [e]) e.2.1).length≤64)∧(spentT (done ++ [e]) e.2.1).2=0∧LeR (spentT (done ++ [e]) e.2.1).1 b)):=by
 obtain ⟨h1,h2⟩:=doT_bad h
 refine ⟨h1,h2,?_⟩
 unfold doT at h
 rw [if_neg (by omega),if_neg (by omega)] at h
 cases hb:budT done e.2.1 with
 | none =>
  left
  simp only [hb] at h
  by_cases c:e.1=1
  ·rw [if_pos c] at h
   by_cases c2:64≤(opsT done).length
   ·rw [if_pos c2] at h; omega
   ·exact ⟨c,rfl,by omega⟩
  ·rw [if_neg c] at h; omega
 | some b =>
  right
  simp only [hb] at h
  by_cases c:e.1=1
  ·rw [if_pos c] at h; omega
  rw [if_neg c] at h
  by_cases c1:e.1=3∧(e.2.2.1 < 0∨1073741824 < e.2.2.1)
  ·rw [if_pos c1] at h; omega
  rw [if_neg c1] at h
  by_cases c2:e.1=3∧64 < (parT (done ++ [e]) e.2.1).length
  ·rw [if_pos c2] at h; omega
  rw [if_neg c2] at h
  by_cases c3:(spentT (done ++ [e]) e.2.1).2≠0
  ·rw [if_pos c3] at h; exact absurd h c3
  rw [if_neg c3] at h
  by_cases c4:LeR (spentT (done ++ [e]) e.2.1).1 b
  ·exact ⟨c,b,rfl,fun h3=>⟨by omega,by omega,by omega⟩,by omega,c4⟩
  ·rw [if_neg c4] at h; omega
theorem inv_snoc {done:List En} (h:Inv done) {e:En} (hd:doT done e=0) (hn:nrm e=e):Inv (done ++ [e]):=by
 obtain ⟨h1,h2,h3⟩:=doT_ok hd
 obtain ⟨b1,b2,b3,b4⟩:=bad_ok h1
 have hbud:∀ n b,budT done n=some b→budT (done ++ [e]) n=some b:=fun n b hb=>by rw [bud_snoc,hb]; rfl
 have hbude:∃ b,budT (done ++ [e]) e.2.1=some b:=by
  rcases h3 with ⟨h4,h5,_⟩ | ⟨_,b,h5,_⟩
  ·rw [bud_snoc,h5,if_pos ⟨h4,rfl⟩]; exact ⟨_,rfl⟩
  ·exact ⟨b,hbud _ _ h5⟩
 have hall:∀ n,(allP (done ++ [e]) n).2=0∧OkR (allP (done ++ [e]) n).1:=fun n=>by
  by_cases c:e.2.1=n∧e.1=2
  ·obtain ⟨rfl,c2⟩:=c
   rcases spent_all h c2 b4 with ⟨_,h6⟩ | ⟨h5,h6,h7,_⟩
   ·rcases h3 with ⟨h4,_⟩ | ⟨_,b,_,_,h7,_⟩
    ·omega
    ·rw [h6] at h7; simp at h7
   ·rw [h7]; exact ⟨h5,h6⟩
  ·rw [all_other c]; exact h.all n
 have hprt:∀ n p,(prtP (done ++ [e]) n p).2=0∧OkR (prtP (done ++ [e]) n p).1:=fun n p=>by
  by_cases c:e.2.1=n∧e.1=3∧e.2.2.1=p
  ·obtain ⟨rfl,c2,rfl⟩:=c
   rcases spent_part h c2 b4 with ⟨_,h6⟩ | ⟨h5,h6,h7,_⟩
   ·rcases h3 with ⟨h4,_⟩ | ⟨_,b,_,_,h7,_⟩
    ·omega
    ·rw [h6] at h7; simp at h7
   ·rw [h7]; exact ⟨h5,h6⟩
  ·rw [prt_other c]; exact h.prt n p
 have hsp:∀ n,e.2.1=n→e.1≠1→(spentT (done ++ [e]) n).2=0∧∀ b,budT (done ++ [e]) n=some b→LeR (spentT (done ++ [e]) n).1 b:=fun n hn1 hn2=>by
  subst hn1
  rcases h3 with ⟨h4,_⟩ | ⟨_,b,h5,_,h7,h8⟩
  ·exact absurd h4 hn2
  ·refine ⟨h7,fun b' hb'=>?_⟩
   rw [hbud _ _ h5] at hb'
   simp only [Option.some.injEq] at hb'
   exact hb'▸h8
 refine ⟨by simp; omega,fun x hx=>?_,hall,hprt,fun n=>?_,fun n b hb=>?_,?_,?_,fun n=>?_⟩
 ·rw [List.mem_append] at hx
  rcases hx with hx | hx
  ·obtain ⟨k1,k2,k3,b,k4⟩:=h.bad x hx
   exact ⟨k1,k2,k3,b,hbud _ _ k4⟩
  ·simp only [List.mem_singleton] at hx
   subst hx
   refine ⟨h1,hn,fun c=>?_,hbude⟩
   rcases h3 with ⟨h4,_⟩ | ⟨_,b,_,h6,_⟩
   ·omega
   ·exact ⟨(h6 c).1,(h6 c).2.1⟩
 ·by_cases c:e.2.1=n∧(e.1=2∨e.1=3)
  ·exact (hsp n c.1 (by omega)).1
  ·rw [spent_other c]; exact h.ok n
 ·by_cases c:e.2.1=n∧(e.1=2∨e.1=3)
  ·exact (hsp n c.1 (by omega)).2 b hb
  ·rw [spent_other c]
   rw [bud_snoc] at hb
   cases hb0:budT done n with
   | some b0 =>
    rw [hb0] at hb
    simp only [Option.some_or,Option.some.injEq] at hb
    exact hb▸h.le n b0 hb0
   | none =>
    rw [hb0] at hb
    have hz:prs done n=[]:=by
     unfold prs
     rw [List.map_eq_nil_iff,List.filter_eq_nil_iff]
     intro x hx
     simp only [decide_eq_true_eq]
     rintro ⟨k1,_⟩
     obtain ⟨_,_,_,b',k4⟩:=h.bad x hx
     rw [k1,hb0] at k4; cases k4
    have hy:lss done n 2 0=[]:=by
     unfold lss
     rw [List.map_eq_nil_iff,List.filter_eq_nil_iff]
     intro x hx
     simp only [isE,decide_eq_true_eq]
     rintro ⟨k1,_⟩
     obtain ⟨_,_,_,b',k4⟩:=h.bad x hx
     rw [k1,hb0] at k4; cases k4
    by_cases c2:e.1=1∧e.2.1=n
    ·rw [if_pos c2] at hb
     simp only [Option.none_or,Option.some.injEq] at hb
     subst hb
     have:spentT done n=(oneQ,0):=by
      simp [spentT,allP,hz,hy,prodT,mostT,mul_one_one]
     rw [this]; exact one_le b4
    ·rw [if_neg c2] at hb; simp at hb
 ·rw [ops_snoc]
  by_cases c:e.1=1
  ·rw [if_pos c]
   rcases h3 with ⟨_,_,h6⟩ | ⟨h4,_⟩
   ·simp; omega
   ·exact absurd c h4
  ·rw [if_neg c]; simpa using h.ops
 ·rw [ops_snoc]
  by_cases c:e.1=1
  ·rw [if_pos c]
   rcases h3 with ⟨_,h5,_⟩ | ⟨h4,_⟩
   ·rw [List.nodup_append]
    refine ⟨h.nod,by simp,fun a ha b hb=>?_⟩
    simp only [List.mem_singleton] at hb
    subst hb
    exact fun e'=>(bud_ops done e.2.1).1 h5 (e'▸ha)
   ·exact absurd c h4
  ·rw [if_neg c]; simpa using h.nod
 ·by_cases c:e.2.1=n∧e.1=3
  ·obtain ⟨rfl,c2⟩:=c
   rcases h3 with ⟨h4,_⟩ | ⟨_,b,_,h6,_⟩
   ·omega
   ·exact (h6 c2).2.2
  ·rw [par_snoc,if_neg (fun k=>c ⟨k.1,k.2.1⟩)]; exact h.par n
theorem inv_step {done:List En} (h:Inv done) (e:En):Inv (stepD done e):=by
 unfold stepD
 by_cases c:doT done (nrm e)=0
 ·rw [if_pos c]; exact inv_snoc h c (nrm_nrm e)
 ·rw [if_neg c]; exact h
theorem inv_book {done:List En} (h:Inv done) (l:List En):Inv (bookT done l).2:=by
 induction l generalizing done with
 | nil=>exact h
 | cons e es ih =>
  simp only [bookT]
  exact ih (inv_step h e)
theorem bud_mem {done:List En} (h:Inv done) {e:En} (he:e∈done) (h1:e.1=1):budT done e.2.1=some e.2.2.2:=by
 have hn:=h.nod
 clear h
 induction done with
 | nil=>simp at he
 | cons x xs ih =>
  unfold budT
  rw [List.find?_cons]
  by_cases c:x.1=1∧x.2.1=e.2.1
  ·simp only [c,and_self,decide_true]
   rcases List.mem_cons.1 he with rfl | he'
   ·rfl
   ·exfalso
    have:opsT (x :: xs)=x.2.1 :: opsT xs:=by unfold opsT; rw [List.filter_cons,if_pos (by simp [c.1])]; rfl
    rw [this,List.nodup_cons,c.2] at hn
    exact hn.1 (List.mem_map.2 ⟨e,List.mem_filter.2 ⟨he',by simp [h1]⟩,rfl⟩)
  ·simp only [c,decide_false]
   rcases List.mem_cons.1 he with rfl | he'
   ·exact absurd ⟨h1,rfl⟩ c
   ·refine ih he' ?_
    unfold opsT at hn
    rw [List.filter_cons] at hn
    by_cases c2:x.1=1
    ·rw [if_pos (by simp [c2])] at hn
     exact (List.nodup_cons.1 hn).2
    ·rw [if_neg (by simp [c2])] at hn; exact hn
end Go.Proofs.YtlndlpjadajelaaGreat.K.P
namespace Go.Proofs.YtlndlpjadajelaaGreat
open Go.RowKit Go.Proofs.YtlndlpjadajelaaGreat.Ds
def lsR (r:Int × Int):Rat:=rq r.1 r.2
theorem lsR_rq (x:Rat):lsR (K.P.rq x)=x:=(q_eq x).symm
theorem okR_one {r:Int × Int} (h:K.P.OkR r):1≤lsR r:=by
 obtain ⟨q,rfl,_,h1⟩:=h.rat
 rw [lsR_rq]
 exact h1
theorem leR_is {a b:Int × Int} (ha:K.P.OkR a) (hb:K.P.OkR b) (h:K.P.LeR a b):lsR a≤lsR b:=by
 obtain ⟨x,rfl,_,_⟩:=ha.rat
 obtain ⟨y,rfl,_,_⟩:=hb.rat
 rw [lsR_rq,lsR_rq]
 exact (K.P.leR_rq x y).1 h
theorem mul_is {a b:Int × Int} (ha:K.P.OkR a) (hb:K.P.OkR b) (h:(K.P.mulT a b).2=0):K.P.OkR (K.P.mulT a b).1∧lsR (K.P.mulT a b).1=lsR a * lsR b:=by
 obtain ⟨x,rfl,hx,x1⟩:=ha.rat
 obtain ⟨y,rfl,hy,y1⟩:=hb.rat
 rcases K.P.mul_rq hx hy x1 y1 with ⟨h1,h2⟩ | ⟨_,h2⟩
 ·rw [h2,lsR_rq,lsR_rq,lsR_rq]
  exact ⟨K.P.okR_of h1 (K.P.one_mul_le x1 y1).1,rfl⟩
 ·rw [h2] at h
  simp at h
def prodR:List Rat→Rat
 | []=>1
 | x :: l=>x * prodR l
theorem prodR_app (l m:List Rat):prodR (l ++ m)=prodR l * prodR m:=by
 induction l with
 | nil=>simp only [List.nil_append,prodR]; rw [Rat.one_mul]
 | cons x l ih=>simp only [List.cons_append,prodR]; rw [ih,Rat.mul_assoc]
theorem prod_is:∀ {l:List (Int × Int)} {r:Int × Int},(∀ x∈l,K.P.OkR x)→K.P.OkR r→(K.P.prodT r l).2=0→lsR (K.P.prodT r l).1=lsR r * prodR (l.map lsR)
 | [],r,_,_,_=>by simp only [K.P.prodT,List.map_nil,prodR]; rw [Rat.mul_one]
 | x :: l,r,hl,hr,h=>by
  have hx:=hl x (by simp)
  simp only [K.P.prodT] at h ⊢
  split at h
  ·rename_i c
   obtain ⟨o,e⟩:=mul_is hr hx c
   rw [if_pos c,prod_is (fun y hy=>hl y (by simp [hy])) o h,e,List.map_cons,prodR,Rat.mul_assoc]
  ·rename_i c
   exact absurd h c
def fcW (n:ByteArray) (w:Int) (e:K.P.En):Rat:=if e.2.1=n∧(e.1=2∨(e.1=3∧e.2.2.1=w)) then lsR e.2.2.2 else 1
def spW (n:ByteArray) (es:List K.P.En) (w:Int):Rat:=prodR (es.map (fcW n w))
theorem spW_snoc (n:ByteArray) (es:List K.P.En) (e:K.P.En) (w:Int):spW n (es ++ [e]) w=spW n es w * fcW n w e:=by
 unfold spW
 rw [List.map_append,prodR_app]
 simp only [List.map_cons,List.map_nil,prodR]
 rw [Rat.mul_one]
theorem fcW_nrm (n:ByteArray) (w:Int) (e:K.P.En):fcW n w (K.P.nrm e)=fcW n w e:=by
 unfold fcW
 rw [K.P.nrm_1,K.P.nrm_n,K.P.nrm_l]
 by_cases c:e.1=3
 ·have:K.P.nrm e=e:=by unfold K.P.nrm; rw [if_pos c]
  rw [this]
 ·have h1:∀ x:Int,(e.2.1=n∧(e.1=2∨(e.1=3∧x=w)))=(e.2.1=n∧e.1=2):=fun x=>by
   simp only [c,false_and,or_false]
  simp only [h1]
theorem spW_nrm (n:ByteArray) (es:List K.P.En) (w:Int):spW n (es.map K.P.nrm) w=spW n es w:=by
 unfold spW
 rw [List.map_map]
 congr 1
 exact List.map_congr_left fun e _=>fcW_nrm n w e
theorem prodR_filter (p:K.P.En→Bool) (es:List K.P.En):prodR (((es.filter p).map (·.2.2.2)).map lsR)=prodR (es.map fun e=>if p e=true then lsR e.2.2.2 else 1):=by
 induction es with
 | nil=>rfl
 | cons e es ih =>
  by_cases c:p e=true
  ·rw [List.filter_cons_of_pos c]
   simp only [List.map_cons,prodR]
   rw [ih,if_pos c]
  ·rw [List.filter_cons_of_neg c,ih]
   simp only [List.map_cons,prodR]
   rw [if_neg c,Rat.one_mul]
theorem prodR_two (n:ByteArray) (w:Int) (es:List K.P.En):prodR (es.map fun e=>if K.P.isE n 2 0 e=true then lsR e.2.2.2 else 1) * prodR (es.map fun e=>if K.P.isE n 3 w e=true then lsR e.2.2.2 else 1)=spW n es w:=by
 unfold spW
 induction es with
 | nil=>simp only [List.map_nil,prodR]; rw [Rat.mul_one]
 | cons e es ih =>
  simp only [List.map_cons,prodR]
  rw [← ih]
  have key:fcW n w e=(if K.P.isE n 2 0 e=true then lsR e.2.2.2 else 1) * (if K.P.isE n 3 w e=true then lsR e.2.2.2 else 1):=by
   unfold fcW K.P.isE
   by_cases c:e.2.1=n
   ·by_cases c2:e.1=2
    ·simp [c,c2,Rat.mul_one]
    ·by_cases c3:e.1=3
     ·by_cases c4:e.2.2.1=w
      ·simp [c,c3,c4,Rat.one_mul]
      ·simp [c,c3,c4]
     ·simp [c,c2,c3]
   ·simp [c]
  rw [key]
  grind
theorem inv_le {done:List K.P.En} (h:K.P.Inv done) {e0:K.P.En} (he:e0∈done) (h1:e0.1=1) (w:Int):1≤spW e0.2.1 done w∧spW e0.2.1 done w≤lsR e0.2.2.2:=by
 have okl:∀ d p:Int,∀ x∈K.P.lss done e0.2.1 d p,K.P.OkR x:=by
  intro d p x hx
  unfold K.P.lss at hx
  obtain ⟨e,he,rfl⟩:=List.mem_map.1 hx
  exact (K.P.bad_ok (h.bad e (List.mem_filter.1 he).1).1).2.2.2
 have l1:lsR K.P.oneQ=1:=by rw [← K.P.rq_one,lsR_rq]
 have ea:lsR (K.P.allP done e0.2.1).1=prodR ((K.P.lss done e0.2.1 2 0).map lsR):=by
  unfold K.P.allP
  rw [prod_is (okl 2 0) K.P.ok_one (h.all e0.2.1).1,l1,Rat.one_mul]
 have ep:lsR (K.P.prtP done e0.2.1 w).1=prodR ((K.P.lss done e0.2.1 3 w).map lsR):=by
  unfold K.P.prtP
  rw [prod_is (okl 3 w) K.P.ok_one (h.prt e0.2.1 w).1,l1,Rat.one_mul]
 have es:spW e0.2.1 done w=lsR (K.P.allP done e0.2.1).1 * lsR (K.P.prtP done e0.2.1 w).1:=by
  rw [ea,ep]
  unfold K.P.lss
  rw [prodR_filter,prodR_filter,prodR_two]
 have a1:=okR_one (h.all e0.2.1).2
 have p1:=okR_one (h.prt e0.2.1 w).2
 obtain ⟨t0,tp⟩:=h.top e0.2.1
 have hs:=h.spent e0.2.1
 have ho:=h.ok e0.2.1
 rw [hs] at ho
 obtain ⟨o1,m1⟩:=mul_is (h.all e0.2.1).2 tp.ok ho
 have hb:=h.le _ _ (K.P.bud_mem h he h1)
 rw [hs] at hb
 have hle:=leR_is o1 (K.P.bad_ok (h.bad e0 he).1).2.2.2 hb
 rw [m1] at hle
 have hpm:lsR (K.P.prtP done e0.2.1 w).1≤lsR (K.P.mostT (K.P.prtP done e0.2.1) K.P.oneQ (K.P.prs done e0.2.1)).1:=by
  by_cases c:w∈K.P.prs done e0.2.1
  ·exact leR_is (h.prt e0.2.1 w).2 tp.ok (tp.le w c)
  ·rw [K.P.prt_none c,l1]
   exact okR_one tp.ok
 have k1:=Rat.mul_le_mul_of_nonneg_left hpm (show 0≤lsR (K.P.allP done e0.2.1).1 by grind)
 have k2:=Rat.mul_le_mul_of_nonneg_left p1 (show 0≤lsR (K.P.allP done e0.2.1).1 by grind)
 rw [es]
 constructor <;> grind
def Acc (paid:List K.P.En):Prop:=(K.P.bookT [] paid).2=paid.map K.P.nrm
theorem acc_nil:Acc []:=rfl
theorem Acc.snoc {paid:List K.P.En} (h:Acc paid) {e:K.P.En} (he:K.P.doT (K.P.bookT [] paid).2 (K.P.nrm e)=0):Acc (paid ++ [e]):=by
 unfold Acc at *
 rw [K.P.book_snoc]
 simp only
 unfold K.P.stepD
 rw [if_pos he,h,List.map_append]
 rfl
theorem Acc.le {paid:List K.P.En} (h:Acc paid) {e0:K.P.En} (he:e0∈paid) (h1:e0.1=1) (w:Int):1≤spW e0.2.1 paid w∧spW e0.2.1 paid w≤lsR e0.2.2.2:=by
 have hi:=K.P.inv_book K.P.inv_nil paid
 have hm:K.P.nrm e0∈(K.P.bookT [] paid).2:=by rw [h]; exact List.mem_map.2 ⟨e0,he,rfl⟩
 have:=inv_le hi hm (by rw [K.P.nrm_1]; exact h1) w
 rw [K.P.nrm_n,K.P.nrm_l,h,spW_nrm] at this
 exact this
end Go.Proofs.YtlndlpjadajelaaGreat
namespace Go.Proofs.YtlndlpjadajelaaGreat.K
open Go.RowKit Go.Proofs.YtlndlpjadajelaaGreat.Ds
set_option maxHeartbeats 400000 in
theorem refCompareA_any (B n1 n2:Nat) (u v:Value) (x y:List Int) (w:World) (hx:Ints w B n1 u x) (hy:Ints w B n2 v y) (r:Int) (hr:cmpT x y=r) :
  Calls Tryz.prog 58 #[u,v] w fun e w'=>e=.returned (.int .i64 r)∧∃ q,w' = w.drewN q:=by
 obtain ⟨ax,cx,rfl,hcx,hlx,hxx⟩:=hx
 obtain ⟨ay,cy,rfl,hcy,hly,hyy⟩:=hy
 have HX:Hid (x≠[]→∃ b o,ax=some ⟨b,o,none⟩∧b < B∧b≠n1∧∀ i z,x[i]? = some z→w.cell? ⟨b,o + i,none⟩=some (.int .i64 z)):=hxx
 have HY:Hid (y≠[]→∃ b o,ay=some ⟨b,o,none⟩∧b < B∧b≠n2∧∀ i z,y[i]? = some z→w.cell? ⟨b,o + i,none⟩=some (.int .i64 z)):=hyy
 have HR:Hid (cmpT x y=r):=hr
 clear hxx hyy hr
 go_enter Tryz.func58,Tryz.ntmps58
 go_wp2
 go_loopw [8] (fun s wr=>∃ i:Nat,s=.int .i64 (i:Int)∧i≤x.length∧i≤y.length∧cmpT (x.drop i) (y.drop i)=r∧∃ q,wr=w.drewN q) (fun s _=>x.length - (intOf s).toNat)
 case atStart=>exact ⟨0,rfl,Nat.zero_le _,Nat.zero_le _,HR.out,0,rfl⟩
 case round =>
  obtain ⟨i,rfl,hix,hiy,hc,q,rfl⟩:=hrel
  have HC:Hid (cmpT (x.drop i) (y.drop i)=r):=hc
  clear hc
  by_cases h1:i < x.length
  ·obtain ⟨bx,ox,rfl,hbx,hnx,hcx⟩:=HX.out (ne_of_lt h1)
   obtain ⟨zx,hzx⟩:=get_lt h1
   have cx1:=hcx i zx hzx
   by_cases h2:i < y.length
   ·obtain ⟨by',oy,rfl,hby,hny,hcy⟩:=HY.out (ne_of_lt h2)
    obtain ⟨zy,hzy⟩:=get_lt h2
    have cy1:=hcy i zy hzy
    have st:=_root_.Go.Proofs.YtlndlpjadajelaaGreat.cmpT_step hzx hzy
    have ST:Hid (cmpT (x.drop i) (y.drop i)=if zx < zy then -1 else if zy < zx then 1 else cmpT (x.drop (i + 1)) (y.drop (i + 1))):=st
    clear st hcx hcy HX HY hzx hzy
    by_cases c1:zx=zy
    ·subst c1
     go_wp2
     go_quiet (fail)
     go_wp2
     go_roundw
     case rel=>exact ⟨i + 1,by go_num,h1,h2,by rw [← HC.out,ST.out]; simp,_,rfl⟩
     case measure=>simp [intOf]; omega
    ·by_cases c2:zx < zy
     ·have hr1:r = -1:=by rw [← HC.out,ST.out]; simp [c2]
      subst hr1
      go_wp2
      go_quiet (fail)
      go_wp2
      go_quiet (fail)
      go_wp2
      go_ret
      exact ⟨rfl,dr2 _ _ _ _⟩
     ·have hr1:r=1:=by rw [← HC.out,ST.out]; simp [c2,show zy < zx by omega]
      subst hr1
      go_wp2
      go_quiet (fail)
      go_wp2
      go_quiet (fail)
      go_wp2
      go_ret
      exact ⟨rfl,dr2 _ _ _ _⟩
   ·have hr1:r=1:=by
     rw [← HC.out,List.drop_eq_getElem_cons h1,List.drop_eq_nil_of_le (show y.length≤i by omega)]; rfl
    subst hr1
    clear hcx HX HY
    go_wp2
    go_ret
    exact ⟨rfl,_,rfl⟩
  ·by_cases h2:i < y.length
   ·have hr1:r = -1:=by
     rw [← HC.out,List.drop_eq_nil_of_le (show x.length≤i by omega),List.drop_eq_getElem_cons h2]; rfl
    subst hr1
    have h3:x.length < y.length:=by omega
    clear HX HY
    go_wp2
    go_ret
    exact ⟨rfl,_,rfl⟩
   ·have hr1:r=0:=by
     rw [← HC.out,List.drop_eq_nil_of_le (show x.length≤i by omega),List.drop_eq_nil_of_le (show y.length≤i by omega)]; rfl
    subst hr1
    have h3:¬ x.length < y.length:=by omega
    clear HX HY
    go_wp2
    go_ret
    exact ⟨rfl,_,rfl⟩
end Go.Proofs.YtlndlpjadajelaaGreat.K

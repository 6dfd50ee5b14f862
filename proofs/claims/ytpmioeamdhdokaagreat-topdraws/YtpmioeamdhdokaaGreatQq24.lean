import Derived.Test.YtpmioeamdhdokaaGreatQq23
import Derived.Test.YtpmioeamdhdokaaGreatQq10
import Derived.Test.YtpmioeamdhdokaaGreatQq12
import Derived.Maps.Own
import Derived.Maps.OwnOps
import Derived.Maps.OwnSet
import Derived.Maps.Views
import Derived.Test.YtpmioeamdhdokaaGreatQq11
import Derived.Deep.RegionHeld3
namespace Go.Proofs.YtpmioeamdhdokaaGreat.K.P
open Go.Proofs.YtpmioeamdhdokaaGreat.K.Ds
def putT:List Int→Int→List (Nat × Int)→List Int × Int × Bool
 | disk,left,[]=>(disk,left,true)
 | disk,left,(a,x) :: r=>if left=0 then (disk,0,false) else putT (disk.set a x) (if 0 < left then left - 1 else left) r
def appD (disk:List Int) (ws:List (Nat × Int)):List Int:=ws.foldl (fun d p=>d.set p.1 p.2) disk
theorem appD_len (disk:List Int) (ws:List (Nat × Int)):(appD disk ws).length=disk.length:=by
 induction ws generalizing disk with
 | nil=>rfl
 | cons p ws ih=>unfold appD at *; rw [List.foldl_cons,ih]; simp
theorem appD_app (disk:List Int) (a b:List (Nat × Int)):appD disk (a ++ b)=appD (appD disk a) b:=by simp [appD]
theorem put_cases {disk disk':List Int} {left left':Int} {ws:List (Nat × Int)} {ok:Bool} (h:putT disk left ws=(disk',left',ok)) :
  ∃ m,m≤ws.length∧disk' = appD disk (ws.take m)∧(ok=true→m=ws.length)∧(ok=false→m < ws.length):=by
 induction ws generalizing disk left with
 | nil =>
  simp only [putT,Prod.mk.injEq] at h
  exact ⟨0,Nat.le_refl _,by simp [appD,h.1],fun _=>rfl,fun e=>by rw [← h.2.2] at e; cases e⟩
 | cons p ws ih =>
  obtain ⟨a,x⟩:=p
  simp only [putT] at h
  by_cases c:left=0
  ·rw [if_pos c] at h
   simp only [Prod.mk.injEq] at h
   exact ⟨0,Nat.zero_le _,by simp [appD,h.1],(fun e=>by rw [← h.2.2] at e; cases e),fun _=>by simp⟩
  ·rw [if_neg c] at h
   obtain ⟨m,h1,h2,h3,h4⟩:=ih h
   refine ⟨m + 1,by simpa using h1,by rw [h2]; simp [appD],fun e=>by rw [h3 e]; rfl,fun e=>?_⟩
   have:=h4 e
   simp; omega
theorem appD_other (disk:List Int) (ws:List (Nat × Int)) (j:Nat) (h:∀ p∈ws,p.1≠j):(appD disk ws)[j]? = disk[j]?:=by
 induction ws generalizing disk with
 | nil=>rfl
 | cons p ws ih =>
  unfold appD at *
  rw [List.foldl_cons,ih _ fun q hq=>h q (by simp [hq]),List.getElem?_set_ne (h p (by simp))]
theorem rcd_ext {d d':List Int} {i:Nat} (h:∀ j,9 * i≤j→j < 9 * i + 9→d'[j]? = d[j]?):rcd d' i=rcd d i:=by
 apply List.ext_getElem?
 intro j
 unfold rcd
 rw [List.getElem?_take,List.getElem?_take]
 by_cases c:j < 9
 ·rw [if_pos c,if_pos c,List.getElem?_drop,List.getElem?_drop]
  exact h (9 * i + j) (by omega) (by omega)
 ·rw [if_neg c,if_neg c]
theorem rcd_head {d:List Int} {i:Nat}:(rcd d i).getD 0 0=d.getD (9 * i) 0:=by
 unfold rcd
 simp [List.getD,List.getElem?_drop]
def wrs (n:Nat) (e:En):List (Nat × Int):=(9 * n,0) :: ((List.range 8).map (fun j=>(9 * n + (j + 1),(recW e).getD (j + 1) 0)) ++ [(9 * n,1)])
theorem wrs_len (n:Nat) (e:En):(wrs n e).length=10:=by simp [wrs]
theorem wrs_at {n:Nat} {e:En}:∀ p∈wrs n e,9 * n≤p.1∧p.1 < 9 * n + 9:=by
 intro p hp
 simp only [wrs,List.mem_cons,List.mem_append,List.mem_map,List.mem_range,List.not_mem_nil,or_false] at hp
 rcases hp with rfl | ⟨j,hj,rfl⟩ | rfl
 ·simp
 ·simp; omega
 ·simp
theorem wrs_rcd {disk:List Int} {n i m:Nat} {e:En} (h:i≠n):rcd (appD disk ((wrs n e).take m)) i=rcd disk i:=by
 refine rcd_ext fun j h1 h2=>appD_other _ _ _ fun p hp=>?_
 have:=wrs_at p (List.mem_of_mem_take hp)
 omega
theorem wrs_head {disk:List Int} {n m:Nat} {e:En} (hl:9 * n < disk.length) (h1:1≤m) (h2:m < 10):(appD disk ((wrs n e).take m)).getD (9 * n) 0=0:=by
 obtain ⟨k,rfl⟩:∃ k,m=k + 1:=⟨m - 1,by omega⟩
 have e1:(wrs n e).take (k + 1)=(9 * n,0) :: ((List.range 8).map (fun j=>(9 * n + (j + 1),(recW e).getD (j + 1) 0))).take k:=by
  unfold wrs
  rw [List.take_succ_cons,List.take_append_of_le_length (by simp; omega)]
 rw [e1]
 have e2:appD disk ((9 * n,0) :: ((List.range 8).map (fun j=>(9 * n + (j + 1),(recW e).getD (j + 1) 0))).take k)=appD (disk.set (9 * n) 0) (((List.range 8).map (fun j=>(9 * n + (j + 1),(recW e).getD (j + 1) 0))).take k):=by simp [appD]
 rw [e2,List.getD,appD_other]
 ·rw [List.getElem?_set_self hl]; rfl
 ·intro p hp
  obtain ⟨j,_,rfl⟩:=List.mem_map.1 (List.mem_of_mem_take hp)
  simp
theorem lay_words (disk:List Int) (a:Nat) (f:Nat→Int):∀ k,a + k≤disk.length→∀ j,j < k→(appD disk ((List.range k).map fun i=>(a + i,f i)))[a + j]? = some (f j)
 | 0,_,j,hj=>by omega
 | k + 1,hl,j,hj=>by
  rw [List.range_succ,List.map_append,appD_app]
  simp only [List.map_cons,List.map_nil]
  have e:∀ d:List Int,appD d [(a + k,f k)]=d.set (a + k) (f k):=fun d=>rfl
  rw [e]
  by_cases c:j=k
  ·subst c
   rw [List.getElem?_set_self (by rw [appD_len]; omega)]
  ·rw [List.getElem?_set_ne (by omega)]
   exact lay_words disk a f k (by omega) j (by omega)
theorem wrs_all {disk:List Int} {n:Nat} {e:En} (hl:9 * n + 9≤disk.length):rcd (appD disk (wrs n e)) n=recW e:=by
 have e1:appD disk (wrs n e)=(appD (disk.set (9 * n) 0) ((List.range 8).map (fun j=>(9 * n + 1 + j,(recW e).getD (j + 1) 0)))).set (9 * n) 1:=by
  have e0:((List.range 8).map fun j=>(9 * n + (j + 1),(recW e).getD (j + 1) 0))=(List.range 8).map fun j=>(9 * n + 1 + j,(recW e).getD (j + 1) 0):=List.map_congr_left fun j _=>by rw [show 9 * n + (j + 1)=9 * n + 1 + j by omega]
  unfold wrs
  rw [e0]
  simp [appD]
 rw [e1]
 apply List.ext_getElem?
 intro j
 unfold rcd
 rw [List.getElem?_take]
 by_cases c:j < 9
 ·rw [if_pos c,List.getElem?_drop]
  by_cases c0:j=0
  ·subst c0
   rw [show 9 * n + 0=9 * n from rfl,List.getElem?_set_self (by rw [appD_len,List.length_set]; omega)]
   rfl
  ·rw [List.getElem?_set_ne (by omega),show 9 * n + j=9 * n + 1 + (j - 1) by omega]
   rw [lay_words (disk.set (9 * n) 0) (9 * n + 1) (fun j=>(recW e).getD (j + 1) 0) 8 (by simp; omega) (j - 1) (by omega)]
   show some ((recW e).getD (j - 1 + 1) 0)=(recW e)[j]?
   rw [show j - 1 + 1=j by omega,List.getD,List.getElem?_eq_getElem (by rw [recW_len]; exact c)]
   rfl
 ·rw [if_neg c,List.getElem?_eq_none (by rw [recW_len]; omega)]
def Hz (disk:List Int) (n:Nat):Prop:=∀ i,n≤i→9 * i + 9≤disk.length→disk.getD (9 * i) 0≠1
theorem hz_blank (k:Nat):Hz (List.replicate k 0) 0:=by
 intro i _ _
 rw [List.getD,List.getElem?_replicate]
 split <;> simp
theorem lies_blank (k:Nat):Lies (List.replicate k 0) []:=by
 refine ⟨.nil,fun h=>?_⟩
 have h1:=hz_blank k 0 (Nat.le_refl _) h.1
 rw [← rcd_head] at h1
 exact h1 h.2.1
theorem hz_part {disk:List Int} {n m:Nat} {e:En} (h:Hz disk n) (hl:9 * n + 9≤disk.length) (hm:m < 10):Hz (appD disk ((wrs n e).take m)) n:=by
 intro i hi hli
 rw [appD_len] at hli
 by_cases c:i=n
 ·subst c
  by_cases c0:m=0
  ·subst c0; exact h i hi hli
  ·rw [wrs_head (by omega) (by omega) hm]; decide
 ·rw [← rcd_head,wrs_rcd c,rcd_head]
  exact h i hi hli
theorem hz_all {disk:List Int} {n:Nat} {e:En} (h:Hz disk n):Hz (appD disk (wrs n e)) (n + 1):=by
 intro i hi hli
 rw [appD_len] at hli
 have:=wrs_rcd (disk:=disk) (n:=n) (i:=i) (m:=10) (e:=e) (by omega)
 rw [List.take_of_length_le (by rw [wrs_len]; exact Nat.le_refl _)] at this
 rw [← rcd_head,this,rcd_head]
 exact h i (by omega) hli
theorem lies_part {disk:List Int} {done:List En} {m:Nat} {e:En} (h:Lies disk done) (hl:9 * done.length + 9≤disk.length) (hm:m < 10):Lies (appD disk ((wrs done.length e).take m)) done:=by
 by_cases c0:m=0
 ·subst c0; exact h
 ·refine ⟨h.1.keep (appD_len _ _) fun i hi=>wrs_rcd (by omega),fun hc=>?_⟩
  have h1:=hc.2.1
  rw [rcd_head,wrs_head (by omega) (by omega) hm] at h1
  exact absurd h1 (by decide)
theorem lies_all {disk:List Int} {done:List En} {e:En} (h:Lies disk done) (hz:Hz disk done.length) (hl:9 * done.length + 9≤disk.length) (hd:doT done (nrm e)=0):Lies (appD disk (wrs done.length (nrm e))) (done ++ [nrm e]):=by
 have hb:badT (nrm e)=0:=by
  unfold doT at hd
  by_cases c:badT (nrm e)=0
  ·exact c
  ·rw [if_pos c] at hd; exact absurd hd c
 have hn:namB (nrm e).2.1.data.toList=true:=by
  unfold badT at hb
  split at hb
  ·cases hb
  ·split at hb
   ·rename_i h1; exact h1.1
   ·cases hb
 have hr:=wrs_all (e:=nrm e) hl
 have ht:=rec_turn (nrm e) hn
 have hk:Rds (appD disk (wrs done.length (nrm e))) done.length done:=h.1.keep (appD_len _ _) fun i hi=>by
  have:=wrs_rcd (disk:=disk) (n:=done.length) (i:=i) (m:=10) (e:=nrm e) (by omega)
  rw [List.take_of_length_le (by rw [wrs_len]; exact Nat.le_refl _)] at this
  exact this
 have hc:Cnt (appD disk (wrs done.length (nrm e))) done done.length:=by
  refine ⟨by rw [appD_len]; exact hl,by rw [hr]; rfl,by rw [hr,ht],by rw [hr,ht,nrm_nrm]; exact hd⟩
 have hm:=Rds.more hk hc
 rw [hr,ht,nrm_nrm] at hm
 refine ⟨by simpa using hm,fun hx=>?_⟩
 rw [List.length_append,List.length_singleton] at hx
 have h1:=hz_all (e:=nrm e) hz (done.length + 1) (Nat.le_refl _) hx.1
 rw [← rcd_head] at h1
 exact h1 hx.2.1
instance (disk:List Int) (done:List En) (i:Nat):Decidable (Cnt disk done i):=by unfold Cnt; infer_instance
def lieG (disk:List Int):Nat→List En→List En
 | 0,done=>done
 | f + 1,done=>if Cnt disk done done.length then lieG disk f (done ++ [nrm (enO (rcd disk done.length))]) else done
def liesT (disk:List Int):List En:=lieG disk (disk.length / 9) []
theorem lieG_lies (disk:List Int):∀ (f:Nat) (done:List En),Rds disk done.length done→disk.length < 9 * (done.length + f) + 9→Lies disk (lieG disk f done)
 | 0,done,h,hl=>⟨h,fun hc=>by have h1:9 * done.length + 9≤disk.length:=hc.1; omega⟩
 | f + 1,done,h,hl=>by
  unfold lieG
  by_cases c:Cnt disk done done.length
  ·rw [if_pos c]
   refine lieG_lies disk f _ ?_ ?_
   ·rw [List.length_append,List.length_singleton]; exact .more h c
   ·rw [List.length_append,List.length_singleton]; omega
  ·rw [if_neg c]; exact ⟨h,c⟩
theorem liesT_lies (disk:List Int):Lies disk (liesT disk):=lieG_lies disk _ [] .nil (by simp; omega)
theorem liesT_is {disk:List Int} {done:List En} (h:Lies disk done):liesT disk=done:=(liesT_lies disk).uniq h
structure HSt where
 disk:List Int
 left:Int
 up:Bool
 brk:Bool
 done:List En
def doesT (s:HSt) (e:En):HSt × Int :=
 if s.disk.length < 9 * s.done.length + 9 then (s,4)
 else if doT s.done (nrm e)≠0 then (s,doT s.done (nrm e))
 else if (putT s.disk s.left (wrs s.done.length (nrm e))).2.2=true
  then ({ s with disk:=(putT s.disk s.left (wrs s.done.length (nrm e))).1,left:=(putT s.disk s.left (wrs s.done.length (nrm e))).2.1,done:=s.done ++ [nrm e] },0)
  else ({ s with disk:=(putT s.disk s.left (wrs s.done.length (nrm e))).1,left:=(putT s.disk s.left (wrs s.done.length (nrm e))).2.1,brk:=true },11)
def Bok (disk:List Int) (done:List En):Prop:=Lies disk done∧Hz disk done.length
theorem does_cases {s s':HSt} {e:En} {er:Int} (h:doesT s e=(s',er)) (hb:Bok s.disk s.done) :
  Bok s'.disk s'.done∧s'.up=s.up∧s'.disk.length=s.disk.length ∧
  ((er=0∧s'.done=s.done ++ [nrm e]∧s'.brk=s.brk)∨(er=11∧s'.done=s.done∧s'.brk=true)∨(er≠0∧s' = s∧(er=4∨er=doT s.done (nrm e)))):=by
 unfold doesT at h
 by_cases c1:s.disk.length < 9 * s.done.length + 9
 ·rw [if_pos c1] at h
  simp only [Prod.mk.injEq] at h
  obtain ⟨rfl,rfl⟩:=h
  exact ⟨hb,rfl,rfl,.inr (.inr ⟨by decide,rfl,.inl rfl⟩)⟩
 rw [if_neg c1] at h
 by_cases c2:doT s.done (nrm e)=0
 ·rw [if_neg (by simpa using c2)] at h
  obtain ⟨d',l',ok,hp⟩:∃ d' l' ok,putT s.disk s.left (wrs s.done.length (nrm e))=(d',l',ok):=⟨_,_,_,rfl⟩
  rw [hp] at h
  obtain ⟨m,h1,h2,h3,h4⟩:=put_cases hp
  rw [wrs_len] at h1 h3 h4
  by_cases c3:ok=true
  ·rw [if_pos c3] at h
   simp only [Prod.mk.injEq] at h
   obtain ⟨rfl,rfl⟩:=h
   rw [h3 c3,List.take_of_length_le (by rw [wrs_len]; exact Nat.le_refl _)] at h2
   refine ⟨⟨?_,?_⟩,rfl,by rw [h2]; exact appD_len _ _,.inl ⟨rfl,rfl,rfl⟩⟩
   ·show Lies d' (s.done ++ [nrm e])
    rw [h2]; exact lies_all hb.1 hb.2 (by omega) c2
   ·show Hz d' (s.done ++ [nrm e]).length
    rw [h2,List.length_append,List.length_singleton]; exact hz_all hb.2
  ·rw [if_neg c3] at h
   simp only [Prod.mk.injEq] at h
   obtain ⟨rfl,rfl⟩:=h
   have hm:=h4 (by simpa using c3)
   refine ⟨⟨?_,?_⟩,rfl,by rw [h2]; exact appD_len _ _,.inr (.inl ⟨rfl,rfl,rfl⟩)⟩
   ·show Lies d' s.done
    rw [h2]; exact lies_part hb.1 (by omega) hm
   ·show Hz d' s.done.length
    rw [h2]; exact hz_part hb.2 (by omega) hm
 ·rw [if_pos c2] at h
  simp only [Prod.mk.injEq] at h
  obtain ⟨rfl,rfl⟩:=h
  exact ⟨hb,rfl,rfl,.inr (.inr ⟨c2,rfl,.inr rfl⟩)⟩
inductive Ev (α:Type) where
 | opn | pow (n:Int) | oth | pur (e:En) | ask (pre:Int) (e:En) (tl:Option α) | loo
structure Sn (α:Type) where
 err:Int
 told:Option α
 ents:List En
def stepH {α:Type} (wr:Int) (s:HSt):Ev α→HSt × Sn α
 | .opn=>({ s with up:=decide (wr=0),brk:=false,done:=liesT s.disk },⟨wr,none,[]⟩)
 | .pow n=>({ s with left:=n },⟨0,none,[]⟩)
 | .oth=>(s,⟨0,none,[]⟩)
 | .pur e=>if s.up=false then (s,⟨0,none,[]⟩) else if s.brk=true then (s,⟨9,none,[]⟩) else ((doesT s e).1,⟨(doesT s e).2,none,[]⟩)
 | .ask pre e tl=>if s.up=false then (s,⟨0,none,[]⟩) else if s.brk=true then (s,⟨9,none,[]⟩) else if pre≠0 then (s,⟨pre,none,[]⟩)
   else if (doesT s e).2≠0 then ((doesT s e).1,⟨(doesT s e).2,none,[]⟩)
   else match tl with
    | none=>((doesT s e).1,⟨6,none,[]⟩)
    | some t=>((doesT s e).1,⟨0,some t,[]⟩)
 | .loo=>if s.up=false then (s,⟨0,none,[]⟩) else if s.brk=true then (s,⟨9,none,[]⟩) else (s,⟨0,none,s.done⟩)
structure Rl (want:List En) (op live:Bool) (s:HSt):Prop where
 up:s.up=op
 lv:live=true→op=true
 bk:op=true→s.brk = !live
 dn:op=true→s.done=want
 bok:Bok s.disk want
def noteH {α:Type} (want:List En) (op live:Bool) (x:Sn α) (look:Sn α):Ev α→Option (List En × Bool × Bool)
 | .opn=>if x.err≠0 then none else some (want,true,true)
 | .pur e=>if live=true∧x.err=0 then some (want ++ [nrm e],op,live) else if live=true∧x.err=11 then some (want,op,false) else some (want,op,live)
 | .ask _ e _=>if live=true∧x.err=0 then some (want ++ [nrm e],op,live)
   else if live=true∧x.err=6 then (if look.ents.length≠want.length + 1 then none else some (want ++ [look.ents.getD want.length (0,ByteArray.empty,0,0,0)],op,live))
   else if live=true∧x.err=11 then some (want,op,false) else some (want,op,live)
 | _=>some (want,op,live)
def Tame (n:Int):Prop:=n≠6∧n≠11
theorem tame_zero:Tame 0:=⟨by decide,by decide⟩
theorem tame_mul (a b:Rq):Tame (mulT a b).2:=by
 show Tame (Rt.timesT a.1 a.2 b.1 b.2).2.2
 unfold Rt.timesT Rt.mkT Rt.tell Tame
 split
 ·split
  ·decide
  ·split
   ·decide
   ·split
    ·decide
    ·exact tame_zero
 ·decide
theorem tame_prod (l:List Rq):∀ r:Rq,Tame (prodT r l).2:=by
 induction l with
 | nil=>intro r; exact tame_zero
 | cons x l ih =>
  intro r
  unfold prodT
  split
  ·exact ih _
  ·exact tame_mul r x
theorem tame_most (f:Int→Rq × Int) (hf:∀ p,Tame (f p).2) (l:List Int):∀ m:Rq,Tame (mostT f m l).2:=by
 induction l with
 | nil=>intro m; exact tame_zero
 | cons p l ih =>
  intro m
  unfold mostT
  split
  ·exact ih _
  ·exact hf p
theorem tame_spent (done:List En) (n:ByteArray):Tame (spentT done n).2:=by
 unfold spentT
 split
 ·split
  ·exact tame_mul _ _
  ·exact tame_most _ (fun p=>tame_prod _ _) _ _
 ·exact tame_prod _ _
theorem doT_tame (done:List En) (e:En):Tame (doT done e):=by
 unfold doT
 split
 ·unfold badT
  split
  ·exact ⟨by decide,by decide⟩
  ·split
   ·split <;> exact ⟨by decide,by decide⟩
   ·exact ⟨by decide,by decide⟩
 ·split
  ·exact ⟨by decide,by decide⟩
  ·split
   ·split
    ·split <;> exact ⟨by decide,by decide⟩
    ·exact ⟨by decide,by decide⟩
   ·split
    ·exact ⟨by decide,by decide⟩
    ·split
     ·exact ⟨by decide,by decide⟩
     ·split
      ·exact ⟨by decide,by decide⟩
      ·split
       ·exact tame_spent _ _
       ·split <;> exact ⟨by decide,by decide⟩
theorem rl_blank (k:Nat) (left:Int):Rl [] false false ⟨List.replicate k 0,left,false,false,[]⟩ :=
 ⟨rfl,(fun h=>by cases h),(fun h=>by cases h),(fun h=>by cases h),lies_blank k,hz_blank k⟩
theorem rl_step {α:Type} {want:List En} {op live:Bool} {s:HSt} (h:Rl want op live s) (ev:Ev α) (hp:∀ pre e tl,ev=.ask pre e tl→Tame pre) :
  ∃ want' op' live',noteH want op live (stepH 0 s ev).2 (stepH 0 (stepH 0 s ev).1 (.loo:Ev α)).2 ev=some (want',op',live')∧Rl want' op' live' (stepH 0 s ev).1 ∧
   (live' = true→(stepH 0 (stepH 0 s ev).1 (.loo:Ev α)).2.err=0∧(stepH 0 (stepH 0 s ev).1 (.loo:Ev α)).2.ents=want') ∧
   (op' = true→live' = false→(stepH 0 (stepH 0 s ev).1 (.loo:Ev α)).2.err=9):=by
 have ht:=doT_tame
 have look:∀ {w:List En} {o l:Bool} {t:HSt},Rl w o l t→(l=true→(stepH 0 t (.loo:Ev α)).2.err=0∧(stepH 0 t (.loo:Ev α)).2.ents=w)∧(o=true→l=false→(stepH 0 t (.loo:Ev α)).2.err=9):=by
  intro w o l t hr
  constructor
  ·intro hl
   have ho:=hr.lv hl
   have h1:t.up=true:=by rw [hr.up,ho]
   have h2:t.brk=false:=by rw [hr.bk ho,hl]; rfl
   simp [stepH,h1,h2,hr.dn ho]
  ·intro ho hl
   have h1:t.up=true:=by rw [hr.up,ho]
   have h2:t.brk=true:=by rw [hr.bk ho,hl]; rfl
   simp [stepH,h1,h2]
 have fin:∀ {w:List En} {o l:Bool},noteH want op live (stepH 0 s ev).2 (stepH 0 (stepH 0 s ev).1 (.loo:Ev α)).2 ev=some (w,o,l)→Rl w o l (stepH 0 s ev).1→∃ want' op' live',noteH want op live (stepH 0 s ev).2 (stepH 0 (stepH 0 s ev).1 (.loo:Ev α)).2 ev=some (want',op',live')∧Rl want' op' live' (stepH 0 s ev).1 ∧
   (live' = true→(stepH 0 (stepH 0 s ev).1 (.loo:Ev α)).2.err=0∧(stepH 0 (stepH 0 s ev).1 (.loo:Ev α)).2.ents=want') ∧
   (op' = true→live' = false→(stepH 0 (stepH 0 s ev).1 (.loo:Ev α)).2.err=9):=fun h1 h2=>⟨_,_,_,h1,h2,look h2⟩
 have same:(stepH 0 s ev).1=s→noteH want op live (stepH 0 s ev).2 (stepH 0 (stepH 0 s ev).1 (.loo:Ev α)).2 ev=some (want,op,live)→_:=fun h1 h2=>fin h2 (by rw [h1]; exact h)
 cases ev with
 | opn =>
  refine fin (w:=want) (o:=true) (l:=true) (by simp [noteH,stepH]) ⟨by simp [stepH],fun _=>rfl,fun _=>rfl,fun _=>?_,h.bok⟩
  exact liesT_is h.bok.1
 | pow n=>exact fin (by simp [noteH]) ⟨h.up,h.lv,h.bk,h.dn,h.bok⟩
 | oth=>exact same rfl (by simp [noteH])
 | loo =>
  refine same ?_ (by simp [noteH])
  simp only [stepH]
  split
  ·rfl
  ·split <;> rfl
 | pur e =>
  by_cases c1:s.up=false
  ·have hl:live=false:=by
    cases live with
    | false=>rfl
    | true=>have:=h.lv rfl; rw [← h.up,c1] at this; cases this
   exact same (by simp [stepH,c1]) (by simp [noteH,hl])
  ·have hu:s.up=true:=by simpa using c1
   have ho:op=true:=by rw [← h.up,hu]
   by_cases c2:s.brk=true
   ·have hl:live=false:=by have:=h.bk ho; rw [c2] at this; simpa using this.symm
    exact same (by simp [stepH,hu,c2]) (by simp [noteH,hl])
   ·have hb:s.brk=false:=by simpa using c2
    have hl:live=true:=by have:=h.bk ho; rw [hb] at this; simpa using this.symm
    obtain ⟨s',er,hd⟩:∃ s' er,doesT s e=(s',er):=⟨_,_,rfl⟩
    have hdn:=h.dn ho
    obtain ⟨k1,k2,k3,k4⟩:=does_cases hd (by rw [hdn]; exact h.bok)
    have e1:stepH 0 s (.pur e:Ev α)=(s',⟨er,none,[]⟩):=by simp [stepH,hu,hb,hd]
    rcases k4 with ⟨rfl,k5,k6⟩ | ⟨rfl,k5,k6⟩ | ⟨k5,rfl,k6⟩
    ·refine fin (w:=want ++ [nrm e]) (o:=op) (l:=live) (by rw [e1]; simp [noteH,hl]) ?_
     rw [e1]
     exact ⟨by rw [k2]; exact h.up,h.lv,fun _=>by rw [k6]; exact h.bk ho,fun _=>by rw [k5,hdn],by rw [← hdn,← k5]; exact k1⟩
    ·refine fin (w:=want) (o:=op) (l:=false) (by rw [e1]; simp [noteH,hl]) ?_
     rw [e1]
     exact ⟨by rw [k2]; exact h.up,(fun x=>by cases x),fun _=>by rw [k6]; rfl,fun _=>by rw [k5,hdn],by rw [← hdn,← k5]; exact k1⟩
    ·have hn11:er≠11:=by
      rcases k6 with rfl | rfl
      ·decide
      ·exact (ht _ _).2
     exact same (by rw [e1]) (by rw [e1]; simp [noteH,k5,hn11])
 | ask pre e tl =>
  have hpre:=hp pre e tl rfl
  by_cases c1:s.up=false
  ·have hl:live=false:=by
    cases live with
    | false=>rfl
    | true=>have:=h.lv rfl; rw [← h.up,c1] at this; cases this
   exact same (by simp [stepH,c1]) (by simp [noteH,hl])
  ·have hu:s.up=true:=by simpa using c1
   have ho:op=true:=by rw [← h.up,hu]
   by_cases c2:s.brk=true
   ·have hl:live=false:=by have:=h.bk ho; rw [c2] at this; simpa using this.symm
    exact same (by simp [stepH,hu,c2]) (by simp [noteH,hl])
   ·have hb:s.brk=false:=by simpa using c2
    have hl:live=true:=by have:=h.bk ho; rw [hb] at this; simpa using this.symm
    by_cases c3:pre=0
    ·obtain ⟨s',er,hd⟩:∃ s' er,doesT s e=(s',er):=⟨_,_,rfl⟩
     have hdn:=h.dn ho
     obtain ⟨k1,k2,k3,k4⟩:=does_cases hd (by rw [hdn]; exact h.bok)
     rcases k4 with ⟨rfl,k5,k6⟩ | ⟨rfl,k5,k6⟩ | ⟨k5,rfl,k6⟩
     ·have hR:Rl (want ++ [nrm e]) op live s':=⟨by rw [k2]; exact h.up,h.lv,fun _=>by rw [k6]; exact h.bk ho,fun _=>by rw [k5,hdn],by rw [← hdn,← k5]; exact k1⟩
      cases tl with
      | some t =>
       have e1:stepH 0 s (.ask pre e (some t):Ev α)=(s',⟨0,some t,[]⟩):=by simp [stepH,hu,hb,c3,hd]
       refine fin (w:=want ++ [nrm e]) (o:=op) (l:=live) (by rw [e1]; simp [noteH,hl]) ?_
       rw [e1]; exact hR
      | none =>
       have e1:stepH 0 s (.ask pre e none:Ev α)=(s',⟨6,none,[]⟩):=by simp [stepH,hu,hb,c3,hd]
       have e2:=((look hR).1 hl).2
       refine fin (w:=want ++ [nrm e]) (o:=op) (l:=live) ?_ (by rw [e1]; exact hR)
       rw [e1]
       simp only [noteH]
       rw [e2,if_neg (by simp),if_pos ⟨hl,trivial⟩,if_neg (by simp)]
       simp
     ·have e1:stepH 0 s (.ask pre e tl:Ev α)=(s',⟨11,none,[]⟩):=by simp [stepH,hu,hb,c3,hd]
      refine fin (w:=want) (o:=op) (l:=false) (by rw [e1]; simp [noteH,hl]) ?_
      rw [e1]
      exact ⟨by rw [k2]; exact h.up,(fun x=>by cases x),fun _=>by rw [k6]; rfl,fun _=>by rw [k5,hdn],by rw [← hdn,← k5]; exact k1⟩
     ·have hn:Tame er:=by
       rcases k6 with rfl | rfl
       ·exact ⟨by decide,by decide⟩
       ·exact ht _ _
      have e1:stepH 0 s' (.ask pre e tl:Ev α)=(s',⟨er,none,[]⟩):=by simp [stepH,hu,hb,c3,hd,k5]
      exact same (by rw [e1]) (by rw [e1]; simp [noteH,k5,hn.1,hn.2])
    ·have e1:stepH 0 s (.ask pre e tl:Ev α)=(s,⟨pre,none,[]⟩):=by simp [stepH,hu,hb,c3]
     exact same (by rw [e1]) (by rw [e1]; simp [noteH,c3,hpre.1,hpre.2])
end Go.Proofs.YtpmioeamdhdokaaGreat.K.P
namespace Go.Proofs.YtpmioeamdhdokaaGreat.K.P
open Go.RowKit Go.Proofs.YtpmioeamdhdokaaGreat.K.Ds Go.Maps Go.Sort Go.Shelf
theorem sortsI (m:Nat):AnyZI.SortsIn Tryz.prog Tryz.sortedI_ren Fence.wide m :=
 ⟨fun blk off cap ss W hH hblk hsz=>callsIn_wide.2 (AnyM.slices_Sort_int Tryz.sortI blk off cap ss W hH hblk hsz),
  fun p cap W=>callsIn_wide.2 (AnyM.slices_Sort_int_none Tryz.sortI p cap W)⟩
theorem keysI_any (mb:Option Nat) (W:World):Calls Tryz.prog 214 #[.map mb] W fun e w'=>e=.returned (.func (.func 248) #[] #[.pointer (some ⟨W.heap.size,0,none⟩)])∧w' = W.alloc (.cells #[.map mb] 234) :=
 callsIn_wide.1 (AnyZI.keys_in Tryz.keysI Fence.wide 5 trivial rfl mb W)
theorem sortedI_any {H:Type} (g b nn:Nat) (D0:DataW H) (R:Value→Option (DataW H × List MemPlace)) (w:World) (hg:g < w.heap.size) (hc:w.cell? ⟨g,0,none⟩=some (.map (some b))) (hown:w.ownsMap Tryz.prog 3 R b nn D0) (hn:nn≤1048576) :
  Calls Tryz.prog 213 #[.func (.func 248) #[] #[.pointer (some ⟨g,0,none⟩)]] w fun e w'=>∃ (v:Value) (ss:List Int),e=.returned v∧ss.Perm (intKeys D0) ∧
   w'.ownsRow w.heap.size 3 1 v ss.length ((ss.mergeSort (fun x y=>decide (x≤y))).map encZ)∧Below w.heap.size w w':=by
 have hsz:=hown.size_le
 have hseq:SeqGives Fence.wide 2 Tryz.prog 248 #[.pointer (some ⟨g,0,none⟩)] encZ (fun ss=>ss.Perm (intKeys D0)) (Maps.size D0) w :=
  AnyZI.keys_gives (ρ:=Tryz.keysI_ren) { Tryz.keysI with } Fence.wide _ trivial rfl (by omega) g b nn D0 _ hg hc hown
 have cS:=AnyZI.sorted_in Tryz.sortedI Fence.wide 5 trivial trivial trivial trivial rfl (by omega) (sortsI _) (enters_of Tryz.func247 (by kernel_rfl) rfl) 248 #[.pointer (some ⟨g,0,none⟩)] trivial (enters_of Tryz.func248 (by kernel_rfl) rfl) _ _ (by unfold maxLen; omega) (by omega) _ hseq
 refine (callsIn_wide.1 cS).mono ?_
 rintro e w' ⟨v,ss,h1,h2,h3,_,h4⟩
 exact ⟨v,ss,h1,h2,h3,h4⟩
theorem intKeys_has {H:Type} {b nn:Nat} {D0:DataW H} {R:Value→Option (DataW H × List MemPlace)} {w:World} (hown:w.ownsMap Tryz.prog 3 R b nn D0) (x:Int):x∈intKeys D0↔has D0 (.int .i64 x)=true:=by
 obtain ⟨es,rfl,hko⟩:=hown.keysOf
 have hk:∀ p∈es,∃ x,p.1=.int .i64 x:=fun p hp=>by
  obtain ⟨v,hv⟩:=hko p hp
  obtain ⟨y,_,hy,_⟩:=Maps.keyOf_i64 Tryz.underlying3 hv
  exact ⟨y,hy⟩
 rw [has_eq,List.any_eq_true]
 show x∈es.map (fun p=>Go.intOf p.1)↔_
 rw [List.mem_map]
 constructor
 ·rintro ⟨p,hp',rfl⟩
  obtain ⟨a,ha⟩:=hk p hp'
  exact ⟨p,hp',by rw [ha]; simp [Lit.sameKey,Go.intOf]⟩
 ·rintro ⟨p,hp',hs⟩
  obtain ⟨a,ha⟩:=hk p hp'
  rw [ha] at hs
  exact ⟨p,hp',by rw [ha]; simpa [Lit.sameKey,Go.intOf] using hs⟩
theorem cloneM_any {H:Type} (R:Value→Option (DataW H × List MemPlace)) (b n:Nat) (D:DataW H) (w:World) (hown:w.ownsMap Tryz.prog 3 R b n D) :
  Calls Tryz.prog 242 #[.map (some b)] w fun e w'=>e=.returned (.map (some w.heap.size))∧w'.ownsMap Tryz.prog 3 R w.heap.size n D∧Below w.heap.size w w'∧w.heap.size < w'.heap.size:=by
 refine (AnyW.maps_Clone_owns Tryz.cloneM 3 R b n D w hown).mono ?_
 rintro e w' ⟨h1,h2,_,h3⟩
 exact ⟨h1,h2,h3,h2.lt⟩
theorem cloneS_any (s:ByteArray) (w:World) (hs:s.size≤281474976710656):Calls Tryz.prog 106 #[.string s] w fun e w'=>e=.returned (.string s)∧Below w.heap.size w w':=by
 have hc:=fun W=>AnyPu.stringslite_Clone Tryz.cloneT s W hs
 change ∀ W,Calls Tryz.prog 180 _ W _ at hc
 go_enter Tryz.func106,Tryz.ntmps106
 go_wp2_with (go_at_call 180; refine (hc _).mono ?_; rintro e w' ⟨rfl,hb⟩)
 go_ret
 exact ⟨rfl,hb⟩
end Go.Proofs.YtpmioeamdhdokaaGreat.K.P
namespace Go.Proofs.YtpmioeamdhdokaaGreat.K.P
open Go.RowKit Go.Proofs.YtpmioeamdhdokaaGreat.K.Ds
open Go.Maps (Keyed int_keyed string_keyed keyOf_int_mk)
open Go.WideMaps (keyOf_string_mk)
theorem gb_refl (w:World) (r:Option Nat):w.grownBy w r:=World.grownBy.refl w r
theorem gb_trans {a b c:World} {r:Option Nat} (h:a.grownBy b r) (k:b.grownBy c r):a.grownBy c r :=
 ⟨k.os.trans h.os,k.tape.trans h.tape,k.output.trans h.output,Nat.le_trans h.size k.size,fun i hi hr=>(k.block i (Nat.lt_of_lt_of_le hi h.size) hr).trans (h.block i hi hr)⟩
theorem gb_alloc {a b:World} {r:Option Nat} (h:a.grownBy b r) (o:Obj):a.grownBy (b.alloc o) r:=gb_trans h (World.grownBy_alloc b o r)
theorem gb_drew {a b:World} {r:Option Nat} (h:a.grownBy b r):a.grownBy b.drew r:=⟨h.os,h.tape,h.output,h.size,h.block⟩
theorem gb_set {a b:World} {E:Nat} (h:a.grownBy b (some E)) (k:Nat) (u:Value):a.grownBy (b.setCell ⟨E,k,none⟩ u) (some E) :=
 gb_trans h ⟨rfl,rfl,rfl,by simp [World.setCell],fun i _ hr=>Below.heap_setCell _ _ _ _ (by intro e; exact hr (by rw [e]))⟩
theorem gb_below {a b:World} {r:Option Nat} (h:Below a.heap.size a b):a.grownBy b r:=⟨h.os,h.tape,h.output,h.size,fun k hk _=>h.block k hk⟩
theorem below_gb {a b:World} {E B:Nat} (h:a.grownBy b (some E)) (hB:B≤E) (hE:B≤a.heap.size):Below B a b:=⟨h.os,h.tape,h.output,h.size,fun k hk=>h.block k (by omega) (by simp; omega)⟩
theorem ints_gbk {w w':World} {B nb:Nat} {v:Value} {xs:List Int} (h:Ints w B nb v xs) (hg:w.grownBy w' (some nb)):Ints w' B nb v xs:=by
 obtain ⟨a,c,hv,hc,hl,hx⟩:=h
 refine ⟨a,c,hv,hc,hl,fun hne=>?_⟩
 obtain ⟨b,o,ha,hB,hn,hcell⟩:=hx hne
 exact ⟨b,o,ha,hB,hn,fun i x hi=>hg.cell (hcell i x hi) (by simpa using hn)⟩
theorem ints_gep {w:World} {B nb:Nat} {a:Option Addr} {n c:Nat} {xs:List Int} (h:Ints w B nb (.slice a n c) xs) {i:Nat} (hi:i < xs.length) :
  ∃ b o x,a=some ⟨b,o,none⟩∧b < B∧xs[i]? = some x∧w.cell? ⟨b,o + i,none⟩=some (.int .i64 x):=by
 obtain ⟨a',c',hv,_,_,hx⟩:=h
 simp only [Value.slice.injEq] at hv
 obtain ⟨rfl,rfl,rfl⟩:=hv
 obtain ⟨b,o,ha,hb,_,hcell⟩:=hx (ne_of_lt hi)
 obtain ⟨x,hx⟩:=get_lt hi
 exact ⟨b,o,x,ha,hb,hx,hcell i x hx⟩
theorem ints_of_owns {w:World} {base nb:Nat} {v:Value} {xs:List Int} {n:Nat} (hn:n=xs.length) (hl:xs.length≤9223372036854775807) (h:w.ownsRow base 3 1 v n (xs.map (.int .i64))) (hnb:nb < base):Ints w w.heap.size nb v xs:=by
 subst hn
 obtain ⟨_,⟨hv,h0⟩ | ⟨g,cap,cur,hv,hb,hcur,hc,_,hsz,hx⟩⟩:=h
 ·obtain rfl:xs=[]:=by cases xs <;> simp_all
  exact ⟨none,0,hv,Nat.le_refl _,hl,fun h=>absurd rfl h⟩
 ·refine ⟨_,cap,hv,hc,hl,fun _=>⟨g,0,rfl,(Array.getElem?_eq_some_iff.1 hcur).1,by omega,fun i x hi=>?_⟩⟩
  have hi2:i < xs.length:=(List.getElem?_eq_some_iff.1 hi).1
  have:cur[i]? = some (.int .i64 x):=by
   have h1:(xs.map (Value.int .i64))[i]? = some (.int .i64 x):=by simp [hi]
   rw [← hx,List.getElem?_take_of_lt (by omega)] at h1
   simpa using h1
  simp [World.cell?,hcur,this]
structure TwoB (w:World) (R:Nat) (x y:Value):Prop where
 c0:w.cell? ⟨R,0,none⟩=some x
 c1:w.cell? ⟨R,1,none⟩=some y
 f0:w.frozen? ⟨R,0,none⟩=false
 f1:w.frozen? ⟨R,1,none⟩=false
 lt:R < w.heap.size
theorem TwoB.below {w w':World} {R:Nat} {x y:Value} (h:TwoB w R x y) (b:Below w.heap.size w w'):TwoB w' R x y :=
 ⟨(b.cell (p:=⟨R,0,none⟩) h.lt).trans h.c0,(b.cell (p:=⟨R,1,none⟩) h.lt).trans h.c1,(b.frozen (p:=⟨R,0,none⟩) h.lt).trans h.f0,(b.frozen (p:=⟨R,1,none⟩) h.lt).trans h.f1,Nat.lt_of_lt_of_le h.lt b.size⟩
theorem TwoB.new (w:World) (x y:Value) (t:TypeId) (N:Nat) (hN:N=w.heap.size):TwoB (w.alloc (.cells #[x,y] t)) N x y :=
 ⟨nc _ _ 0 _ hN rfl,nc _ _ 1 _ hN rfl,nf _ _ 0 hN,nf _ _ 1 hN,by simp; omega⟩
theorem TwoB.put {w:World} {R:Nat} {x y:Value} (h:TwoB w R x y) (u v:Value):TwoB ((w.setCell ⟨R,0,none⟩ u).setCell ⟨R,1,none⟩ v) R u v:=by
 have h0:TwoB (w.setCell ⟨R,0,none⟩ u) R u y:=⟨sc_same h.c0,(sc_other (by simp)).trans h.c1,sc_frozen.trans h.f0,sc_frozen.trans h.f1,by simpa using h.lt⟩
 exact ⟨(sc_other (by simp)).trans h0.c0,sc_same h0.c1,sc_frozen.trans h0.f0,sc_frozen.trans h0.f1,by simpa using h0.lt⟩
def hR:Value→Option (DataW Value × List MemPlace):=fun v=>some (.held v,[])
theorem law3:Keyed Tryz.prog 3:=int_keyed Tryz.underlying3
theorem law9:Keyed Tryz.prog 9:=string_keyed Tryz.underlying9
theorem zero31 (w:World):(zeroValue 37).run Tryz.prog w=.ok (rv 0 0) w:=by kernel_rfl
abbrev rvq (r:Rq):Value:=rv r.1 r.2
abbrev pv (b a:Rq) (m:Nat):Value:=.agg #[.int .i64 b.1,.int .i64 b.2,.int .i64 a.1,.int .i64 a.2,.map (some m)]
theorem zero60 (w:World):(zeroValue 236).run Tryz.prog w=.ok (.agg #[.int .i64 0,.int .i64 0,.int .i64 0,.int .i64 0,.map none]) w:=by kernel_rfl
structure Pts (w:World) (b n:Nat) (D:DataW Value) (P:Int→Prop) (f:Int→Rq):Prop where
 own:w.ownsMap Tryz.prog 3 hR b n D
 is:∀ z,Maps.has D (.int .i64 z)=true↔P z
 el:∀ z,P z→D.atKey (.int .i64 z) (.held (rv 0 0))=.held (rvq (f z))
 rng:∀ z,P z→0≤z∧z≤1073741824
theorem gb_none {w w':World} (h:Below w.heap.size w w'):w.grownBy w' none:=gb_below h
theorem Pts.gb {w w':World} {b n:Nat} {D:DataW Value} {P:Int→Prop} {f:Int→Rq} {r:Option Nat} (h:Pts w b n D P f) (hg:w.grownBy w' r) (hne:some b≠r):Pts w' b n D P f :=
 ⟨h.own.kept hg hne,h.is,h.el,h.rng⟩
theorem Pts.keep {w w':World} {b n:Nat} {D:DataW Value} {P:Int→Prop} {f:Int→Rq} (h:Pts w b n D P f) (hb:Below w.heap.size w w'):Pts w' b n D P f:=h.gb (gb_none hb) (by simp)
theorem Pts.look {w:World} {b n:Nat} {D:DataW Value} {P:Int→Prop} {f:Int→Rq} (h:Pts w b n D P f) {z:Int} (hz:P z) :
  (Instr.lookup 234 (.map (some b)) (.int .i64 z) false).run Tryz.prog w=.ok (rvq (f z)) w:=by
 have hwf:(Lit.int .i64 z).wf=true:=WalkArith.wf_i64 (by have:=h.rng z hz; omega)
 obtain ⟨v',ps,hrun,hat⟩:=h.own.lookup law3 Tryz.underlying234 (zero31 w) (zd:=.held (rv 0 0)) (zp:=[]) rfl (keyOf_int_mk Tryz.underlying3 hwf)
 rw [h.el z hz] at hat
 simp [hR] at hat
 rw [hrun,hat.1]
theorem one_any (w:World):Calls Tryz.prog 212 #[] w fun e w'=>e=.returned (rv 1 1)∧Below w.heap.size w w':=by
 go_enter Tryz.func212,Tryz.ntmps212
 go_wp2
 exact bodyPost_ret (v:=rv 1 1) (by simp [results,Tryz.results212,go_sem]) rfl ⟨rfl,ba _ _⟩
theorem more_any (a b:Rq) (ha:OkR a) (hb:OkR b) (r:Bool) (hr:decide (LeR a b) = !r) (w:World):Calls Tryz.prog 215 #[rvq a,rvq b] w fun e w'=>e=.returned (.bool r)∧Below w.heap.size w w':=by
 have h:=order_any a.1 a.2 b.1 b.2
 cases r with
 | true =>
  have h1:Rt.orderT a.1 a.2 b.1 b.2=(1,0):=by
   have:¬ LeR a b:=of_decide_eq_false hr
   unfold LeR at this
   unfold Rt.orderT; rw [if_pos ⟨ha.1,hb.1⟩,if_neg (by omega),if_pos (by omega)]
  have k:=h 1 0 h1
  clear h h1 hr
  go_enter Tryz.func215,Tryz.ntmps215
  go_wp2_with fail
  refine (k _).mono ?_
  rintro e w1 ⟨rfl,hb1⟩
  go_wp2
  go_ret
  exact ⟨rfl,bt (bal (ba _ _) _) hb1⟩
 | false =>
  obtain ⟨k0,hk0,h1⟩:∃ k0:Int,k0≤0∧Rt.orderT a.1 a.2 b.1 b.2=(k0,0):=by
   have:LeR a b:=of_decide_eq_true hr
   unfold LeR at this
   unfold Rt.orderT; rw [if_pos ⟨ha.1,hb.1⟩]
   by_cases c:a.1 * b.2 < b.1 * a.2
   ·exact ⟨-1,by omega,by rw [if_pos c]⟩
   ·exact ⟨0,by omega,by rw [if_neg c,if_neg (by omega)]⟩
  have k:=h k0 0 h1
  clear h h1 hr
  go_enter Tryz.func215,Tryz.ntmps215
  go_wp2_with fail
  refine (k _).mono ?_
  rintro e w1 ⟨rfl,hb1⟩
  go_wp2
  have hd:decide (0 < k0)=false:=decide_eq_false (by omega)
  go_ret
  exact ⟨by simp [hd],bt (bal (ba _ _) _) hb1⟩
end Go.Proofs.YtpmioeamdhdokaaGreat.K.P

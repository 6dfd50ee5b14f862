import Derived.Test.YtdceajgpolckiaaGreatDoorQq27
import Derived.Test.YtdceajgpolckiaaGreatDoorQq14
import Derived.Test.YtdceajgpolckiaaGreatDoorQq15
import Derived.Maps.Own
import Derived.Maps.OwnOps
import Derived.Maps.OwnSet
import Derived.Maps.Views
import Derived.Deep.RegionHeld3
open Go.Proofs.Tryz
set_option linter.unusedSimpArgs false
set_option maxHeartbeats 16000000
set_option maxRecDepth 100000
namespace Go.Proofs.YtdceajgpolckiaaGreatDoor
namespace K.P
open K.Ds
instance (disk:List Int) (done:List En) (i:Nat):Decidable (sA disk done i):=by unfold sA;infer_instance
def yR (disk:List Int):Nat->List En->List En
 | 0,done=>done
 | f+1,done=>if sA disk done done.length then yR disk f (done++[nrm (pI (rcd disk done.length))]) else done
def kV (disk:List Int):List En:=yR disk (disk.length / 9) []
theorem aiJ (disk:List Int):∀ (f:Nat) (done:List En),Rds disk done.length done->disk.length<9*(done.length+f)+9->oG disk (yR disk f done)
 | 0,done,h,hl=>⟨h,fun hc=>by have h1:9*done.length+9<=disk.length:=hc.1;omega⟩
 | f+1,done,h,hl=>by
  unfold yR;by_cases c:sA disk done done.length
  ·rw[xQ c]
   refine aiJ disk f _ ?_ ?_
   ·rw[zJ,bY];exact .more h c
   ·rw[zJ,bY];omega
  ·rw[qQ c];exact⟨h,c⟩
theorem cwJ (disk:List Int):oG disk (kV disk):=aiJ disk _ [] .nil (by simp;omega)
theorem ajQ {disk:List Int}{done:List En}(h:oG disk done):kV disk=done:=(cwJ disk).uniq h
structure HSt where
 disk:List Int
 left:Int
 up:Bool
 brk:Bool
 done:List En
def xZ (s:HSt) (e:En):HSt × Int :=
 if s.disk.length<9*s.done.length+9 then (s,4)
 else if cZ s.done (nrm e)≠0 then (s,cZ s.done (nrm e))
 else if (iX s.disk s.left (wrs s.done.length (nrm e))).2.2=true
  then ({ s with disk:=(iX s.disk s.left (wrs s.done.length (nrm e))).1,left:=(iX s.disk s.left (wrs s.done.length (nrm e))).2.1,done:=s.done++[nrm e] },0)
  else ({ s with disk:=(iX s.disk s.left (wrs s.done.length (nrm e))).1,left:=(iX s.disk s.left (wrs s.done.length (nrm e))).2.1,brk:=true },11)
def kB (disk:List Int) (done:List En):Prop:=oG disk done/\Hz disk done.length
theorem ajX {s s':HSt}{e:En}{er:Int}(h:xZ s e=(s',er))(hb:kB s.disk s.done) :
  kB s'.disk s'.done/\s'.up=s.up/\s'.disk.length=s.disk.length /\
  ((er=0/\s'.done=s.done++[nrm e]/\s'.brk=s.brk)\/(er=11/\s'.done=s.done/\s'.brk=true)\/(er≠0/\s' = s/\(er=4\/er=cZ s.done (nrm e)))):=by
 unfold xZ at h;by_cases c1:s.disk.length<9*s.done.length+9
 ·rw[xQ c1] at h
  simp only[cQ] at h;obtain⟨rfl,rfl⟩:=h;exact⟨hb,rfl,rfl,.inr (.inr ⟨by decide,rfl,.inl rfl⟩)⟩
 rw[qQ c1] at h;by_cases c2:cZ s.done (nrm e)=0
 ·rw[qQ (by simpa using c2)] at h
  obtain⟨d',l',ok,hp⟩:∃ d' l' ok,iX s.disk s.left (wrs s.done.length (nrm e))=(d',l',ok):=⟨_,_,_,rfl⟩;rw[hp] at h;obtain⟨m,h1,h2,h3,h4⟩:=iB hp;rw[jR] at h1 h3 h4;by_cases c3:ok=true
  ·rw[xQ c3] at h
   simp only[cQ] at h;obtain⟨rfl,rfl⟩:=h;rw[h3 c3,fV (by rw[jR];exact vQ _)] at h2;refine⟨⟨?_,?_⟩,rfl,by rw[h2];exact jH _ _,.inl ⟨rfl,rfl,rfl⟩⟩
   ·show oG d' (s.done++[nrm e])
    rw[h2];exact cwZ hb.1 hb.2 (by omega) c2
   ·show Hz d' (s.done++[nrm e]).length
    rw[h2,zJ,bY];exact aiZ hb.2
  ·rw[qQ c3] at h
   simp only[cQ] at h;obtain⟨rfl,rfl⟩:=h;have hm:=h4 (by simpa using c3);refine⟨⟨?_,?_⟩,rfl,by rw[h2];exact jH _ _,.inr (.inl ⟨rfl,rfl,rfl⟩)⟩
   ·show oG d' s.done
    rw[h2];exact cwX hb.1 (by omega) hm
   ·show Hz d' s.done.length
    rw[h2];exact cwQ hb.2 (by omega) hm
 ·rw[xQ c2] at h
  simp only[cQ] at h;obtain⟨rfl,rfl⟩:=h;exact⟨hb,rfl,rfl,.inr (.inr ⟨c2,rfl,.inr rfl⟩)⟩
inductive Ev (α:Type) where
 | opn | pow (n:Int) | oth | pur (e:En) | ask (pre:Int) (e:En) (tl:Option α) | loo
structure Sn (α:Type) where
 err:Int
 told:Option α
 ents:List En
def dQ {α:Type} (wr:Int) (s:HSt):Ev α->HSt × Sn α
 | .opn=>({ s with up:=decide (wr=0),brk:=false,done:=kV s.disk },⟨wr,none,[]⟩)
 | .pow n=>({ s with left:=n },⟨0,none,[]⟩)
 | .oth=>(s,⟨0,none,[]⟩)
 | .pur e=>if s.up=false then (s,⟨0,none,[]⟩) else if s.brk=true then (s,⟨9,none,[]⟩) else ((xZ s e).1,⟨(xZ s e).2,none,[]⟩)
 | .ask pre e tl=>if s.up=false then (s,⟨0,none,[]⟩) else if s.brk=true then (s,⟨9,none,[]⟩) else if pre≠0 then (s,⟨pre,none,[]⟩)
   else if (xZ s e).2≠0 then ((xZ s e).1,⟨(xZ s e).2,none,[]⟩)
   else match tl with
    | none=>((xZ s e).1,⟨6,none,[]⟩)
    | some t=>((xZ s e).1,⟨0,some t,[]⟩)
 | .loo=>if s.up=false then (s,⟨0,none,[]⟩) else if s.brk=true then (s,⟨9,none,[]⟩) else (s,⟨0,none,s.done⟩)
structure Rl (want:List En) (op live:Bool) (s:HSt):Prop where
 up:s.up=op
 lv:live=true->op=true
 bk:op=true->s.brk = !live
 dn:op=true->s.done=want
 bok:kB s.disk want
def aV {α:Type} (want:List En) (op live:Bool) (x:Sn α) (look:Sn α):Ev α->Option (List En × Bool × Bool)
 | .opn=>if x.err≠0 then none else some (want,true,true)
 | .pur e=>if live=true/\x.err=0 then some (want++[nrm e],op,live) else if live=true/\x.err=11 then some (want,op,false) else some (want,op,live)
 | .ask _ e _=>if live=true/\x.err=0 then some (want++[nrm e],op,live)
   else if live=true/\x.err=6 then (if look.ents.length≠want.length+1 then none else some (want++[look.ents.getD want.length (0,ByteArray.empty,0,0,0)],op,live))
   else if live=true/\x.err=11 then some (want,op,false) else some (want,op,live)
 | _=>some (want,op,live)
def aZ (n:Int):Prop:=n≠6/\n≠11
theorem lB:aZ 0:=⟨by decide,by decide⟩
theorem ajZ (a b:Rq):aZ (kQ a b).2:=by
 show aZ (Rt.sY a.1 a.2 b.1 b.2).2.2
 unfold Rt.sY Rt.wV Rt.tell aZ;split
 ·split
  ·decide
  ·split
   ·decide
   ·split
    ·decide
    ·exact lB
 ·decide
theorem ajJ (l:List Rq):∀ r:Rq,aZ (rA r l).2:=by
 induction l with
 | nil=>intro r;exact lB
 | cons x l ih =>
  intro r;unfold rA;split
  ·exact ih _
  ·exact ajZ r x
theorem cxQ (f:Int->Rq × Int)(hf:∀ p,aZ (f p).2)(l:List Int):∀ m:Rq,aZ (iY f m l).2:=by
 induction l with
 | nil=>intro m;exact lB
 | cons p l ih =>
  intro m;unfold iY;split
  ·exact ih _
  ·exact hf p
theorem cxX (done:List En)(n:ByteArray):aZ (yJ done n).2:=by
 unfold yJ;split
 ·split
  ·exact ajZ _ _
  ·exact cxQ _ (fun p=>ajJ _ _) _ _
 ·exact ajJ _ _
theorem cxZ (done:List En)(e:En):aZ (cZ done e):=by
 unfold cZ;split
 ·unfold sZ
  split
  ·exact⟨by decide,by decide⟩
  ·split
   ·split <;> exact⟨by decide,by decide⟩
   ·exact⟨by decide,by decide⟩
 ·split
  ·exact⟨by decide,by decide⟩
  ·split
   ·split
    ·split <;> exact⟨by decide,by decide⟩
    ·exact⟨by decide,by decide⟩
   ·split
    ·exact⟨by decide,by decide⟩
    ·split
     ·exact⟨by decide,by decide⟩
     ·split
      ·exact⟨by decide,by decide⟩
      ·split
       ·exact cxX _ _
       ·split <;> exact⟨by decide,by decide⟩
theorem cxJ (k:Nat)(left:Int):Rl [] false false ⟨List.replicate k 0,left,false,false,[]⟩ :=
 ⟨rfl,(fun h=>by cases h),(fun h=>by cases h),(fun h=>by cases h),cvJ k,aiX k⟩
theorem mB {α:Type}{want:List En}{op live:Bool}{s:HSt}(h:Rl want op live s)(ev:Ev α)(hp:∀ pre e tl,ev=.ask pre e tl->aZ pre) :
  ∃ want' op' live',aV want op live (dQ 0 s ev).2 (dQ 0 (dQ 0 s ev).1 (.loo:Ev α)).2 ev=some (want',op',live')/\Rl want' op' live' (dQ 0 s ev).1 /\
   (live' = true->(dQ 0 (dQ 0 s ev).1 (.loo:Ev α)).2.err=0/\(dQ 0 (dQ 0 s ev).1 (.loo:Ev α)).2.ents=want') /\
   (op' = true->live' = false->(dQ 0 (dQ 0 s ev).1 (.loo:Ev α)).2.err=9):=by
 have ht:=cxZ
 have look:∀ {w:List En} {o l:Bool} {t:HSt},Rl w o l t->(l=true->(dQ 0 t (.loo:Ev α)).2.err=0/\(dQ 0 t (.loo:Ev α)).2.ents=w)/\(o=true->l=false->(dQ 0 t (.loo:Ev α)).2.err=9):=by
  intro w o l t hr;constructor
  ·intro hl
   have ho:=hr.lv hl;have h1:t.up=true:=by rw[hr.up,ho]
   have h2:t.brk=false:=by rw[hr.bk ho,hl];rfl
   simp[dQ,h1,h2,hr.dn ho]
  ·intro ho hl
   have h1:t.up=true:=by rw[hr.up,ho]
   have h2:t.brk=true:=by rw[hr.bk ho,hl];rfl
   simp[dQ,h1,h2]
 have fin:∀ {w:List En} {o l:Bool},aV want op live (dQ 0 s ev).2 (dQ 0 (dQ 0 s ev).1 (.loo:Ev α)).2 ev=some (w,o,l)->Rl w o l (dQ 0 s ev).1->∃ want' op' live',aV want op live (dQ 0 s ev).2 (dQ 0 (dQ 0 s ev).1 (.loo:Ev α)).2 ev=some (want',op',live')/\Rl want' op' live' (dQ 0 s ev).1 /\
   (live' = true->(dQ 0 (dQ 0 s ev).1 (.loo:Ev α)).2.err=0/\(dQ 0 (dQ 0 s ev).1 (.loo:Ev α)).2.ents=want') /\
   (op' = true->live' = false->(dQ 0 (dQ 0 s ev).1 (.loo:Ev α)).2.err=9):=fun h1 h2=>⟨_,_,_,h1,h2,look h2⟩
 have same:(dQ 0 s ev).1=s->aV want op live (dQ 0 s ev).2 (dQ 0 (dQ 0 s ev).1 (.loo:Ev α)).2 ev=some (want,op,live)->_:=fun h1 h2=>fin h2 (by rw[h1];exact h);cases ev with
 | opn =>
  refine fin (w:=want) (o:=true) (l:=true) (by simp[aV,dQ]) ⟨by simp[dQ],fun _=>rfl,fun _=>rfl,fun _=>?_,h.bok⟩;exact ajQ h.bok.1
 | pow n=>exact fin (by simp[aV]) ⟨h.up,h.lv,h.bk,h.dn,h.bok⟩
 | oth=>exact same rfl (by simp[aV])
 | loo =>
  refine same ?_ (by simp[aV]);simp only[dQ];split
  ·rfl
  ·split <;> rfl
 | pur e =>
  by_cases c1:s.up=false
  ·have hl:live=false:=by
    cases live with
    | false=>rfl
    | true=>have:=h.lv rfl;rw[<-h.up,c1] at this;cases this
   exact same (by simp[dQ,c1]) (by simp[aV,hl])
  ·have hu:s.up=true:=by simpa using c1
   have ho:op=true:=by rw[<-h.up,hu]
   by_cases c2:s.brk=true
   ·have hl:live=false:=by have:=h.bk ho;rw[c2] at this;simpa using this.symm
    exact same (by simp[dQ,hu,c2]) (by simp[aV,hl])
   ·have hb:s.brk=false:=by simpa using c2
    have hl:live=true:=by have:=h.bk ho;rw[hb] at this;simpa using this.symm
    obtain⟨s',er,hd⟩:∃ s' er,xZ s e=(s',er):=⟨_,_,rfl⟩;have hdn:=h.dn ho;obtain⟨k1,k2,k3,k4⟩:=ajX hd (by rw[hdn];exact h.bok);have e1:dQ 0 s (.pur e:Ev α)=(s',⟨er,none,[]⟩):=by simp[dQ,hu,hb,hd]
    rcases k4 with⟨rfl,k5,k6⟩|⟨rfl,k5,k6⟩|⟨k5,rfl,k6⟩
    ·refine fin (w:=want++[nrm e]) (o:=op) (l:=live) (by rw[e1];simp[aV,hl]) ?_
     rw[e1];exact⟨by rw[k2];exact h.up,h.lv,fun _=>by rw[k6];exact h.bk ho,fun _=>by rw[k5,hdn],by rw[<-hdn,<-k5];exact k1⟩
    ·refine fin (w:=want) (o:=op) (l:=false) (by rw[e1];simp[aV,hl]) ?_
     rw[e1];exact⟨by rw[k2];exact h.up,(fun x=>by cases x),fun _=>by rw[k6];rfl,fun _=>by rw[k5,hdn],by rw[<-hdn,<-k5];exact k1⟩
    ·have hn11:er≠11:=by
      rcases k6 with rfl|rfl
      ·decide
      ·exact(ht _ _).2
     exact same (by rw[e1]) (by rw[e1];simp[aV,k5,hn11])
 | ask pre e tl =>
  have hpre:=hp pre e tl rfl;by_cases c1:s.up=false
  ·have hl:live=false:=by
    cases live with
    | false=>rfl
    | true=>have:=h.lv rfl;rw[<-h.up,c1] at this;cases this
   exact same (by simp[dQ,c1]) (by simp[aV,hl])
  ·have hu:s.up=true:=by simpa using c1
   have ho:op=true:=by rw[<-h.up,hu]
   by_cases c2:s.brk=true
   ·have hl:live=false:=by have:=h.bk ho;rw[c2] at this;simpa using this.symm
    exact same (by simp[dQ,hu,c2]) (by simp[aV,hl])
   ·have hb:s.brk=false:=by simpa using c2
    have hl:live=true:=by have:=h.bk ho;rw[hb] at this;simpa using this.symm
    by_cases c3:pre=0
    ·obtain⟨s',er,hd⟩:∃ s' er,xZ s e=(s',er):=⟨_,_,rfl⟩
     have hdn:=h.dn ho;obtain⟨k1,k2,k3,k4⟩:=ajX hd (by rw[hdn];exact h.bok);rcases k4 with⟨rfl,k5,k6⟩|⟨rfl,k5,k6⟩|⟨k5,rfl,k6⟩
     ·have hR:Rl (want++[nrm e]) op live s':=⟨by rw[k2];exact h.up,h.lv,fun _=>by rw[k6];exact h.bk ho,fun _=>by rw[k5,hdn],by rw[<-hdn,<-k5];exact k1⟩
      cases tl with
      | some t =>
       have e1:dQ 0 s (.ask pre e (some t):Ev α)=(s',⟨0,some t,[]⟩):=by simp[dQ,hu,hb,c3,hd]
       refine fin (w:=want++[nrm e]) (o:=op) (l:=live) (by rw[e1];simp[aV,hl]) ?_;rw[e1];exact hR
      | none =>
       have e1:dQ 0 s (.ask pre e none:Ev α)=(s',⟨6,none,[]⟩):=by simp[dQ,hu,hb,c3,hd]
       have e2:=((look hR).1 hl).2;refine fin (w:=want++[nrm e]) (o:=op) (l:=live) ?_ (by rw[e1];exact hR);rw[e1];simp only[aV];rw[e2,qQ (by simp),xQ ⟨hl,trivial⟩,qQ (by simp)];simp
     ·have e1:dQ 0 s (.ask pre e tl:Ev α)=(s',⟨11,none,[]⟩):=by simp[dQ,hu,hb,c3,hd]
      refine fin (w:=want) (o:=op) (l:=false) (by rw[e1];simp[aV,hl]) ?_;rw[e1];exact⟨by rw[k2];exact h.up,(fun x=>by cases x),fun _=>by rw[k6];rfl,fun _=>by rw[k5,hdn],by rw[<-hdn,<-k5];exact k1⟩
     ·have hn:aZ er:=by
       rcases k6 with rfl|rfl
       ·exact⟨by decide,by decide⟩
       ·exact ht _ _
      have e1:dQ 0 s' (.ask pre e tl:Ev α)=(s',⟨er,none,[]⟩):=by simp[dQ,hu,hb,c3,hd,k5]
      exact same (by rw[e1]) (by rw[e1];simp[aV,k5,hn.1,hn.2])
    ·have e1:dQ 0 s (.ask pre e tl:Ev α)=(s,⟨pre,none,[]⟩):=by simp[dQ,hu,hb,c3]
     exact same (by rw[e1]) (by rw[e1];simp[aV,c3,hpre.1,hpre.2])
end K.P
namespace K.P
open Go.RowKit K.Ds Go.Maps Go.Sort Go.Shelf
theorem cyQ (m:Nat):AnyZI.SortsIn prog Tryz.sortedI_ren Fence.wide m :=
 ⟨fun blk off cap ss W hH hblk hsz=>callsIn_wide.2 (AnyM.slices_Sort_int Tryz.sortI blk off cap ss W hH hblk hsz),
  fun p cap W=>callsIn_wide.2 (AnyM.slices_Sort_int_none Tryz.sortI p cap W)⟩
theorem cyX (mb:Option Nat)(W:World):Calls prog 170 #[.map mb] W fun e w'=>e=.returned (.func (.func 199) #[] #[.pointer (some ⟨W.heap.size,0,none⟩)])/\w' = W.alloc (.cells #[.map mb] 205) :=
 callsIn_wide.1 (AnyZI.keys_in Tryz.keysI Fence.wide 5 trivial rfl mb W)
theorem cyZ {H:Type}(g b nn:Nat)(D0:DataW H)(R:Value->Option (DataW H × List MemPlace))(w:World)(hg:g<w.heap.size)(hc:w.cell? ⟨g,0,none⟩=some (.map (some b)))(hown:w.ownsMap prog 3 R b nn D0)(hn:nn<=1048576) :
  Calls prog 169 #[.func (.func 199) #[] #[.pointer (some ⟨g,0,none⟩)]] w fun e w'=>∃ (v:Value) (ss:List Int),e=.returned v/\ss.Perm (intKeys D0) /\
   w'.ownsRow w.heap.size 3 1 v ss.length ((ss.mergeSort (fun x y=>decide (x<=y))).map encZ)/\Below w.heap.size w w':=by
 have hsz:=hown.size_le
 have hseq:SeqGives Fence.wide 2 prog 199 #[.pointer (some ⟨g,0,none⟩)] encZ (fun ss=>ss.Perm (intKeys D0)) (Maps.size D0) w :=
  AnyZI.keys_gives (ρ:=Tryz.keysI_ren) { Tryz.keysI with } Fence.wide _ trivial rfl (by omega) g b nn D0 _ hg hc hown
 have cS:=AnyZI.sorted_in Tryz.sortedI Fence.wide 5 trivial trivial trivial trivial rfl (by omega) (cyQ _) (enters_of func198 (by kernel_rfl) rfl) 199 #[.pointer (some ⟨g,0,none⟩)] trivial (enters_of func199 (by kernel_rfl) rfl) _ _ (by unfold maxLen;omega) (by omega) _ hseq;refine(callsIn_wide.1 cS).mono ?_;rintro e w' ⟨v,ss,h1,h2,h3,_,h4⟩;exact⟨v,ss,h1,h2,h3,h4⟩
theorem cyJ {H:Type}{b nn:Nat}{D0:DataW H}{R:Value->Option (DataW H × List MemPlace)}{w:World}(hown:w.ownsMap prog 3 R b nn D0)(x:Int):x∈intKeys D0↔has D0 (.int .i64 x)=true:=by
 obtain⟨es,rfl,hko⟩:=hown.keysOf
 have hk:∀ p∈es,∃ x,p.1=.int .i64 x:=fun p hp=>by
  obtain⟨v,hv⟩:=hko p hp;obtain⟨y,_,hy,_⟩:=Maps.keyOf_i64 underlying3 hv;exact⟨y,hy⟩
 rw[has_eq,List.any_eq_true]
 show x∈es.map (fun p=>Go.intOf p.1)↔_
 rw[tZ];constructor
 ·rintro⟨p,hp',rfl⟩
  obtain⟨a,ha⟩:=hk p hp';exact⟨p,hp',by rw[ha];simp[Lit.sameKey,Go.intOf]⟩
 ·rintro⟨p,hp',hs⟩
  obtain⟨a,ha⟩:=hk p hp';rw[ha] at hs;exact⟨p,hp',by rw[ha];simpa [Lit.sameKey,Go.intOf] using hs⟩
theorem akQ {H:Type}(R:Value->Option (DataW H × List MemPlace))(b n:Nat)(D:DataW H)(w:World)(hown:w.ownsMap prog 3 R b n D) :
  Calls prog 193 #[.map (some b)] w fun e w'=>e=.returned (.map (some w.heap.size))/\w'.ownsMap prog 3 R w.heap.size n D/\Below w.heap.size w w'/\w.heap.size<w'.heap.size:=by
 refine(AnyW.maps_Clone_owns Tryz.cloneM 3 R b n D w hown).mono ?_;rintro e w' ⟨h1,h2,_,h3⟩;exact⟨h1,h2,h3,h2.lt⟩
theorem akX (s:ByteArray)(w:World)(hs:s.size<=281474976710656):Calls prog 91 #[.string s] w fun e w'=>e=.returned (.string s)/\Below w.heap.size w w':=by
 have hc:=fun W=>AnyPu.stringslite_Clone Tryz.cloneT s W hs;change ∀ W,Calls prog 149 _ W _ at hc;go_enter func91,ntmps91;go_wp2_with (go_at_call 149;refine(hc _).mono ?_;rintro e w' ⟨rfl,hb⟩);go_ret;exact⟨rfl,hb⟩
end K.P
namespace K.P
open Go.RowKit K.Ds
open Go.Maps (Keyed int_keyed string_keyed keyOf_int_mk)
open Go.WideMaps (keyOf_string_mk)
theorem dX (w:World)(r:Option Nat):w.grownBy w r:=oO w r
theorem cU {a b c:World}{r:Option Nat}(h:a.grownBy b r)(k:b.grownBy c r):a.grownBy c r :=
 ⟨k.os.trans h.os,k.tape.trans h.tape,k.output.trans h.output,uQ h.size k.size,fun i hi hr=>(k.block i (qX hi h.size) hr).trans (h.block i hi hr)⟩
theorem oA {a b:World}{r:Option Nat}(h:a.grownBy b r)(o:Obj):a.grownBy (b.alloc o) r:=cU h (World.grownBy_alloc b o r)
theorem fJ {a b:World}{r:Option Nat}(h:a.grownBy b r):a.grownBy b.drew r:=⟨h.os,h.tape,h.output,h.size,h.block⟩
theorem sQ {a b:World}{E:Nat}(h:a.grownBy b (some E))(k:Nat)(u:Value):a.grownBy (b.setCell ⟨E,k,none⟩ u) (some E) :=
 cU h ⟨rfl,rfl,rfl,by simp[World.setCell],fun i _ hr=>xL _ _ _ _ (by intro e;exact hr (by rw[e]))⟩
theorem jF {a b:World}{r:Option Nat}(h:Below a.heap.size a b):a.grownBy b r:=⟨h.os,h.tape,h.output,h.size,fun k hk _=>h.block k hk⟩
theorem iD {a b:World}{E B:Nat}(h:a.grownBy b (some E))(hB:B<=E)(hE:B<=a.heap.size):Below B a b:=⟨h.os,h.tape,h.output,h.size,fun k hk=>h.block k (by omega) (by simp;omega)⟩
theorem czX {w w':World}{B nb:Nat}{v:Value}{xs:List Int}(h:zQ w B nb v xs)(hg:w.grownBy w' (some nb)):zQ w' B nb v xs:=by
 obtain⟨a,c,hv,hc,hl,hx⟩:=h;refine⟨a,c,hv,hc,hl,fun hne=>?_⟩;obtain⟨b,o,ha,hB,hn,hcell⟩:=hx hne;exact⟨b,o,ha,hB,hn,fun i x hi=>hg.cell (hcell i x hi) (by simpa using hn)⟩
theorem czZ {w:World}{B nb:Nat}{a:Option Addr}{n c:Nat}{xs:List Int}(h:zQ w B nb (.slice a n c) xs){i:Nat}(hi:i<xs.length) :
  ∃ b o x,a=some ⟨b,o,none⟩/\b<B/\xs[i]? = some x/\w.cell? ⟨b,o+i,none⟩=some (.int .i64 x):=by
 obtain⟨a',c',hv,_,_,hx⟩:=h;simp only[xV] at hv;obtain⟨rfl,rfl,rfl⟩:=hv;obtain⟨b,o,ha,hb,_,hcell⟩:=hx (ne_of_lt hi);obtain⟨x,hx⟩:=wX hi;exact⟨b,o,x,ha,hb,hx,hcell i x hx⟩
theorem tS {w:World}{base nb:Nat}{v:Value}{xs:List Int}{n:Nat}(hn:n=xs.length)(hl:xs.length<=9223372036854775807)(h:w.ownsRow base 3 1 v n (xs.map (.int .i64)))(hnb:nb<base):zQ w w.heap.size nb v xs:=by
 subst hn;obtain⟨_,⟨hv,h0⟩|⟨g,cap,cur,hv,hb,hcur,hc,_,hsz,hx⟩⟩:=h
 ·obtain rfl:xs=[]:=by cases xs <;> simp_all
  exact⟨none,0,hv,vQ _,hl,fun h=>absurd rfl h⟩
 ·refine⟨_,cap,hv,hc,hl,fun _=>⟨g,0,rfl,(jU.1 hcur).1,by omega,fun i x hi=>?_⟩⟩
  have hi2:i<xs.length:=(lQ.1 hi).1
  have:cur[i]? = some (.int .i64 x):=by
   have h1:(xs.map (Value.int .i64))[i]? = some (.int .i64 x):=by simp[hi]
   rw[<-hx,jI (by omega)] at h1;simpa using h1
  simp[World.cell?,hcur,this]
structure TwoB (w:World) (R:Nat) (x y:Value):Prop where
 c0:w.cell? ⟨R,0,none⟩=some x
 c1:w.cell? ⟨R,1,none⟩=some y
 f0:w.frozen? ⟨R,0,none⟩=false
 f1:w.frozen? ⟨R,1,none⟩=false
 lt:R<w.heap.size
theorem TwoB.below {w w':World}{R:Nat}{x y:Value}(h:TwoB w R x y)(b:Below w.heap.size w w'):TwoB w' R x y :=
 ⟨(b.cell (p:=⟨R,0,none⟩) h.lt).trans h.c0,(b.cell (p:=⟨R,1,none⟩) h.lt).trans h.c1,(b.frozen (p:=⟨R,0,none⟩) h.lt).trans h.f0,(b.frozen (p:=⟨R,1,none⟩) h.lt).trans h.f1,qX h.lt b.size⟩
theorem TwoB.new (w:World)(x y:Value)(t:TypeId)(N:Nat)(hN:N=w.heap.size):TwoB (w.alloc (.cells #[x,y] t)) N x y :=
 ⟨nc _ _ 0 _ hN rfl,nc _ _ 1 _ hN rfl,nf _ _ 0 hN,nf _ _ 1 hN,by simp;omega⟩
theorem TwoB.put {w:World}{R:Nat}{x y:Value}(h:TwoB w R x y)(u v:Value):TwoB ((w.setCell ⟨R,0,none⟩ u).setCell ⟨R,1,none⟩ v) R u v:=by
 have h0:TwoB (w.setCell ⟨R,0,none⟩ u) R u y:=⟨jY h.c0,(rQ (by simp)).trans h.c1,iZ.trans h.f0,iZ.trans h.f1,by simpa using h.lt⟩;exact⟨(rQ (by simp)).trans h0.c0,jY h0.c1,iZ.trans h0.f0,iZ.trans h0.f1,by simpa using h0.lt⟩
def hR:Value->Option (DataW Value × List MemPlace):=fun v=>some (.held v,[])
theorem iI:Keyed prog 3:=int_keyed underlying3
theorem oB:Keyed prog 9:=string_keyed underlying9
theorem akZ (w:World):(zeroValue 32).run prog w=.ok (rv 0 0) w:=by kernel_rfl
abbrev rvq (r:Rq):Value:=rv r.1 r.2
abbrev pv (b a:Rq) (m:Nat):Value:=.agg #[.int .i64 b.1,.int .i64 b.2,.int .i64 a.1,.int .i64 a.2,.map (some m)]
theorem czJ (w:World):(zeroValue 207).run prog w=.ok (.agg #[.int .i64 0,.int .i64 0,.int .i64 0,.int .i64 0,.map none]) w:=by kernel_rfl
structure Pts (w:World) (b n:Nat) (D:DataW Value) (P:Int->Prop) (f:Int->Rq):Prop where
 own:w.ownsMap prog 3 hR b n D
 is:∀ z,Maps.has D (.int .i64 z)=true↔P z
 el:∀ z,P z->D.atKey (.int .i64 z) (.held (rv 0 0))=.held (rvq (f z))
 rng:∀ z,P z->0<=z/\z<=1073741824
theorem nD {w w':World}(h:Below w.heap.size w w'):w.grownBy w' none:=jF h
theorem Pts.gb {w w':World}{b n:Nat}{D:DataW Value}{P:Int->Prop}{f:Int->Rq}{r:Option Nat}(h:Pts w b n D P f)(hg:w.grownBy w' r)(hne:some b≠r):Pts w' b n D P f :=
 ⟨h.own.kept hg hne,h.is,h.el,h.rng⟩
theorem Pts.keep {w w':World}{b n:Nat}{D:DataW Value}{P:Int->Prop}{f:Int->Rq}(h:Pts w b n D P f)(hb:Below w.heap.size w w'):Pts w' b n D P f:=h.gb (nD hb) (by simp)
theorem Pts.look {w:World}{b n:Nat}{D:DataW Value}{P:Int->Prop}{f:Int->Rq}(h:Pts w b n D P f){z:Int}(hz:P z) :
  (Instr.lookup 205 (.map (some b)) (.int .i64 z) false).run prog w=.ok (rvq (f z)) w:=by
 have hwf:(Lit.int .i64 z).wf=true:=WalkArith.wf_i64 (by have:=h.rng z hz;omega);obtain⟨v',ps,hrun,hat⟩:=h.own.lookup iI underlying205 (akZ w) (zd:=.held (rv 0 0)) (zp:=[]) rfl (keyOf_int_mk underlying3 hwf);rw[h.el z hz] at hat;simp[hR] at hat;rw[hrun,hat.1]
theorem akJ (w:World):Calls prog 168 #[] w fun e w'=>e=.returned (rv 1 1)/\Below w.heap.size w w':=by
 go_enter func168,ntmps168;go_wp2;exact yQ (v:=rv 1 1) (by simp[results,results168,go_sem]) rfl ⟨rfl,ba _ _⟩
theorem uR (a b:Rq)(ha:tQ a)(hb:tQ b)(r:Bool)(hr:decide (sX a b) = !r)(w:World):Calls prog 171 #[rvq a,rvq b] w fun e w'=>e=.returned (.bool r)/\Below w.heap.size w w':=by
 have h:=kL a.1 a.2 b.1 b.2;cases r with
 | true =>
  have h1:Rt.bI a.1 a.2 b.1 b.2=(1,0):=by
   have:¬ sX a b:=jN hr;unfold sX at this;unfold Rt.bI;rw[xQ ⟨ha.1,hb.1⟩,qQ (by omega),xQ (by omega)]
  have k:=h 1 0 h1;clear h h1 hr;go_enter func171,ntmps171;go_wp2_with fail;refine(k _).mono ?_;rintro e w1 ⟨rfl,hb1⟩;go_wp2;go_ret;exact⟨rfl,bt (bal (ba _ _) _) hb1⟩
 | false =>
  obtain⟨k0,hk0,h1⟩:∃ k0:Int,k0<=0/\Rt.bI a.1 a.2 b.1 b.2=(k0,0):=by
   have:sX a b:=cH hr;unfold sX at this;unfold Rt.bI;rw[xQ ⟨ha.1,hb.1⟩];by_cases c:a.1*b.2<b.1*a.2
   ·exact⟨-1,by omega,by rw[xQ c]⟩
   ·exact⟨0,by omega,by rw[qQ c,qQ (by omega)]⟩
  have k:=h k0 0 h1;clear h h1 hr;go_enter func171,ntmps171;go_wp2_with fail;refine(k _).mono ?_;rintro e w1 ⟨rfl,hb1⟩;go_wp2;have hd:decide (0<k0)=false:=nV (by omega);go_ret;exact⟨by simp[hd],bt (bal (ba _ _) _) hb1⟩
theorem c0Q {w:World}{b n:Nat}{D:DataW Value}(h:w.ownsMap prog 3 hR b n D):(intKeys D).length<=n:=by
 have h1:=h.size_le;obtain⟨es,rfl,_⟩:=h.keysOf;simpa [intKeys,Maps.size] using h1
theorem alQ {f:Int->Rq}{xs:List Int}{i:Nat}{z:Int}{m:Rq}(h:Top f (fun q=>q∈xs.take i) m)(hz:xs[i]? = some z)(ho:tQ (f z)):Top f (fun q=>q∈xs.take (i+1)) (if sX (f z) m then m else f z):=by
 have h1:=h.more (p:=z) ho;rw[cqJ h.ok ho] at h1;refine h1.congr (fun q=>?_) (fun _ _=>rfl);rw[kZ,hz];simp
theorem c0X (bud al:Rq)(bm n:Nat)(D:DataW Value)(P:Int->Prop)(f:Int->Rq)(w:World)(hp:Pts w bm n D P f)(hn:n<=1048576)(m:Rq)(ht:Top f P m)(r:Rq)(e:Int)(hr:kQ al m=(r,e)) :
  Calls prog 111 #[pv bud al bm] w fun x w'=>x=.returned (.tuple #[rvq r,.int .i64 e])/\Below w.heap.size w w':=by
 have HP:Hid (Pts w bm n D P f):=hp;have HT:Hid (Top f P m):=ht;have HR:Hid (kQ al m=(r,e)):=hr;have hbm:=hp.own.lt;clear hp ht hr;go_enter func111,ntmps111;go_wp2_with fail;refine(akJ _).mono ?_;rintro e1 w1 ⟨rfl,hb1⟩;have hz1:w.heap.size+1+1<=w1.heap.size:=by have:=hb1.size;simpa using this
 have hz0:w.heap.size<w1.heap.size:=by omega
 have hz2:w.heap.size+1<w1.heap.size:=by omega
 have k0:w1.cell? ⟨w.heap.size,2,none⟩=some (.int .i64 al.1):=by rw[hb1.cell (p:=⟨w.heap.size,2,none⟩) (by simp <;> omega)];simp[go_sem]
 have k1:w1.cell? ⟨w.heap.size,3,none⟩=some (.int .i64 al.2):=by rw[hb1.cell (p:=⟨w.heap.size,3,none⟩) (by simp <;> omega)];simp[go_sem]
 have k4:w1.cell? ⟨w.heap.size,4,none⟩=some (.map (some bm)):=by rw[hb1.cell (p:=⟨w.heap.size,4,none⟩) (by simp <;> omega)];simp[go_sem]
 have G1:=bt (bal (ba _ _) _) hb1;go_wp2_with fail;refine(cyX _ _).mono ?_;rintro e2 w2 ⟨rfl,rfl⟩;have HP2:Hid (Pts ((w1.alloc (.cells #[.int .i64 1,.int .i64 1] 32)).alloc (.cells #[.map (some bm)] 205)) bm n D P f):=(HP.out.keep (bal (bal G1 _) _));go_wp2_with fail;refine(cyZ _ bm n D hR _ (by simp) (nc _ _ 0 _ (by simp) rfl) HP2.out.own hn).mono ?_;rintro e3 w3 ⟨v,ss,rfl,hperm,hrow,hb3⟩;obtain⟨xs,hxs⟩:∃ xs,ss.mergeSort (fun x y=>decide (x<=y))=xs:=⟨_,rfl⟩;have hlen:ss.length=xs.length:=by rw[<-hxs,List.length_mergeSort]
 have hmem:∀ q,q∈xs↔P q:=fun q=>by
  rw[<-hxs,List.mem_mergeSort,hperm.mem_iff,cyJ HP2.out.own,HP2.out.is]
 have hxl:xs.length<=1048576:=by rw[<-hlen,hperm.length_eq];exact uQ (c0Q HP2.out.own) hn
 rw[hxs,hlen] at hrow;have HI:Hid (zQ w3 w3.heap.size w1.heap.size v xs):=tS rfl (by omega) hrow (by simp;omega);have HM:Hid (∀ q,q∈xs↔P q):=hmem;have hz3:w1.heap.size+1+1<=w3.heap.size:=by have:=hb3.size;simpa using this
 have HP3:Hid (Pts w3 bm n D P f):=HP2.out.keep hb3;have T3:TwoB w3 w1.heap.size (.int .i64 1) (.int .i64 1):=(((TwoB.new w1 (.int .i64 1) (.int .i64 1) 32 _ rfl).below (ba _ _)).below hb3);have R3:TwoB w3 (w.heap.size+1) (.int .i64 0) (.int .i64 0):=((((TwoB.new (w.alloc (.cells #[.int .i64 bud.1,.int .i64 bud.2,.int .i64 al.1,.int .i64 al.2,.map (some bm)] 207)) (.int .i64 0) (.int .i64 0) 32 _ (by simp)).below hb1).below (bal (ba _ _) _)).below hb3);have A0:w3.cell? ⟨w.heap.size,2,none⟩=some (.int .i64 al.1):=by rw[hb3.cell (p:=⟨w.heap.size,2,none⟩) (by simp <;> omega)];simp[go_sem,hz0,k0]
 have A1:w3.cell? ⟨w.heap.size,3,none⟩=some (.int .i64 al.2):=by rw[hb3.cell (p:=⟨w.heap.size,3,none⟩) (by simp <;> omega)];simp[go_sem,hz0,k1]
 have A4:w3.cell? ⟨w.heap.size,4,none⟩=some (.map (some bm)):=by rw[hb3.cell (p:=⟨w.heap.size,4,none⟩) (by simp <;> omega)];simp[go_sem,hz0,k4]
 have B3:Below w.heap.size w w3:=bt (bal (bal G1 _) _) hb3;have T0:Top f (fun q=>q∈xs.take 0) bZ:=(bB f).congr (fun q=>by simp) (fun _ _=>rfl);obtain⟨a,c,rfl,hc,_⟩:=id HI.out;clear hperm hrow hmem hxs hlen k0 k1 k4;go_wp2_with fail
 go_loopw [14] (fun s wr=>∃ (i:Nat) (mi:Rq),s=.int .i64 (i:Int)/\i<=xs.length/\Hid (Top f (fun q=>q∈xs.take i) mi)/\Hid (w3.grownBy wr (some w1.heap.size))/\Hid (TwoB wr w1.heap.size (.int .i64 mi.1) (.int .i64 mi.2))) (fun s _=>xs.length - (intOf s).toNat)
 case atStart=>exact⟨0,bZ,rfl,nQ _,T0,dX _ _,T3⟩
 case round =>
  obtain⟨i,mi,rfl,hi,HTi,HG,HB⟩:=hrel;have a0:=HG.out.cell A0 (by simp;omega);have a1:=HG.out.cell A1 (by simp;omega);have a4:=HG.out.cell A4 (by simp;omega);have hzr:=HG.out.size;obtain⟨c0,c1,f0,f1,hlt⟩:=HB.out;by_cases h1:i<xs.length
  ·obtain⟨b,o,z,rfl,hb,hzi,hcz⟩:=czZ (czX HI.out HG.out) h1
   have HZ:Hid (xs[i]? = some z):=hzi;have hPz:P z:=(HM.out z).1 (uX hzi);have hok:tQ (f z):=HT.out.oks z hPz;have hlk:=fun W (hW:Below wr.heap.size wr W)=>((HP3.out.gb HG.out (by simp;omega)).keep hW).look hPz;have hlk0:=hlk wr (aQ _ _);clear hzi;cases hle:decide (sX (f z) mi) with
   | true =>
    have km:=uR (f z) mi hok HTi.out.ok false hle;have HL:Hid (sX (f z) mi):=(cH hle:sX (f z) mi);clear hle;go_wp2_with fail;refine(km _).mono ?_;rintro e4 w4 ⟨rfl,hb4⟩;have hs4:=hb4.size;go_wp2_with fail
    go_roundw
    case rel=>exact⟨i+1,mi,by go_num,by omega,by have:=alQ HTi.out HZ.out hok;rw[xQ HL.out] at this;exact this,cU HG.out (jF (bt (ba _ _) hb4)),(HB.out.below (ba _ _)).below hb4⟩
    case measure=>simp[intOf];omega
   | false =>
    have km:=uR (f z) mi hok HTi.out.ok true hle;have HL:Hid (¬ sX (f z) mi):=(jN hle:¬ sX (f z) mi);clear hle;go_wp2_with fail;refine(km _).mono ?_;rintro e4 w4 ⟨rfl,hb4⟩;have hs4:=hb4.size;have HB4:Hid (TwoB w4 w1.heap.size (.int .i64 mi.1) (.int .i64 mi.2)):=(HB.out.below (ba _ _)).below hb4;obtain⟨d0,d1,g0,g1,hlt4⟩:=HB4.out;have HN4:TwoB w4 wr.heap.size (.int .i64 (f z).1) (.int .i64 (f z).2):=(TwoB.new wr _ _ 32 _ rfl).below hb4;obtain⟨n0,n1,_,_,hltn⟩:=HN4;go_wp2_with fail
    go_roundw
    case rel=>exact⟨i+1,f z,by go_num,by omega,by have:=alQ HTi.out HZ.out hok;rw[qQ HL.out] at this;exact this,sQ (sQ (cU HG.out (jF (bt (ba _ _) hb4))) _ _) _ _,HB4.out.put _ _⟩
    case measure=>simp[intOf];omega
  ·have hi':i=xs.length:=by omega
   subst hi'
   have hmi:mi=m:=by
    have h2:=HTi.out;rw[wH] at h2;exact(h2.congr HM.out (fun _ _=>rfl)).uniq HT.out
   subst hmi;have kt:=oH al.1 al.2 mi.1 mi.2 r.1 r.2 e (by rw[nP,HR.out]);have R4:=HB.out
   have HRr:Hid (TwoB wr (w.heap.size+1) (.int .i64 0) (.int .i64 0)):=by
    have hk:wr.heap[w.heap.size+1]? = w3.heap[w.heap.size+1]?:=HG.out.block _ R3.lt (by simp;omega);exact⟨(mZ (w:=w3) (a:=⟨w.heap.size+1,0,none⟩) hk).trans R3.c0,(mZ (w:=w3) (a:=⟨w.heap.size+1,1,none⟩) hk).trans R3.c1,(zV (w:=w3) (a:=⟨w.heap.size+1,0,none⟩) hk).trans R3.f0,(zV (w:=w3) (a:=⟨w.heap.size+1,1,none⟩) hk).trans R3.f1,by omega⟩
   go_wp2_with fail;refine(kt _).mono ?_;rintro e5 w5 ⟨rfl,hb5⟩;obtain⟨r0,r1,q0,q1,hlt5⟩:=HRr.out.below hb5;have Bz:Below w.heap.size w w5:=bt (B3.trans (iD HG.out (by omega) (by omega))) hb5;go_wp2_with fail;exact yQ (v:=.tuple #[rvq r,.int .i64 e]) (by simp[results,results111,go_sem,r0,r1]) rfl ⟨rfl,bs (bs Bz (by simp) _) (by simp) _⟩
abbrev zp:Value:=.agg #[.int .i64 0,.int .i64 0,.int .i64 0,.int .i64 0,.map none]
def dF (bud al m:Rq):Int:=if (kQ al m).2=0 then (if sX (kQ al m).1 bud then 0 else 10) else (kQ al m).2
structure FivB (w:World) (R:Nat) (a b c d e:Value):Prop where
 c0:w.cell? ⟨R,0,none⟩=some a
 c1:w.cell? ⟨R,1,none⟩=some b
 c2:w.cell? ⟨R,2,none⟩=some c
 c3:w.cell? ⟨R,3,none⟩=some d
 c4:w.cell? ⟨R,4,none⟩=some e
 f0:w.frozen? ⟨R,0,none⟩=false
 f1:w.frozen? ⟨R,1,none⟩=false
 f2:w.frozen? ⟨R,2,none⟩=false
 f3:w.frozen? ⟨R,3,none⟩=false
 f4:w.frozen? ⟨R,4,none⟩=false
 lt:R<w.heap.size
theorem FivB.gb {w w':World}{R:Nat}{a b c d e:Value}{r:Option Nat}(h:FivB w R a b c d e)(hg:w.grownBy w' r)(hne:some R≠r):FivB w' R a b c d e:=by
 have hk:w'.heap[R]? = w.heap[R]?:=hg.block R h.lt hne;have hc:=fun o=>mZ (w:=w) (w':=w') (a:=⟨R,o,none⟩) hk;have hf:=fun o=>zV (w:=w) (w':=w') (a:=⟨R,o,none⟩) hk;exact⟨(hc 0).trans h.c0,(hc 1).trans h.c1,(hc 2).trans h.c2,(hc 3).trans h.c3,(hc 4).trans h.c4,(hf 0).trans h.f0,(hf 1).trans h.f1,(hf 2).trans h.f2,(hf 3).trans h.f3,(hf 4).trans h.f4,qX h.lt hg.size⟩
theorem FivB.below {w w':World}{R:Nat}{a b c d e:Value}(h:FivB w R a b c d e)(hb:Below w.heap.size w w'):FivB w' R a b c d e:=h.gb (nD hb) (by simp)
theorem FivB.new (w:World)(a b c d e:Value)(t:TypeId)(N:Nat)(hN:N=w.heap.size):FivB (w.alloc (.cells #[a,b,c,d,e] t)) N a b c d e :=
 ⟨nc _ _ 0 _ hN rfl,nc _ _ 1 _ hN rfl,nc _ _ 2 _ hN rfl,nc _ _ 3 _ hN rfl,nc _ _ 4 _ hN rfl,nf _ _ 0 hN,nf _ _ 1 hN,nf _ _ 2 hN,nf _ _ 3 hN,nf _ _ 4 hN,by simp;omega⟩
theorem sV {w w1:World}{R:Nat}(h:Below w.heap.size w w1)(hR:w.heap.size<=R)(a b c d e:Value):Below w.heap.size w (((((w1.setCell ⟨R,0,none⟩ a).setCell ⟨R,1,none⟩ b).setCell ⟨R,2,none⟩ c).setCell ⟨R,3,none⟩ d).setCell ⟨R,4,none⟩ e) :=
 bs (bs (bs (bs (bs h hR _) hR _) hR _) hR _) hR _
theorem pB (bud al:Rq)(bm n:Nat)(D:DataW Value)(P:Int->Prop)(f:Int->Rq)(w:World)(hp:Pts w bm n D P f)(hn:n<=1048576)(m:Rq)(ht:Top f P m)(ha:tQ al)(hbu:tQ bud)(er:Int)(hr:dF bud al m=er) :
  Calls prog 192 #[pv bud al bm] w fun x w'=>x=.returned (.tuple #[if er=0 then pv bud al bm else zp,.int .i64 er])/\Below w.heap.size w w':=by
 obtain⟨⟨r,e⟩,hm⟩:∃ y,kQ al m=y:=⟨_,rfl⟩;have ks:=fun W (hW:Pts W bm n D P f)=>c0X bud al bm n D P f W hW hn m ht r e hm;have HP:Hid (Pts w bm n D P f):=hp
 have hcase:(e=4/\er=4)\/(e=0/\tQ r/\((sX r bud/\er=0)\/(¬ sX r bud/\er=10))):=by
  unfold dF at hr;rw[hm] at hr;rcases oK ha ht.ok with⟨h1,h2,_⟩|h1
  ·rw[hm] at h1 h2
   simp only at h1 h2;right;refine⟨h1,h2,?_⟩;rw[xQ h1] at hr;by_cases c:sX r bud
   ·left;rw[xQ c] at hr;exact⟨c,hr.symm⟩
   ·right;rw[qQ c] at hr;exact⟨c,hr.symm⟩
  ·rw[hm] at h1
   simp only[cQ] at h1;obtain⟨_,rfl⟩:=h1;left;simpa using hr.symm
 clear hp ht hr hm;have P0:Hid (Pts ((w.alloc (.cells #[.int .i64 bud.1,.int .i64 bud.2,.int .i64 al.1,.int .i64 al.2,.map (some bm)] 207)).alloc (.cells #[.int .i64 0,.int .i64 0,.int .i64 0,.int .i64 0,.map none] 207)) bm n D P f):=HP.out.keep (bal (ba _ _) _);have V0:Hid (FivB ((w.alloc (.cells #[.int .i64 bud.1,.int .i64 bud.2,.int .i64 al.1,.int .i64 al.2,.map (some bm)] 207)).alloc (.cells #[.int .i64 0,.int .i64 0,.int .i64 0,.int .i64 0,.map none] 207)) w.heap.size (.int .i64 bud.1) (.int .i64 bud.2) (.int .i64 al.1) (.int .i64 al.2) (.map (some bm))):=(FivB.new _ _ _ _ _ _ 207 _ rfl).below (ba _ _);have V1:Hid (FivB ((w.alloc (.cells #[.int .i64 bud.1,.int .i64 bud.2,.int .i64 al.1,.int .i64 al.2,.map (some bm)] 207)).alloc (.cells #[.int .i64 0,.int .i64 0,.int .i64 0,.int .i64 0,.map none] 207)) (w.heap.size+1) (.int .i64 0) (.int .i64 0) (.int .i64 0) (.int .i64 0) (.map none)):=FivB.new _ _ _ _ _ _ 207 _ (by simp);go_enter func192,ntmps192;go_wp2_with fail;refine(ks _ P0.out).mono ?_;rintro e1 w1 ⟨rfl,hb1⟩;have Bw:=bt (bal (ba _ _) _) hb1;obtain⟨c0,c1,c2,c3,c4,f0,f1,f2,f3,f4,hl0⟩:=V0.out.below hb1;obtain⟨d0,d1,d2,d3,d4,g0,g1,g2,g3,g4,hl1⟩:=V1.out.below hb1;rcases hcase with⟨rfl,rfl⟩|⟨rfl,hok,⟨hle,rfl⟩|⟨hle,rfl⟩⟩
 ·go_wp2_with fail
  exact yQ (v:=.tuple #[zp,.int .i64 4]) (by simp[results,results192,go_sem,d0,d1,d2,d3,d4,hl1]) rfl ⟨by simp,bal (sV Bw (by omega) _ _ _ _ _) _⟩
 ·have km:=uR r bud hok hbu false (by simpa using hle)
  go_wp2_with fail;refine(km _).mono ?_;rintro e2 w2 ⟨rfl,hb2⟩;obtain⟨c0,c1,c2,c3,c4,f0,f1,f2,f3,f4,hl0⟩:=((V0.out.below hb1).below (ba _ _)).below hb2;obtain⟨d0,d1,d2,d3,d4,g0,g1,g2,g3,g4,hl1⟩:=((V1.out.below hb1).below (ba _ _)).below hb2;go_wp2_with fail;exact yQ (v:=.tuple #[pv bud al bm,.int .i64 0]) (by simp[results,results192,go_sem,d0,d1,d2,d3,d4]) rfl ⟨by simp,sV (bt (bal Bw _) hb2) (by omega) _ _ _ _ _⟩
 ·have km:=uR r bud hok hbu true (by simpa using hle)
  go_wp2_with fail;refine(km _).mono ?_;rintro e2 w2 ⟨rfl,hb2⟩;obtain⟨d0,d1,d2,d3,d4,g0,g1,g2,g3,g4,hl1⟩:=((V1.out.below hb1).below (ba _ _)).below hb2;go_wp2_with fail;exact yQ (v:=.tuple #[zp,.int .i64 10]) (by simp[results,results192,go_sem,d0,d1,d2,d3,d4]) rfl ⟨by simp,sV (bt (bal Bw _) hb2) (by omega) _ _ _ _ _⟩
def cM (bud al ls m:Rq):Int:=if (kQ al ls).2=0 then dF bud (kQ al ls).1 m else (kQ al ls).2
theorem c0Z (bud al ls:Rq)(bm n:Nat)(D:DataW Value)(P:Int->Prop)(f:Int->Rq)(w:World)(hp:Pts w bm n D P f)(hn:n<=1048576)(m:Rq)(ht:Top f P m)(ha:tQ al)(hbu:tQ bud)(hls:tQ ls)(er:Int)(hr:cM bud al ls m=er) :
  Calls prog 162 #[pv bud al bm,rvq ls] w fun x w'=>x=.returned (.tuple #[if er=0 then pv bud (kQ al ls).1 bm else zp,.int .i64 er])/\Below w.heap.size w w':=by
 obtain⟨⟨q,e⟩,hm⟩:∃ y,kQ al ls=y:=⟨_,rfl⟩;have kt:=oH al.1 al.2 ls.1 ls.2 q.1 q.2 e (by rw[nP,hm]);have HP:Hid (Pts w bm n D P f):=hp
 have hcase:(e=4/\er=4)\/(e=0/\tQ q/\dF bud q m=er):=by
  unfold cM at hr;rw[hm] at hr;rcases oK ha hls with⟨h1,h2,_⟩|h1
  ·rw[hm] at h1 h2
   simp only at h1 h2 hr;rw[xQ h1] at hr;exact .inr ⟨h1,h2,hr⟩
  ·rw[hm] at h1
   simp only[cQ] at h1;obtain⟨_,rfl⟩:=h1;left;simpa using hr.symm
 rw[hm];clear hp hr hm;have V2:Hid (FivB (((w.alloc (.cells #[.int .i64 bud.1,.int .i64 bud.2,.int .i64 al.1,.int .i64 al.2,.map (some bm)] 207)).alloc (.cells #[.int .i64 ls.1,.int .i64 ls.2] 32)).alloc (.cells #[.int .i64 0,.int .i64 0,.int .i64 0,.int .i64 0,.map none] 207)) (w.heap.size+1+1) (.int .i64 0) (.int .i64 0) (.int .i64 0) (.int .i64 0) (.map none)):=FivB.new _ _ _ _ _ _ 207 _ (by simp);have V0:Hid (FivB (((w.alloc (.cells #[.int .i64 bud.1,.int .i64 bud.2,.int .i64 al.1,.int .i64 al.2,.map (some bm)] 207)).alloc (.cells #[.int .i64 ls.1,.int .i64 ls.2] 32)).alloc (.cells #[.int .i64 0,.int .i64 0,.int .i64 0,.int .i64 0,.map none] 207)) w.heap.size (.int .i64 bud.1) (.int .i64 bud.2) (.int .i64 al.1) (.int .i64 al.2) (.map (some bm))):=((FivB.new _ _ _ _ _ _ 207 _ rfl).below (ba _ _)).below (ba _ _);go_enter func162,ntmps162;go_wp2_with fail;refine(kt _).mono ?_;rintro e1 w1 ⟨rfl,hb1⟩;have Bw:=bt (bal (bal (ba _ _) _) _) hb1;obtain⟨c0,c1,c2,c3,c4,f0,f1,f2,f3,f4,hl0⟩:=V0.out.below hb1;obtain⟨d0,d1,d2,d3,d4,g0,g1,g2,g3,g4,hl1⟩:=V2.out.below hb1;rcases hcase with⟨rfl,rfl⟩|⟨rfl,hok,hck⟩
 ·go_wp2_with fail
  exact yQ (v:=.tuple #[zp,.int .i64 4]) (by simp[results,results162,go_sem,d0,d1,d2,d3,d4,hl1]) rfl ⟨by simp,bal (sV Bw (by omega) _ _ _ _ _) _⟩
 ·have kc:=fun W (hW:Pts W bm n D P f)=>pB bud q bm n D P f W hW hn m ht hok hbu er hck
  clear hck;have hbm:=HP.out.own.lt;have P1:Hid (Pts w1 bm n D P f):=HP.out.keep Bw;have hg:w1.grownBy (((w1.setCell ⟨w.heap.size,2,none⟩ (.int .i64 q.1)).setCell ⟨w.heap.size,3,none⟩ (.int .i64 q.2)).alloc (.cells #[.int .i64 q.1,.int .i64 q.2] 32)) (some w.heap.size):=oA (sQ (sQ (dX _ _) _ _) _ _) _;have HX:Hid (FivB (((w1.setCell ⟨w.heap.size,2,none⟩ (.int .i64 q.1)).setCell ⟨w.heap.size,3,none⟩ (.int .i64 q.2)).alloc (.cells #[.int .i64 q.1,.int .i64 q.2] 32)) (w.heap.size+1+1) (.int .i64 0) (.int .i64 0) (.int .i64 0) (.int .i64 0) (.map none)):=(V2.out.below hb1).gb hg (by simp;omega);have P2:Hid (Pts (((w1.setCell ⟨w.heap.size,2,none⟩ (.int .i64 q.1)).setCell ⟨w.heap.size,3,none⟩ (.int .i64 q.2)).alloc (.cells #[.int .i64 q.1,.int .i64 q.2] 32)) bm n D P f):=P1.out.gb hg (by simp;omega);have BX:Below w.heap.size w (((w1.setCell ⟨w.heap.size,2,none⟩ (.int .i64 q.1)).setCell ⟨w.heap.size,3,none⟩ (.int .i64 q.2)).alloc (.cells #[.int .i64 q.1,.int .i64 q.2] 32)):=bal (bs (bs Bw (vQ _) _) (vQ _) _) _;clear hg;by_cases her:er=0
  ·subst her
   simp only[↓reduceIte] at kc;go_wp2_with fail;refine(kc _ P2.out).mono ?_;rintro e2 w2 ⟨rfl,hb2⟩;obtain⟨x0,x1,x2,x3,x4,y0,y1,y2,y3,y4,hx⟩:=HX.out.below hb2;go_wp2_with fail;exact yQ (v:=.tuple #[pv bud q bm,.int .i64 0]) (by simp[results,results162,go_sem,x0,x1,x2,x3,x4]) rfl ⟨by simp,sV (bt BX hb2) (by omega) _ _ _ _ _⟩
  ·simp only[her,↓reduceIte] at kc
   go_wp2_with fail;refine(kc _ P2.out).mono ?_;rintro e2 w2 ⟨rfl,hb2⟩;obtain⟨x0,x1,x2,x3,x4,y0,y1,y2,y3,y4,hx⟩:=HX.out.below hb2;go_wp2_with fail;exact yQ (v:=.tuple #[zp,.int .i64 er]) (by simp[results,results162,go_sem,x0,x1,x2,x3,x4]) rfl ⟨by simp,sV (bt BX hb2) (by omega) _ _ _ _ _⟩
theorem Pts.put {w:World}{b n:Nat}{D:DataW Value}{P:Int->Prop}{f:Int->Rq}(h:Pts w b n D P f)(hn:n<=1048576){z:Int}(hz:0<=z/\z<=1073741824)(q:Rq) :
  ∃ w',(Instr.mapUpdate 205 (.map (some b)) (.int .i64 z) (rvq q)).run prog w=.ok () w'/\Pts w' b (n+1) (D.put (.int .i64 z) (.held (rvq q))) (fun y=>P y\/y=z) (fun y=>if y=z then q else f y)/\w.grownBy w' (some b):=by
 have hwf:(Lit.int .i64 z).wf=true:=WalkArith.wf_i64 (by omega);obtain⟨w',hrun,hown,hg⟩:=h.own.update iI underlying205 (by unfold maxLen;omega) (val:=rvq q) (d:=.held (rvq q)) (ps:=[]) (Go.Maps.keyOf_int_mk underlying3 hwf) rfl;refine⟨w',hrun,⟨hown,fun y=>?_,fun y hy=>?_,fun y hy=>?_⟩,hg⟩
 ·by_cases hy:y=z
  ·subst hy;simp[Maps.has_put_same h.own.isMap (k:=.int .i64 y) True.intro]
  ·rw[Maps.has_put_other (by simpa using hy),h.is y];simp[hy]
 ·by_cases hyz:y=z
  ·subst hyz;simp[Maps.atKey_put_same (k:=.int .i64 y) h.own.isMap True.intro]
  ·rw[Maps.atKey_put_other (by simpa using hyz),h.el y (by rcases hy with hy|hy;exact hy;exact absurd hy hyz)];simp[hyz]
 ·rcases hy with hy|rfl
  ·exact h.rng y hy
  ·exact hz
theorem Pts.lookOk {w:World}{b n:Nat}{D:DataW Value}{P:Int->Prop}{f:Int->Rq}(h:Pts w b n D P f){z:Int}(hr:0<=z/\z<=1073741824) :
  (P z/\(Instr.lookup 205 (.map (some b)) (.int .i64 z) true).run prog w=.ok (.tuple #[rvq (f z),.bool true]) w)\/(¬ P z/\(Instr.lookup 205 (.map (some b)) (.int .i64 z) true).run prog w=.ok (.tuple #[rv 0 0,.bool false]) w):=by
 have hwf:(Lit.int .i64 z).wf=true:=WalkArith.wf_i64 (by omega);obtain⟨v',ps,hrun,hat⟩:=h.own.look_ok iI underlying205 (akZ w) (zd:=.held (rv 0 0)) (zp:=[]) rfl (Go.Maps.keyOf_int_mk underlying3 hwf);cases hh:Maps.has D (.int .i64 z) with
 | true =>
  left;have hz:=(h.is z).1 hh;rw[h.el z hz] at hat;simp[hR] at hat;exact⟨hz,by rw[hrun,hat.1,hh]⟩
 | false =>
  right;have hz:¬ P z:=fun c=>by rw[(h.is z).2 c] at hh;cases hh
  have h2:D.atKey (.int .i64 z) (.held (rv 0 0))=.held (rv 0 0):=Maps.atKey_of_not_has hh _;rw[h2] at hat;simp[hR] at hat;exact⟨hz,by rw[hrun,hat.1,hh]⟩

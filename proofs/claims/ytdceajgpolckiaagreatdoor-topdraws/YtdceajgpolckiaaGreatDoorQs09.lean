import Derived.Test.YtdceajgpolckiaaGreatDoorQs08
import Derived.RangeFuncNested
import Derived.RangeFuncBound
import Derived.RangeFuncCalls
import Derived.RangeFuncLeaves
import Derived.Shelf.Abstract
import Derived.Shelf.RegionOpen
import Derived.OwnWalkIn
import Derived.TacticsInMore
import Derived.LoopNIn
import Derived.LoopIn
import Derived.Sort.BigQuietIn
open Go.Proofs.Tryz
set_option linter.unusedSimpArgs false
set_option maxHeartbeats 16000000
set_option maxRecDepth 100000
namespace Go.Proofs.YtdceajgpolckiaaGreatDoor
section
open Go.RowKit Ds
abbrev fW:=Int × Int × Int
def nA (N E:Nat) (a:Option Addr) (c:Nat) (us:List Tr) (w:World) (s:fW):Prop :=
 Rob w E (.slice a us.length c) (tot (rd us)) s.1 s.2.1 s.2.2/\Rop w N E a c us/\(2<=us.length->0<=s.2.2/\s.2.2<tot (rd us)/\Nd (tot (rd us)) s.2.2 (rd us) s.1)
def aD (l:List Pt) (s:fW):Nx:=fun bits=>pY (tot l) l s.2.2 s.1 s.2.1 bits
theorem gW {l:List Pt}:uD (aD l) (0,0,1) (iA l)=nV l:=by
 funext bits
 match l with
 | []=>rfl
 | [p]=>rfl
 | _::_::_=>rfl
theorem nA.start {N E:Nat}{a:Option Addr}{c:Nat}{us:List Tr}{w:World}(hD:Dis (rd us))(h:Rob w E (.slice a us.length c) (tot (rd us)) 0 0 1)(hP:Rop w N E a c us):nA N E a c us w (0,0,1):=by
 refine⟨h,hP,fun h2=>?_⟩;have h3:=hD.less (by rw[oY];exact h2);refine⟨by simp,?_,Nd.start h3⟩;cases us with
 | nil=>simp at h2
 | cons t us =>
  have h4:=h3 t.2 (by simp[rd]);have h5:=hD.pos t.2 (by simp[rd]);simp only;omega
theorem iW (N E:Nat)(a:Option Addr)(c:Nat)(us:List Tr)(hD:Dis (rd us))(hE:E<N):Drw N E 160 159 (nA N E a c us) (aD (rd us)) (fun s=>s.2.1) (0,0,1) (iA (rd us)) where
 keep:=fun h hb _=>⟨h.1.keep hb hE,h.2.1.keep hb,h.2.2⟩
 lt:=hE
 nil:=fun s=>rfl
 u0:=rfl
 sure:=fun w s h hN=>bjZ N E a c us _ s.1 s.2.1 s.2.2 w h.1 h.2.1 hN
 feed:=by
  intro hs w s b h hN hb hu
  have hl:2<=us.length:=by
   rcases Nat.lt_or_ge us.length 2 with h1|h1
   ·match us,hs,hD,h1 with
    | [],_,hD,_=>exact absurd rfl hD.ne
    | [t],hs,_,_=>simp[iA,rd] at hs
   ·exact h1
  obtain⟨nd,u,pl⟩:=s;obtain⟨q1,q2,q3⟩:=h.2.2 hl;simp only at q1 q2 q3 hu;have hT:=hD.tpos;have hT2:=hD.le;have hnd:=q3.le (by omega);have hfw:=h.2.1.few
  have hk:∀ t∈us,0<=t.2.2/\t.2.2<=1073741824:=fun t ht=>by
   have:=hD.less (by rw[oY];exact hl) t.2 (List.mem_map_of_mem (f:=fun t:Tr=>t.2) ht);omega
  rw[oY] at hnd
  have hbit:bits .and .i64 b 1=b:=by
   rcases (show b=0\/b=1 by omega) with rfl|rfl <;> decide
  refine(biJ N E a c us (tot (rd us)) nd u pl b b w h.1 h.2.1 hN hl ⟨hT,hT2⟩ ⟨q1,q2⟩ hk ⟨hu.1,by omega⟩ ⟨hnd.1,by omega⟩ hb hbit).mono ?_;rintro e w' ⟨hg,⟨rfl,k1,k2⟩|⟨a',c',o,rfl,k0,k1,k2⟩⟩
  ·have hlen:=List.getElem?_eq_none_iff.1 k1
   refine⟨hg,.inl ⟨rfl,(2*nd+b - (qX (tot (rd us)) pl (rd us)).length,u+1,2*pl % tot (rd us)),⟨k2,h.2.1.gb hg,fun _=>?_⟩,rfl,fun l=>?_⟩⟩
   ·refine⟨Int.emod_nonneg _ (by omega),Int.emod_lt_of_pos _ (by omega),q3.next (by omega) hb (by omega)⟩
   ·simp only[aD,pY,k1]
  ·refine⟨hg,.inr ⟨a',c',o,rfl,k0,nA.start hD k2 (h.2.1.gb hg),fun l=>?_⟩⟩
   simp only[aD,pY,k1]
def pK (l:List Pt) (bits:List Int) (times:Int):List Pt × Int:=if (qY l).2=0 then qF (nV l) bits times else ([],(qY l).2)
theorem bmQ (B nb:Nat)(v u:Value)(ts:List Tr)(bits:List Int)(times:Int)(w:World)(hB:B<=w.heap.size)(hp:pQ w B v ts)(hv:yV w B nb u bits)(ht:-9223372036854775808<=times/\times<=9223372036854775807)(l:List Pt)(er:Int)(hr:pK (rd ts) bits times=(l,er)) :
  Calls prog 49 #[v,u,.int .i64 times] w (pX l er w):=by
 obtain⟨⟨l0,e0⟩,ho⟩:∃ x,qY (rd ts)=x:=⟨_,rfl⟩;have kn:=fO B v ts w hB hp l0 e0 ho;have HV:Hid (yV w B nb u bits):=hv;have HO:Hid (qY (rd ts)=(l0,e0)):=ho;have HR:Hid (pK (rd ts) bits times=(l,er)):=hr;obtain⟨a,c,rfl,hc,hl,_⟩:=hp;obtain⟨⟨ua,uc,rfl⟩,_⟩:=hv;clear hr ho;go_enter func49,ntmps49;go_wp2_with fail;refine kn.mono ?_;rintro e w1 ⟨hb1,⟨h0,rfl⟩|⟨rfl,E,ra,rc,us,rfl,h1,h2,h3,h4⟩⟩
 ·have h0':(e0 == 0)=false:=by simpa using h0
  have h:=HR.out;simp only[pK,HO.out,qQ h0,cQ] at h;obtain⟨rfl,rfl⟩:=h;clear kn;go_wp2;exact yQ (v:=.tuple #[.slice none 0 0,.int .i64 e0]) (by simp[results,results49,go_sem]) rfl ⟨.slice none 0 0,[],rfl,rfl,nF _ _,hb1,mA.nil _⟩
 ·obtain⟨_,hD⟩:=aO HO.out
  have h:qF (uD (aD (rd us)) (0,0,1) (iA (rd us))) bits times=(l,er):=by
   have h:=HR.out;simp only[pK,HO.out,oG] at h;rw[gW,h1];exact h
  rw[<-h1] at hD h2;have hs1:=hb1.size;have kd:=blJ w.heap.size w1.heap.size E (nA w1.heap.size E ra rc us) (aD (rd us)) (fun s=>s.2.1) (0,0,1) (iA (rd us)) (iW w1.heap.size E ra rc us hD h2.lt) (.slice ua bits.length uc) bits times w1 (by omega) (jQ _) (nA.start hD h2 h3) ((HV.out.at hB hb1).mono hB (.inr (by omega))) ht l er h;clear kn h h2 h3 hD h1;go_wp2_with fail;refine kd.mono ?_;rintro e w2 ⟨v2,ds,rfl,k1,k2,k3,k4⟩;obtain⟨a2,c2,rfl,_⟩:=id k2;have K:Hid (rd ds=l/\pQ w2 w2.heap.size (.slice a2 ds.length c2) ds/\Below w.heap.size w w2/\mA w.heap.size (.slice a2 ds.length c2) ds):=⟨k1,k2,hb1.trans (cG k3 h4 hs1),k4.mono hs1⟩;clear kd k1 k2 k3 k4;go_wp2;exact yQ (v:=.tuple #[.slice a2 ds.length c2,.int .i64 er]) (by simp[results,results49,go_sem]) rfl ⟨_,ds,rfl,K.out.1,K.out.2.1,K.out.2.2.1,K.out.2.2.2⟩
theorem lW {T:Int}{l:List Pt}{pl nd u0:Int}{bits:List Int}{o:List Int}{u:Int}{r:List Int}(h:pY T l pl nd u0 bits=some (o,u,r)) :
  ∃ j:Nat,u=u0+j/\j<=bits.length/\pY T l pl nd u0 (bits.take j)=some (o,u,[]):=by
 induction bits generalizing pl nd u0 with
 | nil=>cases h
 | cons b bits ih =>
  simp only[pY] at h;cases e:(qX T pl l)[(2*nd+b).toNat]? with
  | some o' =>
   rw[e] at h;simp only[sX,cQ] at h;obtain⟨rfl,rfl,rfl⟩:=h;exact⟨1,rfl,by simp,by simp[pY,e]⟩
  | none =>
   rw[e] at h;obtain⟨j,h1,h2,h3⟩:=ih h;refine⟨j+1,by rw[h1];omega,by simp;omega,?_⟩;rw[List.take_succ_cons];simp only[pY,e];exact h3
theorem bmX {l:List Pt}{bits:List Int}{o:List Int}{u:Int}{r:List Int}(h:nV l bits=some (o,u,r)) :
  ∃ j:Nat,u=j/\j<=bits.length/\∃ r',nV l (bits.take j)=some (o,u,r'):=by
 match l,h with
 | [p],h =>
  simp only[nV,sX,cQ] at h;obtain⟨rfl,rfl,rfl⟩:=h;exact⟨0,rfl,mQ _,[],rfl⟩
 | [],h =>
  obtain⟨j,h1,h2,h3⟩:=lW (show pY _ _ _ _ _ bits=_ from h);exact⟨j,by omega,h2,[],h3⟩
 | _::_::_,h =>
  obtain⟨j,h1,h2,h3⟩:=lW (show pY _ _ _ _ _ bits=_ from h);exact⟨j,by omega,h2,[],h3⟩
def wY (l:List Pt) (bits:List Int):Option (List Int):=(nV l bits).map (·.1)
theorem bmZ {l:List Pt}(h:Dis l)(L:Nat){p:Pt}(hp:p∈l):((su (fun j=>if wY l (dg j L)=some p.1 then 1 else 0) (2 ^ L):Nat):Int)=2 ^ L*p.2 / tot l:=by
 rw[bgX (fun bs=>if wY l bs=some p.1 then 1 else 0) L];by_cases h2:2<=l.length
 ·have hl:=h.less h2
  have hT:=h.tpos
  have e:∀ bs,wY l bs=gA (tot l) l 1 0 bs:=by
   intro bs;rw[<-bgZ _ _ _ _ 0]
   match l,h2 with
   | _::_::_,_=>rfl
  have h3:=bhX (T:=tot l) (by omega) h.once hp L 1 1 (by rw[xW l hl];simp);simp only[su,oX] at h3
  have h4:rm (tot l) 1 p.2=p.2:=by
   have:=hl p hp;rw[rm,Int.mul_one,Int.emod_eq_of_lt this.1 this.2]
  rw[h4] at h3;rw[<-h3];congr 1;exact lE fun bs=>by rw[e];rfl
 ·match l,h.ne,h2,hp,h with
  | [q],_,_,hp,h =>
   obtain rfl:p=q:=by simpa using hp
   have hq:=h.pos p (by simp)
   have e:sm (fun bs=>if wY [p] bs=some p.1 then 1 else 0) L=2 ^ L:=by
    rw[lE (g:=fun _=>1) fun bs=>by simp[wY,nV],mE,Nat.one_mul]
   rw[e];have e2:tot [p]=p.2:=by simp[tot]
   rw[e2,Int.mul_ediv_cancel _ (by omega)];simp
  | _::_::_,_,h2,_,_=>exact absurd (by simp) h2
def oA (l:List Pt) (L k:Nat) (xs:List Int):Prop:=xs.length=l.length/\∀ (i:Nat) (p:Pt),l[i]? = some p->xs[i]? = some ((su (fun j=>if wY l (dg j L)=some p.1 then 1 else 0) k:Nat):Int)
theorem oA.start (l:List Pt)(L:Nat):oA l L 0 (List.replicate l.length 0):=⟨by simp,fun i p hp=>by
 have:=(gQ.1 hp).1;simp[su,this]⟩
theorem oA.none {l:List Pt}{L k:Nat}{xs:List Int}(h:oA l L k xs)(he:wY l (dg k L)=none):oA l L (k+1) xs :=
 ⟨h.1,fun i p hp=>by rw[h.2 i p hp];simp[su,he]⟩
def fU (l:List Pt) (o:List Int) (xs ys:List Int) (i:Nat):Prop:=ys.length=xs.length/\∀ (j:Nat) (q:Int) (p:Pt),xs[j]? = some q->l[j]? = some p->ys[j]? = some (q+if j<i/\p.1=o then 1 else 0)
theorem fU.start (l:List Pt)(o:List Int)(xs:List Int):fU l o xs xs 0:=⟨rfl,fun j q p hq _=>by rw[hq];simp⟩
theorem fU.no {l:List Pt}{o xs ys:List Int}{i:Nat}(h:fU l o xs ys i){p:Pt}(hp:l[i]? = some p)(he:p.1≠o):fU l o xs ys (i+1):=by
 refine⟨h.1,fun j q p' hq hp'=>?_⟩;rw[h.2 j q p' hq hp'];by_cases e:j=i
 ·subst e
  rw[hp] at hp';simp only[sX] at hp';subst hp';simp[he]
 ·have:(j<i+1)↔(j<i):=by omega
  simp only[this]
theorem fU.yes {l:List Pt}{o xs ys:List Int}{i:Nat}(h:fU l o xs ys i){p:Pt}(hp:l[i]? = some p)(he:p.1=o){q:Int}(hq:ys[i]? = some q):fU l o xs (ys.set i (q+1)) (i+1):=by
 refine⟨by simpa using h.1,fun j r p' hr hp'=>?_⟩;have h0:=h.2 j r p' hr hp';by_cases e:j=i
 ·subst e
  rw[hp] at hp';simp only[sX] at hp';subst hp';rw[hq] at h0;simp only[sX] at h0;rw[cU ((gQ.1 hq).1)];simp[he] at h0 ⊢;omega
 ·rw[oU (by omega),h0]
  have:(j<i+1)↔(j<i):=by omega
  simp only[this]
theorem fU.done {l:List Pt}{L k:Nat}{o xs ys:List Int}{i:Nat}(h:fU l o xs ys i)(hi:l.length<=i)(hc:oA l L k xs)(he:wY l (dg k L)=some o):oA l L (k+1) ys:=by
 refine⟨by rw[h.1];exact hc.1,fun j p hp=>?_⟩;have hj:=(gQ.1 hp).1;rw[h.2 j _ p (hc.2 j p hp) hp];have e:(j<i/\p.1=o)↔(o=p.1):=⟨fun h=>h.2.symm,fun h=>⟨by omega,h.symm⟩⟩;simp only[su,he,sX];by_cases c:o=p.1
 ·rw[zQ (e.2 c),zQ c];rfl
 ·rw[qQ (fun h=>c (e.1 h)),qQ c];simp
theorem oA.le {l:List Pt}{L k:Nat}{xs:List Int}(h:oA l L k xs){i:Nat}(hi:i<l.length):∃ q:Nat,xs[i]? = some (q:Int)/\q<=k:=by
 obtain⟨p,hp⟩:=lX hi;refine⟨su (fun j=>if wY l (dg j L)=some p.1 then 1 else 0) k,h.2 i p hp,?_⟩;have:=bfQ (fun j=>if wY l (dg j L)=some p.1 then 1 else 0) (fun _=>1) k fun i _=>by split <;> omega
 rwa [bfX,Nat.mul_one] at this
theorem fU.le {l:List Pt}{o xs ys:List Int}{i k L j:Nat}(h:fU l o xs ys i)(hc:oA l L k xs)(hj:j<l.length):∃ q:Nat,ys[j]? = some (q:Int)/\q<=k+1:=by
 obtain⟨q,hq,hk⟩:=hc.le hj;obtain⟨p,hp⟩:=lX hj;have:=h.2 j q p hq hp;split at this
 ·exact⟨q+1,by simpa using this,by omega⟩
 ·exact⟨q,by simpa using this,by omega⟩
end
section
open Go.RowKit Go.Shelf Ds
attribute [local go_sem] Oper.semAt_some
attribute [local go_sem] Oper.semAt_some
attribute [local go_sem] Oper.semAt_some
end
section
open Go.RowKit Go.Shelf
section
variable {F:Fence} {n:Nat} {P:Program} {ops:Array Oper} {C:World->Prop}
end
end
section
open Go.RowKit Go.Shelf Ds
attribute [local go_sem] Oper.semAt_some
end
section
open Go.RowKit Ds
theorem bmJ {l:List Pt}(hr:mV l){p:Pt}(hp:p∈l):wt l p.1=p.2:=by
 obtain⟨i,hi,h⟩:=List.getElem_of_mem hp;exact beX hr (by rw[fZ hi,h])

import Derived.Test.YtdceajgpolckiaaGreatDoorQq08
import Derived.RangeFuncNested
import Derived.RangeFuncBound
import Derived.RangeFuncCalls
import Derived.RangeFuncLeaves
import Derived.Shelf.Abstract
import Derived.Shelf.RegionOpen
import Derived.OwnWalkIn
import Derived.TacticsInMore
import Derived.LoopNIn
import Derived.LoopIn
import Derived.Sort.BigQuietIn
open Go.Proofs.Tryz
set_option linter.unusedSimpArgs false
set_option maxHeartbeats 16000000
set_option maxRecDepth 100000
namespace Go.Proofs.YtdceajgpolckiaaGreatDoor
section
open Go.RowKit Ds
abbrev oW:=Int × Int × Int
def kG (N E:Nat) (a:Option Addr) (c:Nat) (us:List Tr) (w:World) (s:oW):Prop :=
 Rob w E (.slice a us.length c) (tot (rd us)) s.1 s.2.1 s.2.2/\Rop w N E a c us/\(2<=us.length->0<=s.2.2/\s.2.2<tot (rd us)/\Nd (tot (rd us)) s.2.2 (rd us) s.1)
def yF (l:List Pt) (s:oW):Nx:=fun bits=>vA (tot l) l s.2.2 s.1 s.2.1 bits
theorem pW {l:List Pt}:vF (yF l) (0,0,1) (gG l)=nU l:=by
 funext bits
 match l with
 | []=>rfl
 | [p]=>rfl
 | _::_::_=>rfl
theorem kG.start {N E:Nat}{a:Option Addr}{c:Nat}{us:List Tr}{w:World}(hD:Dis (rd us))(h:Rob w E (.slice a us.length c) (tot (rd us)) 0 0 1)(hP:Rop w N E a c us):kG N E a c us w (0,0,1):=by
 refine⟨h,hP,fun h2=>?_⟩;have h3:=hD.less (by rw[fG];exact h2);refine⟨by simp,?_,Nd.start h3⟩;cases us with
 | nil=>simp at h2
 | cons t us =>
  have h4:=h3 t.2 (by simp[rd]);have h5:=hD.pos t.2 (by simp[rd]);simp only;omega
theorem rW (N E:Nat)(a:Option Addr)(c:Nat)(us:List Tr)(hD:Dis (rd us))(hE:E<N):Drw N E 160 159 (kG N E a c us) (yF (rd us)) (fun s=>s.2.1) (0,0,1) (gG (rd us)) where
 keep:=fun h hb _=>⟨h.1.keep hb hE,h.2.1.keep hb,h.2.2⟩
 lt:=hE
 nil:=fun s=>rfl
 u0:=rfl
 sure:=fun w s h hN=>boQ N E a c us _ s.1 s.2.1 s.2.2 w h.1 h.2.1 hN
 feed:=by
  intro hs w s b h hN hb hu
  have hl:2<=us.length:=by
   rcases Nat.lt_or_ge us.length 2 with h1|h1
   ·match us,hs,hD,h1 with
    | [],_,hD,_=>exact absurd rfl hD.ne
    | [t],hs,_,_=>simp[gG,rd] at hs
   ·exact h1
  obtain⟨nd,u,pl⟩:=s;obtain⟨q1,q2,q3⟩:=h.2.2 hl;simp only at q1 q2 q3 hu;have hT:=hD.tpos;have hT2:=hD.le;have hnd:=q3.le (by omega);have hfw:=h.2.1.few
  have hk:∀ t∈us,0<=t.2.2/\t.2.2<=1073741824:=fun t ht=>by
   have:=hD.less (by rw[fG];exact hl) t.2 (List.mem_map_of_mem (f:=fun t:Tr=>t.2) ht);omega
  rw[fG] at hnd
  have hbit:bits .and .i64 b 1=b:=by
   rcases (show b=0\/b=1 by omega) with rfl|rfl <;> decide
  refine(bnX N E a c us (tot (rd us)) nd u pl b b w h.1 h.2.1 hN hl ⟨hT,hT2⟩ ⟨q1,q2⟩ hk ⟨hu.1,by omega⟩ ⟨hnd.1,by omega⟩ hb hbit).mono ?_;rintro e w' ⟨hg,⟨rfl,k1,k2⟩|⟨a',c',o,rfl,k0,k1,k2⟩⟩
  ·have hlen:=List.getElem?_eq_none_iff.1 k1
   refine⟨hg,.inl ⟨rfl,(2*nd+b - (uZ (tot (rd us)) pl (rd us)).length,u+1,2*pl % tot (rd us)),⟨k2,h.2.1.gb hg,fun _=>?_⟩,rfl,fun l=>?_⟩⟩
   ·refine⟨Int.emod_nonneg _ (by omega),Int.emod_lt_of_pos _ (by omega),q3.next (by omega) hb (by omega)⟩
   ·simp only[yF,vA,k1]
  ·refine⟨hg,.inr ⟨a',c',o,rfl,k0,kG.start hD k2 (h.2.1.gb hg),fun l=>?_⟩⟩
   simp only[yF,vA,k1]
def nL (l:List Pt) (bits:List Int) (times:Int):List Pt × Int:=if (bU l).2=0 then rF (nU l) bits times else ([],(bU l).2)
theorem bqZ (B nb:Nat)(v u:Value)(ts:List Tr)(bits:List Int)(times:Int)(w:World)(hB:B<=w.heap.size)(hp:xX w B v ts)(hv:qY w B nb u bits)(ht:-9223372036854775808<=times/\times<=9223372036854775807)(l:List Pt)(er:Int)(hr:nL (rd ts) bits times=(l,er)) :
  Calls prog 49 #[v,u,.int .i64 times] w (pX l er w):=by
 obtain⟨⟨l0,e0⟩,ho⟩:∃ x,bU (rd ts)=x:=⟨_,rfl⟩;have kn:=jP B v ts w hB hp l0 e0 ho;have HV:Hid (qY w B nb u bits):=hv;have HO:Hid (bU (rd ts)=(l0,e0)):=ho;have HR:Hid (nL (rd ts) bits times=(l,er)):=hr;obtain⟨a,c,rfl,hc,hl,_⟩:=hp;obtain⟨⟨ua,uc,rfl⟩,_⟩:=hv;clear hr ho;go_enter func49,ntmps49;go_wp2_with fail;refine kn.mono ?_;rintro e w1 ⟨hb1,⟨h0,rfl⟩|⟨rfl,E,ra,rc,us,rfl,h1,h2,h3,h4⟩⟩
 ·have h0':(e0 == 0)=false:=by simpa using h0
  have h:=HR.out;simp only[nL,HO.out,qQ h0,cQ] at h;obtain⟨rfl,rfl⟩:=h;clear kn;go_wp2;exact yQ (v:=.tuple #[.slice none 0 0,.int .i64 e0]) (by simp[results,results49,go_sem]) rfl ⟨.slice none 0 0,[],rfl,rfl,lH _ _,hb1,iG.nil _⟩
 ·obtain⟨_,hD⟩:=yT HO.out
  have h:rF (vF (yF (rd us)) (0,0,1) (gG (rd us))) bits times=(l,er):=by
   have h:=HR.out;simp only[nL,HO.out,zD] at h;rw[pW,h1];exact h
  rw[<-h1] at hD h2;have hs1:=hb1.size;have kd:=bqX w.heap.size w1.heap.size E (kG w1.heap.size E ra rc us) (yF (rd us)) (fun s=>s.2.1) (0,0,1) (gG (rd us)) (rW w1.heap.size E ra rc us hD h2.lt) (.slice ua bits.length uc) bits times w1 (by omega) (vQ _) (kG.start hD h2 h3) ((HV.out.at hB hb1).mono hB (.inr (by omega))) ht l er h;clear kn h h2 h3 hD h1;go_wp2_with fail;refine kd.mono ?_;rintro e w2 ⟨v2,ds,rfl,k1,k2,k3,k4⟩;obtain⟨a2,c2,rfl,_⟩:=id k2;have K:Hid (rd ds=l/\xX w2 w2.heap.size (.slice a2 ds.length c2) ds/\Below w.heap.size w w2/\iG w.heap.size (.slice a2 ds.length c2) ds):=⟨k1,k2,hb1.trans (iD k3 h4 hs1),k4.mono hs1⟩;clear kd k1 k2 k3 k4;go_wp2;exact yQ (v:=.tuple #[.slice a2 ds.length c2,.int .i64 er]) (by simp[results,results49,go_sem]) rfl ⟨_,ds,rfl,K.out.1,K.out.2.1,K.out.2.2.1,K.out.2.2.2⟩
theorem sW {T:Int}{l:List Pt}{pl nd u0:Int}{bits:List Int}{o:List Int}{u:Int}{r:List Int}(h:vA T l pl nd u0 bits=some (o,u,r)) :
  ∃ j:Nat,u=u0+j/\j<=bits.length/\vA T l pl nd u0 (bits.take j)=some (o,u,[]):=by
 induction bits generalizing pl nd u0 with
 | nil=>cases h
 | cons b bits ih =>
  simp only[vA] at h;cases e:(uZ T pl l)[(2*nd+b).toNat]? with
  | some o' =>
   rw[e] at h;simp only[vX,cQ] at h;obtain⟨rfl,rfl,rfl⟩:=h;exact⟨1,rfl,by simp,by simp[vA,e]⟩
  | none =>
   rw[e] at h;obtain⟨j,h1,h2,h3⟩:=ih h;refine⟨j+1,by rw[h1];omega,by simp;omega,?_⟩;rw[List.take_succ_cons];simp only[vA,e];exact h3
theorem bqJ {l:List Pt}{bits:List Int}{o:List Int}{u:Int}{r:List Int}(h:nU l bits=some (o,u,r)) :
  ∃ j:Nat,u=j/\j<=bits.length/\∃ r',nU l (bits.take j)=some (o,u,r'):=by
 match l,h with
 | [p],h =>
  simp only[nU,vX,cQ] at h;obtain⟨rfl,rfl,rfl⟩:=h;exact⟨0,rfl,nQ _,[],rfl⟩
 | [],h =>
  obtain⟨j,h1,h2,h3⟩:=sW (show vA _ _ _ _ _ bits=_ from h);exact⟨j,by omega,h2,[],h3⟩
 | _::_::_,h =>
  obtain⟨j,h1,h2,h3⟩:=sW (show vA _ _ _ _ _ bits=_ from h);exact⟨j,by omega,h2,[],h3⟩
end
section
open Go.RowKit Go.Shelf Ds
attribute [local go_sem] Oper.semAt_some
attribute [local go_sem] Oper.semAt_some
attribute [local go_sem] Oper.semAt_some
end
section
open Go.RowKit Go.Shelf
section
variable {F:Fence} {n:Nat} {P:Program} {ops:Array Oper} {C:World->Prop}
end
end
section
open Go.RowKit Go.Shelf Ds
attribute [local go_sem] Oper.semAt_some
end
section
open Go.RowKit Ds
theorem brQ {l:List Pt}(hr:rY l){p:Pt}(hp:p∈l):wt l p.1=p.2:=by
 obtain⟨i,hi,h⟩:=List.getElem_of_mem hp;exact bkQ hr (by rw[dZ hi,h])

import Derived.Test.YtcaplmodgbpchaaGreatDoorQq12
import Derived.RangeFuncNested
import Derived.RangeFuncBound
import Derived.RangeFuncCalls
import Derived.RangeFuncLeaves
import Derived.Shelf.Abstract
import Derived.Shelf.RegionOpen
import Derived.OwnWalkIn
import Derived.TacticsInMore
import Derived.LoopNIn
import Derived.LoopIn
import Derived.Sort.BigQuietIn
open Go.Proofs.Tryz
open Go.Value(int)
open Go.IntKind(i64)
set_option linter.unusedSimpArgs false
set_option maxHeartbeats 16000000
set_option maxRecDepth 100000
namespace Go.Proofs.YtcaplmodgbpchaaGreatDoor
variable {w w':World} {B E N R c i k m n nb:Nat} {v:Value} {bits o r xs:List Int} {a:Option Addr} {T b d u:Int}
section
open Go.RowKit Ds
def pU (w:World) (B nb:Nat) (v:Value) (xs:List Int):Prop:=(∃ a c,v=.slice a xs.length c)/\(xs.length<=65536->yQ w B nb v xs)
theorem pU.of (h:yQ w B nb v xs):pU w B nb v xs:=⟨let ⟨a,c,hv,_⟩:=h;⟨a,c,hv⟩,fun _=>h⟩
theorem pU.keep (h:pU w B nb v xs)(a:Below B w w'):pU w' B nb v xs:=⟨h.1,fun hl=>(h.2 hl).keep a⟩
theorem pU.at (h:pU w B nb v xs)(hB:B<=w.heap.size)(a:xQ w w'):pU w' B nb v xs:=⟨h.1,fun hl=>(h.2 hl).at hB a⟩
theorem pU.mono {B' nb':Nat}(h:pU w B nb v xs)(hB:B<=B')(a:nb' = nb\/B<=nb'):pU w B' nb' v xs:=⟨h.1,fun hl=>(h.2 hl).mono hB a⟩
theorem drJ (B N E:Nat){S:Type}(St:World->S->Prop)(go:S->Nx)(us:S->Int)(s0:S)(sur:Option (List Int))(D:Drw N E 112 111 St go us s0 sur)(v:Value)(bits:List Int)(times:Int)(w:World)(hB:B<=N)(hN:N<=w.heap.size)(hs:St w s0)(hv:pU w B E v bits)(ht:-9223372036854775808<=times/\times<=9223372036854775807)(l:List Pt)(er:Int)(hr:cF (xK go s0 sur) bits times=(l,er)) :
  Calls prog 55 #[.iface 136 (.pointer (some ⟨E,0,none⟩)),v,int i64 times] w (drQ E l er w):=by
 have HV0:=qQ hv;have HD:=qQ D;have HS:=qQ hs;have HR:=qQ hr;have lt:=D.lt;obtain⟨⟨a,c,rfl⟩,_⟩:=hv;clear D hs hr;by_cases h1:65536<bits.length
 ·have h:=HR.out
  simp only[cF,xU,jQ h1] at h;simp at h;obtain⟨rfl,rfl⟩:=h;go_enter func55,ntmps55;go_wp2;exact eQ (v:=.tuple #[.slice none 0 0,int i64 5]) (by simp[results,results55,go_sem]) rfl ⟨.slice none 0 0,([]:List Tr),rfl,rfl,yH _ _,wX _ _,yD.nil _⟩
 have HV:=qQ (HV0.out.2 (by omega))
 obtain⟨hc,hl⟩:bits.length<=c/\bits.length<=1073741824:=by
  obtain⟨_,_,he,h3,h4,_⟩:=HV.out;cases he;exact⟨h3,h4⟩
 clear HV0;by_cases h2:times<0
 ·have h:=HR.out
  simp only[cF,xU,zQ h1,jQ (show times<0\/4096<times\/kY bits=true from .inl h2)] at h;simp at h;obtain⟨rfl,rfl⟩:=h;go_enter func55,ntmps55;go_wp2;exact eQ (v:=.tuple #[.slice none 0 0,int i64 3]) (by simp[results,results55,go_sem]) rfl ⟨.slice none 0 0,([]:List Tr),rfl,rfl,yH _ _,wX _ _,yD.nil _⟩
 by_cases h3:4096<times
 ·have h:=HR.out
  simp only[cF,xU,zQ h1,jQ (show times<0\/4096<times\/kY bits=true from .inr (.inl h3))] at h;simp at h;obtain⟨rfl,rfl⟩:=h;go_enter func55,ntmps55;go_wp2;exact eQ (v:=.tuple #[.slice none 0 0,int i64 3]) (by simp[results,results55,go_sem]) rfl ⟨.slice none 0 0,([]:List Tr),rfl,rfl,yH _ _,wX _ _,yD.nil _⟩
 cases hbad:kY bits with
 | true =>
  have h:=HR.out;simp only[cF,xU,zQ h1,jQ (show times<0\/4096<times\/kY bits=true from .inr (.inr hbad))] at h;simp at h;obtain⟨rfl,rfl⟩:=h;have kc:=blX B E _ bits w HV.out false (by have:=tP bits;rw[hbad] at this;simpa using this.symm);clear hbad;go_enter func55,ntmps55;go_wp2_with fail;refine kc.mono ?_;rintro e w1 ⟨rfl,rfl⟩;clear kc;go_wp2;exact eQ (v:=.tuple #[.slice none 0 0,int i64 3]) (by simp[results,results55,go_sem]) rfl ⟨.slice none 0 0,([]:List Tr),rfl,rfl,yH _ _,wX _ _,yD.nil _⟩
 | false =>
  have HBad:=qQ hbad;have h:=HR.out;simp only[cF,xU,zQ h1,zQ (show ¬ (times<0\/4096<times\/kY bits=true) from by simp[hbad];omega)] at h;simp at h;have HL:=qQ h.1;obtain rfl:(0:Int)=er:=h.2;obtain⟨T,rfl⟩:=nY (show 0<=times by omega);rw[tF] at HL;have kc:=blX B E _ bits w HV.out true (by have:=tP bits;rw[hbad] at this;simpa using this.symm);obtain⟨i0,hi0,hz0,hz1,hz2⟩:=pZ bkJ;clear hbad h HR;have hT:T<=4096:=by omega
  go_enter func55,ntmps55;go_wp2_with fail;refine kc.mono ?_;rintro e w1 ⟨rfl,rfl⟩;clear kc;go_wp2
  go_loopw [1,8] (fun bv ov wr=>∃ (j:Nat) (ds:List Tr) (a':Option Addr) (c':Nat),bv=.slice a' (bits.drop j).length c'/\Hid (yQ wr B E bv (bits.drop j))/\ds.length<=T/\Hid (qY wr w1.heap.size ov ds)/\Hid (dZ w1.heap.size ds)/\Hid (St wr s0)/\Hid (w1.grownBy wr (some E))/\Hid (rd ds++iG (xK go s0 sur) (T - ds.length) (bits.drop j)=l)) (fun _ ov _=>T - slen ov)
  case atStart=>exact⟨0,[],a,c,by simp,by rw[nL];exact HV,dQ _,qY.nil _ _,dZ.nil _,HS,wX _ _,by simpa [rd,Hid] using HL.out⟩
  case round =>
   obtain⟨j,ds,a',c',rfl,HVj,hdT,HW,HF,HSj,HG,HLj⟩:=hrel;have hz:=HG.out.size;have hpl:=HW.out.lt;obtain⟨pa,pc,rfl⟩:=HW.out.slice;have HNA:Hid (yD w1.heap.size (.slice pa ds.length pc) ds):=⟨fun g e=>(hpl g e).1,HF.out⟩;have hbl:(bits.drop j).length<=65536:=by simp;omega
   have HBj:=qQ (xB HBad.out j);obtain⟨bj,hbj⟩:∃ bj,bits.drop j=bj:=⟨_,rfl⟩;rw[hbj] at hbl HBj HVj HLj ⊢;have HJ:=qQ hbj;clear hbj;by_cases h4:ds.length<T
   ·have kc:=drZ B N E St go us s0 sur HD.out (.slice a' bj.length c') bj wr hB (by omega) HSj.out HVj.out HBj.out hbl
    obtain⟨mo,hmo,hmg⟩:=dqJ (n:=wr.heap.size) (fun g e=>(hpl g e).2) (by omega);go_wp2_with fail;refine kc.mono ?_;rintro e w2 ⟨hg2,⟨h5,rfl⟩|⟨ra,rc,o,k,ra',rc',j',h5,rfl,h6,h7,h8⟩⟩
    ·have HLl:Hid (rd ds=l):=by have:=HLj.out;rw[o8 h5,bG] at this;exact this
     have HW2:=qQ ((HW.out.gb hg2 (by omega) HF.out).parts (by omega));have HG2:=qQ (sU HG.out hg2);clear kc hg2 h5 HW HLj;go_wp2;exact eQ (v:=.tuple #[.slice pa ds.length pc,int i64 0]) (by simp[results,results55,go_sem]) rfl ⟨_,ds,rfl,HLl.out,(HW2.out.keep (ba _ _)).mono (by simp),fG HG2.out _,HNA.out⟩
    ·have HW2:Hid (qY w2 w1.heap.size (.slice pa ds.length pc) ds):=HW.out.gb hg2 (by omega) HF.out
     have HG2:=qQ (sU HG.out hg2)
     have HL2:Hid (rd (ds++[(.slice ra o.length rc,o,k)])++iG (xK go s0 sur) (T - (ds++[((.slice ra o.length rc,o,k):Tr)]).length) (bj.drop j')=l):=by
      have:=HLj.out;rw[show T - ds.length=(T - (ds.length+1))+1 by omega,t8 h5] at this;simpa [Hid,rd] using this
     have HF2:Hid (dZ w1.heap.size (ds++[(.slice ra o.length rc,o,k)])):=HF.out.snoc (i7 (w:=w2) (B:=w2.heap.size) fun m hm=>h6 m (by omega));have hzz:=hg2.size;have HI2:=qQ (h6 mo hmo);have HV2:=qQ h7;have HS2:=qQ h8;have HO2:Hid (qY ((w2.alloc (.cells #[.slice ra o.length rc,int i64 k] 110)).alloc (.cells #[.slice ra o.length rc,int i64 k] 110)) w1.heap.size (.slice pa ds.length pc) ds):=HW2.out.keep (bal (ba _ _) _);have HMG:=qQ hmg;obtain⟨bk,hbk⟩:∃ bk,bj.drop j' = bk:=⟨_,rfl⟩;have HJ2:Hid (bk=bits.drop (j+j')):=by rw[Hid,<-hbk,<-HJ.out,List.drop_drop]
     rw[hbk] at HL2 HV2 ⊢;clear hbk kc hg2 h5 h6 h7 h8 HW HLj hmg HF HSj HVj HBj;go_wp2_with (at_builtin;refine iO _ rfl _ _ 89 rfl w1.heap.size 110 i0 (.agg #[.slice none 0 0,int i64 0]) 2 32 underlying89 hi0 hz0 hz1 hz2 rfl (by decide) _ _ _ rfl HO2.out.1 ⟨w2.heap.size+1,0,none⟩ 1 1 [.slice ra o.length rc,int i64 k] rfl ?q1 ?q2 ?q3 ?q4 ?q5 ?q6 ?_)
     case q1=>rfl
     case q2 =>
      intro j u hj
      match j,hj with
      | 0,hj=>simp at hj;subst hj;simp[go_sem,Addr.add]
      | 1,hj=>simp at hj;subst hj;simp[go_sem,Addr.add]
     case q3=>intro u hu;simp at hu;rcases hu with rfl|rfl <;> rfl
     case q4=>simp[maxLen];omega
     case q5=>omega
     case q6=>simp;omega
     intro v3 w3 hown3 hgrow hnil hat;have HW3:Hid (qY w3 w1.heap.size v3 (ds++[(.slice ra o.length rc,o,k)])):=HO2.out.app hown3 hgrow (by simpa using hat) (HI2.out.at2 (bal (ba _ _) _)) HMG.out;have hb3:Below w1.heap.size w2 w3:=(((uQ w1.heap.size w2).alloc (by omega) _).alloc (by simp;omega) _).grown hgrow (by simp;omega) (xJ HO2.out.1);obtain⟨a3,c3,rfl⟩:=HW3.out.slice;have HG3:Hid (w1.grownBy w3 (some E)):=⟨hb3.os.trans HG2.out.os,hb3.tape.trans HG2.out.tape,hb3.output.trans HG2.out.output,bQ HG2.out.size hb3.size,fun q hq hne=>(hb3.block q hq).trans (HG2.out.block q hq hne)⟩;have HS3:=qQ (HD.out.keep HS2.out (hb3.mono hN) (by omega));have HV3:=qQ (HV2.out.keep (hb3.mono (by omega)));clear hown3 hgrow hnil hat HO2 HW2;go_wp2
     go_roundw
     case rel=>exact⟨j+j',ds++[(.slice ra o.length rc,o,k)],ra',rc',by rw[<-HJ2.out],by rw[<-HJ2.out];exact HV3,by simp;omega,HW3,HF2,HS3,HG3,by rw[<-HJ2.out];exact HL2⟩
     case measure=>simp[slen];omega
   ·have HLl:Hid (rd ds=l):=by have:=HLj.out;rw[show T - ds.length=0 by omega] at this;simpa [Hid,iG] using this
    have HW2:=qQ (HW.out.parts (by omega));clear HW HLj hpl;go_wp2;exact eQ (v:=.tuple #[.slice pa ds.length pc,int i64 0]) (by simp[results,results55,go_sem]) rfl ⟨_,ds,rfl,HLl.out,HW2.out,HG.out,HNA.out⟩
abbrev RoI:=Int × Int × Int
def aH (N E:Nat) (a:Option Addr) (c:Nat) (us:List Tr) (w:World) (s:RoI):Prop :=
 Rob w E (.slice a us.length c) (tot (rd us)) s.1 s.2.1 s.2.2/\Rop w N E a c us/\(2<=us.length->0<=s.2.2/\s.2.2<tot (rd us)/\Nd (tot (rd us)) s.2.2 (rd us) s.1)
def xI (l:List Pt) (s:RoI):Nx:=fun bits=>aU (tot l) l s.2.2 s.1 s.2.1 bits
theorem blJ {l:List Pt}:xK (xI l) (0,0,1) (uH l)=cV l:=by
 funext bits
 match l with
 | []=>rfl
 | [p]=>rfl
 | _::_::_=>rfl
theorem aH.start {us:List Tr}(i:Dis (rd us))(h:Rob w E (.slice a us.length c) (tot (rd us)) 0 0 1)(j:Rop w N E a c us):aH N E a c us w (0,0,1):=by
 refine⟨h,j,fun h2=>?_⟩;have g:=i.less (by rw[yY];exact h2);refine⟨by simp,?_,Nd.start g⟩;cases us with
 | nil=>simp at h2
 | cons t us =>
  have k:=g t.2 (by simp[rd]);have l:=i.pos t.2 (by simp[rd]);simp only;omega
theorem bmQ (N E:Nat)(a:Option Addr)(c:Nat)(g:List Tr)(i:Dis (rd g))(G:E<N):Drw N E 112 111 (aH N E a c g) (xI (rd g)) (fun s=>s.2.1) (0,0,1) (uH (rd g)) where
 keep:=fun h j _=>⟨h.1.keep j G,h.2.1.keep j,h.2.2⟩
 lt:=G
 nil:=fun s=>rfl
 u0:=rfl
 sure:=fun w s h z=>dpJ N E a c g _ s.1 s.2.1 s.2.2 w h.1 h.2.1 z
 feed:=by
  intro C w s b h z j I
  have B:2<=g.length:=by
   rcases Nat.lt_or_ge g.length 2 with y|y
   ·match g,C,i,y with
    | [],_,i,_=>exact absurd rfl i.ne
    | [t],C,_,_=>simp[uH,rd] at C
   ·exact y
  obtain⟨nd,u,pl⟩:=s;obtain⟨J,L,F⟩:=h.2.2 B;simp only at J L F I;have P:=i.tpos;have A:=i.le;have m:=F.le (by omega);have Q:=h.2.1.few
  have R:∀ t∈g,0<=t.2.2/\t.2.2<=1073741824:=fun t ht=>by
   have:=i.less (by rw[yY];exact B) t.2 (anX (f:=fun t:Tr=>t.2) ht);omega
  rw[yY] at m
  have k:bits .and .i64 b 1=b:=by
   rcases (show b=0\/b=1 by omega) with rfl|rfl <;> decide
  refine(dpQ N E a c g (tot (rd g)) nd u pl b b w h.1 h.2.1 z B ⟨P,A⟩ ⟨J,L⟩ R ⟨I.1,by omega⟩ ⟨m.1,by omega⟩ j k).mono ?_;rintro e w' ⟨p,⟨rfl,v,D⟩|⟨M,O,o,rfl,S,v,D⟩⟩
  ·have H:=List.getElem?_eq_none_iff.1 v
   refine⟨p,.inl ⟨rfl,(2*nd+b - (uZ (tot (rd g)) pl (rd g)).length,u+1,2*pl % tot (rd g)),⟨D,h.2.1.gb p,fun _=>?_⟩,rfl,fun l=>?_⟩⟩
   ·refine⟨Int.emod_nonneg _ (by omega),Int.emod_lt_of_pos _ (by omega),F.next (by omega) j (by omega)⟩
   ·simp only[xI,aU,v]
  ·refine⟨p,.inr ⟨M,O,o,rfl,S,aH.start i D (h.2.1.gb p),fun l=>?_⟩⟩
   simp only[xI,aU,v]
def bH (l:List Pt) (bits:List Int) (times:Int):List Pt × Int:=if (fU l).2=0 then cF (cV l) bits times else ([],(fU l).2)
theorem dsQ (B nb:Nat)(v u:Value)(ts:List Tr)(bits:List Int)(g:Int)(w:World)(hB:B<=w.heap.size)(J:uX w B v ts)(M:pU w B nb u bits)(X:-9223372036854775808<=g/\g<=9223372036854775807)(l:List Pt)(er:Int)(L:bH (rd ts) bits g=(l,er)) :
  Calls prog 24 #[v,u,int i64 g] w (eZ l er w):=by
 obtain⟨⟨Y,e0⟩,A⟩:∃ x,fU (rd ts)=x:=⟨_,rfl⟩;have D:=fT B v ts w hB J Y e0 A;have T:=qQ M;have y:=qQ A;have G:=qQ L;obtain⟨a,c,rfl,hc,hl,_⟩:=J;obtain⟨⟨Z,uc,rfl⟩,_⟩:=M;clear L A;go_enter func24,ntmps24;go_wp2_with fail;refine D.mono ?_;rintro e p ⟨i,⟨H,rfl⟩|⟨rfl,E,R,S,j,rfl,z,m,I,V⟩⟩
 ·have U:(e0 == 0)=false:=by simpa using H
  have h:=G.out;simp only[bH,y.out,zQ H,cQ] at h;obtain⟨rfl,rfl⟩:=h;clear D;go_wp2;exact eQ (v:=.tuple #[.slice none 0 0,int i64 e0]) (by simp[results,results24,go_sem]) rfl ⟨.slice none 0 0,[],rfl,rfl,yH _ _,i,yD.nil _⟩
 ·obtain⟨_,o⟩:=qB y.out
  have h:cF (xK (xI (rd j)) (0,0,1) (uH (rd j))) bits g=(l,er):=by
   have h:=G.out;simp only[bH,y.out,uA] at h;rw[blJ,z];exact h
  rw[<-z] at o m;have k:=i.size;have Q:=drJ w.heap.size p.heap.size E (aH p.heap.size E R S j) (xI (rd j)) (fun s=>s.2.1) (0,0,1) (uH (rd j)) (bmQ p.heap.size E R S j o m.lt) (.slice Z bits.length uc) bits g p (by omega) (vQ _) (aH.start o m I) ((T.out.at hB i).mono hB (.inr (by omega))) X l er h;clear D h m I o z;go_wp2_with fail;refine Q.mono ?_;rintro e F ⟨v2,ds,rfl,N,C,O,P⟩;obtain⟨a2,c2,rfl,_⟩:=id C;have K:Hid (rd ds=l/\uX F F.heap.size (.slice a2 ds.length c2) ds/\xQ w F/\yD w.heap.size (.slice a2 ds.length c2) ds):=⟨N,C,i.trans (yF O V k),P.mono k⟩;clear Q N C O P;go_wp2;exact eQ (v:=.tuple #[.slice a2 ds.length c2,int i64 er]) (by simp[results,results24,go_sem]) rfl ⟨_,ds,rfl,K.out.1,K.out.2.1,K.out.2.2.1,K.out.2.2.2⟩
theorem bmX {l:List Pt}{pl nd u0:Int}(h:aU T l pl nd u0 bits=some (o,u,r)) :
  ∃ j:Nat,u=u0+j/\j<=bits.length/\aU T l pl nd u0 (bits.take j)=some (o,u,[]):=by
 induction bits generalizing pl nd u0 with
 | nil=>cases h
 | cons b bits ih =>
  simp only[aU] at h;cases e:(uZ T pl l)[(2*nd+b).toNat]? with
  | some o' =>
   rw[e] at h;simp only[aZ,cQ] at h;obtain⟨rfl,rfl,rfl⟩:=h;exact⟨1,rfl,by simp,by simp[aU,e]⟩
  | none =>
   rw[e] at h;obtain⟨j,a,i,g⟩:=ih h;refine⟨j+1,by rw[a];omega,by simp;omega,?_⟩;rw[List.take_succ_cons];simp only[aU,e];exact g
theorem bmZ {l:List Pt}(h:cV l bits=some (o,u,r)) :
  ∃ j:Nat,u=j/\j<=bits.length/\∃ r',cV l (bits.take j)=some (o,u,r'):=by
 match l,h with
 | [p],h =>
  simp only[cV,aZ,cQ] at h;obtain⟨rfl,rfl,rfl⟩:=h;exact⟨0,rfl,dQ _,[],rfl⟩
 | [],h =>
  obtain⟨j,i,a,g⟩:=bmX (show aU _ _ _ _ _ bits=_ from h);exact⟨j,by omega,a,[],g⟩
 | _::_::_,h =>
  obtain⟨j,i,a,g⟩:=bmX (show aU _ _ _ _ _ bits=_ from h);exact⟨j,by omega,a,[],g⟩
end
section
open Go.RowKit Go.Shelf Ds
attribute [local go_sem] Oper.semAt_some
attribute [local go_sem] Oper.semAt_some
attribute [local go_sem] Oper.semAt_some
end
section
open Go.RowKit Go.Shelf
section
variable {F:Fence} {n:Nat} {P:Program} {ops:Array Oper} {C:World->Prop}
end
end
section
open Go.RowKit Go.Shelf Ds
attribute [local go_sem] Oper.semAt_some
end
section
open Go.RowKit Ds
theorem dsX {l:List Pt}(g:cY l){p:Pt}(a:p∈l):wt l p.1=p.2:=by
 obtain⟨i,hi,h⟩:=List.getElem_of_mem a;exact biX g (by rw[nZ hi,h])
theorem bmJ {l:List Pt}(h:0<wt l o):∃ p∈l,p.1=o:=by
 by_cases hc:∃ p∈l,p.1=o
 ·exact hc
 ·have:wt l o=0:=dP fun p hp e=>hc ⟨p,hp,e⟩
  omega
theorem bnQ {l:List Pt}(g:cY l)(a:tJ l){p:Pt}(h:p∈l):0<wt l p.1:=by
 rw[dsX g h];exact a p h
def grow (g:Int) (l:List Pt):List Pt:=l.map fun p=>(p.1,g*p.2)
theorem dsZ (g:Int)(l:List Pt)(o:List Int):wt (grow g l) o=g*wt l o:=by
 induction l with
 | nil=>simp[grow]
 | cons p l ih =>
  simp only[grow,aI] at *
  rw[dU,dU,ih,Int.mul_add];simp only;split <;> simp
end
section
open Ds
def kG (u d:Int):Int:=if Rt.rQ u d=true then (if u<d then 3 else 0) else 2
def gk (u d:Int) (R k:Nat):Int:=d ^ k*u ^ (R - k)
def hwt (u d:Int) (R a i:Nat):Int:=gk u d R (i - a+(a - i))*(if i=0\/i=R then u else u - d)
def nA (u d lo:Int) (R a:Nat):List Pt:=(List.range (R+1)).map fun(i:Nat)=>([lo+(i:Int)],hwt u d R a i)
def zU (lo hi n:Int):Int:=min (max n lo) hi
def jJ (u d lo hi n:Int):List Pt × Int :=
 if kG u d≠0 then ([],kG u d)
 else if ¬ (-1073741824<=lo/\lo<=hi/\hi<=1073741824/\hi - lo<=64) then ([],3)
 else if lo=hi then iV [([lo],1)]
 else if 1073741824<(u+d)*u ^ (hi - lo).toNat then ([],4)
 else iV (nA u d lo (hi - lo).toNat (zU lo hi n - lo).toNat)
def dF (u d n:Int):Int × Int × Int:=if kG u d≠0 then (0,0,kG u d) else Rt.xH u d n
theorem bnX (h:kG u d=0):Rt.rQ u d=true/\d<=u/\1<=d/\u<=1073741824:=by
 unfold kG at h;split at h
 ·rename_i h1
  have:=Rt.vF h1;split at h
  ·omega
  ·exact⟨h1,by omega,by omega,by omega⟩
 ·omega
theorem uD (h:1<=u)(n:Nat):1<=u ^ n:=by
 have:=Int.pow_pos (n:=u) (m:=n) (by omega);omega
theorem bnZ (h:1<=u)(a:n<=m):u ^ n<=u ^ m:=by
 obtain⟨k,rfl⟩:=Nat.le.dest a;rw[Int.pow_add];have i:=uD h n;have g:=uD h k;have:=tR g (show 0<=u ^ n by omega);omega
theorem dsJ (a:0<=d)(h:d<=u)(n:Nat):d ^ n<=u ^ n:=by
 induction n with
 | zero=>simp
 | succ n ih =>
  rw[wL,wL];exact nH ih h a (Int.pow_nonneg (by omega))
theorem b9 (a:0<=d)(n:Nat):0<=d ^ n:=Int.pow_nonneg a
theorem d9 (u d:Int)(R:Nat):gk u d R 0=u ^ R:=by simp[gk]
theorem qR (u d:Int)(h:k<R):u*gk u d R (k+1)=d*gk u d R k:=by
 unfold gk;rw[show R - k=(R - (k+1))+1 from by omega,wL,wL];simp only[Int.mul_comm,Int.mul_left_comm,pK]
theorem dtQ (u d:Int)(s:Nat)(h:k+s<=R):u ^ s*gk u d R (k+s)=d ^ s*gk u d R k:=by
 induction s with
 | zero=>simp
 | succ s ih =>
  have a:=ih (by omega);have g:=qR u d (R:=R) (k:=k+s) (by omega);rw[wL,wL,<-cU,pK,g,<-pK,Int.mul_right_comm,a,Int.mul_right_comm]
theorem bnJ (g:0<=u)(a:0<=d)(R k:Nat):0<=gk u d R k:=sD (b9 a _) (b9 g _)
theorem boQ (m:1<=d)(h:d<=u){s:Nat}(l:k+s<=R):gk u d R (k+s)<=gk u d R k:=by
 have a:=dtQ u d s l;have g:=dsJ (show 0<=d by omega) h s;have i:=bnJ (show 0<=u by omega) (show 0<=d by omega) R k;have j:u ^ s*gk u d R (k+s)<=u ^ s*gk u d R k:=by rw[a];exact rR g i
 exact Int.le_of_mul_le_mul_left j (by have:=uD (show 1<=u by omega) s;omega)
end
section
open Go.RowKit Ds
theorem dtX (l:List Pt):cut 1 l=l:=by
 unfold cut
 conv=>rhs;rw[<-List.map_id l]
 exact amJ fun p _=>by simp
theorem Dis.own {l:List Pt}(h:Dis l):fU l=(l,0):=by
 have a:gath l=l:=eE (fun p hp=>sL (h.pos p hp)) h.rise h.pos fun _=>rfl
 have g:iV l=(l,0):=by
  unfold iV mU;rw[jQ h.ok,a,zQ h.ne,h.one];simp only[Int.natCast_one,dtX];rw[zQ (by have:=h.le;have:=h.few;omega)]
 unfold fU;rw[g];simp
theorem dtZ (g:Int)(l:List Pt):tot (grow g l)=g*tot l:=by
 induction l with
 | nil=>simp[grow]
 | cons p l ih =>
  simp only[grow,aI] at *
  rw[xY,xY,ih,Int.mul_add]
theorem f9 {k l':List Pt}(h:iV k=(l',0)):Dis l'/\∃ g:Int,0<g/\(∀ o,wt k o=g*wt l' o)/\tot k=g*tot l':=by
 unfold iV at h;split at h
 ·rename_i hok
  have l:=xT (rP hok).1;obtain⟨a,b,c,d,e,f⟩:=biQ l (dE k) h;have j:gath k≠[]:=by intro y;rw[y] at h;simp[mU] at h
  have C:l' = cut (dv (gath k)) (gath k):=by
   unfold mU at h;rw[zQ j] at h;split at h
   ·simp at h
   ·simp at h;exact h.symm
  have m:grow (dv (gath k)) l' = gath k:=by rw[C];exact bhJ fun p l=>zT l
  have G:=lE l j;have v:∀ o,wt k o=(dv (gath k):Int)*wt l' o:=fun o=>by rw[<-dsZ,m,avZ]
  refine⟨⟨a,b,c,d,?_,e,f⟩,dv (gath k),by omega,v,by rw[<-dtZ,m,mE]⟩;rw[aN];intro p i;have z:0<wt k p.1:=by rw[v];exact Int.mul_pos (by omega) (bnQ a b i)
  obtain⟨q,D,B⟩:=bmJ z;have A:=aN.1 hok q D;have E:=tJ.le_tot (Nn.of_pos b) i;have F:=b p i;unfold gV at *
  rw[eI] at *
  exact⟨by simp;omega,B▸A.2⟩
 ·simp at h
theorem dtJ (a b n:Int)(h:Rt.rQ a b=false)(w:World) :
  Calls prog 99 #[rv a b,int i64 n] w (iQ w (.tuple #[rv 0 0,int i64 2])):=by
 have H:=qQ h;clear h;go_enter func99,ntmps99;go_wp2_with fail;refine(right_any a b false H.out _).mono ?_;rintro e1 l ⟨rfl,g⟩;have j:=bt (bal (ba _ _) _) g;obtain⟨i,k⟩:=bcell g;go_wp2_with fail;exact eQ (v:=.tuple #[rv 0 0,int i64 2]) (by simp[results,results99,go_sem,i]) rfl ⟨rfl,bs (bs j (by simp) _) (by simp) _⟩
theorem duQ (a b n:Int)(h:Rt.rQ a b=true)(j:n<0\/4096<n)(w:World) :
  Calls prog 99 #[rv a b,int i64 n] w (iQ w (.tuple #[rv 0 0,int i64 3])):=by
 have H:=qQ h;clear h;have k:n<0\/(¬ n<0/\4096<n):=by omega
 clear j;rcases k with j|⟨o,j⟩
 all_goals
  go_enter func99,ntmps99;go_wp2_with fail;refine(right_any a b true H.out _).mono ?_;rintro e1 p ⟨rfl,g⟩;have l:=bt (bal (ba _ _) _) g;obtain⟨i,m⟩:=bcell g;go_wp2_with fail;exact eQ (v:=.tuple #[rv 0 0,int i64 3]) (by simp[results,results99,go_sem,i]) rfl ⟨rfl,bs (bs l (by simp) _) (by simp) _⟩
theorem duX (x y n:Nat)(h:Rt.rQ x y=true)(Z:n<=4096)(p q e:Int)(z:Rt.xH x y n=(p,q,e))(w:World) :
  Calls prog 99 #[rv x y,int i64 n] w (iQ w (.tuple #[rv p q,int i64 e])):=by
 have H:=qQ h;have L:=qQ z;clear h z;go_enter func99,ntmps99;go_wp2_with fail;refine(right_any x y true H.out _).mono ?_;rintro e1 F ⟨rfl,m⟩;have V:=bt (bal (ba _ _) _) m;obtain⟨ac,ae⟩:=bcell m;go_wp2_with fail;have a6:w.heap.size+1<F.heap.size:=by have:=m.size;simp at this;omega
 go_loopw [21] (fun c wr=>∃ i:Nat,i<=n/\c=int i64 (i:Int)/\x ^ i<=1073741824/\y ^ i<=1073741824/\xQ F wr/\F.heap.size<wr.heap.size/\wr.cell? ⟨F.heap.size,0,none⟩=some (int i64 ((x ^ i:Nat):Int))/\wr.cell? ⟨F.heap.size,1,none⟩=some (int i64 ((y ^ i:Nat):Int))/\wr.frozen? ⟨F.heap.size,0,none⟩=false/\wr.frozen? ⟨F.heap.size,1,none⟩=false) (fun c _=>n - (intOf c).toNat)
 case atStart=>exact⟨0,by omega,rfl,by simp,by simp,ba _ _,by simp,by simp[go_sem],by simp[go_sem],by simp[go_sem],by simp[go_sem]⟩
 case round =>
  obtain⟨i,hi,rfl,hx,hy,o,A,P,Q,R,S⟩:=hrel;have l:=bt m o;have k0:wr.cell? ⟨w.heap.size,0,none⟩=some (int i64 (x:Int)):=by rw[l.cell (p:=⟨w.heap.size,0,none⟩) (by simp <;> omega)];simp[go_sem]
  have k1:wr.cell? ⟨w.heap.size,1,none⟩=some (int i64 (y:Int)):=by rw[l.cell (p:=⟨w.heap.size,1,none⟩) (by simp <;> omega)];simp[go_sem]
  have B:=Rt.cdJ x y i H.out hx hy;generalize hX:x ^ i=X at *
  generalize hY:y ^ i=Y at *
  have HX:=qQ hX;have HY:=qQ hY;clear hX hY;by_cases c0:i<n
  ·by_cases c1:x ^ (i+1)<=1073741824/\y ^ (i+1)<=1073741824
   ·rw[jQ c1] at B
    have C:=qQ B;clear B;obtain⟨c1,c2⟩:=c1;generalize hX:x ^ (i+1)=X' at *
    generalize hY:y ^ (i+1)=Y' at *
    have G:=qQ hX;have I:=qQ hY;clear hX hY;go_wp2_with fail;refine(times_any X Y x y X' Y' 0 C.out _).mono ?_;rintro e2 J ⟨rfl,a⟩;obtain⟨j,k⟩:=bcell a;go_wp2_with fail;have ah:=a.size;refine⟨⟨i+1,by omega,by go_num,by rw[G.out];exact c1,by rw[I.out];exact c2,?_,?_,?_,?_,?_,?_⟩,?_⟩
    ·exact((o.trans (a.mono (by omega))).setCell (vQ _) _).setCell (vQ _) _
    ·simp;omega
    ·rw[G.out];simp[go_sem,j,A,P]
    ·rw[I.out];simp[go_sem,j,A,Q]
    ·simp[go_sem,k,A,R]
    ·simp[go_sem,k,A,S]
    ·simp[intOf];omega
   ·rw[zQ c1] at B
    have C:=qQ B;clear B
    have N:1073741824<x ^ n\/1073741824<y ^ n:=by
     by_cases g:1073741824<x ^ (i+1)
     ·exact .inl (Rt.gS x (i+1) n (by omega) g)
     ·exact .inr (Rt.gS y (i+1) n (by omega) (by omega))
    have z:=Rt.iS x y n H.out Z p q e L.out
    have E:0=p/\0=q/\4=e:=by
     rcases z with⟨_,M⟩|⟨M,h2,_⟩
     ·exact M
     ·omega
    clear z N c1 L;obtain⟨rfl,rfl,rfl⟩:=E;have D:=bt V o;go_wp2_with fail;refine(times_any X Y x y 0 0 4 C.out _).mono ?_;rintro e2 J ⟨rfl,a⟩;obtain⟨j,k⟩:=bcell a;have T:J.cell? ⟨w.heap.size+1,0,none⟩=some (int i64 0):=by rw[j _ _ (by omega),l.cell (p:=⟨w.heap.size+1,0,none⟩) (by simp)];simp[go_sem]
    have U:J.cell? ⟨w.heap.size+1,1,none⟩=some (int i64 0):=by rw[j _ _ (by omega),l.cell (p:=⟨w.heap.size+1,1,none⟩) (by simp)];simp[go_sem]
    have k6:J.frozen? ⟨w.heap.size+1,0,none⟩=false:=by rw[k _ _ (by omega),l.frozen (p:=⟨w.heap.size+1,0,none⟩) (by simp)];simp[go_sem]
    have k7:J.frozen? ⟨w.heap.size+1,1,none⟩=false:=by rw[k _ _ (by omega),l.frozen (p:=⟨w.heap.size+1,1,none⟩) (by simp)];simp[go_sem]
    go_wp2_with fail;exact eQ (v:=.tuple #[rv 0 0,int i64 4]) (by simp[results,results99,go_sem,T,U]) rfl ⟨rfl,bs (bs (bs (bs (bt D a) (by simp;omega) _) (by simp;omega) _) (by simp) _) (by simp) _⟩
  ·have O:i=n:=by omega
   subst O;clear B;have z:=Rt.iS x y i H.out Z p q e L.out;rw[HX.out,HY.out] at z
   have E:(X:Int)=p/\(Y:Int)=q/\0=e:=by
    rcases z with⟨_,M⟩|⟨M,h2,h3⟩
    ·omega
    ·exact h3
   clear z L;obtain⟨rfl,rfl,rfl⟩:=E;have D:=bt V o;have T:wr.cell? ⟨w.heap.size+1,0,none⟩=some (int i64 0):=by rw[l.cell (p:=⟨w.heap.size+1,0,none⟩) (by simp)];simp[go_sem]
   have U:wr.cell? ⟨w.heap.size+1,1,none⟩=some (int i64 0):=by rw[l.cell (p:=⟨w.heap.size+1,1,none⟩) (by simp)];simp[go_sem]
   have k6:wr.frozen? ⟨w.heap.size+1,0,none⟩=false:=by rw[l.frozen (p:=⟨w.heap.size+1,0,none⟩) (by simp)];simp[go_sem]
   have k7:wr.frozen? ⟨w.heap.size+1,1,none⟩=false:=by rw[l.frozen (p:=⟨w.heap.size+1,1,none⟩) (by simp)];simp[go_sem]
   go_wp2_with fail;exact eQ (v:=.tuple #[rv X Y,int i64 0]) (by simp[results,results99,go_sem,T,U]) rfl ⟨rfl,bs (bs D (by simp) _) (by simp) _⟩
theorem duZ (a b n p q e:Int)(h:Rt.xH a b n=(p,q,e))(w:World) :
  Calls prog 99 #[rv a b,int i64 n] w (iQ w (.tuple #[rv p q,int i64 e])):=by
 cases r:Rt.rQ a b with
 | false =>
  unfold Rt.xH at h;rw[zQ (by simp[r])] at h;simp only[cQ] at h;obtain⟨rfl,rfl,rfl⟩:=h;exact dtJ a b n r w
 | true =>
  by_cases g:n<0\/4096<n
  ·unfold Rt.xH at h
   rw[jQ r,jQ g] at h;simp only[cQ] at h;obtain⟨rfl,rfl,rfl⟩:=h;exact duQ a b n r g w
  ·obtain⟨a1,a2,b1,b2⟩:=Rt.vF r
   obtain⟨x,rfl⟩:=nY a1;obtain⟨y,rfl⟩:=nY (show 0<=b by omega);obtain⟨m,rfl⟩:=nY (show 0<=n by omega);exact duX x y m r (by omega) p q e h w
theorem duJ {a:Int}(h:a=b):Ending.returned (int i64 a)=.returned (int i64 b):=by rw[h]
theorem xR (n lo hi:Int)(w:World) :
  Calls prog 92 #[int i64 n,int i64 lo,int i64 hi] w fun e w'=>e=.returned (int i64 (zU lo hi n))/\w' = w:=by
 go_enter func92,ntmps92;go_wp2
 all_goals
  go_ret;refine⟨duJ ?_,rfl⟩;unfold zU
  first|omega|(split at * <;> omega)
theorem dvQ (x:Int)(n:Nat)(l:n<=4096)(k:1<=x)(h:x ^ n<=1073741824)(w:World) :
  Calls prog 182 #[int i64 x,int i64 (n:Int)] w fun e w'=>e=.returned (int i64 (x ^ n))/\w' = w:=by
 have H:=qQ h;clear h;go_enter func182,ntmps182;go_wp2
 go_loop [5,7] (fun a c=>∃ i:Nat,i<=n/\a=int i64 (x ^ i)/\c=int i64 (i:Int)) (fun _ c=>n - (intOf c).toNat)
 case atStart=>exact⟨0,dQ _,by simp,rfl⟩
 case round =>
  obtain⟨i,hi,rfl,rfl⟩:=hrel;obtain⟨P,g⟩:∃ P,x ^ i=P:=⟨_,rfl⟩;by_cases c:i<n
  ·have b1:=fK (bnZ k (show i+1<=n from c)) H.out
   have b0:=uD k (i+1);have j:Hid (x ^ (i+1)=P*x):=by show x ^ (i+1)=P*x;rw[wL,g]
   rw[j.out] at b1 b0;rw[g];clear g H;go_wp2
   go_round
   case rel=>exact⟨i+1,c,by rw[j.out],by go_num⟩
   case measure=>simp[intOf];omega
  ·have:i=n:=by omega
   subst this;go_wp2;go_ret;exact⟨rfl,rfl⟩
theorem dvX (u d:Int)(n:Nat)(H:n<=4096)(G:1<=d)(y:u<=1073741824)(B:d<=u)(r:Bool)(D:1<=n)(l:decide (1073741824<(u+d)*u ^ n)=r)(w:World) :
  Calls prog 154 #[rv u d,int i64 (n:Int)] w (iQ w (.bool r)):=by
 have E:1<=u:=by omega
 have v:=qQ l;clear l;have z:=ba w (.cells #[int i64 u,int i64 d] 37);go_enter func154,ntmps154;go_wp2
 go_loop [5,12] (fun a c=>∃ i:Nat,i<=n/\a=int i64 ((u+d)*u ^ i)/\c=int i64 (i:Int)/\(i=0\/(u+d)*u ^ i<=1073741824)) (fun _ c=>n - (intOf c).toNat)
 case atStart=>exact⟨0,dQ _,by simp,rfl,.inl rfl⟩
 case round =>
  obtain⟨i,hi,rfl,rfl,g⟩:=hrel;obtain⟨P,j⟩:∃ P,(u+d)*u ^ i=P:=⟨_,rfl⟩;have m:0<=P:=by rw[<-j];exact sD (by omega) (b9 (by omega) _)
  have o:P<=2147483648:=by
   rcases g with rfl|h
   ·rw[<-j];simp;omega
   ·omega
  by_cases c:i<n
  ·have p:Hid ((u+d)*u ^ (i+1)=P*u):=by show _=_;rw[wL,<-pK,j]
   have b0:0<=P*u:=sD m (by omega);have b1:P*u<=2147483648*1073741824:=nH o y (by omega) (by omega);rw[j];clear g j;by_cases c2:1073741824<P*u
   ·have l:r=true:=by
     rw[<-v.out,decide_eq_true_iff];obtain⟨k,C⟩:=Nat.le.dest (show i+1<=n from c);rw[<-C,Int.pow_add,<-pK,p.out];have A:=uD E k;have F:=tR A b0;omega
    subst l;clear p v;go_wp2;go_ret;exact⟨rfl,z⟩
   ·have c3:P*u<=1073741824:=by omega
    go_wp2
    go_round
    case rel=>exact⟨i+1,c,by rw[p.out],by go_num,.inr (by rw[p.out];exact c3)⟩
    case measure=>simp[intOf];omega
  ·have:i=n:=by omega
   subst this
   have l:r=false:=by
    rw[<-v.out,decide_eq_false_iff_not];rcases g with rfl|h <;> omega
   subst l;clear v g j m o;go_wp2;go_ret;exact⟨rfl,z⟩
theorem boX (u d er:Int)(h:kG u d=er)(w:World) :
  Calls prog 98 #[rv u d] w (iQ w (int i64 er)):=by
 obtain⟨b,j⟩:∃ b,Rt.rQ u d=b:=⟨_,rfl⟩;rw[kG,j] at h;have i:=ba w (.cells #[int i64 u,int i64 d] 37);have m:=right_any u d b j (w.alloc (.cells #[int i64 u,int i64 d] 37));clear j;cases b with
 | false =>
  simp at h;subst h;go_enter func98,ntmps98;go_wp2_with fail;refine m.mono ?_;rintro e o ⟨rfl,a⟩;have g:=bt i a;go_wp2;go_ret;exact⟨rfl,g⟩
 | true =>
  simp at h;by_cases c:u<d
  ·rw[jQ c] at h
   subst h;go_enter func98,ntmps98;go_wp2_with fail;refine m.mono ?_;rintro e o ⟨rfl,a⟩;have g:=bt i a;obtain⟨k,l⟩:=bcell a;go_wp2;go_ret;exact⟨rfl,g⟩
  ·rw[zQ c] at h
   subst h;go_enter func98,ntmps98;go_wp2_with fail;refine m.mono ?_;rintro e o ⟨rfl,a⟩;have g:=bt i a;obtain⟨k,l⟩:=bcell a;go_wp2;go_ret;exact⟨rfl,g⟩
theorem dvZ (u d n p q er:Int)(h:dF u d n=(p,q,er))(w:World) :
  Calls prog 53 #[rv u d,int i64 n] w (iQ w (.tuple #[rv p q,int i64 er])):=by
 obtain⟨e0,i⟩:∃ e0,kG u d=e0:=⟨_,rfl⟩;rw[dF,i] at h;have y:=boX u d e0 i;by_cases c:e0=0
 ·subst c
  simp at h;have kp:=duZ u d n p q er h;clear h i;go_enter func53,ntmps53;go_wp2_with fail;refine(y _).mono ?_;rintro e z ⟨rfl,a⟩;have k:=bt (bal (ba _ _) _) a;obtain⟨g,m⟩:=bcell a;go_wp2_with fail;refine(kp _).mono ?_;rintro e C ⟨rfl,j⟩;have A:=bt k j;obtain⟨l,B⟩:=bcell j;have o:w.heap.size+1<z.heap.size:=by have:=a.size;simp at this;omega
  go_wp2_with fail;exact eQ (v:=.tuple #[rv p q,int i64 er]) (by simp[results,results53,go_sem,g,l,o]) rfl ⟨rfl,bs (bs A (by simp) _) (by simp) _⟩
 ·simp only[ne_eq,c,not_false_eq_true,uA,cQ] at h
  obtain⟨rfl,rfl,rfl⟩:=h;have c2:(e0 != 0)=true:=by simpa using c
  go_enter func53,ntmps53;go_wp2_with fail;refine(y _).mono ?_;rintro e z ⟨rfl,a⟩;have k:=bt (bal (ba _ _) _) a;obtain⟨g,m⟩:=bcell a;go_wp2_with fail;exact eQ (v:=.tuple #[rv 0 0,int i64 e0]) (by simp[results,results53,go_sem,g]) rfl ⟨rfl,bs (bs k (by simp) _) (by simp) _⟩
def eX (x m:Int):Int:=x ^ m.toNat
theorem dvJ (x m:Int)(a:0<=m)(i:m<=4096)(g:1<=x)(h:eX x m<=1073741824)(w:World) :
  Calls prog 182 #[int i64 x,int i64 m] w fun e w'=>e=.returned (int i64 (eX x m))/\w' = w:=by
 obtain⟨n,rfl⟩:=nY a;exact dvQ x n (by omega) g h w
theorem jB {lo:Int}{a:Nat}(h:i<=R):(nA u d lo R a).take (i+1)=(nA u d lo R a).take i++[([lo+(i:Int)],hwt u d R a i)]:=by
 rw[rX];congr 1;have g:i<R+1:=by omega
 simp[nA,g]
theorem boZ {lo:Int}{a:Nat}(h:R+1<=i):(nA u d lo R a).take i=nA u d lo R a:=gJ (by simp[nA];omega)
theorem vB (W:World)(z:Int)(nb:Nat)(a:nb≠W.heap.size):yQ (W.alloc (.cells #[int i64 z] 3)) (W.heap.size+1) nb (.slice (some ⟨W.heap.size,0,none⟩) 1 1) [z]:=by
 refine⟨_,1,rfl,vQ _,by simp,fun _=>⟨W.heap.size,0,rfl,by omega,fun e=>a e.symm,fun i x hi=>?_⟩⟩
 match i,hi with
 | 0,hi=>simp at hi;subst hi;simp[go_sem]
theorem k9 (h:∀ g,v.ownBlock=some g->g<n)(a:0<n):∃ k,k<n/\∀ g,v.ownBlock=some g->k=g:=by
 cases e:v.ownBlock with
 | none=>exact⟨0,a,fun g e=>by cases e⟩
 | some g=>exact⟨g,h g e,fun g' e=>by simpa using e⟩
theorem dwQ (u d lo:Int)(R a:Nat)(hR1:1<=R)(hR:R<=64)(ha:a<=R)(hd:1<=d)(hdu:d<=u)(hu:u<=1073741824)(hm:(u+d)*u ^ R<=1073741824)(hlo:-1073741824<=lo)(hhi:lo+(R:Int)<=1073741824)(l:List Pt)(er:Int)(hr:iV (nA u d lo R a)=(l,er))(w:World) :
  Calls prog 155 #[rv u d,.int .i64 lo,.int .i64 (lo+(R:Int)),.int .i64 (lo+(a:Int))] w fun e w'=>∃ v' us,e=.returned (.tuple #[v',.int .i64 er])/\rd us=l/\uV w' w.heap.size v' us/\Below w.heap.size w w'/\dZ w.heap.size us:=by
 have HM:Hid ((u+d)*u ^ R<=1073741824):=hm;have HR:Hid (iV (nA u d lo R a)=(l,er)):=hr;obtain⟨i0,hi0,hz0,hz1,hz2⟩:=pZ gM;clear hm hr;obtain⟨w0,hw0⟩:∃ w0,w.alloc (.cells #[.int .i64 u,.int .i64 d] 37)=w0:=⟨_,rfl⟩;have hb0:Below w.heap.size w w0:=hw0▸ba w _;have hs0:w.heap.size<w0.heap.size:=by rw[<-hw0];simp
 have p1:w0.cell? ⟨w.heap.size,0,none⟩=some (.int .i64 u):=by rw[<-hw0];simp[go_sem]
 have p2:w0.cell? ⟨w.heap.size,1,none⟩=some (.int .i64 d):=by rw[<-hw0];simp[go_sem]
 go_enter func155,ntmps155;go_wp2_with fail;clear hw0
 go_loopw [10,11] (fun pv zv wr=>∃ (i:Nat) (ds:List Tr),zv=.int .i64 (lo+(i:Int))/\i<=R+1/\Hid (rd ds=(nA u d lo R a).take i/\ds.length=i)/\Hid (nQ wr w0.heap.size pv ds)/\Below w0.heap.size w0 wr) (fun _ zv _=>((lo+(R:Int)+1) - intOf zv).toNat)
 case atStart=>exact⟨0,[],by simp,dQ _,⟨by simp[rd],rfl⟩,nQ.nil _ _,uQ _ _⟩
 case round =>
  obtain⟨i,ds,rfl,hit,HD,HW,hbl⟩:=hrel;have hbs:=hbl.size;have hpl:=HW.out.lt;obtain⟨pa,pc,rfl⟩:=HW.out.slice;have HDL:Hid (ds.length<=65):=by have:=HD.out.2;show ds.length<=65;omega
  by_cases h1:i<=R
  ·obtain⟨M,hM⟩:∃ M,max (lo+(i:Int) - (lo+(a:Int))) (lo+(a:Int) - (lo+(i:Int)))=M:=⟨_,rfl⟩
   have hM0:0<=M:=by omega
   have hMR:M<=(R:Int):=by omega
   have HG:Hid (gk u d R (i - a+(a - i))=eX d M*eX u (lo+(R:Int) - lo - M)):=by
    show _=_
    unfold gk eX;rw[show M.toNat=i - a+(a - i) by omega,show(lo+(R:Int) - lo - M).toNat=R - (i - a+(a - i)) by omega]
   have hP1:1<=eX d M:=uD hd _;have hS1:1<=eX u (lo+(R:Int) - lo - M):=uD (by omega) _
   have hPS1:eX d M*eX u (lo+(R:Int) - lo - M)<=1073741824:=by
    have b1:=boQ hd hdu (R:=R) (k:=0) (s:=i - a+(a - i)) (by omega);rw[vX,HG.out,d9] at b1;have b2:=uD (show 1<=u by omega) R;have b3:=rR (show 1<=u+d by omega) (show 0<=u ^ R by omega);have:=HM.out;omega
   have hPS0:0<=eX d M*eX u (lo+(R:Int) - lo - M):=sD (by omega) (by omega)
   have hPb:eX d M<=1073741824:=by
    have:=tR hS1 (show 0<=eX d M by omega);omega
   have hSb:eX u (lo+(R:Int) - lo - M)<=1073741824:=by
    have:=rR hP1 (show 0<=eX u (lo+(R:Int) - lo - M) by omega);omega
   have c1:wr.cell? ⟨w.heap.size,0,none⟩=some (.int .i64 u):=(hbl.cell (p:=⟨w.heap.size,0,none⟩) (by show w.heap.size<_;omega)).trans p1;have c2:wr.cell? ⟨w.heap.size,1,none⟩=some (.int .i64 d):=(hbl.cell (p:=⟨w.heap.size,1,none⟩) (by show w.heap.size<_;omega)).trans p2;clear HM HR;have wE:IntKind.i64.wrap (lo+(R:Int) - lo)=lo+(R:Int) - lo:=by rw[lJ];omega
   have wF:IntKind.i64.wrap (lo+(R:Int) - lo - M)=lo+(R:Int) - lo - M:=by rw[lJ];omega
   have wP:IntKind.i64.wrap (eX d M*eX u (lo+(R:Int) - lo - M))=eX d M*eX u (lo+(R:Int) - lo - M):=by rw[lJ];omega
   go_wp2_with fail;clear hM
   go_region_held3 (fun w'=>w'.cell? ⟨w.heap.size,0,none⟩=some (.int .i64 u)/\w'.cell? ⟨w.heap.size,1,none⟩=some (.int .i64 d))
    ((go_split_ands;refine⟨?_,?_⟩ <;> first|assumption|(simp[go_sem, *];done)))
    ((go_at_call 182;refine(dvJ _ _ ?_ ?_ ?_ ?_ _).mono ?_;(omega);(omega);(omega);(assumption);rintro x1 w1 ⟨rfl,rfl⟩))
   obtain⟨X,hX⟩:∃ X,eX d M*eX u (lo+(R:Int) - lo - M)=X:=⟨_,rfl⟩;obtain⟨W,hW⟩:∃ W,wr.drew=W:=⟨_,rfl⟩;have HBr:Hid (Below wr.heap.size wr W):=hW▸(uQ _ _).drew;have hWs:wr.heap.size<=W.heap.size:=HBr.out.size;rw[hX] at HG hPS1 hPS0 ⊢;rw[hW];have HBd:Hid (Below w0.heap.size w0 W):=bt hbl HBr.out;have HWd:Hid (nQ W w0.heap.size (.slice pa ds.length pc) ds):=HW.out.keep HBr.out;have d1:W.cell? ⟨w.heap.size,0,none⟩=some (.int .i64 u):=(HBr.out.cell (p:=⟨w.heap.size,0,none⟩) (by show w.heap.size<_;omega)).trans c1;have d2:W.cell? ⟨w.heap.size,1,none⟩=some (.int .i64 d):=(HBr.out.cell (p:=⟨w.heap.size,1,none⟩) (by show w.heap.size<_;omega)).trans c2;obtain⟨mo,hmo,hmg⟩:=k9 (n:=W.heap.size) (fun g e=>by have:=(hpl g e).2;omega) (by omega);have HMG:Hid (∀ g,(Value.slice pa ds.length pc).ownBlock=some g->mo=g):=hmg
   have HI:Hid (yQ (W.alloc (.cells #[.int .i64 (lo+(i:Int))] 3)) (W.alloc (.cells #[.int .i64 (lo+(i:Int))] 3)).heap.size mo (.slice (some ⟨W.heap.size,0,none⟩) 1 1) [lo+(i:Int)]):=by
    have:=vB W (lo+(i:Int)) mo (by omega);rw[Hid,show(W.alloc (.cells #[.int .i64 (lo+(i:Int))] 3)).heap.size=W.heap.size+1 by simp];exact this
   have b1:0<=X*u:=sD hPS0 (by omega);have b2:X*u<=1073741824*1073741824:=nH hPS1 hu (by omega) (by omega);have b3:0<=X*(u - d):=sD hPS0 (by omega);have b4:X*(u - d)<=1073741824*1073741824:=nH hPS1 (by omega) (by omega) (by omega);clear hX hW HW wE wF wP hP1 hS1 hPb hSb hpl hmg c1 c2 hM0 hMR;by_cases e1:i=0
   ·have y1:(lo+(i:Int) == lo)=true:=by simp;omega
    have E1:Hid (i=0):=e1;clear e1;have HO:Hid (nQ ((W.alloc (.cells #[.int .i64 (lo+(i:Int))] 3)).alloc (.cells #[.slice (some ⟨W.heap.size,0,none⟩) 1 1,.int .i64 (X*u)] 186)) w0.heap.size (.slice pa ds.length pc) ds):=HWd.out.keep (bal (ba _ _) _);go_wp2_with (at_builtin;refine iO _ rfl _ _ 92 rfl w0.heap.size 186 i0 (.agg #[.slice none 0 0,.int .i64 0]) 2 32 underlying92 hi0 hz0 hz1 hz2 rfl (by decide) _ _ _ rfl HO.out.1 ⟨W.heap.size+1,0,none⟩ 1 1 [.slice (some ⟨W.heap.size,0,none⟩) 1 1,.int .i64 (X*u)] rfl ?q1 ?q2 ?q3 ?q4 ?q5 ?q6 ?_)
    case q1=>rfl
    case q2 =>
     intro j u hj
     match j,hj with
     | 0,hj=>simp at hj;subst hj;simp[go_sem,Addr.add]
     | 1,hj=>simp at hj;subst hj;simp[go_sem,Addr.add]
    case q3=>intro u hu;simp at hu;rcases hu with rfl|rfl <;> rfl
    case q4=>have:=HDL.out;simp[maxLen];omega
    case q5=>have:=HDL.out;omega
    case q6=>simp;omega
    intro v3 w3 hown3 hgrow hnil hat;have HW3:Hid (nQ w3 w0.heap.size v3 (ds++[(.slice (some ⟨W.heap.size,0,none⟩) 1 1,[lo+(i:Int)],X*u)])):=HO.out.app hown3 hgrow (by simpa using hat) (HI.out.at2 (ba _ _)) HMG.out;have hb3:Below w0.heap.size w0 w3:=(bal (bal HBd.out _) _).grown hgrow (by simp;omega) (xJ HO.out.1);obtain⟨a3,c3,rfl⟩:=HW3.out.slice
    have HD3:Hid (rd (ds++[((.slice (some ⟨W.heap.size,0,none⟩) 1 1,[lo+(i:Int)],X*u):Tr)])=(nA u d lo R a).take (i+1)/\(ds++[((.slice (some ⟨W.heap.size,0,none⟩) 1 1,[lo+(i:Int)],X*u):Tr)]).length=i+1):=by
     refine⟨?_,by simp[HD.out.2]⟩;rw[jB h1,<-HD.out.1];simp only[rd,iA,aI,iC];rw[hwt,HG.out,jQ (.inl E1.out)]
    clear hown3 hgrow hnil hat HO;go_wp2
    go_roundw
    case rel=>exact⟨i+1,_,by go_num,by omega,HD3,HW3,hb3⟩
    case measure=>simp[intOf];omega
   ·by_cases e2:i=R
    ·have y1:(lo+(i:Int) == lo)=false:=by simp;omega
     have y2:(lo+(i:Int) == lo+(R:Int))=true:=by simp;omega
     have E2:Hid (i=R):=e2;clear e2;have HO:Hid (nQ ((W.alloc (.cells #[.int .i64 (lo+(i:Int))] 3)).alloc (.cells #[.slice (some ⟨W.heap.size,0,none⟩) 1 1,.int .i64 (X*u)] 186)) w0.heap.size (.slice pa ds.length pc) ds):=HWd.out.keep (bal (ba _ _) _);go_wp2_with (at_builtin;refine iO _ rfl _ _ 92 rfl w0.heap.size 186 i0 (.agg #[.slice none 0 0,.int .i64 0]) 2 32 underlying92 hi0 hz0 hz1 hz2 rfl (by decide) _ _ _ rfl HO.out.1 ⟨W.heap.size+1,0,none⟩ 1 1 [.slice (some ⟨W.heap.size,0,none⟩) 1 1,.int .i64 (X*u)] rfl ?q1 ?q2 ?q3 ?q4 ?q5 ?q6 ?_)
     case q1=>rfl
     case q2 =>
      intro j u hj
      match j,hj with
      | 0,hj=>simp at hj;subst hj;simp[go_sem,Addr.add]
      | 1,hj=>simp at hj;subst hj;simp[go_sem,Addr.add]
     case q3=>intro u hu;simp at hu;rcases hu with rfl|rfl <;> rfl
     case q4=>have:=HDL.out;simp[maxLen];omega
     case q5=>have:=HDL.out;omega
     case q6=>simp;omega
     intro v3 w3 hown3 hgrow hnil hat;have HW3:Hid (nQ w3 w0.heap.size v3 (ds++[(.slice (some ⟨W.heap.size,0,none⟩) 1 1,[lo+(i:Int)],X*u)])):=HO.out.app hown3 hgrow (by simpa using hat) (HI.out.at2 (ba _ _)) HMG.out;have hb3:Below w0.heap.size w0 w3:=(bal (bal HBd.out _) _).grown hgrow (by simp;omega) (xJ HO.out.1);obtain⟨a3,c3,rfl⟩:=HW3.out.slice
     have HD3:Hid (rd (ds++[((.slice (some ⟨W.heap.size,0,none⟩) 1 1,[lo+(i:Int)],X*u):Tr)])=(nA u d lo R a).take (i+1)/\(ds++[((.slice (some ⟨W.heap.size,0,none⟩) 1 1,[lo+(i:Int)],X*u):Tr)]).length=i+1):=by
      refine⟨?_,by simp[HD.out.2]⟩;rw[jB h1,<-HD.out.1];simp only[rd,iA,aI,iC];rw[hwt,HG.out,jQ (.inr E2.out)]
     clear hown3 hgrow hnil hat HO;go_wp2
     go_roundw
     case rel=>exact⟨i+1,_,by go_num,by omega,HD3,HW3,hb3⟩
     case measure=>simp[intOf];omega
    ·have y1:(lo+(i:Int) == lo)=false:=by simp;omega
     have y2:(lo+(i:Int) == lo+(R:Int))=false:=by simp;omega
     have HO:Hid (nQ ((W.alloc (.cells #[.int .i64 (lo+(i:Int))] 3)).alloc (.cells #[.slice (some ⟨W.heap.size,0,none⟩) 1 1,.int .i64 (X*(u - d))] 186)) w0.heap.size (.slice pa ds.length pc) ds):=HWd.out.keep (bal (ba _ _) _);go_wp2_with (at_builtin;refine iO _ rfl _ _ 92 rfl w0.heap.size 186 i0 (.agg #[.slice none 0 0,.int .i64 0]) 2 32 underlying92 hi0 hz0 hz1 hz2 rfl (by decide) _ _ _ rfl HO.out.1 ⟨W.heap.size+1,0,none⟩ 1 1 [.slice (some ⟨W.heap.size,0,none⟩) 1 1,.int .i64 (X*(u - d))] rfl ?q1 ?q2 ?q3 ?q4 ?q5 ?q6 ?_)
     case q1=>rfl
     case q2 =>
      intro j u hj
      match j,hj with
      | 0,hj=>simp at hj;subst hj;simp[go_sem,Addr.add]
      | 1,hj=>simp at hj;subst hj;simp[go_sem,Addr.add]
     case q3=>intro u hu;simp at hu;rcases hu with rfl|rfl <;> rfl
     case q4=>have:=HDL.out;simp[maxLen];omega
     case q5=>have:=HDL.out;omega
     case q6=>simp;omega
     intro v3 w3 hown3 hgrow hnil hat;have HW3:Hid (nQ w3 w0.heap.size v3 (ds++[(.slice (some ⟨W.heap.size,0,none⟩) 1 1,[lo+(i:Int)],X*(u - d))])):=HO.out.app hown3 hgrow (by simpa using hat) (HI.out.at2 (ba _ _)) HMG.out;have hb3:Below w0.heap.size w0 w3:=(bal (bal HBd.out _) _).grown hgrow (by simp;omega) (xJ HO.out.1);obtain⟨a3,c3,rfl⟩:=HW3.out.slice
     have HD3:Hid (rd (ds++[((.slice (some ⟨W.heap.size,0,none⟩) 1 1,[lo+(i:Int)],X*(u - d)):Tr)])=(nA u d lo R a).take (i+1)/\(ds++[((.slice (some ⟨W.heap.size,0,none⟩) 1 1,[lo+(i:Int)],X*(u - d)):Tr)]).length=i+1):=by
      refine⟨?_,by simp[HD.out.2]⟩;rw[jB h1,<-HD.out.1];simp only[rd,iA,aI,iC];rw[hwt,HG.out,zQ (by omega)]
     clear hown3 hgrow hnil hat HO;go_wp2
     go_roundw
     case rel=>exact⟨i+1,_,by go_num,by omega,HD3,HW3,hb3⟩
     case measure=>simp[intOf];omega
  ·have HF:Hid (rd ds=nA u d lo R a):=by rw[Hid,HD.out.1,boZ (by omega)]
   have HP2:Hid (uX wr wr.heap.size (.slice pa ds.length pc) ds):=HW.out.parts (by have:=HDL.out;omega);have kc:=n8 wr.heap.size (.slice pa ds.length pc) ds wr (vQ _) HP2.out l er (by rw[HF.out];exact HR.out);clear HW HD hpl HF HM HR;go_wp2_with fail;refine kc.mono ?_;rintro e w5 ⟨v5,xs,rfl,k1,k2,k3,k4⟩;obtain⟨b5,d5,rfl⟩:=k2.slice;clear kc;have K4:Hid (dZ w.heap.size xs):=k4.mono (by omega);have K2:Hid (uV w5 w.heap.size (.slice b5 xs.length d5) xs):=k2.mono (by omega);have K3:Hid (Below w.heap.size w w5):=hb0.trans ((bt hbl k3).mono hb0.size);have K1:Hid (rd xs=l):=k1;clear k1 k2 k3 k4;go_wp2;exact eQ (v:=.tuple #[.slice b5 xs.length d5,.int .i64 er]) (by simp[results,results155,go_sem]) rfl ⟨_,xs,rfl,K1.out,K2.out,K3.out,K4.out⟩

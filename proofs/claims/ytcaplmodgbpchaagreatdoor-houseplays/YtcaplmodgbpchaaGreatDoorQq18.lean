import Derived.Test.YtcaplmodgbpchaaGreatDoorQq17
open Go.Proofs.Tryz
open Go.Value(int)
open Go.IntKind(i64)
set_option linter.unusedSimpArgs false
set_option maxHeartbeats 16000000
set_option maxRecDepth 100000
namespace Go.Proofs.YtcaplmodgbpchaaGreatDoor
variable {w:World} {B c nb:Nat} {a:Option Addr} {xs:List Int}
section
open Go.RowKit Ds
def kU (l:List Pt) (er:Int) (w:World) (e:Ending) (w':World):Prop :=
 ∃ v' ds,e=.returned (.tuple #[v',int i64 er])/\rd ds=l/\uX w' w'.heap.size v' ds/\xQ w w'/\∀ g,v'.ownBlock=some g->w.heap.size<=g
theorem yQ.rest (h:yQ w B nb (.slice a xs.length c) xs)(j:Nat)(m:j<=xs.length)(s:Option Addr)
  (v:∀ b o,a=some ⟨b,o,none⟩->s=if c=j then some ⟨b,o,none⟩ else some ⟨b,o+j,none⟩):yQ w B nb (.slice s (xs.length - j) (c - j)) (xs.drop j):=by
 by_cases g:xs.drop j=[]
 ·have p:xs.length - j=0:=by have:=congrArg List.length g;simpa using this
  rw[p,g];exact⟨s,c - j,rfl,by simp,by simp,fun h=>absurd rfl h⟩
 ·have i:xs≠[]:=by rintro rfl;simp at g
  obtain⟨z,A,l,_,_,y⟩:=id h;simp only[yZ] at l;obtain⟨rfl,_,rfl⟩:=l;obtain⟨b,o,rfl,_⟩:=y i;have k:=h.drop2 j m;rw[pF] at k;rw[v b o rfl];exact k
theorem b2X (B nb:Nat)(v u:Value)(ts:List Tr)(bits:List Int)(i:Int)(w:World)(hB:B<=w.heap.size)(hp:uX w B v ts)(hv:pU w B nb u bits)(ht:-9223372036854775808<=i/\i<=9223372036854775807)(l:List Pt)(er:Int)(hr:bH (rd ts) bits i=(l,er)) :
  Calls prog 36 #[v,u,int i64 i] w (kU l er w):=by
 obtain⟨⟨l0,e0⟩,ho⟩:∃ x,fU (rd ts)=x:=⟨_,rfl⟩;have kw:=e5Z B v ts w hB hp e0 (by rw[ho]);have HP:=qQ hp;have HV:=qQ hv;have HO:=qQ ho;have HR:=qQ hr;obtain⟨a,c,rfl,hc,hl,_⟩:=hp;obtain⟨⟨ua,uc,rfl⟩,_⟩:=hv;clear hr ho;go_enter func36,ntmps36;go_wp2_with fail;refine kw.mono ?_;rintro e w1 ⟨rfl,I⟩;clear kw;by_cases h0:¬ e0=0
 ·have cn:(e0 == 0)=false:=by simpa using h0
  have h:=HR.out;simp only[bH,HO.out,zQ h0,cQ] at h;obtain⟨rfl,rfl⟩:=h;go_wp2;exact eQ (v:=.tuple #[.slice none 0 0,int i64 e0]) (by simp[results,results36,go_sem]) rfl ⟨.slice none 0 0,[],rfl,rfl,yH _ _,I,fun g e=>by cases e⟩
 obtain rfl:e0=0:=by omega
 have HD:=qQ ((qB HO.out).2);have cu:=I.size;obtain⟨r,hr⟩:∃ r,xU bits i=r:=⟨_,rfl⟩;have Z:=qQ hr;have kb:=e4Z B nb (.slice ua bits.length uc) bits i w1 (HV.out.at hB I) r hr;clear h0 hr;go_wp2_with fail;refine kb.mono ?_;rintro e ca ⟨rfl,c7⟩;subst c7;clear kb;by_cases h1:¬ r=0
 ·have co:(r == 0)=false:=by simpa using h1
  have h:=HR.out;simp only[bH,HO.out,uA,cF,Z.out,zQ h1,cQ] at h;obtain⟨rfl,rfl⟩:=h;go_wp2;exact eQ (v:=.tuple #[.slice none 0 0,int i64 r]) (by simp[results,results36,go_sem]) rfl ⟨.slice none 0 0,[],rfl,rfl,yH _ _,I,fun g e=>by cases e⟩
 obtain rfl:r=0:=by omega
 have X:=Z.out;unfold xU at X
 have b3:bits.length<=65536:=by
  rcases Nat.lt_or_ge 65536 bits.length with h|h
  ·rw[jQ h] at X;omega
  ·exact h
 rw[zQ (by omega)] at X;have H:¬ (i<0\/4096<i\/kY bits=true):=fun h=>by rw[jQ h] at X;omega
 have an:Hid (kY bits=false):=by
  cases hb:kY bits with
  | true=>exact absurd (.inr (.inr hb)) H
  | false=>rfl
 have b6:0<=i/\i<=4096:=⟨by rcases Int.lt_or_le i 0 with h|h;exact absurd (.inl h) H;exact h,by rcases Int.lt_or_le 4096 i with h|h;exact absurd (.inr (.inl h)) H;exact h⟩;obtain⟨T,rfl⟩:=nY b6.1;have h:=HR.out;simp only[bH,HO.out,uA,cF,Z.out,cQ,tF] at h;have HL:=qQ h.1;obtain rfl:(0:Int)=er:=h.2;have hT:T<=4096:=by omega
 have bm:=qQ ((HV.out.at hB I).2 b3);have bw:xQ w ca:=I;obtain⟨i0,ay,bb,bc,bf⟩:=pZ bkJ;clear h H X h1 HR Z b6;go_wp2
 go_loopw [1,10] (fun bv ov wr=>∃ (j:Nat) (ds:List Tr) (a':Option Addr) (c':Nat),bv=.slice a' (bits.drop j).length c'/\Hid (yQ wr B nb bv (bits.drop j))/\ds.length<=T/\Hid (qY wr w.heap.size ov ds)/\xQ w wr/\Hid (rd ds++iG (cV (rd ts)) (T - ds.length) (bits.drop j)=l)) (fun _ ov _=>T - slen ov)
 case atStart=>exact⟨0,[],ua,uc,by simp,by rw[nL];exact bm,dQ _,qY.nil _ _,bw,by simpa [rd,Hid] using HL.out⟩
 case round =>
  obtain⟨j,ds,a',c',rfl,a6,cr,HW,R,C⟩:=hrel;have hz:=R.size;have V:=HW.out.lt;obtain⟨pa,pc,rfl⟩:=HW.out.slice;have a8:Hid (∀ g,(Value.slice pa ds.length pc).ownBlock=some g->w.heap.size<=g):=fun g e=>(V g e).1;have aa:(bits.drop j).length<=65536:=by simp;omega
  have ac:=qQ (xB an.out j);obtain⟨O,ai⟩:∃ O,bits.drop j=O:=⟨_,rfl⟩;rw[ai] at aa ac a6 C ⊢;have HJ:=qQ ai;clear ai;by_cases h4:ds.length<T
  ·have kc:=vT w.heap.size B nb (.slice a ts.length c) (.slice a' O.length c') ts O wr (by omega) hB (HP.out.at hB R) a6.out HD.out ac.out aa
   go_wp2_with fail;refine kc.mono ?_;rintro e z ⟨E,⟨h5,rfl⟩|⟨J,L,o,p,h5,az,rfl,h6⟩⟩
   ·have af:Hid (rd ds=l):=by have:=C.out;rw[o8 h5,bG] at this;exact this
    have D:=qQ ((HW.out.keep E).parts (by omega));have G:xQ w z:=bt R E;clear kc h5 HW C;go_wp2;exact eQ (v:=.tuple #[.slice pa ds.length pc,int i64 0]) (by simp[results,results36,go_sem]) rfl ⟨_,ds,rfl,af.out,(D.out.keep (ba _ _)).mono (by simp),bal G _,a8.out⟩
   ·have cw:=E.size
    obtain⟨mo,bx,b5⟩:∃ mo,((w.heap.size<=mo/\mo<wr.heap.size)\/mo=z.heap.size)/\∀ g,(Value.slice pa ds.length pc).ownBlock=some g->mo=g:=by
     cases e:(Value.slice pa ds.length pc).ownBlock with
     | none=>exact⟨z.heap.size,.inr rfl,fun g e=>by cases e⟩
     | some g=>exact⟨g,.inl (V g e),fun g' e=>by simpa using e⟩
    have D:=qQ (HW.out.keep E)
    have aq:Hid (rd (ds++[(.slice J o.length L,o,(p:Int))])++iG (cV (rd ts)) (T - (ds++[((.slice J o.length L,o,(p:Int)):Tr)]).length) (O.drop p)=l):=by
     have:=C.out;rw[show T - ds.length=(T - (ds.length+1))+1 by omega,t8 h5] at this;simpa [Hid,rd] using this
    have ao:=qQ (h6 mo bx);have M:=qQ (a6.out.at (by omega) E);have A:Hid (qY ((z.alloc (.cells #[.slice J o.length L,int i64 (p:Int)] 110)).alloc (.cells #[.slice J o.length L,int i64 (p:Int)] 110)) w.heap.size (.slice pa ds.length pc) ds):=D.out.keep (bal (ba _ _) _);have au:=qQ b5;have aw:Hid (∀ g,(Value.slice pa ds.length pc).ownBlock=some g->g<wr.heap.size):=fun g e=>(V g e).2;have Y:Hid (((z.alloc (.cells #[.slice J o.length L,int i64 (p:Int)] 110)).alloc (.cells #[.slice J o.length L,int i64 (p:Int)] 110)).cell? ⟨z.heap.size,1,none⟩=some (int i64 (p:Int))):=((Rv.new z (.slice J o.length L) (p:Int) 110 z.heap.size rfl).alloc _).c1;have G:xQ w z:=bt R E
    have ct:O.length<=c':=by
     obtain⟨_,_,y,cq,_⟩:=M.out;simp only[yZ] at y;omega
    clear kc h5 h6 HW C b5 V E a6 ac;cases a' with
    | none =>
     have br:O=[]:=by
      rcases O with _|⟨x,r⟩
      ·rfl
      ·obtain⟨_,_,y,_,_,hx⟩:=M.out
       obtain⟨b,o,ha,_⟩:=hx (by simp);simp only[yZ] at y;rw[ha] at y;cases y.1
     subst br;obtain rfl:p = 0:=by simpa using az
     go_wp2_with (at_builtin;refine iO _ rfl _ _ 89 rfl w.heap.size 110 i0 (.agg #[.slice none 0 0,int i64 0]) 2 32 underlying89 ay bb bc bf rfl (by decide) _ _ _ rfl A.out.1 ⟨z.heap.size+1,0,none⟩ 1 1 [.slice J o.length L,int i64 ((0:Nat):Int)] rfl ?q1 ?q2 ?q3 ?q4 ?q5 ?q6 ?_)
     case q1=>rfl
     case q2 =>
      intro j u F
      match j,F with
      | 0,F=>simp at F;subst F;simp[go_sem,Addr.add]
      | 1,F=>simp at F;subst F;simp[go_sem,Addr.add]
     case q3=>intro u hu;simp at hu;rcases hu with rfl|rfl <;> rfl
     case q4=>simp[maxLen];omega
     case q5=>omega
     case q6=>simp;omega
     intro v3 w3 m k U P;have N:Hid (qY w3 w.heap.size v3 (ds++[(.slice J o.length L,o,((0:Nat):Int))])):=A.out.app m k (by simpa using P) (ao.out.at2 (bal (ba _ _) _)) au.out;have Q:Below w.heap.size z w3:=(((uQ w.heap.size z).alloc (by omega) _).alloc (by simp;omega) _).grown k (by simp;omega) (xJ A.out.1);have c3:w3.cell? ⟨z.heap.size,1,none⟩=some (int i64 ((0:Nat):Int)):=k.cell Y.out (fun e=>by have:=aw.out z.heap.size e.symm;omega);obtain⟨a3,bn,rfl⟩:=N.out.slice;have S:xQ w w3:=G.trans Q;have ag:=qQ (M.out.keep (Q.mono hB));clear m k U P A D Y;go_wp2
     go_roundw
     case rel=>exact⟨j,ds++[(.slice J o.length L,o,((0:Nat):Int))],none,c',by rw[HJ.out];rfl,by rw[HJ.out];exact ag,by simp;omega,N,S,by rw[HJ.out];simpa using aq⟩
     case measure=>simp[slen];omega
    | some ad =>
     have cv:∃ b o,ad=⟨b,o,none⟩\/O=[]:=by
      rcases O with _|⟨x,r⟩
      ·exact⟨0,0,.inr rfl⟩
      ·obtain⟨_,_,y,_,_,hx⟩:=M.out
       obtain⟨b,o,ha,_⟩:=hx (by simp);simp only[yZ] at y;rw[ha] at y;exact⟨b,o,.inl (by simpa using y.1)⟩
     go_wp2_with (at_builtin;refine iO _ rfl _ _ 89 rfl w.heap.size 110 i0 (.agg #[.slice none 0 0,int i64 0]) 2 32 underlying89 ay bb bc bf rfl (by decide) _ _ _ rfl A.out.1 ⟨z.heap.size+1,0,none⟩ 1 1 [.slice J o.length L,int i64 (p:Int)] rfl ?q1 ?q2 ?q3 ?q4 ?q5 ?q6 ?_)
     case q1=>rfl
     case q2 =>
      intro j u F
      match j,F with
      | 0,F=>simp at F;subst F;simp[go_sem,Addr.add]
      | 1,F=>simp at F;subst F;simp[go_sem,Addr.add]
     case q3=>intro u hu;simp at hu;rcases hu with rfl|rfl <;> rfl
     case q4=>simp[maxLen];omega
     case q5=>omega
     case q6=>simp;omega
     intro v3 w3 m k U P;have N:Hid (qY w3 w.heap.size v3 (ds++[(.slice J o.length L,o,(p:Int))])):=A.out.app m k (by simpa using P) (ao.out.at2 (bal (ba _ _) _)) au.out;have Q:Below w.heap.size z w3:=(((uQ w.heap.size z).alloc (by omega) _).alloc (by simp;omega) _).grown k (by simp;omega) (xJ A.out.1);have c3:w3.cell? ⟨z.heap.size,1,none⟩=some (int i64 (p:Int)):=k.cell Y.out (fun e=>by have:=aw.out z.heap.size e.symm;omega);obtain⟨a3,bn,rfl⟩:=N.out.slice;have S:xQ w w3:=G.trans Q;have ag:=qQ (M.out.keep (Q.mono hB));clear m k U P A D Y;go_wp2
     go_roundw
     case rel =>
      have ae:bits.drop (j+p)=O.drop p:=by rw[<-HJ.out,List.drop_drop]
      refine⟨j+p,ds++[(.slice J o.length L,o,(p:Int))],(if c' = p then some ad else some (ad.add p)),c' - p,by rw[ae,pF],?_,by simp;omega,N,S,by rw[ae];exact aq⟩;rw[ae]
      exact ag.out.rest p az _ fun b o h=>by
       simp only[aZ] at h;subst h;rw[bJ]
     case measure=>simp[slen];omega
  ·have af:Hid (rd ds=l):=by have:=C.out;rw[show T - ds.length=0 by omega] at this;simpa [Hid,iG] using this
   have D:=qQ (HW.out.parts (by omega));clear HW C V;go_wp2;exact eQ (v:=.tuple #[.slice pa ds.length pc,int i64 0]) (by simp[results,results36,go_sem]) rfl ⟨_,ds,rfl,af.out,D.out,R,a8.out⟩

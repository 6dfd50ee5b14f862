import Derived.Test.YtdceajgpolckiaaGreatDoorQr08
import Derived.RangeFuncNested
import Derived.RangeFuncBound
import Derived.RangeFuncCalls
import Derived.RangeFuncLeaves
import Derived.Shelf.Abstract
import Derived.Shelf.RegionOpen
import Derived.OwnWalkIn
import Derived.TacticsInMore
import Derived.LoopNIn
import Derived.LoopIn
open Go.Proofs.Tryz
set_option linter.unusedSimpArgs false
set_option maxHeartbeats 16000000
set_option maxRecDepth 100000
namespace Go.Proofs.YtdceajgpolckiaaGreatDoor
variable {T u:Int} {bits o r:List Int} {W W' w:World} {B:Nat} {v:Value}
section
open Go.RowKit Ds
theorem ayX {l:List Pt}{pl nd u0:Int}(h:xG T l pl nd u0 bits=some (o,u,r)) :
  ∃ j:Nat,u=u0+j/\j<=bits.length/\xG T l pl nd u0 (bits.take j)=some (o,u,[]):=by
 induction bits generalizing pl nd u0 with
 | nil=>cases h
 | cons b bits ih =>
  simp only[xG] at h;cases e:(sZ T pl l)[(2*nd+b).toNat]? with
  | some o' =>
   rw[e] at h;simp only[zX,fQ] at h;obtain⟨rfl,rfl,rfl⟩:=h;exact⟨1,rfl,by simp,by simp[xG,e]⟩
  | none =>
   rw[e] at h;obtain⟨j,h1,h2,h3⟩:=ih h;refine⟨j+1,by rw[h1];omega,by simp;omega,?_⟩;rw[List.take_succ_cons];simp only[xG,e];exact h3
theorem cqJ {l:List Pt}(h:cA l bits=some (o,u,r)) :
  ∃ j:Nat,u=j/\j<=bits.length/\∃ r',cA l (bits.take j)=some (o,u,r'):=by
 match l,h with
 | [p],h =>
  simp only[cA,zX,fQ] at h;obtain⟨rfl,rfl,rfl⟩:=h;exact⟨0,rfl,kQ _,[],rfl⟩
 | [],h =>
  obtain⟨j,h1,h2,h3⟩:=ayX (show xG _ _ _ _ _ bits=_ from h);exact⟨j,by omega,h2,[],h3⟩
 | _::_::_,h =>
  obtain⟨j,h1,h2,h3⟩:=ayX (show xG _ _ _ _ _ bits=_ from h);exact⟨j,by omega,h2,[],h3⟩
end
section
open Go.RowKit Go.Shelf Ds
def wW:List Tr->List Tr->Int
 | [],_=>1
 | _::_,[]=>-1
 | a::_,b::_=>nX a.2.1 b.2.1
theorem sM (B:Nat)(u v:Value)(ts us:List Tr)(w:World)(hB:B<=w.heap.size)(hp:dQ w B u ts)(hq:dQ w B v us)(r:Int)(hr:wW ts us=r) :
  Calls prog 202 #[u,v] w fun e w'=>e=.returned (.int .i64 r)/\Below w.heap.size w w':=by
 have HP:=qQ hp;have HQ:=qQ hq;obtain⟨a,c,rfl,hc,hl,_⟩:=hp;obtain⟨a2,c2,rfl,hc2,hl2,_⟩:=hq;cases ts with
 | nil =>
  simp only[wW] at hr;subst hr;go_enter func202,ntmps202;go_wp2;go_ret;exact⟨rfl,aQ _ _⟩
 | cons t ts =>
  have z0:(((t::ts).length:Int) == 0)=false:=by simp;omega
  cases us with
  | nil =>
   simp only[wW] at hr;subst hr;go_enter func202,ntmps202;go_wp2;go_ret;exact⟨rfl,aQ _ _⟩
  | cons s us =>
   have z1:(((s::us).length:Int) == 0)=false:=by simp;omega
   obtain⟨b,o,sa,sc,xs,k,rfl,hb,hs,c1,c2',hI⟩:=HP.out.get hB (aQ _ w) (i:=0) (by simp);obtain⟨b2,o2,sa2,sc2,xs2,k2,rfl,hb2,hs2,d1,d2,hI2⟩:=HQ.out.get hB (aQ _ w) (i:=0) (by simp);simp at hs hs2;subst hs hs2;have HI:=qQ hI;have HI2:=qQ hI2;have HR:=qQ hr;simp only[yI,wA] at c1 c2' d1 d2;have y0:(0:Int)<(((.slice sa xs.length sc,xs,k)::ts:List Tr).length:Int):=by simp <;> omega
   have y1:(0:Int)<(((.slice sa2 xs2.length sc2,xs2,k2)::us:List Tr).length:Int):=by simp <;> omega
   obtain⟨n1,hn1⟩:∃ n,((.slice sa xs.length sc,xs,k)::ts:List Tr).length=n:=⟨_,rfl⟩;obtain⟨n2,hn2⟩:∃ n,((.slice sa2 xs2.length sc2,xs2,k2)::us:List Tr).length=n:=⟨_,rfl⟩;rw[hn1] at z0 y0 ⊢;rw[hn2] at z1 y1 ⊢;have x0:0<n1:=by omega
   have x1:0<n2:=by omega
   clear hI hI2 hr HP HQ hc hl hc2 hl2 hn1 hn2;go_enter func202,ntmps202;go_wp2_with fail
   go_region_held3 (fun w'=>Below w.heap.size w w'/\w'.cell? ⟨b,o,none⟩=some (.slice sa xs.length sc)/\w'.cell? ⟨b,o+1,none⟩=some (.int .i64 k)/\w'.cell? ⟨b2,o2,none⟩=some (.slice sa2 xs2.length sc2)/\w'.cell? ⟨b2,o2+1,none⟩=some (.int .i64 k2))
    ((go_split_ands;refine⟨?_,?_,?_,?_,?_⟩ <;> first|(simp[go_sem, *];done)|(exact(aQ _ _).drew)|(exact bt (aQ _ _).drew hb1)))
    ((go_at_call 37;refine(pT B B B _ _ _ _ xs xs2 _ ?_ ?_ ?_ r HR.out).mono ?_;(show B<=w.heap.size;omega);(exact HI.out.keep (aQ _ _).drew);(exact HI2.out.keep (aQ _ _).drew);rintro x1 w1 ⟨rfl,hb1⟩;obtain⟨hc1,hf1⟩:=bcell hb1;have e1:w1.cell? ⟨b,o,none⟩=some (.slice sa xs.length sc):=(hc1 _ _ hb).trans c1;have e2:w1.cell? ⟨b,o+1,none⟩=some (.int .i64 k):=(hc1 _ _ hb).trans c2';have e3:w1.cell? ⟨b2,o2,none⟩=some (.slice sa2 xs2.length sc2):=(hc1 _ _ hb2).trans d1;have e4:w1.cell? ⟨b2,o2+1,none⟩=some (.int .i64 k2):=(hc1 _ _ hb2).trans d2;clear hc1 hf1))
   rename_i hHeld;go_wp2;go_ret;exact⟨rfl,hHeld.1⟩
def mrg:List Tr->List Tr->List (Tr × Tr)
 | [],[]=>[]
 | [],b::bs=>(no,b)::mrg [] bs
 | a::az,[]=>(a,no)::mrg az []
 | a::az,b::bs=>if nX a.2.1 b.2.1<0 then (a,no)::mrg az (b::bs) else if 0<nX a.2.1 b.2.1 then (no,b)::mrg (a::az) bs else (a,b)::mrg az bs
termination_by az bs=>az.length+bs.length
theorem dQ.tail {b o n c:Nat}{t:Tr}{ts:List Tr}(h:dQ w B (.slice (some ⟨b,o,none⟩) n c) (t::ts))(A:Option Addr)(hA:1<c->A=some ⟨b,o+2,none⟩):dQ w B (.slice A ts.length (c - 1)) ts:=by
 obtain⟨a',c',hv,hc,hl,hi,hx⟩:=h;simp only[gZ] at hv;obtain⟨rfl,rfl,rfl⟩:=hv;simp only[pJ] at hc hl;refine⟨A,c - 1,rfl,by omega,by omega,fun u hu=>hi u (by simp[hu]),fun hne=>?_⟩;have hpos:0<ts.length:=dE.2 hne;obtain⟨b',o',he,hb,hcell⟩:=hx (by simp);simp only[zX,bG,zO] at he;obtain⟨rfl,rfl⟩:=he;refine⟨b,o+2,hA (by omega),hb,fun i u hu=>?_⟩;have:=hcell (i+1) u (by simpa using hu);rw[show o+2+i*2=o+(i+1)*2 by omega];exact this
attribute [local go_sem] Oper.semAt_some
abbrev PP (w:World) (B:Nat) (M:Int):={ x:Tr × Tr // jQ w B B x.1.1 x.1.2.1/\jQ w B B x.2.1 x.2.2.1/\(0<=x.1.2.2/\x.1.2.2<=M)/\(0<=x.2.2.2/\x.2.2.2<=M) }
def oL {w:World} {B:Nat} {M:Int} (x:PP w B M):Array Value:=#[.agg #[x.1.1.1,.int .i64 x.1.1.2.2],.agg #[x.1.2.1,.int .i64 x.1.2.2.2]]
theorem bO (h:Below W.heap.size W W'):W.grownBy W' none:=⟨h.os,h.tape,h.output,h.size,fun k hk _=>h.block k hk⟩
theorem dQ.elem2 {ts:List Tr}(h:dQ w B v ts){t:Tr}(ht:t∈ts):jQ w B B t.1 t.2.1:=by
 obtain⟨_,_,_,_,_,hI,_⟩:=h;exact hI t ht
theorem crQ (b:Tr)(bs:List Tr):mrg [] (b::bs)=(no,b)::mrg [] bs:=by rw[mrg]
theorem crX (a:Tr)(az:List Tr):mrg (a::az) []=(a,no)::mrg az []:=by rw[mrg]
theorem wT {a b:Tr}{az bs:List Tr}(h:nX a.2.1 b.2.1<0):mrg (a::az) (b::bs)=(a,no)::mrg az (b::bs):=by rw[mrg,zQ h]
theorem qB {a b:Tr}{az bs:List Tr}(h:0<nX a.2.1 b.2.1):mrg (a::az) (b::bs)=(no,b)::mrg (a::az) bs:=by rw[mrg,xQ (by omega),zQ h]
theorem xB {a b:Tr}{az bs:List Tr}(h:nX a.2.1 b.2.1=0):mrg (a::az) (b::bs)=(a,b)::mrg az bs:=by rw[mrg,xQ (by omega),xQ (by omega)]
def sln:Value->Nat
 | .slice _ n _=>n
 | _=>0
structure Pw (w:World) (n₀:Nat) (M:Int) (A0 B0:List Tr) (J:List (PP w n₀ M)->World->Prop) (W0:World) (va vb:Value) (az bz:List Tr) (pre:List (PP w n₀ M)) (wr:World):Prop where
 pa:dQ w n₀ va az
 pb:dQ w n₀ vb bz
 rest:pre.map (·.1)++mrg az bz=mrg A0 B0
 len:pre.length+(az.length+bz.length)<=A0.length+B0.length
 j:J pre wr
 bel:Below n₀ w wr
 sz:n₀<=wr.heap.size
 ma:∀ t∈az,0<=t.2.2/\t.2.2<=M
 mb:∀ t∈bz,0<=t.2.2/\t.2.2<=M
theorem crZ (n:Nat)(hn:1<=n)(l Ba Bb n₀:Nat)(M:Int)(hM0:0<=M)(va vb:Value)(A0 B0:List Tr)(w:World)(J Jx:List (PP w n₀ M)->World->Prop)
  (W:World) (hJ:AbidesFrom W.heap.size J) (hw:Below n₀ w W) (hsW:n₀<=W.heap.size)
  (hY:∀ pre x W1,J pre W1->pre.length<A0.length+B0.length->YieldAt Fence.wide (n - 1) prog l (oL x) W1 fun e W' =>
   (e=.returned (.bool true)/\J (pre++[x]) W'/\Below n₀ W1 W')\/(e=.returned (.bool false)/\Jx (pre++[x]) W'))
  (ha:W.cell? ⟨Ba,0,none⟩=some va) (hb:W.cell? ⟨Bb,0,none⟩=some vb) (hpa:dQ w n₀ va A0) (hpb:dQ w n₀ vb B0) (hma:∀ t∈A0,0<=t.2.2/\t.2.2<=M) (hmb:∀ t∈B0,0<=t.2.2/\t.2.2<=M) (h0:J [] W) :
  CallsIn Fence.wide n prog 201 #[.func (.yield l) #[] #[],.pointer (some ⟨Ba,0,none⟩),.pointer (some ⟨Bb,0,none⟩)] W fun e W'=>(∃ v,e=.returned v) /\
   ((∃ ys:List (PP w n₀ M),ys.map (·.1)=mrg A0 B0/\J ys W')\/(∃ pre:List (PP w n₀ M),pre.map (·.1) <+: mrg A0 B0/\Jx pre W')):=by
 have HA:=qQ hpa;have HMA:=qQ hma;have HMB:=qQ hmb;clear hma hmb;have HB:=qQ hpb;obtain⟨aa,ca,rfl,_⟩:=hpa;obtain⟨ab,cb,rfl,_⟩:=hpb;refine callsIn_of_wp func201 rfl trivial ?_ rfl;simp only[ntmps201,eE,pJ,yG,Nat.reduceAdd,Nat.reduceSub,fE,gE,iE,kE,tN,qG];gi_wp2;gi_region
 all_goals gi_wp2
 gi_loopw [4,5] (fun va vb wr=>∃ (az bz:List Tr) (pre:List (PP w n₀ M)),Pw w n₀ M A0 B0 J W va vb az bz pre wr) (fun va vb _=>sln va+sln vb)
 case atStart=>exact⟨A0,B0,[],HA.out,HB.out,rfl,by simp,hJ _ _ _ none h0 (bO (aQ _ _).drew) (by simp),hw.drew,hsW,HMA.out,HMB.out⟩
 case round =>
  obtain⟨az,bz,pre,hP⟩:=hrel;have HP:=qQ hP;obtain⟨xa,na,rfl,_⟩:=hP.pa;obtain⟨xb,nb,rfl,_⟩:=hP.pb;clear hP;cases az with
  | nil =>
   cases bz with
   | nil =>
    have hr:=HP.out.rest;have hj:=HP.out.j;have HE:Hid (pre.map (·.1)=mrg A0 B0/\J pre wr):=⟨by rw[<-hr];simp[mrg],hj⟩;clear hr hj;gi_wp2;go_end0;exact⟨⟨_,rfl⟩,.inl ⟨pre,HE.out.1,HE.out.2⟩⟩
   | cons b bz =>
    have hsz:=HP.out.sz;obtain⟨b',o',sa',sc',xs',k',rfl,hb',hs',c1',c2',hI'⟩:=(HP.out.pb.keep HP.out.bel).get hsz (aQ _ wr) (i:=0) (by simp);simp at hs';subst hs';simp only[yI,wA] at c1' c2';have kf:=fun W h1 h2 h3=>aA (n:=n - 1) |>.2 (sM n₀ (.slice xa ([]:List Tr).length na) (.slice (some ⟨b',o',none⟩) (((.slice sa' xs'.length sc',xs',k')::bz):List Tr).length nb) [] ((.slice sa' xs'.length sc',xs',k')::bz) W h1 h2 h3 1 rfl);gi_wp2_with fail;obtain⟨W1,hW1⟩:∃ W1,(wr.alloc (Obj.cells #[Value.slice none 0 0,Value.int IntKind.i64 0] 77)).alloc (Obj.cells #[Value.slice none 0 0,Value.int IntKind.i64 0] 77)=W1:=⟨_,rfl⟩;have HB1:Hid (Below wr.heap.size wr W1):=hW1▸bal (ba wr _) _;have s1:W1.heap.size=wr.heap.size+2:=by rw[<-hW1];simp
    have p1:W1.cell? ⟨wr.heap.size,0,none⟩=some (.slice none 0 0):=by rw[<-hW1];simp[go_sem]
    have p2:W1.cell? ⟨wr.heap.size,1,none⟩=some (.int .i64 0):=by rw[<-hW1];simp[go_sem]
    have p3:W1.frozen? ⟨wr.heap.size,0,none⟩=false:=by rw[<-hW1];simp[go_sem]
    have p4:W1.frozen? ⟨wr.heap.size,1,none⟩=false:=by rw[<-hW1];simp[go_sem]
    have p5:W1.cell? ⟨wr.heap.size+1,0,none⟩=some (.slice none 0 0):=by rw[<-hW1];simp[go_sem]
    have p6:W1.cell? ⟨wr.heap.size+1,1,none⟩=some (.int .i64 0):=by rw[<-hW1];simp[go_sem]
    have p7:W1.frozen? ⟨wr.heap.size+1,0,none⟩=false:=by rw[<-hW1];simp[go_sem]
    have p8:W1.frozen? ⟨wr.heap.size+1,1,none⟩=false:=by rw[<-hW1];simp[go_sem]
    rw[hW1];clear hW1;refine⟨trivial,?_⟩;refine(kf W1 (by omega) ((HP.out.pa.keep HP.out.bel).at hsz HB1.out) ((HP.out.pb.keep HP.out.bel).at hsz HB1.out)).mono ?_;rintro e w2 ⟨rfl,hb2⟩;obtain⟨hc2,hf2⟩:=bcell hb2;have l1:wr.heap.size<W1.heap.size:=by omega
    have l2:wr.heap.size+1<W1.heap.size:=by omega
    have q1:=(hc2 _ 0 l1).trans p1;have q2:=(hc2 _ 1 l1).trans p2;have q3:=(hf2 _ 0 l1).trans p3;have q4:=(hf2 _ 1 l1).trans p4;have q5:=(hc2 _ 0 l2).trans p5;have q6:=(hc2 _ 1 l2).trans p6;have q7:=(hf2 _ 0 l2).trans p7;have q8:=(hf2 _ 1 l2).trans p8;have HB2:=qQ (bt HB1.out hb2);have e1':=(HB2.out.cell (p:=⟨b',o',none⟩) hb').trans c1';have e2':=(HB2.out.cell (p:=⟨b',o' + 1,none⟩) hb').trans c2';have s2:=hb2.size;clear hc2 hf2 hb2 p1 p2 p3 p4 p5 p6 p7 p8 kf c1' c2';have r1:=q1;have r2:=q2;have r5:=q5;have r6:=q6;have r7:=q7;have r8:=q8;clear q1 q2 q3 q4 q5 q6 q7 q8;gi_wp2_with fail;gi_region;obtain⟨AB,hAB⟩:∃ A',(if nb=1 then some (⟨b',o',none⟩:Addr) else some ⟨b',o' + 2,none⟩)=A':=⟨_,rfl⟩;have HTB:Hid (1<nb->AB=some ⟨b',o' + 2,none⟩):=fun h=>by rw[<-hAB,xQ (by omega)]
    obtain⟨w4,hw4⟩:∃ W3,((w2.setCell ⟨wr.heap.size+1,0,none⟩ (.slice sa' xs'.length sc')).setCell ⟨wr.heap.size+1,1,none⟩ (.int .i64 k')).drew=W3:=⟨_,rfl⟩;have Hw4:Hid (Below wr.heap.size wr w4):=hw4▸(bs (bs HB2.out (by simp) _) (by simp) _).drew;have zw4:w4.heap.size=w2.heap.size:=by rw[<-hw4];simp
    have t1:w4.cell? ⟨wr.heap.size,0,none⟩=some (.slice none 0 0):=by rw[<-hw4];exact(gQ (by simp)).trans ((gQ (by simp)).trans r1)
    have t2:w4.cell? ⟨wr.heap.size,1,none⟩=some (.int .i64 0):=by rw[<-hw4];exact(gQ (by simp)).trans ((gQ (by simp)).trans r2)
    have t5:w4.cell? ⟨wr.heap.size+1,0,none⟩=some (.slice sa' xs'.length sc'):=by rw[<-hw4];exact(gQ (by simp)).trans (tZ r5)
    have t6:w4.cell? ⟨wr.heap.size+1,1,none⟩=some (.int .i64 k'):=by rw[<-hw4];exact tZ (u:=.int .i64 0) ((gQ (by simp)).trans r6)
    rw[hw4,hAB];clear hw4 hAB r1 r2 r5 r6 r7 r8;have hJf:J pre w4:=hJ _ _ _ none HP.out.j (bO Hw4.out) (by simp);have hln:=HP.out.len;simp only[pJ,yG] at hln;obtain⟨x,hx⟩:∃ x:PP w n₀ M,x.1=(no,(.slice sa' xs'.length sc',xs',k')):=⟨⟨(no,(.slice sa' xs'.length sc',xs',k')),(dI _ _ _),(HP.out.pb.elem2 (by simp)),⟨aG _,hM0⟩,(HP.out.mb _ (by simp))⟩,rfl⟩;obtain⟨fn,tmps,assign,body,hy,hR⟩:=hY pre x w4 hJf (by omega);simp only[oL,hx] at hy;have HM:Hid (mrg [] ((.slice sa' xs'.length sc',xs',k')::bz)=(no,(.slice sa' xs'.length sc',xs',k'))::mrg [] bz):=crQ _ _;have hbf:Below n₀ w w4:=HP.out.bel.trans (Hw4.out.mono hsz);have hsf:n₀<=w4.heap.size:=bQ hsz Hw4.out.size;clear hJf;gi_wp2;refine hR.mono ?_;rintro e W5 (⟨rfl,hJ5,hk5⟩|⟨rfl,hJx5⟩)
    ·have HN:Hid (Pw w n₀ M A0 B0 J W _ _ [] bz (pre++[x]) W5):=⟨HP.out.pa,HP.out.pb.tail _ HTB.out,by rw[yY,cM,<-HP.out.rest,HM.out];simp[hx],by simp only[dJ,pJ,yG];omega,hJ5,hbf.trans hk5,bQ hsf hk5.size,HP.out.ma,(fun t ht=>HP.out.mb t (by simp[ht]))⟩
     gi_wp2
     go_roundw
     case rel=>exact⟨_,_,_,HN.out⟩
     case measure=>simp[sln] <;> omega
    ·gi_wp2
     refine uQ (fD rfl _ _ _) rfl ?_;exact⟨⟨_,rfl⟩,.inr ⟨pre++[x],⟨mrg [] bz,by rw[<-HP.out.rest,HM.out];simp[hx]⟩,hJx5⟩⟩
  | cons a az =>
   cases bz with
   | nil =>
    have hsz:=HP.out.sz;obtain⟨b,o,sa,sc,xs,k,rfl,hb,hs,c1,c2,hI⟩:=(HP.out.pa.keep HP.out.bel).get hsz (aQ _ wr) (i:=0) (by simp);simp at hs;subst hs;simp only[yI,wA] at c1 c2;have kf:=fun W h1 h2 h3=>aA (n:=n - 1) |>.2 (sM n₀ (.slice (some ⟨b,o,none⟩) (((.slice sa xs.length sc,xs,k)::az):List Tr).length na) (.slice xb ([]:List Tr).length nb) ((.slice sa xs.length sc,xs,k)::az) [] W h1 h2 h3 (-1) rfl);gi_wp2_with fail;obtain⟨W1,hW1⟩:∃ W1,(wr.alloc (Obj.cells #[Value.slice none 0 0,Value.int IntKind.i64 0] 77)).alloc (Obj.cells #[Value.slice none 0 0,Value.int IntKind.i64 0] 77)=W1:=⟨_,rfl⟩;have HB1:Hid (Below wr.heap.size wr W1):=hW1▸bal (ba wr _) _;have s1:W1.heap.size=wr.heap.size+2:=by rw[<-hW1];simp
    have p1:W1.cell? ⟨wr.heap.size,0,none⟩=some (.slice none 0 0):=by rw[<-hW1];simp[go_sem]
    have p2:W1.cell? ⟨wr.heap.size,1,none⟩=some (.int .i64 0):=by rw[<-hW1];simp[go_sem]
    have p3:W1.frozen? ⟨wr.heap.size,0,none⟩=false:=by rw[<-hW1];simp[go_sem]
    have p4:W1.frozen? ⟨wr.heap.size,1,none⟩=false:=by rw[<-hW1];simp[go_sem]
    have p5:W1.cell? ⟨wr.heap.size+1,0,none⟩=some (.slice none 0 0):=by rw[<-hW1];simp[go_sem]
    have p6:W1.cell? ⟨wr.heap.size+1,1,none⟩=some (.int .i64 0):=by rw[<-hW1];simp[go_sem]
    have p7:W1.frozen? ⟨wr.heap.size+1,0,none⟩=false:=by rw[<-hW1];simp[go_sem]
    have p8:W1.frozen? ⟨wr.heap.size+1,1,none⟩=false:=by rw[<-hW1];simp[go_sem]
    rw[hW1];clear hW1;refine⟨trivial,?_⟩;refine(kf W1 (by omega) ((HP.out.pa.keep HP.out.bel).at hsz HB1.out) ((HP.out.pb.keep HP.out.bel).at hsz HB1.out)).mono ?_;rintro e w2 ⟨rfl,hb2⟩;obtain⟨hc2,hf2⟩:=bcell hb2;have l1:wr.heap.size<W1.heap.size:=by omega
    have l2:wr.heap.size+1<W1.heap.size:=by omega
    have q1:=(hc2 _ 0 l1).trans p1;have q2:=(hc2 _ 1 l1).trans p2;have q3:=(hf2 _ 0 l1).trans p3;have q4:=(hf2 _ 1 l1).trans p4;have q5:=(hc2 _ 0 l2).trans p5;have q6:=(hc2 _ 1 l2).trans p6;have q7:=(hf2 _ 0 l2).trans p7;have q8:=(hf2 _ 1 l2).trans p8;have HB2:=qQ (bt HB1.out hb2);have e1:=(HB2.out.cell (p:=⟨b,o,none⟩) hb).trans c1;have e2:=(HB2.out.cell (p:=⟨b,o+1,none⟩) hb).trans c2;have s2:=hb2.size;clear hc2 hf2 hb2 p1 p2 p3 p4 p5 p6 p7 p8 kf c1 c2;gi_wp2_with fail;gi_region;obtain⟨AA,hAA⟩:∃ A',(if na=1 then some (⟨b,o,none⟩:Addr) else some ⟨b,o+2,none⟩)=A':=⟨_,rfl⟩;have HTA:Hid (1<na->AA=some ⟨b,o+2,none⟩):=fun h=>by rw[<-hAA,xQ (by omega)]
    obtain⟨w3,hw3⟩:∃ W3,((w2.setCell ⟨wr.heap.size,0,none⟩ (.slice sa xs.length sc)).setCell ⟨wr.heap.size,1,none⟩ (.int .i64 k)).drew=W3:=⟨_,rfl⟩;have Hw3:Hid (Below wr.heap.size wr w3):=hw3▸(bs (bs HB2.out (by simp) _) (by simp) _).drew;have zw3:w3.heap.size=w2.heap.size:=by rw[<-hw3];simp
    have r1:w3.cell? ⟨wr.heap.size,0,none⟩=some (.slice sa xs.length sc):=by rw[<-hw3];exact(gQ (by simp)).trans (tZ q1)
    have r2:w3.cell? ⟨wr.heap.size,1,none⟩=some (.int .i64 k):=by rw[<-hw3];exact tZ (u:=.int .i64 0) ((gQ (by simp)).trans q2)
    have r5:w3.cell? ⟨wr.heap.size+1,0,none⟩=some (.slice none 0 0):=by rw[<-hw3];exact(gQ (by simp)).trans ((gQ (by simp)).trans q5)
    have r6:w3.cell? ⟨wr.heap.size+1,1,none⟩=some (.int .i64 0):=by rw[<-hw3];exact(gQ (by simp)).trans ((gQ (by simp)).trans q6)
    have r7:w3.frozen? ⟨wr.heap.size+1,0,none⟩=false:=by rw[<-hw3];exact zZ.trans (zZ.trans q7)
    have r8:w3.frozen? ⟨wr.heap.size+1,1,none⟩=false:=by rw[<-hw3];exact zZ.trans (zZ.trans q8)
    rw[hw3,hAA];clear hw3 hAA q1 q2 q3 q4 q5 q6 q7 q8 e1 e2;have hJf:J pre w3:=hJ _ _ _ none HP.out.j (bO Hw3.out) (by simp);have hln:=HP.out.len;simp only[pJ,yG] at hln;obtain⟨x,hx⟩:∃ x:PP w n₀ M,x.1=((.slice sa xs.length sc,xs,k),no):=⟨⟨((.slice sa xs.length sc,xs,k),no),(HP.out.pa.elem2 (by simp)),(dI _ _ _),(HP.out.ma _ (by simp)),⟨aG _,hM0⟩⟩,rfl⟩;obtain⟨fn,tmps,assign,body,hy,hR⟩:=hY pre x w3 hJf (by omega);simp only[oL,hx] at hy;have HM:Hid (mrg ((.slice sa xs.length sc,xs,k)::az) []=((.slice sa xs.length sc,xs,k),no)::mrg az []):=crX _ _;have hbf:Below n₀ w w3:=HP.out.bel.trans (Hw3.out.mono hsz);have hsf:n₀<=w3.heap.size:=bQ hsz Hw3.out.size;clear hJf;gi_wp2;refine hR.mono ?_;rintro e W5 (⟨rfl,hJ5,hk5⟩|⟨rfl,hJx5⟩)
    ·have HN:Hid (Pw w n₀ M A0 B0 J W _ _ az [] (pre++[x]) W5):=⟨HP.out.pa.tail _ HTA.out,HP.out.pb,by rw[yY,cM,<-HP.out.rest,HM.out];simp[hx],by simp only[dJ,pJ,yG];omega,hJ5,hbf.trans hk5,bQ hsf hk5.size,(fun t ht=>HP.out.ma t (by simp[ht])),HP.out.mb⟩
     gi_wp2
     go_roundw
     case rel=>exact⟨_,_,_,HN.out⟩
     case measure=>simp[sln] <;> omega
    ·gi_wp2
     refine uQ (fD rfl _ _ _) rfl ?_;exact⟨⟨_,rfl⟩,.inr ⟨pre++[x],⟨mrg az [],by rw[<-HP.out.rest,HM.out];simp[hx]⟩,hJx5⟩⟩
   | cons b0 bz =>
    obtain⟨r,HC⟩:∃ r,Hid (nX a.2.1 b0.2.1=r):=⟨_,rfl⟩;by_cases hr1:r<0
    ·have hsz:=HP.out.sz
     obtain⟨b,o,sa,sc,xs,k,rfl,hb,hs,c1,c2,hI⟩:=(HP.out.pa.keep HP.out.bel).get hsz (aQ _ wr) (i:=0) (by simp);simp at hs;subst hs;simp only[yI,wA] at c1 c2;obtain⟨b',o',sa',sc',xs',k',rfl,hb',hs',c1',c2',hI'⟩:=(HP.out.pb.keep HP.out.bel).get hsz (aQ _ wr) (i:=0) (by simp);simp at hs';subst hs';simp only[yI,wA] at c1' c2';simp only at HC;have kf:=fun W h1 h2 h3=>aA (n:=n - 1) |>.2 (sM n₀ (.slice (some ⟨b,o,none⟩) (((.slice sa xs.length sc,xs,k)::az):List Tr).length na) (.slice (some ⟨b',o',none⟩) (((.slice sa' xs'.length sc',xs',k')::bz):List Tr).length nb) ((.slice sa xs.length sc,xs,k)::az) ((.slice sa' xs'.length sc',xs',k')::bz) W h1 h2 h3 r HC.out);gi_wp2_with fail;obtain⟨W1,hW1⟩:∃ W1,(wr.alloc (Obj.cells #[Value.slice none 0 0,Value.int IntKind.i64 0] 77)).alloc (Obj.cells #[Value.slice none 0 0,Value.int IntKind.i64 0] 77)=W1:=⟨_,rfl⟩;have HB1:Hid (Below wr.heap.size wr W1):=hW1▸bal (ba wr _) _;have s1:W1.heap.size=wr.heap.size+2:=by rw[<-hW1];simp
     have p1:W1.cell? ⟨wr.heap.size,0,none⟩=some (.slice none 0 0):=by rw[<-hW1];simp[go_sem]
     have p2:W1.cell? ⟨wr.heap.size,1,none⟩=some (.int .i64 0):=by rw[<-hW1];simp[go_sem]
     have p3:W1.frozen? ⟨wr.heap.size,0,none⟩=false:=by rw[<-hW1];simp[go_sem]
     have p4:W1.frozen? ⟨wr.heap.size,1,none⟩=false:=by rw[<-hW1];simp[go_sem]
     have p5:W1.cell? ⟨wr.heap.size+1,0,none⟩=some (.slice none 0 0):=by rw[<-hW1];simp[go_sem]
     have p6:W1.cell? ⟨wr.heap.size+1,1,none⟩=some (.int .i64 0):=by rw[<-hW1];simp[go_sem]
     have p7:W1.frozen? ⟨wr.heap.size+1,0,none⟩=false:=by rw[<-hW1];simp[go_sem]
     have p8:W1.frozen? ⟨wr.heap.size+1,1,none⟩=false:=by rw[<-hW1];simp[go_sem]
     rw[hW1];clear hW1;refine⟨trivial,?_⟩;refine(kf W1 (by omega) ((HP.out.pa.keep HP.out.bel).at hsz HB1.out) ((HP.out.pb.keep HP.out.bel).at hsz HB1.out)).mono ?_;rintro e w2 ⟨rfl,hb2⟩;obtain⟨hc2,hf2⟩:=bcell hb2;have l1:wr.heap.size<W1.heap.size:=by omega
     have l2:wr.heap.size+1<W1.heap.size:=by omega
     have q1:=(hc2 _ 0 l1).trans p1;have q2:=(hc2 _ 1 l1).trans p2;have q3:=(hf2 _ 0 l1).trans p3;have q4:=(hf2 _ 1 l1).trans p4;have q5:=(hc2 _ 0 l2).trans p5;have q6:=(hc2 _ 1 l2).trans p6;have q7:=(hf2 _ 0 l2).trans p7;have q8:=(hf2 _ 1 l2).trans p8;have HB2:=qQ (bt HB1.out hb2);have e1:=(HB2.out.cell (p:=⟨b,o,none⟩) hb).trans c1;have e2:=(HB2.out.cell (p:=⟨b,o+1,none⟩) hb).trans c2;have e1':=(HB2.out.cell (p:=⟨b',o',none⟩) hb').trans c1';have e2':=(HB2.out.cell (p:=⟨b',o' + 1,none⟩) hb').trans c2';have s2:=hb2.size;clear hc2 hf2 hb2 p1 p2 p3 p4 p5 p6 p7 p8 kf c1 c2 c1' c2';gi_wp2_with fail;gi_region;obtain⟨AA,hAA⟩:∃ A',(if na=1 then some (⟨b,o,none⟩:Addr) else some ⟨b,o+2,none⟩)=A':=⟨_,rfl⟩;have HTA:Hid (1<na->AA=some ⟨b,o+2,none⟩):=fun h=>by rw[<-hAA,xQ (by omega)]
     obtain⟨w3,hw3⟩:∃ W3,((w2.setCell ⟨wr.heap.size,0,none⟩ (.slice sa xs.length sc)).setCell ⟨wr.heap.size,1,none⟩ (.int .i64 k)).drew=W3:=⟨_,rfl⟩;have Hw3:Hid (Below wr.heap.size wr w3):=hw3▸(bs (bs HB2.out (by simp) _) (by simp) _).drew;have zw3:w3.heap.size=w2.heap.size:=by rw[<-hw3];simp
     have r1:w3.cell? ⟨wr.heap.size,0,none⟩=some (.slice sa xs.length sc):=by rw[<-hw3];exact(gQ (by simp)).trans (tZ q1)
     have r2:w3.cell? ⟨wr.heap.size,1,none⟩=some (.int .i64 k):=by rw[<-hw3];exact tZ (u:=.int .i64 0) ((gQ (by simp)).trans q2)
     have r5:w3.cell? ⟨wr.heap.size+1,0,none⟩=some (.slice none 0 0):=by rw[<-hw3];exact(gQ (by simp)).trans ((gQ (by simp)).trans q5)
     have r6:w3.cell? ⟨wr.heap.size+1,1,none⟩=some (.int .i64 0):=by rw[<-hw3];exact(gQ (by simp)).trans ((gQ (by simp)).trans q6)
     have r7:w3.frozen? ⟨wr.heap.size+1,0,none⟩=false:=by rw[<-hw3];exact zZ.trans (zZ.trans q7)
     have r8:w3.frozen? ⟨wr.heap.size+1,1,none⟩=false:=by rw[<-hw3];exact zZ.trans (zZ.trans q8)
     have f1':=(Hw3.out.cell (p:=⟨b',o',none⟩) hb').trans ((HB2.out.cell (p:=⟨b',o',none⟩) hb').symm.trans e1');have f2':=(Hw3.out.cell (p:=⟨b',o' + 1,none⟩) hb').trans ((HB2.out.cell (p:=⟨b',o' + 1,none⟩) hb').symm.trans e2');rw[hw3,hAA];clear hw3 hAA q1 q2 q3 q4 q5 q6 q7 q8 e1 e2 e1' e2';have hJf:J pre w3:=hJ _ _ _ none HP.out.j (bO Hw3.out) (by simp);have hln:=HP.out.len;simp only[pJ] at hln;obtain⟨x,hx⟩:∃ x:PP w n₀ M,x.1=((.slice sa xs.length sc,xs,k),no):=⟨⟨((.slice sa xs.length sc,xs,k),no),(HP.out.pa.elem2 (by simp)),(dI _ _ _),(HP.out.ma _ (by simp)),⟨aG _,hM0⟩⟩,rfl⟩;obtain⟨fn,tmps,assign,body,hy,hR⟩:=hY pre x w3 hJf (by omega);simp only[oL,hx] at hy;have HM:Hid (mrg ((.slice sa xs.length sc,xs,k)::az) ((.slice sa' xs'.length sc',xs',k')::bz)=((.slice sa xs.length sc,xs,k),no)::mrg az ((.slice sa' xs'.length sc',xs',k')::bz)):=wT (by show nX xs xs' < 0;rw[HC.out];exact hr1);have hbf:Below n₀ w w3:=HP.out.bel.trans (Hw3.out.mono hsz);have hsf:n₀<=w3.heap.size:=bQ hsz Hw3.out.size;clear hJf;gi_wp2;refine hR.mono ?_;rintro e W5 (⟨rfl,hJ5,hk5⟩|⟨rfl,hJx5⟩)
     ·have HN:Hid (Pw w n₀ M A0 B0 J W _ _ az ((.slice sa' xs'.length sc',xs',k')::bz) (pre++[x]) W5):=⟨HP.out.pa.tail _ HTA.out,HP.out.pb,by rw[yY,cM,<-HP.out.rest,HM.out];simp[hx],by simp only[dJ,pJ,yG];omega,hJ5,hbf.trans hk5,bQ hsf hk5.size,(fun t ht=>HP.out.ma t (by simp[ht])),HP.out.mb⟩
      gi_wp2
      go_roundw
      case rel=>exact⟨_,_,_,HN.out⟩
      case measure=>simp[sln] <;> omega
     ·gi_wp2
      refine uQ (fD rfl _ _ _) rfl ?_;exact⟨⟨_,rfl⟩,.inr ⟨pre++[x],⟨mrg az ((.slice sa' xs'.length sc',xs',k')::bz),by rw[<-HP.out.rest,HM.out];simp[hx]⟩,hJx5⟩⟩
    ·by_cases hr2:0<r
     ·have hsz:=HP.out.sz
      obtain⟨b,o,sa,sc,xs,k,rfl,hb,hs,c1,c2,hI⟩:=(HP.out.pa.keep HP.out.bel).get hsz (aQ _ wr) (i:=0) (by simp);simp at hs;subst hs;simp only[yI,wA] at c1 c2;obtain⟨b',o',sa',sc',xs',k',rfl,hb',hs',c1',c2',hI'⟩:=(HP.out.pb.keep HP.out.bel).get hsz (aQ _ wr) (i:=0) (by simp);simp at hs';subst hs';simp only[yI,wA] at c1' c2';simp only at HC;have kf:=fun W h1 h2 h3=>aA (n:=n - 1) |>.2 (sM n₀ (.slice (some ⟨b,o,none⟩) (((.slice sa xs.length sc,xs,k)::az):List Tr).length na) (.slice (some ⟨b',o',none⟩) (((.slice sa' xs'.length sc',xs',k')::bz):List Tr).length nb) ((.slice sa xs.length sc,xs,k)::az) ((.slice sa' xs'.length sc',xs',k')::bz) W h1 h2 h3 r HC.out);gi_wp2_with fail;obtain⟨W1,hW1⟩:∃ W1,(wr.alloc (Obj.cells #[Value.slice none 0 0,Value.int IntKind.i64 0] 77)).alloc (Obj.cells #[Value.slice none 0 0,Value.int IntKind.i64 0] 77)=W1:=⟨_,rfl⟩;have HB1:Hid (Below wr.heap.size wr W1):=hW1▸bal (ba wr _) _;have s1:W1.heap.size=wr.heap.size+2:=by rw[<-hW1];simp
      have p1:W1.cell? ⟨wr.heap.size,0,none⟩=some (.slice none 0 0):=by rw[<-hW1];simp[go_sem]
      have p2:W1.cell? ⟨wr.heap.size,1,none⟩=some (.int .i64 0):=by rw[<-hW1];simp[go_sem]
      have p3:W1.frozen? ⟨wr.heap.size,0,none⟩=false:=by rw[<-hW1];simp[go_sem]
      have p4:W1.frozen? ⟨wr.heap.size,1,none⟩=false:=by rw[<-hW1];simp[go_sem]
      have p5:W1.cell? ⟨wr.heap.size+1,0,none⟩=some (.slice none 0 0):=by rw[<-hW1];simp[go_sem]
      have p6:W1.cell? ⟨wr.heap.size+1,1,none⟩=some (.int .i64 0):=by rw[<-hW1];simp[go_sem]
      have p7:W1.frozen? ⟨wr.heap.size+1,0,none⟩=false:=by rw[<-hW1];simp[go_sem]
      have p8:W1.frozen? ⟨wr.heap.size+1,1,none⟩=false:=by rw[<-hW1];simp[go_sem]
      rw[hW1];clear hW1;refine⟨trivial,?_⟩;refine(kf W1 (by omega) ((HP.out.pa.keep HP.out.bel).at hsz HB1.out) ((HP.out.pb.keep HP.out.bel).at hsz HB1.out)).mono ?_;rintro e w2 ⟨rfl,hb2⟩;obtain⟨hc2,hf2⟩:=bcell hb2;have l1:wr.heap.size<W1.heap.size:=by omega
      have l2:wr.heap.size+1<W1.heap.size:=by omega
      have q1:=(hc2 _ 0 l1).trans p1;have q2:=(hc2 _ 1 l1).trans p2;have q3:=(hf2 _ 0 l1).trans p3;have q4:=(hf2 _ 1 l1).trans p4;have q5:=(hc2 _ 0 l2).trans p5;have q6:=(hc2 _ 1 l2).trans p6;have q7:=(hf2 _ 0 l2).trans p7;have q8:=(hf2 _ 1 l2).trans p8;have HB2:=qQ (bt HB1.out hb2);have e1:=(HB2.out.cell (p:=⟨b,o,none⟩) hb).trans c1;have e2:=(HB2.out.cell (p:=⟨b,o+1,none⟩) hb).trans c2;have e1':=(HB2.out.cell (p:=⟨b',o',none⟩) hb').trans c1';have e2':=(HB2.out.cell (p:=⟨b',o' + 1,none⟩) hb').trans c2';have s2:=hb2.size;clear hc2 hf2 hb2 p1 p2 p3 p4 p5 p6 p7 p8 kf c1 c2 c1' c2';have r1:=q1;have r2:=q2;have r5:=q5;have r6:=q6;have r7:=q7;have r8:=q8;clear q1 q2 q3 q4 q5 q6 q7 q8;gi_wp2_with fail;gi_region;obtain⟨AB,hAB⟩:∃ A',(if nb=1 then some (⟨b',o',none⟩:Addr) else some ⟨b',o' + 2,none⟩)=A':=⟨_,rfl⟩;have HTB:Hid (1<nb->AB=some ⟨b',o' + 2,none⟩):=fun h=>by rw[<-hAB,xQ (by omega)]
      obtain⟨w4,hw4⟩:∃ W3,((w2.setCell ⟨wr.heap.size+1,0,none⟩ (.slice sa' xs'.length sc')).setCell ⟨wr.heap.size+1,1,none⟩ (.int .i64 k')).drew=W3:=⟨_,rfl⟩;have Hw4:Hid (Below wr.heap.size wr w4):=hw4▸(bs (bs HB2.out (by simp) _) (by simp) _).drew;have zw4:w4.heap.size=w2.heap.size:=by rw[<-hw4];simp
      have t1:w4.cell? ⟨wr.heap.size,0,none⟩=some (.slice none 0 0):=by rw[<-hw4];exact(gQ (by simp)).trans ((gQ (by simp)).trans r1)
      have t2:w4.cell? ⟨wr.heap.size,1,none⟩=some (.int .i64 0):=by rw[<-hw4];exact(gQ (by simp)).trans ((gQ (by simp)).trans r2)
      have t5:w4.cell? ⟨wr.heap.size+1,0,none⟩=some (.slice sa' xs'.length sc'):=by rw[<-hw4];exact(gQ (by simp)).trans (tZ r5)
      have t6:w4.cell? ⟨wr.heap.size+1,1,none⟩=some (.int .i64 k'):=by rw[<-hw4];exact tZ (u:=.int .i64 0) ((gQ (by simp)).trans r6)
      rw[hw4,hAB];clear hw4 hAB r1 r2 r5 r6 r7 r8;have hJf:J pre w4:=hJ _ _ _ none HP.out.j (bO Hw4.out) (by simp);have hln:=HP.out.len;simp only[pJ] at hln;obtain⟨x,hx⟩:∃ x:PP w n₀ M,x.1=(no,(.slice sa' xs'.length sc',xs',k')):=⟨⟨(no,(.slice sa' xs'.length sc',xs',k')),(dI _ _ _),(HP.out.pb.elem2 (by simp)),⟨aG _,hM0⟩,(HP.out.mb _ (by simp))⟩,rfl⟩;obtain⟨fn,tmps,assign,body,hy,hR⟩:=hY pre x w4 hJf (by omega);simp only[oL,hx] at hy;have HM:Hid (mrg ((.slice sa xs.length sc,xs,k)::az) ((.slice sa' xs'.length sc',xs',k')::bz)=(no,(.slice sa' xs'.length sc',xs',k'))::mrg ((.slice sa xs.length sc,xs,k)::az) bz):=qB (by show 0<nX xs xs';rw[HC.out];exact hr2);have hbf:Below n₀ w w4:=HP.out.bel.trans (Hw4.out.mono hsz);have hsf:n₀<=w4.heap.size:=bQ hsz Hw4.out.size;clear hJf;gi_wp2;refine hR.mono ?_;rintro e W5 (⟨rfl,hJ5,hk5⟩|⟨rfl,hJx5⟩)
      ·have HN:Hid (Pw w n₀ M A0 B0 J W _ _ ((.slice sa xs.length sc,xs,k)::az) bz (pre++[x]) W5):=⟨HP.out.pa,HP.out.pb.tail _ HTB.out,by rw[yY,cM,<-HP.out.rest,HM.out];simp[hx],by simp only[dJ,pJ,yG];omega,hJ5,hbf.trans hk5,bQ hsf hk5.size,HP.out.ma,(fun t ht=>HP.out.mb t (by simp[ht]))⟩
       gi_wp2
       go_roundw
       case rel=>exact⟨_,_,_,HN.out⟩
       case measure=>simp[sln] <;> omega
      ·gi_wp2
       refine uQ (fD rfl _ _ _) rfl ?_;exact⟨⟨_,rfl⟩,.inr ⟨pre++[x],⟨mrg ((.slice sa xs.length sc,xs,k)::az) bz,by rw[<-HP.out.rest,HM.out];simp[hx]⟩,hJx5⟩⟩
     ·have hsz:=HP.out.sz
      obtain⟨b,o,sa,sc,xs,k,rfl,hb,hs,c1,c2,hI⟩:=(HP.out.pa.keep HP.out.bel).get hsz (aQ _ wr) (i:=0) (by simp);simp at hs;subst hs;simp only[yI,wA] at c1 c2;obtain⟨b',o',sa',sc',xs',k',rfl,hb',hs',c1',c2',hI'⟩:=(HP.out.pb.keep HP.out.bel).get hsz (aQ _ wr) (i:=0) (by simp);simp at hs';subst hs';simp only[yI,wA] at c1' c2';simp only at HC;have hr0:r=0:=by omega
      subst hr0;have kf:=fun W h1 h2 h3=>aA (n:=n - 1) |>.2 (sM n₀ (.slice (some ⟨b,o,none⟩) (((.slice sa xs.length sc,xs,k)::az):List Tr).length na) (.slice (some ⟨b',o',none⟩) (((.slice sa' xs'.length sc',xs',k')::bz):List Tr).length nb) ((.slice sa xs.length sc,xs,k)::az) ((.slice sa' xs'.length sc',xs',k')::bz) W h1 h2 h3 0 HC.out);gi_wp2_with fail;obtain⟨W1,hW1⟩:∃ W1,(wr.alloc (Obj.cells #[Value.slice none 0 0,Value.int IntKind.i64 0] 77)).alloc (Obj.cells #[Value.slice none 0 0,Value.int IntKind.i64 0] 77)=W1:=⟨_,rfl⟩;have HB1:Hid (Below wr.heap.size wr W1):=hW1▸bal (ba wr _) _;have s1:W1.heap.size=wr.heap.size+2:=by rw[<-hW1];simp
      have p1:W1.cell? ⟨wr.heap.size,0,none⟩=some (.slice none 0 0):=by rw[<-hW1];simp[go_sem]
      have p2:W1.cell? ⟨wr.heap.size,1,none⟩=some (.int .i64 0):=by rw[<-hW1];simp[go_sem]
      have p3:W1.frozen? ⟨wr.heap.size,0,none⟩=false:=by rw[<-hW1];simp[go_sem]
      have p4:W1.frozen? ⟨wr.heap.size,1,none⟩=false:=by rw[<-hW1];simp[go_sem]
      have p5:W1.cell? ⟨wr.heap.size+1,0,none⟩=some (.slice none 0 0):=by rw[<-hW1];simp[go_sem]
      have p6:W1.cell? ⟨wr.heap.size+1,1,none⟩=some (.int .i64 0):=by rw[<-hW1];simp[go_sem]
      have p7:W1.frozen? ⟨wr.heap.size+1,0,none⟩=false:=by rw[<-hW1];simp[go_sem]
      have p8:W1.frozen? ⟨wr.heap.size+1,1,none⟩=false:=by rw[<-hW1];simp[go_sem]
      rw[hW1];clear hW1;refine⟨trivial,?_⟩;refine(kf W1 (by omega) ((HP.out.pa.keep HP.out.bel).at hsz HB1.out) ((HP.out.pb.keep HP.out.bel).at hsz HB1.out)).mono ?_;rintro e w2 ⟨rfl,hb2⟩;obtain⟨hc2,hf2⟩:=bcell hb2;have l1:wr.heap.size<W1.heap.size:=by omega
      have l2:wr.heap.size+1<W1.heap.size:=by omega
      have q1:=(hc2 _ 0 l1).trans p1;have q2:=(hc2 _ 1 l1).trans p2;have q3:=(hf2 _ 0 l1).trans p3;have q4:=(hf2 _ 1 l1).trans p4;have q5:=(hc2 _ 0 l2).trans p5;have q6:=(hc2 _ 1 l2).trans p6;have q7:=(hf2 _ 0 l2).trans p7;have q8:=(hf2 _ 1 l2).trans p8;have HB2:=qQ (bt HB1.out hb2);have e1:=(HB2.out.cell (p:=⟨b,o,none⟩) hb).trans c1;have e2:=(HB2.out.cell (p:=⟨b,o+1,none⟩) hb).trans c2;have e1':=(HB2.out.cell (p:=⟨b',o',none⟩) hb').trans c1';have e2':=(HB2.out.cell (p:=⟨b',o' + 1,none⟩) hb').trans c2';have s2:=hb2.size;clear hc2 hf2 hb2 p1 p2 p3 p4 p5 p6 p7 p8 kf c1 c2 c1' c2';gi_wp2_with fail;gi_region;obtain⟨AA,hAA⟩:∃ A',(if na=1 then some (⟨b,o,none⟩:Addr) else some ⟨b,o+2,none⟩)=A':=⟨_,rfl⟩;have HTA:Hid (1<na->AA=some ⟨b,o+2,none⟩):=fun h=>by rw[<-hAA,xQ (by omega)]
      obtain⟨w3,hw3⟩:∃ W3,((w2.setCell ⟨wr.heap.size,0,none⟩ (.slice sa xs.length sc)).setCell ⟨wr.heap.size,1,none⟩ (.int .i64 k)).drew=W3:=⟨_,rfl⟩;have Hw3:Hid (Below wr.heap.size wr w3):=hw3▸(bs (bs HB2.out (by simp) _) (by simp) _).drew;have zw3:w3.heap.size=w2.heap.size:=by rw[<-hw3];simp
      have r1:w3.cell? ⟨wr.heap.size,0,none⟩=some (.slice sa xs.length sc):=by rw[<-hw3];exact(gQ (by simp)).trans (tZ q1)
      have r2:w3.cell? ⟨wr.heap.size,1,none⟩=some (.int .i64 k):=by rw[<-hw3];exact tZ (u:=.int .i64 0) ((gQ (by simp)).trans q2)
      have r5:w3.cell? ⟨wr.heap.size+1,0,none⟩=some (.slice none 0 0):=by rw[<-hw3];exact(gQ (by simp)).trans ((gQ (by simp)).trans q5)
      have r6:w3.cell? ⟨wr.heap.size+1,1,none⟩=some (.int .i64 0):=by rw[<-hw3];exact(gQ (by simp)).trans ((gQ (by simp)).trans q6)
      have r7:w3.frozen? ⟨wr.heap.size+1,0,none⟩=false:=by rw[<-hw3];exact zZ.trans (zZ.trans q7)
      have r8:w3.frozen? ⟨wr.heap.size+1,1,none⟩=false:=by rw[<-hw3];exact zZ.trans (zZ.trans q8)
      have f1':=(Hw3.out.cell (p:=⟨b',o',none⟩) hb').trans ((HB2.out.cell (p:=⟨b',o',none⟩) hb').symm.trans e1');have f2':=(Hw3.out.cell (p:=⟨b',o' + 1,none⟩) hb').trans ((HB2.out.cell (p:=⟨b',o' + 1,none⟩) hb').symm.trans e2');rw[hw3,hAA];clear hw3 hAA q1 q2 q3 q4 q5 q6 q7 q8 e1 e2 e1' e2';gi_wp2_with fail;gi_region;obtain⟨AB,hAB⟩:∃ A',(if nb=1 then some (⟨b',o',none⟩:Addr) else some ⟨b',o' + 2,none⟩)=A':=⟨_,rfl⟩;have HTB:Hid (1<nb->AB=some ⟨b',o' + 2,none⟩):=fun h=>by rw[<-hAB,xQ (by omega)]
      obtain⟨w4,hw4⟩:∃ W3,((w3.setCell ⟨wr.heap.size+1,0,none⟩ (.slice sa' xs'.length sc')).setCell ⟨wr.heap.size+1,1,none⟩ (.int .i64 k')).drew=W3:=⟨_,rfl⟩;have Hw4:Hid (Below wr.heap.size wr w4):=hw4▸(bs (bs Hw3.out (by simp) _) (by simp) _).drew;have zw4:w4.heap.size=w3.heap.size:=by rw[<-hw4];simp
      have t1:w4.cell? ⟨wr.heap.size,0,none⟩=some (.slice sa xs.length sc):=by rw[<-hw4];exact(gQ (by simp)).trans ((gQ (by simp)).trans r1)
      have t2:w4.cell? ⟨wr.heap.size,1,none⟩=some (.int .i64 k):=by rw[<-hw4];exact(gQ (by simp)).trans ((gQ (by simp)).trans r2)
      have t5:w4.cell? ⟨wr.heap.size+1,0,none⟩=some (.slice sa' xs'.length sc'):=by rw[<-hw4];exact(gQ (by simp)).trans (tZ r5)
      have t6:w4.cell? ⟨wr.heap.size+1,1,none⟩=some (.int .i64 k'):=by rw[<-hw4];exact tZ (u:=.int .i64 0) ((gQ (by simp)).trans r6)
      rw[hw4,hAB];clear hw4 hAB r1 r2 r5 r6 r7 r8;have hJf:J pre w4:=hJ _ _ _ none HP.out.j (bO Hw4.out) (by simp);have hln:=HP.out.len;simp only[pJ] at hln;obtain⟨x,hx⟩:∃ x:PP w n₀ M,x.1=((.slice sa xs.length sc,xs,k),(.slice sa' xs'.length sc',xs',k')):=⟨⟨((.slice sa xs.length sc,xs,k),(.slice sa' xs'.length sc',xs',k')),(HP.out.pa.elem2 (by simp)),(HP.out.pb.elem2 (by simp)),(HP.out.ma _ (by simp)),(HP.out.mb _ (by simp))⟩,rfl⟩;obtain⟨fn,tmps,assign,body,hy,hR⟩:=hY pre x w4 hJf (by omega);simp only[oL,hx] at hy;have HM:Hid (mrg ((.slice sa xs.length sc,xs,k)::az) ((.slice sa' xs'.length sc',xs',k')::bz)=((.slice sa xs.length sc,xs,k),(.slice sa' xs'.length sc',xs',k'))::mrg az bz):=xB (by show nX xs xs' = 0;exact HC.out);have hbf:Below n₀ w w4:=HP.out.bel.trans (Hw4.out.mono hsz);have hsf:n₀<=w4.heap.size:=bQ hsz Hw4.out.size;clear hJf;gi_wp2;refine hR.mono ?_;rintro e W5 (⟨rfl,hJ5,hk5⟩|⟨rfl,hJx5⟩)
      ·have HN:Hid (Pw w n₀ M A0 B0 J W _ _ az bz (pre++[x]) W5):=⟨HP.out.pa.tail _ HTA.out,HP.out.pb.tail _ HTB.out,by rw[yY,cM,<-HP.out.rest,HM.out];simp[hx],by simp only[dJ,pJ,yG];omega,hJ5,hbf.trans hk5,bQ hsf hk5.size,(fun t ht=>HP.out.ma t (by simp[ht])),(fun t ht=>HP.out.mb t (by simp[ht]))⟩
       gi_wp2
       go_roundw
       case rel=>exact⟨_,_,_,HN.out⟩
       case measure=>simp[sln] <;> omega
      ·gi_wp2
       refine uQ (fD rfl _ _ _) rfl ?_;exact⟨⟨_,rfl⟩,.inr ⟨pre++[x],⟨mrg az bz,by rw[<-HP.out.rest,HM.out];simp[hx]⟩,hJx5⟩⟩
def gI (l m:List Pt):Int:=if (pX l).2=0 then (pX m).2 else (pX l).2
theorem crJ (B:Nat)(u v:Value)(ts us:List Tr)(w:World)(hB:B<=w.heap.size)(hp:dQ w B u ts)(hq:dQ w B v us)(er:Int)(hr:gI (rd ts) (rd us)=er) :
  Calls prog 64 #[u,v] w fun e w'=>∃ a1 n1 c1 a2 n2 c2,e=.returned (.tuple #[.slice a1 n1 c1,.slice a2 n2 c2,.int .i64 er])/\Below w.heap.size w w' /\
   (er=0->∃ ts' us',rd ts' = rd ts/\rd us' = rd us/\dQ w' w'.heap.size (.slice a1 n1 c1) ts'/\dQ w' w'.heap.size (.slice a2 n2 c2) us'):=by
 have HP:=qQ hp;have HQ:=qQ hq;obtain⟨a,c,rfl,_⟩:=hp;obtain⟨a',c',rfl,_⟩:=hq;obtain⟨⟨l,e1⟩,ho⟩:∃ x,pX (rd ts)=x:=⟨_,rfl⟩;obtain⟨⟨m,e2⟩,ho2⟩:∃ x,pX (rd us)=x:=⟨_,rfl⟩;rw[gI,ho,ho2] at hr;simp only at hr;have HR:Hid ((if e1=0 then e2 else e1)=er/\pX (rd ts)=(l,e1)/\pX (rd us)=(m,e2)):=⟨hr,ho,ho2⟩;clear hr ho ho2;have kc:=cR B _ ts w hB HP.out l e1 HR.out.2.1;go_enter func64,ntmps64;go_wp2_with fail;refine kc.mono ?_;rintro e w1 ⟨v1,x1,rfl,hrd1,ho1,hb1⟩;obtain⟨b1,d1,rfl⟩:=ho1.slice;have HO1:=qQ ho1;have HD1:=qQ hrd1;clear ho1 hrd1 kc;by_cases h1:e1=0
 ·subst h1
  have h3:=HR.out.1;rw[zQ rfl] at h3;subst h3;have kc:=cR B _ us w1 (bQ hB hb1.size) (HQ.out.at hB hb1) m e2 HR.out.2.2;go_wp2_with fail;refine kc.mono ?_;rintro e w2 ⟨v2,x2,rfl,hrd2,ho2,hb2⟩;obtain⟨b2,d2,rfl⟩:=ho2.slice;have HO2:=qQ ho2;have HD2:=qQ hrd2;have hbb:=bt hb1 hb2;clear ho2 hrd2 kc;by_cases h2:e2=0
  ·subst h2
   have HZ:Hid (rd x1=rd ts/\rd x2=rd us/\dQ w2 w2.heap.size (.slice b1 x1.length d1) x1/\dQ w2 w2.heap.size (.slice b2 x2.length d2) x2) :=
    ⟨HD1.out.trans (mD HR.out.2.1).1,HD2.out.trans (mD HR.out.2.2).1,(HO1.out.keep hb2).parts,HO2.out.parts⟩
   clear HR;go_wp2;exact uQ (v:=.tuple #[.slice b1 x1.length d1,.slice b2 x2.length d2,.int .i64 0]) (by simp[results,results64,go_sem]) rfl ⟨_,_,_,_,_,_,rfl,hbb,⟨x1,HZ.out.1,x2,HZ.out.2.1,HZ.out.2.2.1,HZ.out.2.2.2⟩⟩
  ·have h2':(e2 == 0)=false:=by simpa using h2
   have h2'':(e2 != 0)=true:=by simpa using h2
   go_wp2;exact uQ (v:=.tuple #[.slice none 0 0,.slice none 0 0,.int .i64 e2]) (by simp[results,results64,go_sem]) rfl ⟨_,_,_,_,_,_,rfl,hbb,by first|exact fun h=>absurd h h2|simp[h2]⟩
 ·have h3:=HR.out.1
  rw[xQ h1] at h3;subst h3;have h1':(e1 == 0)=false:=by simpa using h1
  have h1'':(e1 != 0)=true:=by simpa using h1
  go_wp2;exact uQ (v:=.tuple #[.slice none 0 0,.slice none 0 0,.int .i64 e1]) (by simp[results,results64,go_sem]) rfl ⟨_,_,_,_,_,_,rfl,hb1,by first|exact fun h=>absurd h h1|simp[h1]⟩
theorem csQ {l m:List Pt}(h:gI l m=0):Dis l/\Dis m:=by
 unfold gI at h;split at h
 ·rename_i h1
  exact⟨(mD (m:=(pX l).1) (by rw[<-h1])).2,(mD (m:=(pX m).1) (by rw[<-h])).2⟩
 ·rename_i h1;exact absurd h h1
theorem csX (n:Nat)(aa ab:Option Addr)(na nb ca cb:Nat)(w:World) :
  CallsIn Fence.wide n prog 172 #[.slice aa na ca,.slice ab nb cb] w fun e w'=>e=.returned (.func (.func 201) #[] #[.pointer (some ⟨w.heap.size,0,none⟩),.pointer (some ⟨w.heap.size+1,0,none⟩)])/\w' = (w.alloc (.cells #[.slice aa na ca] 61)).alloc (.cells #[.slice ab nb cb] 61):=by
 refine aA.2 ?_;go_enter func172,ntmps172;go_wp2;go_ret;exact⟨rfl,rfl⟩
theorem csZ (n:Nat)(hn:1<=n)(Ba Bb n₀:Nat)(M:Int)(hM0:0<=M)(va vb:Value)(A0 B0:List Tr)(w:World)(hn₀:n₀<=w.heap.size)(hBa:Ba<w.heap.size)(hBb:Bb<w.heap.size)
  (ha:w.cell? ⟨Ba,0,none⟩=some va) (hb:w.cell? ⟨Bb,0,none⟩=some vb) (hpa:dQ w n₀ va A0) (hpb:dQ w n₀ vb B0) (hma:∀ t∈A0,0<=t.2.2/\t.2.2<=M) (hmb:∀ t∈B0,0<=t.2.2/\t.2.2<=M) :
  SeqStopsK Fence.wide n prog 201 #[.pointer (some ⟨Ba,0,none⟩),.pointer (some ⟨Bb,0,none⟩)] (oL (w:=w) (B:=n₀) (M:=M)) (Below n₀) (fun ys=>ys.map (·.1)=mrg A0 B0) (fun pre=>pre.map (·.1) <+: mrg A0 B0) (A0.length+B0.length) w :=
 fun l J Jx W hW hJ _ hY h0=>crZ n hn l Ba Bb n₀ M hM0 va vb A0 B0 w J Jx W hJ (hW.mono hn₀) (bQ hn₀ hW.size) hY ((hW.cell (p:=⟨Ba,0,none⟩) hBa).trans ha) ((hW.cell (p:=⟨Bb,0,none⟩) hBb).trans hb) hpa hpb hma hmb h0

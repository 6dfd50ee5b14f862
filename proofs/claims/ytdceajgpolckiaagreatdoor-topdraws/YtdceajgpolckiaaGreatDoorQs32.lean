import Derived.Test.YtdceajgpolckiaaGreatDoorQs31
import Derived.Test.YtdceajgpolckiaaGreatDoorQs23
open Go.Proofs.Tryz
set_option linter.unusedSimpArgs false
set_option maxHeartbeats 16000000
set_option maxRecDepth 100000
namespace Go.Proofs.YtdceajgpolckiaaGreatDoor
namespace K.P
open Go.RowKit K.Ds
theorem apJ {disk d1:List Int}{left l1:Int}{ws:List (Nat × Int)}(h:dX disk left ws=(d1,l1,true))(p:Nat × Int):dX disk left (ws++[p])=dX d1 l1 [p]:=by
 induction ws generalizing disk left with
 | nil=>simp only[dX,cQ] at h;obtain⟨rfl,rfl,_⟩:=h;rfl
 | cons q ws ih =>
  obtain⟨a,x⟩:=q;simp only[dX] at h;by_cases c:left=0
  ·rw[zQ c] at h;simp at h
  ·rw[qQ c] at h
   rw[kF,dX,qQ c];exact ih h
theorem aqQ {disk d1:List Int}{left l1:Int}{ws:List (Nat × Int)}(h:dX disk left ws=(d1,l1,false))(r:List (Nat × Int)):dX disk left (ws++r)=(d1,l1,false):=by
 induction ws generalizing disk left with
 | nil=>simp[dX] at h
 | cons q ws ih =>
  obtain⟨a,x⟩:=q;simp only[dX] at h;by_cases c:left=0
  ·rw[zQ c] at h;rw[kF,dX,zQ c];exact h
  ·rw[qQ c] at h
   rw[kF,dX,qQ c];exact ih h
theorem daX {disk d1:List Int}{left l1:Int}{ok:Bool}{ws:List (Nat × Int)}(h:dX disk left ws=(d1,l1,ok))(hl:-9223372036854775808<=left/\left<=9223372036854775807):-9223372036854775808<=l1/\l1<=9223372036854775807:=by
 induction ws generalizing disk left with
 | nil=>simp only[dX,cQ] at h;omega
 | cons q ws ih =>
  obtain⟨a,x⟩:=q;simp only[dX] at h;by_cases c:left=0
  ·rw[zQ c] at h;simp only[cQ] at h;omega
  ·rw[qQ c] at h
   exact ih h (by split <;> omega)
theorem aqX {disk d1:List Int}{left l1:Int}{ok:Bool}{ws:List (Nat × Int)}(h:dX disk left ws=(d1,l1,ok)):d1.length=disk.length:=by
 obtain⟨m,_,h2,_,_⟩:=vB h;rw[h2,uF]
def mB (bd bw:Nat) (a:Option Addr) (c:Nat) (d':List Int) (l':Int) (ok:Bool) (w:World):Ending->World->Prop:=fun e w' =>
 e=.returned (.bool ok)/\DskM w' bd bw a c d' l'/\Keeps w w' (fun k=>k=bd\/k=bw)
theorem nB (bd bw Bd Ba m:Nat)(a:Option Addr)(c:Nat)(disk:List Int)(left:Int)(i:Nat)(x:Int)(w:World)(hd:DskM w bd bw a c disk left)(hB:Cl w Bd 0 (.iface 85 (.pointer (some ⟨bd,0,none⟩))))(hA:Cl w Ba 0 (.int .i64 (m:Int)))(hm4:m<=40000)(hi:i<9)(hr:m+9<=disk.length)(hl:-9223372036854775808<=left/\left<=9223372036854775807)(d':List Int)(l':Int)(ok:Bool)(hp:dX disk left [(m+i,x)]=(d',l',ok)) :
  Calls prog 188 #[.int .i64 i,.int .i64 x,.pointer (some ⟨Bd,0,none⟩),.pointer (some ⟨Ba,0,none⟩)] w (mB bd bw a c d' l' ok w):=by
 have hm : ∀ w : World, (method 475 85 (.pointer (some ⟨bd, 0, none⟩)) "Put").run prog w = .ok (299, .pointer (some ⟨bd, 0, none⟩)) w := fun _ => by kernel_rfl
 obtain⟨j,hj⟩:∃ j,m+i=j:=⟨_,rfl⟩;rw[hj] at hp;have hw1:IntKind.i64.wrap ((m:Int)+(i:Int))=(j:Int):=by rw[sY];omega
 have hw2:(m:Int)+(i:Int)=(j:Int):=by omega
 have kp:=c0J bd bw a c disk left j x w hd (by omega) hl d' l' ok hp;have m3:=hB.c;have m0:=hA.c;clear hd hB hA hj hp;go_enter func188,ntmps188;go_wp2_with fail;refine kp.mono ?_;rintro e w' ⟨rfl,hD2,hK2,_⟩;clear kp;go_wp2;go_ret;exact⟨rfl,hD2,hK2⟩
def bF (n:Nat) (l:List Int) (k:Nat):List (Nat × Int):=(9*n,0)::(List.range k).map fun j=>(9*n+(j+1),l.getD (j+1) 0)
theorem daZ (n:Nat)(l:List Int)(k:Nat):bF n l (k+1)=bF n l k++[(9*n+(k+1),l.getD (k+1) 0)]:=by
 unfold bF;rw[List.range_succ,aG,kF];rfl
theorem daJ (n:Nat)(e:En):wrs n e=bF n (yZ e) 8++[(9*n+0,1)]:=rfl
theorem aqZ (n:Nat)(e:En){k:Nat}(hk:k<=8):∃ r,wrs n e=bF n (yZ e) k++r:=by
 refine⟨((List.range (8 - k)).map fun j=>(9*n+(k+j+1),(yZ e).getD (k+j+1) 0))++[(9*n,1)],?_⟩;unfold wrs bF;rw[kF,<-eC];congr 2;have h:List.range 8=List.range k++(List.range (8 - k)).map (k + ·):=by rw[<-List.range_add,show k+(8 - k)=8 by omega]
 rw[h,aG,List.map_map];congr 1
theorem dbQ (bd bw R n m:Nat)(a:Option Addr)(c:Nat)(disk:List Int)(left:Int)(e:En)(w:World)(hd:DskM w bd bw a c disk left)(hmn:9*n=m)(hRn:R≠bd/\R≠bw)(hbw:bw<w.heap.size)(hn:n<=4096)(hr:9*n+9<=disk.length)(hl:-9223372036854775808<=left/\left<=9223372036854775807)(x0 x1 x2 x3 x4 x5 x6 x7 x8:Int)(hR:xX w R [x0,x1,x2,x3,x4,x5,x6,x7,x8])(hx:yZ e=[x0,x1,x2,x3,x4,x5,x6,x7,x8])(d':List Int)(l':Int)(ok:Bool)(hp:dX disk left (wrs n e)=(d',l',ok)) :
  Calls prog 152 #[.iface 85 (.pointer (some ⟨bd,0,none⟩)),.int .i64 (m:Int),.slice (some ⟨R,0,none⟩) 9 9] w (mB bd bw a c d' l' ok w):=by
 have hmf:=hmf;have HX:Hid (yZ e=[x0,x1,x2,x3,x4,x5,x6,x7,x8]):=hx;have HP:Hid (dX disk left (wrs n e)=(d',l',ok)):=hp;have HM:Hid (9*n=m):=hmn;have hm4:m<=40000:=by omega
 have HRN:Hid (¬ (R=bd\/R=bw)):=fun h=>h.elim hRn.1 hRn.2;have HRL:Hid (9*n+9<=disk.length):=hr;have HLI:Hid (-9223372036854775808<=left/\left<=9223372036854775807):=hl;have hbd:bd<w.heap.size:=hd.c0.lt;obtain⟨W,hW⟩:∃ W,(w.alloc (.cells #[.iface 85 (.pointer (some ⟨bd,0,none⟩))] 129)).alloc (.cells #[.int .i64 (m:Int)] 3)=W:=⟨_,rfl⟩;have HWb:Hid (Below w.heap.size w W):=hW▸bal (ba _ _) _;have HC:Hid (Cl W w.heap.size 0 (.iface 85 (.pointer (some ⟨bd,0,none⟩)))):=hW▸(Cl.new _ 129 0 _ rfl rfl).at (ba _ _);have HA:Hid (Cl W (w.heap.size+1) 0 (.int .i64 (m:Int))):=hW▸Cl.new _ 3 0 _ (by simp) rfl;have HN:Hid (xX W R [x0,x1,x2,x3,x4,x5,x6,x7,x8]):=hR.at HWb.out;have HDW:Hid (DskM W bd bw a c disk left):=hd.at HWb.out;have nK:Hid (¬ (w.heap.size=bd\/w.heap.size=bw)/\¬ (w.heap.size+1=bd\/w.heap.size+1=bw)):=by constructor <;> omega
 obtain⟨d0,l0,ok0,hp0⟩:∃ d0 l0 ok0,dX disk left [(m+0,0)]=(d0,l0,ok0):=⟨_,_,_,rfl⟩;have k0:=nB bd bw w.heap.size (w.heap.size+1) m a c disk left 0 0 W HDW.out HC.out HA.out hm4 (by decide) (by omega) hl d0 l0 ok0 hp0;have HP0:Hid (dX disk left (bF n (yZ e) 0)=(d0,l0,ok0)):=by rw[<-hmn] at hp0;exact hp0
 clear hd hmn hRn hr hl hx hp hp0 hR;go_enter func152,ntmps152;go_wp2_with fail;clear hW;refine k0.mono ?_;rintro x w1 ⟨rfl,hD1,hK1⟩;have K1:Keeps w w1 (fun k=>k=bd\/k=bw):=(nQ HWb.out).trans hK1;cases ok0 with
 | false =>
  obtain⟨r,hr⟩:=aqZ n e (k:=0) (by decide);have h:=aqQ HP0.out r;rw[<-hr,HP.out] at h;simp only[cQ] at h;obtain⟨rfl,rfl,rfl⟩:=h;clear k0;go_wp2;go_ret;exact⟨rfl,hD1,K1⟩
 | true =>
  have HC1:Hid (Cl w1 w.heap.size 0 (.iface 85 (.pointer (some ⟨bd,0,none⟩)))):=lV HC.out hK1 nK.out.1;have HA1:Hid (Cl w1 (w.heap.size+1) 0 (.int .i64 (m:Int))):=lV HA.out hK1 nK.out.2;have HN1:Hid (xX w1 R [x0,x1,x2,x3,x4,x5,x6,x7,x8]):=⟨rfl,fun k x hx=>lV (HN.out.2 k x hx) hK1 HRN.out⟩;have HD1:Hid (DskM w1 bd bw a c d0 l0):=hD1;have HK1:Hid (Keeps w w1 (fun k=>k=bd\/k=bw)):=K1;clear k0 hD1 hK1 K1;go_wp2
  go_loopw [8] (fun t wr=>∃ (k:Nat) (d1:List Int) (l1:Int),t=.int .i64 ((k:Int)+1)/\k<=8/\Hid (dX disk left (bF n (yZ e) k)=(d1,l1,true))/\Hid (DskM wr bd bw a c d1 l1)/\Hid (Keeps w wr (fun k=>k=bd\/k=bw))/\Hid (Cl wr w.heap.size 0 (.iface 85 (.pointer (some ⟨bd,0,none⟩))))/\Hid (Cl wr (w.heap.size+1) 0 (.int .i64 (m:Int)))/\Hid (xX wr R [x0,x1,x2,x3,x4,x5,x6,x7,x8])) (fun t _=>9 - (intOf t).toNat)
  case atStart=>exact⟨0,d0,l0,by simp,by decide,HP0,HD1,HK1,HC1,HA1,HN1⟩
  case round =>
   obtain⟨k,d1,l1,rfl,hk,HPk,HDk,HKk,HCk,HAk,HNk⟩:=hrel;have hlI:=daX HPk.out HLI.out;have hdl:d1.length=disk.length:=aqX HPk.out;have HRk:Hid (m+9<=d1.length):=by rw[Hid,hdl,<-HM.out];exact HRL.out
   clear hdl;by_cases h1:k<8
   ·obtain⟨y,hy⟩:∃ y,[x0,x1,x2,x3,x4,x5,x6,x7,x8][k+1]? = some y:=⟨_,fZ (by simp;omega)⟩
    have m1:=(HNk.out.2 (k+1) y hy).c;have hgd:(yZ e).getD (k+1) 0=y:=by rw[HX.out,List.getD,hy];rfl
    obtain⟨d2,l2,ok2,hp2⟩:∃ d2 l2 ok2,dX d1 l1 [(m+(k+1),y)]=(d2,l2,ok2):=⟨_,_,_,rfl⟩;have hstep:dX disk left (bF n (yZ e) (k+1))=(d2,l2,ok2):=by rw[daZ,apJ HPk.out,hgd,HM.out,hp2]
    have HST:Hid (dX disk left (bF n (yZ e) (k+1))=(d2,l2,ok2)):=hstep;have kc:=nB bd bw w.heap.size (w.heap.size+1) m a c d1 l1 (k+1) y wr HDk.out HCk.out HAk.out hm4 (by omega) HRk.out hlI d2 l2 ok2 hp2;obtain⟨j,hj⟩:∃ j,k+1=j:=⟨_,rfl⟩;have hjI:(k:Int)+1=(j:Int):=by omega
    have hj9:(j:Int)<9:=by omega
    rw[hj] at kc m1;have HJ:Hid (k+1=j):=hj;clear hy hgd hp2 hstep hj;go_wp2_with fail;refine kc.mono ?_;rintro x w2 ⟨rfl,hD2,hK2⟩;have K2:Keeps w w2 (fun k=>k=bd\/k=bw):=HKk.out.trans hK2;cases ok2 with
    | false =>
     obtain⟨r,hr⟩:=aqZ n e (k:=k+1) (by omega);have h:=aqQ HST.out r;rw[<-hr,HP.out] at h;simp only[cQ] at h;obtain⟨rfl,rfl,rfl⟩:=h;clear kc;go_wp2;go_ret;exact⟨rfl,hD2,K2⟩
    | true =>
     have HC2:Hid (Cl w2 w.heap.size 0 (.iface 85 (.pointer (some ⟨bd,0,none⟩)))):=lV HCk.out hK2 nK.out.1;have HA2:Hid (Cl w2 (w.heap.size+1) 0 (.int .i64 (m:Int))):=lV HAk.out hK2 nK.out.2;have HN2:Hid (xX w2 R [x0,x1,x2,x3,x4,x5,x6,x7,x8]):=⟨rfl,fun k x hx=>lV (HNk.out.2 k x hx) hK2 HRN.out⟩;have HD2:Hid (DskM w2 bd bw a c d2 l2):=hD2;have HK2:Hid (Keeps w w2 (fun k=>k=bd\/k=bw)):=K2;clear kc hD2 hK2 K2;go_wp2
     go_roundw
     ·exact⟨k+1,d2,l2,by have:=HJ.out;go_num,by omega,HST,HD2,HK2,HC2,HA2,HN2⟩
     ·have:=HJ.out;simp[intOf];omega
   ·obtain rfl:k=8:=by omega
    have kc:=nB bd bw w.heap.size (w.heap.size+1) m a c d1 l1 0 1 wr HDk.out HCk.out HAk.out hm4 (by decide) HRk.out hlI d' l' ok (by rw[<-HP.out,daJ,apJ HPk.out,HM.out]);go_wp2_with fail;refine kc.mono ?_;rintro x w2 ⟨rfl,hD2,hK2⟩;have K2:Keeps w w2 (fun k=>k=bd\/k=bw):=HKk.out.trans hK2;clear kc;go_wp2;go_ret;exact⟨rfl,hD2,K2⟩
theorem dbX (bh bd bw:Nat)(cv rv:Value)(bk n:Nat)(brk:Bool)(a:Option Addr)(c:Nat)(disk:List Int)(left:Int)(e:En)(w:World)(h:HouC w bh bd cv rv bk n brk)(hd:DskM w bd bw a c disk left)(_hne:bh≠bd/\bh≠bw)(hbw:bw<w.heap.size)(hn:n<=4096)(hr:9*n+9<=disk.length)(hl:-9223372036854775808<=left/\left<=9223372036854775807)(x0 x1 x2 x3 x4 x5 x6 x7 x8:Int)(hx:yZ e=[x0,x1,x2,x3,x4,x5,x6,x7,x8])(d':List Int)(l':Int)(ok:Bool)(hp:dX disk left (wrs n e)=(d',l',ok)) :
  Calls prog 96 #[.pointer (some ⟨bh,0,none⟩),.agg #[.int .i64 x0,.int .i64 x1,.int .i64 x2,.int .i64 x3,.int .i64 x4,.int .i64 x5,.int .i64 x6,.int .i64 x7,.int .i64 x8]] w (mB bd bw a c d' l' ok w):=by
 have hbd:bd<w.heap.size:=hd.c0.lt;obtain⟨m,hmm⟩:∃ m,9*n=m:=⟨_,rfl⟩;have hm4:m<=40000:=by omega
 obtain⟨W,hW⟩:∃ W,w.alloc (.cells #[.int .i64 x0,.int .i64 x1,.int .i64 x2,.int .i64 x3,.int .i64 x4,.int .i64 x5,.int .i64 x6,.int .i64 x7,.int .i64 x8] 187)=W:=⟨_,rfl⟩;have HWb:Hid (Below w.heap.size w W):=hW▸ba _ _;have HN:Hid (xX W w.heap.size [x0,x1,x2,x3,x4,x5,x6,x7,x8]):=hW▸xX.new _ _ _ _ _ _ _ _ _ 187 rfl;have HWs:Hid (w.heap.size<=W.heap.size):=HWb.out.size;have HHW:=h.at HWb.out;have m3:=HHW.c3.c;have I1:Hid (HouC W.drew bh bd cv rv bk n brk):=HHW.at (uQ _ _).drew;have I2:Hid (Keeps w W.drew (fun k=>k=bd\/k=bw)):=nQ (HWb.out.trans ((uQ _ _).drew));have ks:∀ U,HouC U bh bd cv rv bk n brk->_:=fun U hU=>apQ bh bd cv rv bk n m brk U hU hn hmm;have kp:=dbQ bd bw w.heap.size n m a c disk left e W.drew ((hd.at HWb.out).at (uQ _ _).drew) hmm (by omega) (by have:=HWs.out;simp;omega) hn hr hl x0 x1 x2 x3 x4 x5 x6 x7 x8 HN.out.drew hx d' l' ok hp;clear h hd hr hl hx hp hmm HHW;go_enter func96,ntmps96;go_wp2_with fail
 try rw[hW]
 clear hW
 go_region_law (first
  | (go_simp;go_at_call 150;refine(ks _ I1.out).mono ?_;rintro e w' ⟨rfl,rfl⟩;go_wp2_with fail)
  | (go_simp;go_at_call 152;refine kp.mono ?_;rintro e w' ⟨rfl,hD2,hK2⟩;go_wp2_with fail))
 all_goals
  go_wp2;go_ret;exact⟨rfl,hD2,I2.out.trans hK2⟩
end K.P
namespace K.P
open Go.RowKit Go.Shelf K.Ds
attribute [local go_sem] Oper.semAt_some
theorem Keeps.imp {a b:World}{N N':Nat->Prop}(h:Keeps a b N)(hN:∀ k,k<a.heap.size->N k->N' k):Keeps a b N':=⟨h.os,h.tape,h.output,h.size,fun k hk hn=>h.block k hk (fun c=>hn (hN k hk c))⟩
theorem dJ (a:World)(N:Nat->Prop):Keeps a a N:=⟨rfl,rfl,rfl,jQ _,fun _ _ _=>rfl⟩
theorem kG {w w':World}{N:Nat->Prop}{base:Nat}{t:TypeId}{sz:Nat}{v:Value}{n:Nat}{xs:List Value}(h:w.ownsRow base t sz v n xs)(hk:Keeps w w' N)(hn:∀ g,v.ownBlock=some g->¬ N g):w'.ownsRow base t sz v n xs :=
 yH h fun g hg=>hk.block g (rZ h hg).2 (hn g hg)
theorem qG {w:World}{base base':Nat}{t:TypeId}{sz:Nat}{v:Value}{n:Nat}{xs:List Value}(h:w.ownsRow base t sz v n xs)(hb:base'<=base):w.ownsRow base' t sz v n xs:=by
 refine⟨h.1,?_⟩;rcases h.2 with h0|⟨g,cap,cur,hv,hb2,hc⟩
 ·exact .inl h0
 ·exact .inr ⟨g,cap,cur,hv,by omega,hc⟩
end K.P
namespace K.P
open Go.RowKit K.Ds
theorem aqJ {H:Type}{w w':World}{P:Program}{t:TypeId}{R:Value->Option (DataW H × List MemPlace)}{b n:Nat}{D:DataW H}(h:w.ownsMap P t R b n D)(e:w'.heap[b]? = w.heap[b]?):w'.ownsMap P t R b n D:=by
 obtain⟨es,clock,hb,hr⟩:=h;exact⟨es,clock,e.trans hb,hr⟩
theorem arQ {w w':World}{b:Nat}{x y:Value}(h:TwoB w b x y)(e:w'.heap[b]? = w.heap[b]?)(hs:w.heap.size<=w'.heap.size):TwoB w' b x y :=
 ⟨(dZ (w:=w) (a:=⟨b,0,none⟩) e).trans h.c0,(dZ (w:=w) (a:=⟨b,1,none⟩) e).trans h.c1,(uJ (w:=w) (a:=⟨b,0,none⟩) e).trans h.f0,(uJ (w:=w) (a:=⟨b,1,none⟩) e).trans h.f1,zX h.lt hs⟩
theorem BookM.kp {w w':World}{N K:Nat->Prop}{bk bm n:Nat}{v:Value}{D:DataW Value}{done:List En}(h:BookM w N bk bm n v D done)(hk:Keeps w w' K)(hd:∀ k,N k->¬ K k):BookM w' N bk bm n v D done:=by
 obtain⟨hl1,hl2,hl3,hl4⟩:=h.lob;refine⟨h.inv,arQ h.two (hk.block bk h.two.lt (hd _ hl1)) hk.size,aqJ h.own (hk.block bm h.own.lt (hd _ hl2)),kG h.row hk (fun g hg=>hd _ (hl4 g hg).1),h.cnt,h.is,fun x b hx=>?_,h.sz,h.lob⟩;obtain⟨bp,np,Dp,h1,h2,h3,h4,h5,h6,h7⟩:=(h.el x b hx).ex;exact⟨bp,np,Dp,h1,⟨aqJ h2.own (hk.block bp h2.own.lt (hd _ h5)),h2.is,h2.el,h2.rng⟩,h3,h4,h5,h6,h7⟩
def Agr (h B:Nat) (w w':World):Prop:=B<=w'.heap.size/\∀ k,h<=k->k<B->w'.heap[k]? = w.heap[k]?
def xG (w:World) (h B:Nat) (cv rv:Value) (l:List vQ) (ts:List (List Int)):Prop :=
 ∃ rs,rr rs=ts/\∀ w',Agr h B w w'->dQ w' B cv l/\iQ w' B rv rs
theorem xG.kp {w w':World}{h B:Nat}{cv rv:Value}{l:List vQ}{ts:List (List Int)}{K:Nat->Prop}(ht:xG w h B cv rv l ts)(hk:Keeps w w' K)(hB:B<=w.heap.size)(hd:∀ k,h<=k->k<B->¬ K k):xG w' h B cv rv l ts:=by
 obtain⟨rs,h1,h2⟩:=ht;refine⟨rs,h1,fun w'' ha=>h2 w'' ⟨ha.1,fun k hk1 hk2=>?_⟩⟩;rw[ha.2 k hk1 hk2,hk.block k (by omega) (hd k hk1 hk2)]
theorem dcQ {w:World}{h B:Nat}{cv rv:Value}{l:List vQ}{rs:List Rw}(hc:dQ w B cv l)(hr:iQ w B rv rs)(ac:oB (fun b=>h<=b) cv)(ar:dbZ (fun b=>h<=b) rv rs):xG w h B cv rv l (rr rs):=by
 refine⟨rs,rfl,fun w' ha=>⟨?_,?_⟩⟩
 ·obtain⟨a,c,rfl,h2,h3,h4,h5⟩:=hc
  refine⟨a,c,rfl,h2,h3,h4,fun hne=>?_⟩;obtain⟨b,o,rfl,hb,hx⟩:=h5 hne;have e:=ha.2 b (ac b o _ _ rfl) hb;exact⟨b,o,rfl,hb,fun i x hi=>⟨(dZ (w:=w) (a:=⟨b,o+i*2,none⟩) e).trans (hx i x hi).1,(dZ (w:=w) (a:=⟨b,o+i*2+1,none⟩) e).trans (hx i x hi).2⟩⟩
 ·obtain⟨a,c,rfl,h2,h3,h4,h5⟩:=hr
  refine⟨a,c,rfl,h2,h3,fun t ht=>?_,fun hne=>?_⟩
  ·obtain⟨a2,c2,hv,k2,k3,k4⟩:=h4 t ht
   refine⟨a2,c2,hv,k2,k3,fun hne=>?_⟩;obtain⟨b,o,rfl,hb,hbn,hx⟩:=k4 hne;have e:=ha.2 b (ar.2 t ht b o _ _ hv) hb;exact⟨b,o,rfl,hb,hbn,fun i x hi=>(dZ (w:=w) (a:=⟨b,o+i,none⟩) e).trans (hx i x hi)⟩
  ·obtain⟨b,o,rfl,hb,hx⟩:=h5 hne
   have e:=ha.2 b (ar.1 b o _ _ rfl) hb;exact⟨b,o,rfl,hb,fun i t hi=>(dZ (w:=w) (a:=⟨b,o+i,none⟩) e).trans (hx i t hi)⟩
structure HouK (w:World) (M:Nat->Prop) (bh bd:Nat) (l:List vQ) (ts:List (List Int)) (done:List En) (cv rv:Value) (bk bm n:Nat) (v:Value) (D:DataW Value) (h B:Nat) (N:Nat->Prop):Prop where
 hc:HouC w bh bd cv rv bk done.length false
 bo:BookM w N bk bm n v D done
 tb:xG w h B cv rv l ts
 nn:∀ k,N k->B<=k/\k<w.heap.size/\k≠bh
 hB:h<=B/\B<=w.heap.size
 ap:bh<h\/B<=bh
 mm:∀ k,k=bh\/N k\/(h<=k/\k<B)->M k
def iX (w:World) (M:Nat->Prop) (bh bd:Nat) (l:List vQ) (ts:List (List Int)) (done:List En):Prop :=
 ∃ cv rv bk bm n v D h B N,HouK w M bh bd l ts done cv rv bk bm n v D h B N
theorem iX.kp {w w':World}{M K:Nat->Prop}{bh bd:Nat}{l:List vQ}{ts:List (List Int)}{done:List En}(hh:iX w M bh bd l ts done)(hk:Keeps w w' K)(hd:∀ k,M k->¬ K k):iX w' M bh bd l ts done:=by
 obtain⟨cv,rv,bk,bm,n,v,D,h,B,N,q⟩:=hh;refine⟨cv,rv,bk,bm,n,v,D,h,B,N,q.hc.kp hk (hd _ (q.mm _ (.inl rfl))),q.bo.kp hk (fun k hN=>hd _ (q.mm _ (.inr (.inl hN)))),q.tb.kp hk q.hB.2 (fun k h1 h2=>hd _ (q.mm _ (.inr (.inr ⟨h1,h2⟩)))),fun k hN=>?_,⟨q.hB.1,aQ q.hB.2 hk.size⟩,q.ap,q.mm⟩;have:=q.nn k hN;exact⟨this.1,zX this.2.1 hk.size,this.2.2⟩
theorem iX.mono {w:World}{M M':Nat->Prop}{bh bd:Nat}{l:List vQ}{ts:List (List Int)}{done:List En}(hh:iX w M bh bd l ts done)(hm:∀ k,M k->M' k):iX w M' bh bd l ts done:=by
 obtain⟨cv,rv,bk,bm,n,v,D,h,B,N,q⟩:=hh;exact⟨cv,rv,bk,bm,n,v,D,h,B,N,q.hc,q.bo,q.tb,q.nn,q.hB,q.ap,fun k hk=>hm k (q.mm k hk)⟩
def zG (M:Nat->Prop) (bh bd bw:Nat) (a:Option Addr) (c:Nat) (l:List vQ) (ts:List (List Int)) (s':HSt) (er:Int) (w:World):Ending->World->Prop:=fun x w' =>
 x=.returned (.int .i64 er)/\Keeps w w' (fun k=>M k\/k=bd\/k=bw)/\DskM w' bd bw a c s'.disk s'.left /\
  (s'.brk=false->iX w' (fun k=>M k\/w.heap.size<=k/\k<w'.heap.size) bh bd l ts s'.done)/\(s'.brk=true->Cl w' bh 5 (.bool true))
theorem dcX {done:List En}{e:En}(h:qZ done (nrm e)=0):e.2.1.size<=32:=by
 have h1:=(gD (kM h).1).2.2.1;rw[jP] at h1;unfold fJ at h1;simp only[cN,oJ] at h1;have h2:=h1.1.2;rw[tL] at h2;exact h2
theorem arX (M:Nat->Prop)(bh bd bw:Nat)(a:Option Addr)(c:Nat)(l:List vQ)(ts:List (List Int))(disk:List Int)(left:Int)(done:List En)(e:En)(w:World)(hh:iX w M bh bd l ts done)(hd:DskM w bd bw a c disk left)(hM:¬ M bd/\¬ M bw)(hbw:bw<w.heap.size)(hl:-9223372036854775808<=left/\left<=9223372036854775807)(hs:e.2.1.size<=9223372036854775807)(hpI:-9223372036854775808<=e.2.2.1/\e.2.2.1<=9223372036854775807)(hnr:nrm e=e)(s':HSt)(er:Int)(hr:xZ ⟨disk,left,true,false,done⟩ e=(s',er)) :
  Calls prog 48 #[.pointer (some ⟨bh,0,none⟩),ev e] w (zG M bh bd bw a c l ts s' er w):=by
 obtain⟨cv,rv,bk,bm,n,v,D,h,B,N,q⟩:=hh;have hlen:done.length<=4096:=q.bo.inv.len;have hbd:bd<w.heap.size:=hd.c0.lt;have HQ:Hid (HouK w M bh bd l ts done cv rv bk bm n v D h B N):=q;have HD:Hid (DskM w bd bw a c disk left):=hd;have HM:Hid (¬ M bd/\¬ M bw):=hM;have HLI:Hid (-9223372036854775808<=left/\left<=9223372036854775807):=hl;have HNR:Hid (nrm e=e):=hnr;obtain⟨W,hW⟩:∃ W,w.alloc (.cells #[.int .i64 e.1,.string e.2.1,.int .i64 e.2.2.1,.int .i64 e.2.2.2.1,.int .i64 e.2.2.2.2] 53)=W:=⟨_,rfl⟩;have HWb:Hid (Below w.heap.size w W):=hW▸ba _ _;have HWs:Hid (W.heap.size=w.heap.size+1):=by rw[<-hW];simp[Hid]
 have HV:Hid (FivB W w.heap.size (.int .i64 e.1) (.string e.2.1) (.int .i64 e.2.2.1) (.int .i64 e.2.2.2.1) (.int .i64 e.2.2.2.2)):=hW▸FivB.new _ _ _ _ _ _ 53 _ rfl;obtain⟨rm,hrm⟩:∃ rm,decide (9*done.length+9<=disk.length)=rm:=⟨_,rfl⟩;have kr:=apX bh bd bw cv rv bk done.length false a c disk left W (q.hc.at HWb.out) (hd.at HWb.out) hlen rm hrm;have HRM:Hid (decide (9*done.length+9<=disk.length)=rm):=hrm;have HR:Hid (xZ ⟨disk,left,true,false,done⟩ e=(s',er)):=hr;clear q hd hM hl hnr hrm hr;go_enter func48,ntmps48;go_wp2_with fail;clear hW;refine kr.mono ?_;rintro x w1 ⟨rfl,hb1⟩;have B1:Below w.heap.size w w1:=bt HWb.out hb1;cases rm with
 | false =>
  have h2:=HR.out;have h3:disk.length<9*done.length+9:=by have:=wL HRM.out;omega
  unfold xZ at h2;rw[zQ h3] at h2;simp only[cQ] at h2;obtain⟨rfl,rfl⟩:=h2;clear kr;go_wp2;go_ret;refine⟨rfl,nQ B1,HD.out.at B1,fun _=>?_,(fun h=>by cases h)⟩;have h5:iX w M bh bd l ts done:=⟨_,_,_,_,_,_,_,_,_,_,HQ.out⟩;exact(h5.kp (K:=fun _=>False) (nQ B1) (fun _ _ h=>h)).mono (fun k h=>.inl h)
 | true =>
  have hroom:9*done.length+9<=disk.length:=eH HRM.out;have HROOM:Hid (9*done.length+9<=disk.length):=hroom;have V1:FivB w1 w.heap.size (.int .i64 e.1) (.string e.2.1) (.int .i64 e.2.2.1) (.int .i64 e.2.2.2.1) (.int .i64 e.2.2.2.2):=HV.out.below hb1;obtain⟨c0,c1,c2,c3,c4,_,_,_,_,_,hv1⟩:=id V1;have HV1:Hid (FivB w1 w.heap.size (.int .i64 e.1) (.string e.2.1) (.int .i64 e.2.2.1) (.int .i64 e.2.2.2.1) (.int .i64 e.2.2.2.2)):=V1;have HC1:HouC w1 bh bd cv rv bk done.length false:=HQ.out.hc.at B1;have m2:=HC1.c2.c;have HB1:Hid (Below w.heap.size w w1):=B1;have BK1:BookM w1.drew (fun k=>N k\/w1.heap.size<=k) bk bm n v D done:=((HQ.out.bo.kp (K:=fun _=>False) (nQ B1) (fun _ _ h=>h)).keep (uQ _ _).drew).mono (fun k _ h=>.inl h)
  have kd:Calls prog 60 #[.pointer (some ⟨bk,0,none⟩),ev e] w1.drew fun x w'=>x=.returned (.int .i64 (qZ done (nrm e)))/\Keeps w1 w' (fun k=>N k\/w1.heap.size<=k)/\(∃ n v D,BookM w' (fun k=>N k\/w1.heap.size<=k) bk bm n v D (rY done e))/\HouC w' bh bd cv rv bk done.length false/\FivB w' w.heap.size (.int .i64 e.1) (.string e.2.1) (.int .i64 e.2.2.1) (.int .i64 e.2.2.2.1) (.int .i64 e.2.2.2.2):=by
   refine(amQ (fun k=>N k\/w1.heap.size<=k) bk bm n v D done e w1.drew BK1 hs (fun k hk=>.inr hk) hpI).mono ?_;rintro x w2 ⟨h1,h2,h3⟩;have K:Keeps w1 w2 (fun k=>N k\/w1.heap.size<=k):=(nQ (uQ _ _).drew).trans h2;refine⟨h1,K,h3,HC1.kp K ?_,?_⟩
   ·rintro(c|c)
    ·exact(HQ.out.nn _ c).2.2 rfl
    ·have:=HC1.c0.lt;omega
   ·obtain⟨c0,c1,c2,c3,c4,f0,f1,f2,f3,f4,hv1⟩:=V1
    have e:=K.block w.heap.size hv1 (by
     rintro(c|c)
     ·have:=(HQ.out.nn _ c).2.1;omega
     ·omega)
    exact⟨(dZ (w:=w1) (a:=⟨w.heap.size,0,none⟩) e).trans c0,(dZ (w:=w1) (a:=⟨w.heap.size,1,none⟩) e).trans c1,(dZ (w:=w1) (a:=⟨w.heap.size,2,none⟩) e).trans c2,(dZ (w:=w1) (a:=⟨w.heap.size,3,none⟩) e).trans c3,(dZ (w:=w1) (a:=⟨w.heap.size,4,none⟩) e).trans c4,(uJ (w:=w1) (a:=⟨w.heap.size,0,none⟩) e).trans f0,(uJ (w:=w1) (a:=⟨w.heap.size,1,none⟩) e).trans f1,(uJ (w:=w1) (a:=⟨w.heap.size,2,none⟩) e).trans f2,(uJ (w:=w1) (a:=⟨w.heap.size,3,none⟩) e).trans f3,(uJ (w:=w1) (a:=⟨w.heap.size,4,none⟩) e).trans f4,zX hv1 K.size⟩
  clear kr hroom V1 HC1 BK1 B1 hb1;go_wp2_with fail
  go_region_held3 (fun w'=>w'.cell? ⟨bh,2,none⟩=some (.pointer (some ⟨bk,0,none⟩))/\w'.cell? ⟨w.heap.size,0,none⟩=some (.int .i64 e.1)/\w'.cell? ⟨w.heap.size,1,none⟩=some (.string e.2.1)/\w'.cell? ⟨w.heap.size,2,none⟩=some (.int .i64 e.2.2.1)/\w'.cell? ⟨w.heap.size,3,none⟩=some (.int .i64 e.2.2.2.1)/\w'.cell? ⟨w.heap.size,4,none⟩=some (.int .i64 e.2.2.2.2))
   (first|assumption|(simp[go_sem, *];done))
   ((go_at_call 60;refine kd.mono ?_;rintro x w2 ⟨rfl,hK2,hB2,hC2,hV2⟩;have z2:=hC2.c2.c;have y0:=hV2.c0;have y1:=hV2.c1;have y2:=hV2.c2;have y3:=hV2.c3;have y4:=hV2.c4))
  clear kd m2 c0 c1 c2 c3 c4;have HK2:Hid (Keeps w1 w2 (fun k=>N k\/w1.heap.size<=k)):=hK2;obtain⟨n2,v2,D2,hB2⟩:=hB2;have HB2:Hid (BookM w2 (fun k=>N k\/w1.heap.size<=k) bk bm n2 v2 D2 (rY done e)):=hB2;have hs12:w1.heap.size<=w2.heap.size:=hK2.size;have hs01:w.heap.size<=w1.heap.size:=HB1.out.size
  have KW:Hid (∀ w',Keeps w2 w' (fun k=>k=bd\/k=bw\/k=bh)->Keeps w w' (fun k=>M k\/k=bd\/k=bw)):=fun w' hk=>by
   have k1:Keeps w w2 (fun k=>(M k\/k=bd\/k=bw)\/w.heap.size<=k):=(nQ HB1.out).trans (HK2.out.imp (fun k _ h=>h.elim (fun c=>.inl (.inl (HQ.out.mm _ (.inr (.inl c))))) (fun c=>.inr (by omega))))
   have k2:Keeps w w' (fun k=>(M k\/k=bd\/k=bw)\/w.heap.size<=k):=k1.trans (hk.imp (fun k _ h=>by
    rcases h with c|c|rfl
    ·exact .inl (.inr (.inl c))
    ·exact .inl (.inr (.inr c))
    ·exact .inl (.inl (HQ.out.mm _ (.inl rfl)))))
   exact k2.imp (fun k hk h=>h.elim id (fun c=>by omega))
  have HT2:Hid (xG w2 h B cv rv l ts):=(HQ.out.tb.kp (K:=fun _=>False) (nQ HB1.out) HQ.out.hB.2 (fun _ _ _ h=>h)).kp HK2.out (by have:=HQ.out.hB.2;omega) (fun k h1 h2 c=>by
   rcases c with c|c
   ·have:=(HQ.out.nn _ c).1;omega
   ·have:=HQ.out.hB.2;omega)
  have HD2:Hid (DskM w2 bd bw a c disk left):=(HD.out.at HB1.out).kp HK2.out (by
   rintro(c|c)
   ·exact HM.out.1 (HQ.out.mm _ (.inr (.inl c)))
   ·omega) (by
   rintro(c|c)
   ·exact HM.out.2 (HQ.out.mm _ (.inr (.inl c)))
   ·omega)
  have hbh:bh<w.heap.size:=HQ.out.hc.c0.lt;have hNM:Hid (∀ k,N k->M k):=fun k c=>HQ.out.mm _ (.inr (.inl c))
  have FIN:Hid (∀ w' dn,w2.heap.size<=w'.heap.size->HouC w' bh bd cv rv bk (dn:List En).length false->BookM w' (fun k=>N k\/w1.heap.size<=k) bk bm n2 v2 D2 dn->xG w' h B cv rv l ts->iX w' (fun k=>M k\/w.heap.size<=k/\k<w'.heap.size) bh bd l ts dn):=fun w' dn hsz hc hb ht=>by
   refine⟨cv,rv,bk,bm,n2,v2,D2,h,B,(fun k=>(N k\/w1.heap.size<=k)/\k<w'.heap.size),hc,hb.mono (fun k hk c=>⟨c,hk⟩),ht,fun k hk=>?_,⟨HQ.out.hB.1,by have:=HQ.out.hB.2;omega⟩,HQ.out.ap,fun k hk=>?_⟩
   ·refine⟨?_,hk.2,?_⟩
    ·rcases hk.1 with c|c
     ·exact(HQ.out.nn _ c).1
     ·have:=HQ.out.hB.2;omega
    ·rcases hk.1 with c|c
     ·exact(HQ.out.nn _ c).2.2
     ·omega
   ·rcases hk with c|c|c
    ·exact .inl (HQ.out.mm _ (.inl c))
    ·rcases c.1 with d|d
     ·exact .inl (HQ.out.mm _ (.inr (.inl d)))
     ·exact .inr ⟨by omega,c.2⟩
    ·exact .inl (HQ.out.mm _ (.inr (.inr c)))
  clear hK2 hB2;obtain⟨er2,he2⟩:∃ er2,qZ done (nrm e)=er2:=⟨_,rfl⟩;have HE2:Hid (qZ done (nrm e)=er2):=he2;simp only[he2];clear he2
  have hdt:xZ ⟨disk,left,true,false,done⟩ e=if er2≠0 then (⟨disk,left,true,false,done⟩,er2) else if (dX disk left (wrs done.length e)).2.2=true then (⟨(dX disk left (wrs done.length e)).1,(dX disk left (wrs done.length e)).2.1,true,false,done++[e]⟩,0) else (⟨(dX disk left (wrs done.length e)).1,(dX disk left (wrs done.length e)).2.1,true,true,done⟩,11):=by
   have he3:qZ done e=er2:=by rw[<-HE2.out,HNR.out]
   unfold xZ;rw[qQ (by have:=HROOM.out;simp only;omega)];simp only[HNR.out,he3]
  have HDT:Hid _:=hdt.symm.trans HR.out;clear hdt;by_cases h0:er2=0
  ·subst h0
   rw[qQ (by simp)] at HDT;have hst:rY done e=done++[e]:=by unfold rY;rw[zQ HE2.out,HNR.out]
   rw[hst] at HB2;have hfit:=dcX HE2.out;obtain⟨x0,x1,x2,x3,x4,x5,x6,x7,x8,hx⟩:=pM (lM e);have krec:=alX e hfit w2;rw[hx,aoZ] at krec;obtain⟨d1,l1,ok,hp⟩:∃ d1 l1 ok,dX disk left (wrs done.length e)=(d1,l1,ok):=⟨_,_,_,rfl⟩
   have kw:∀ W,HouC W bh bd cv rv bk done.length false->DskM W bd bw a c disk left->bw<W.heap.size->_:=fun W h1 h2 h3=>dbX bh bd bw cv rv bk done.length false a c disk left e W h1 h2 (by
    have:=HQ.out.mm _ (.inl rfl);exact⟨fun c=>HM.out.1 (c▸this),fun c=>HM.out.2 (c▸this)⟩) h3 hlen HROOM.out HLI.out x0 x1 x2 x3 x4 x5 x6 x7 x8 hx d1 l1 ok hp
   rw[hp] at HDT;simp only at HDT;have HC2:Hid (HouC w2 bh bd cv rv bk done.length false):=hC2;clear hx hp hfit hst hC2 z2;go_wp2_with fail;refine krec.mono ?_;rintro x w3 ⟨rfl,hb3⟩;have hs3:=hb3.size;have kw3:=kw w3 (HC2.out.at hb3) (HD2.out.at hb3) (by omega);clear krec;go_wp2_with fail;refine kw3.mono ?_;rintro x w4 ⟨rfl,hD4,hK4⟩;have hs4:=hK4.size;have K24:Keeps w2 w4 (fun k=>k=bd\/k=bw\/k=bh):=(nQ hb3).trans (hK4.imp (fun k _ h=>h.elim .inl (fun c=>.inr (.inl c))))
   have nbh:¬ (bh=bd\/bh=bw):=by
    have:=HQ.out.mm _ (.inl rfl);rintro(c|c)
    ·exact HM.out.1 (c▸this)
    ·exact HM.out.2 (c▸this)
   have C4:HouC w4 bh bd cv rv bk done.length false:=(HC2.out.at hb3).kp hK4 nbh;have HC4:Hid (HouC w4 bh bd cv rv bk done.length false):=C4;have HK24:Hid (Keeps w2 w4 (fun k=>k=bd\/k=bw\/k=bh)):=K24;have HD4:Hid (DskM w4 bd bw a c d1 l1):=hD4;have hne1:bh≠bd:=fun c=>nbh (.inl c);have hne2:bh≠bw:=fun c=>nbh (.inr c);cases ok with
   | false =>
    rw[qQ (by simp)] at HDT;have h6:=HDT.out;simp only[cQ] at h6;obtain⟨rfl,rfl⟩:=h6;obtain⟨q5,f5,_⟩:=C4.c5;clear kw kw3 C4 hD4 hK4 K24;go_wp2;go_ret;refine⟨rfl,KW.out _ (eX HK24.out (.inl (.inr (.inr rfl))) _),HD4.out.kp (N:=fun k=>k=bh) (eX (dJ _ (fun k=>k=bh)) (p:=⟨bh,5,none⟩) (.inl rfl) _) hne1.symm hne2.symm,(fun h=>by cases h),fun _=>HC4.out.c5.set _⟩
   | true =>
    rw[zQ rfl] at HDT;have h6:=HDT.out;simp only[cQ] at h6;obtain⟨rfl,rfl⟩:=h6;obtain⟨q4,f4,_⟩:=C4.c4;have hw1:IntKind.i64.wrap ((done.length:Int)+1)=((done++[e]).length:Int):=by rw[sY];simp;omega
    clear kw kw3 C4 hD4 hK4 K24;go_wp2;have KX:Keeps w2 (w4.setCell ⟨bh,4,none⟩ (.int .i64 ((done.length:Int)+1))) (fun k=>k=bd\/k=bw\/k=bh):=eX HK24.out (.inl (.inr (.inr rfl))) _;go_ret;refine⟨rfl,KW.out _ KX,HD4.out.kp (N:=fun k=>k=bh) (eX (dJ _ (fun k=>k=bh)) (p:=⟨bh,4,none⟩) (.inl rfl) _) hne1.symm hne2.symm,fun _=>FIN.out _ (done++[e]) KX.size ?_ (HB2.out.kp KX ?_) (HT2.out.kp KX (by have:=HQ.out.hB.2;omega) ?_),(fun h=>by cases h)⟩
    ·rw[show((done++[e]).length:Int)=(done.length:Int)+1 by simp]
     exact HC4.out.s4 _
    ·rintro k hk (rfl|rfl|rfl)
     ·rcases hk with d|d
      ·exact HM.out.1 (hNM.out _ d)
      ·omega
     ·rcases hk with d|d
      ·exact HM.out.2 (hNM.out _ d)
      ·omega
     ·rcases hk with d|d
      ·exact(HQ.out.nn _ d).2.2 rfl
      ·omega
    ·rintro k h1 h2 (rfl|rfl|rfl)
     ·exact HM.out.1 (HQ.out.mm _ (.inr (.inr ⟨h1,h2⟩)))
     ·exact HM.out.2 (HQ.out.mm _ (.inr (.inr ⟨h1,h2⟩)))
     ·have:=HQ.out.ap;omega
  ·rw[zQ h0] at HDT
   have h6:=HDT.out;simp only[cQ] at h6;obtain⟨rfl,rfl⟩:=h6;have hst:rY done e=done:=by unfold rY;rw[qQ (by rw[HE2.out];exact h0)]
   rw[hst] at HB2;have h01:(er2 == 0)=false:=by simpa using h0
   have h02:(er2 != 0)=true:=by simpa using h0
   have HC2:Hid (HouC w2 bh bd cv rv bk done.length false):=hC2;clear hst hC2 z2;go_wp2;go_ret;exact⟨rfl,KW.out _ (dJ _ _),HD2.out,fun _=>FIN.out _ done (jQ _) HC2.out HB2.out HT2.out,(fun h=>by cases h)⟩
def vJ (l:List Int):Prop:=∀ x∈l,-9223372036854775808<=x/\x<=9223372036854775807
def vK (bh:Nat) (w:World):Nat:=match w.cell? ⟨bh,4,none⟩ with
 | some (.int _ z)=>z.toNat
 | _=>0
theorem arZ {w:World}{bh bd:Nat}{cv rv:Value}{bk n:Nat}{brk:Bool}(h:HouC w bh bd cv rv bk n brk):vK bh w=n:=by
 unfold vK;rw[h.c4.c];simp
theorem dcZ (x0 x1 x2 x3 x4 x5 x6 x7 x8:Int):yI [x0,x1,x2,x3,x4,x5,x6,x7,x8]=(x1,iY (nU [x5,x6,x7,x8]),x2,x3,x4):=rfl
theorem dcJ {w w':World}{b:Nat}{a0 a1 a2 a3 a4:Value}{N:Nat->Prop}(h:FivB w b a0 a1 a2 a3 a4)(hk:Keeps w w' N)(hn:¬ N b):FivB w' b a0 a1 a2 a3 a4 :=
 have e:=hk.block b h.lt hn
 ⟨(dZ (w:=w) (a:=⟨b,0,none⟩) e).trans h.c0,(dZ (w:=w) (a:=⟨b,1,none⟩) e).trans h.c1,(dZ (w:=w) (a:=⟨b,2,none⟩) e).trans h.c2,(dZ (w:=w) (a:=⟨b,3,none⟩) e).trans h.c3,(dZ (w:=w) (a:=⟨b,4,none⟩) e).trans h.c4,(uJ (w:=w) (a:=⟨b,0,none⟩) e).trans h.f0,(uJ (w:=w) (a:=⟨b,1,none⟩) e).trans h.f1,(uJ (w:=w) (a:=⟨b,2,none⟩) e).trans h.f2,(uJ (w:=w) (a:=⟨b,3,none⟩) e).trans h.f3,(uJ (w:=w) (a:=⟨b,4,none⟩) e).trans h.f4,zX h.lt hk.size⟩
theorem ddQ (lo:Nat)(bh bd bw:Nat)(a:Option Addr)(c:Nat)(l:List vQ)(ts:List (List Int))(disk:List Int)(left:Int)(w:World)(hh:iX w (fun k=>lo<=k) bh bd l ts [])(hd:DskM w bd bw a c disk left)(hM:bd<lo/\bw<lo)(hlo:lo<=w.heap.size)(h64:vJ disk) :
  Calls prog 47 #[.pointer (some ⟨bh,0,none⟩)] w fun x w'=>x=.returned (.tuple #[])/\Below lo w w'/\iX w' (fun k=>lo<=k) bh bd l ts (mJ disk):=by
 have HH0:Hid (iX w (fun k=>lo<=k) bh bd l ts []):=hh;have HD0:Hid (DskM w bd bw a c disk left):=hd;have H64:Hid (vJ disk):=h64;clear hh hd h64;go_enter func47,ntmps47;go_wp2
 go_loopw [] (fun wr=>∃ (dn:List En),Hid (Rds disk dn.length dn)/\Hid (iX wr (fun k=>lo<=k) bh bd l ts dn)/\Hid (Below lo w wr)) (fun wr=>4097 - vK bh wr)
 case atStart=>exact⟨[],.nil,HH0,uQ _ _⟩
 case round =>
  obtain⟨dn,HRd,HHr,HW⟩:=hrel;obtain⟨cv,rv,bk,bm,n,v,D,h,B,N,q⟩:=HHr.out;have HQ:Hid (HouK wr (fun k=>lo<=k) bh bd l ts dn cv rv bk bm n v D h B N):=q;have hlen:dn.length<=4096:=q.bo.inv.len;have HDr:Hid (DskM wr bd bw a c disk left):=HD0.out.kp (N:=fun k=>lo<=k) ⟨HW.out.os,HW.out.tape,HW.out.output,HW.out.size,fun k _ hn=>HW.out.block k (by omega)⟩ (by omega) (by omega);have hlw:lo<=wr.heap.size:=aQ hlo HW.out.size;obtain⟨rm,hrm⟩:∃ rm,decide (9*dn.length+9<=disk.length)=rm:=⟨_,rfl⟩;have kr:=apX bh bd bw cv rv bk dn.length false a c disk left wr q.hc HDr.out hlen rm hrm;have HRM:Hid (decide (9*dn.length+9<=disk.length)=rm):=hrm
  have DONE:Hid (∀ w',Below lo wr w'->iX w' (fun k=>lo<=k) bh bd l ts dn->¬ wU disk dn dn.length->Below lo w w'/\iX w' (fun k=>lo<=k) bh bd l ts (mJ disk)):=fun w' hb hh hc=>by
   refine⟨HW.out.trans hb,?_⟩;rw[ahZ ⟨HRd.out,hc⟩];exact hh
  clear q hrm;go_wp2_with fail;refine kr.mono ?_;rintro x w1 ⟨rfl,hb1⟩;have hs1:=hb1.size;cases rm with
  | false =>
   have hno:¬ wU disk dn dn.length:=fun hc=>by have:=wL HRM.out;exact this hc.1
   clear kr;go_wp2;go_end0;exact⟨rfl,DONE.out _ (hb1.mono hlw) (HHr.out.kp (K:=fun _=>False) (nQ hb1) (fun _ _ h=>h)) hno⟩
  | true =>
   have hroom:9*dn.length+9<=disk.length:=eH HRM.out;obtain⟨x0,x1,x2,x3,x4,x5,x6,x7,x8,hx⟩:=pM (lB hroom);have kd:=daQ bh bd bw cv rv bk dn.length false a c disk left w1 (HQ.out.hc.at hb1) (HDr.out.at hb1) hlen hroom x0 x1 x2 x3 x4 x5 x6 x7 x8 hx;obtain⟨e,he⟩:∃ e,(x1,iY (nU [x5,x6,x7,x8]),x2,x3,x4)=e:=⟨_,rfl⟩;obtain⟨r,hr⟩:∃ r,decide ([x0,x1,x2,x3,x4,x5,x6,x7,x8]=yZ e)=r:=⟨_,rfl⟩;have ke:=fun W=>c9Z x0 x1 x2 x3 x4 x5 x6 x7 x8 W e he r hr;have hen:yI (rcd disk dn.length)=e:=by rw[hx,dcZ];exact he
   have HEN:Hid (yI (rcd disk dn.length)=e/\decide (rcd disk dn.length=yZ e)=r):=⟨hen,by rw[hx];exact hr⟩;have HROOM:Hid (9*dn.length+9<=disk.length):=hroom;have hsz:e.2.1.size<=32:=by rw[<-he];simp only;rw[aoQ];exact aoX _ _ _ _
   have hpI:-9223372036854775808<=e.2.2.1/\e.2.2.1<=9223372036854775807:=by
    have h2:(rcd disk dn.length)[2]? = some x2:=by rw[hx];rfl
    rw[apZ (by decide)] at h2;rw[<-he];exact H64.out x2 (vX h2)
   clear hx he hr hen hroom kr;go_wp2_with fail;refine kd.mono ?_;rintro x w2 ⟨rfl,hb2⟩;have hs2:=hb2.size;have ke2:=ke w2;clear kd;go_wp2_with fail;refine ke2.mono ?_;rintro x w3 ⟨rfl,hb3⟩;have hs3:=hb3.size;have BR:Below wr.heap.size wr w3:=bt (bt hb1 hb2) hb3;have HBR:Hid (Below wr.heap.size wr w3):=BR;clear ke ke2 hb1 hb2 hb3 BR;cases r with
   | false =>
    have hno:¬ wU disk dn dn.length:=fun hc=>by
     have h1:=wL HEN.out.2;have h2:=hc.2.2.1;rw[HEN.out.1] at h2;exact h1 h2.symm
    go_wp2_with fail;go_quiet (fail);go_wp2;refine yQ (fK rfl _ _ _) rfl ?_;have BX:=below_drewN (bal HBR.out (.cells #[.int .i64 e.1,.string e.2.1,.int .i64 e.2.2.1,.int .i64 e.2.2.2.1,.int .i64 e.2.2.2.2] 53)) nq;exact⟨rfl,DONE.out _ (BX.mono hlw) (HHr.out.kp (K:=fun _=>False) (nQ BX) (fun _ _ h=>h)) hno⟩
   | true =>
    have hrec:rcd disk dn.length=yZ e:=eH HEN.out.2;have HREC:Hid (rcd disk dn.length=yZ e):=hrec;obtain⟨W,hW⟩:∃ W,w3.alloc (.cells #[.int .i64 e.1,.string e.2.1,.int .i64 e.2.2.1,.int .i64 e.2.2.2.1,.int .i64 e.2.2.2.2] 53)=W:=⟨_,rfl⟩;have hbW:Below wr.heap.size wr W:=hW▸bal HBR.out _;have V1:FivB W w3.heap.size (.int .i64 e.1) (.string e.2.1) (.int .i64 e.2.2.1) (.int .i64 e.2.2.2.1) (.int .i64 e.2.2.2.2):=hW▸FivB.new _ _ _ _ _ _ 53 _ rfl;have C1:HouC W bh bd cv rv bk dn.length false:=HQ.out.hc.at hbW;obtain⟨c0,c1,c2,c3,c4,_,_,_,_,_,hv1⟩:=id V1;have m2:=C1.c2.c;have BK1:BookM W.drew (fun k=>N k\/W.heap.size<=k) bk bm n v D dn:=((HQ.out.bo.kp (K:=fun _=>False) (nQ hbW) (fun _ _ h=>h)).keep (uQ _ _).drew).mono (fun k _ h=>.inl h);obtain⟨er,her⟩:∃ er,qZ dn (nrm e)=er:=⟨_,rfl⟩
    have kd:Calls prog 60 #[.pointer (some ⟨bk,0,none⟩),ev e] W.drew fun x w'=>x=.returned (.int .i64 er)/\Keeps W w' (fun k=>N k\/W.heap.size<=k)/\(∃ n v D,BookM w' (fun k=>N k\/W.heap.size<=k) bk bm n v D (rY dn e))/\HouC w' bh bd cv rv bk dn.length false/\FivB w' w3.heap.size (.int .i64 e.1) (.string e.2.1) (.int .i64 e.2.2.1) (.int .i64 e.2.2.2.1) (.int .i64 e.2.2.2.2):=by
     refine(amQ (fun k=>N k\/W.heap.size<=k) bk bm n v D dn e W.drew BK1 (by omega) (fun k hk=>.inr hk) hpI).mono ?_;rintro x w4 ⟨h1,h2,h3⟩;rw[her] at h1;have K:Keeps W w4 (fun k=>N k\/W.heap.size<=k):=(nQ (uQ _ _).drew).trans h2;refine⟨h1,K,h3,C1.kp K ?_,dcJ V1 K ?_⟩
     ·rintro(d|d)
      ·exact(HQ.out.nn _ d).2.2 rfl
      ·have:=C1.c0.lt;omega
     ·rintro(d|d)
      ·have:=(HQ.out.nn _ d).2.1;omega
      ·omega
    have HHW:Hid (Below wr.heap.size wr W):=hbW;have hWs:wr.heap.size<=W.heap.size:=hbW.size;have HER:Hid (qZ dn (nrm e)=er):=her;clear V1 C1 BK1 hbW her hrec;go_wp2_with fail;clear hW
    go_region_held3 (fun w'=>w'.cell? ⟨bh,2,none⟩=some (.pointer (some ⟨bk,0,none⟩))/\w'.cell? ⟨w3.heap.size,0,none⟩=some (.int .i64 e.1)/\w'.cell? ⟨w3.heap.size,1,none⟩=some (.string e.2.1)/\w'.cell? ⟨w3.heap.size,2,none⟩=some (.int .i64 e.2.2.1)/\w'.cell? ⟨w3.heap.size,3,none⟩=some (.int .i64 e.2.2.2.1)/\w'.cell? ⟨w3.heap.size,4,none⟩=some (.int .i64 e.2.2.2.2))
     (first|assumption|(simp[go_sem, *];done))
     ((go_at_call 60;refine kd.mono ?_;rintro x w4 ⟨rfl,hK4,hB4,hC4,hV4⟩;have z2:=hC4.c2.c;have y0:=hV4.c0;have y1:=hV4.c1;have y2:=hV4.c2;have y3:=hV4.c3;have y4:=hV4.c4))
    clear kd m2 c0 c1 c2 c3 c4 z2 y0 y1 y2 y3 y4;obtain⟨n4,v4,D4,hB4⟩:=hB4;have hs4:=hK4.size;have HB4:Hid (BookM w4 (fun k=>N k\/W.heap.size<=k) bk bm n4 v4 D4 (rY dn e)):=hB4;have HC4:Hid (HouC w4 bh bd cv rv bk dn.length false):=hC4;have K04:Keeps wr w4 (fun k=>lo<=k):=(nQ HHW.out).trans (hK4.imp (fun k _ d=>d.elim (fun d=>HQ.out.mm _ (.inr (.inl d))) (fun d=>by omega)));have B04:Below lo wr w4:=⟨K04.os,K04.tape,K04.output,K04.size,fun k hk=>K04.block k (by omega) (by omega)⟩;have HB04:Hid (Below lo wr w4):=B04
    have HT4:Hid (xG w4 h B cv rv l ts):=(HQ.out.tb.kp (K:=fun _=>False) (nQ HHW.out) HQ.out.hB.2 (fun _ _ _ h=>h)).kp hK4 (by have:=HQ.out.hB.2;omega) (fun k h1 h2 d=>by
     rcases d with d|d
     ·have:=(HQ.out.nn _ d).1;omega
     ·have:=HQ.out.hB.2;omega)
    have hbh:bh<wr.heap.size:=HQ.out.hc.c0.lt;have hbhl:lo<=bh:=HQ.out.mm _ (.inl rfl)
    have FIN:Hid (∀ w' d',w4.heap.size<=w'.heap.size->HouC w' bh bd cv rv bk (d':List En).length false->BookM w' (fun k=>N k\/W.heap.size<=k) bk bm n4 v4 D4 d'->xG w' h B cv rv l ts->iX w' (fun k=>lo<=k) bh bd l ts d'):=fun w' d' hsz hc hb ht=>by
     refine⟨cv,rv,bk,bm,n4,v4,D4,h,B,(fun k=>(N k\/W.heap.size<=k)/\k<w'.heap.size),hc,hb.mono (fun k hk c=>⟨c,hk⟩),ht,fun k hk=>?_,⟨HQ.out.hB.1,by have:=HQ.out.hB.2;omega⟩,HQ.out.ap,fun k hk=>?_⟩
     ·refine⟨?_,hk.2,?_⟩
      ·rcases hk.1 with d|d
       ·exact(HQ.out.nn _ d).1
       ·have:=HQ.out.hB.2;omega
      ·rcases hk.1 with d|d
       ·exact(HQ.out.nn _ d).2.2
       ·omega
     ·rcases hk with d|d|d
      ·exact HQ.out.mm _ (.inl d)
      ·rcases d.1 with d|d
       ·exact HQ.out.mm _ (.inr (.inl d))
       ·omega
      ·exact HQ.out.mm _ (.inr (.inr d))
    clear hK4 hC4 hB4 hV4 K04 B04;by_cases h0:er=0
    ·subst h0
     have hst:rY dn e=dn++[nrm e]:=by unfold rY;rw[zQ HER.out]
     rw[hst] at HB4
     have hcn:wU disk dn dn.length:=by
      refine⟨HROOM.out,?_,?_,?_⟩
      ·rw[HREC.out];rfl
      ·rw[HEN.out.1,HREC.out]
      ·rw[HEN.out.1];exact HER.out
     have hmo:Rds disk (dn.length+1) (dn++[nrm e]):=by
      have:=Rds.more HRd.out hcn;rw[HEN.out.1] at this;exact this
     have HMO:Hid (Rds disk (dn++[nrm e]).length (dn++[nrm e])):=by rw[Hid,yA];exact hmo
     obtain⟨q4,f4,_⟩:=HC4.out.c4;have hw1:IntKind.i64.wrap ((dn.length:Int)+1)=(dn.length:Int)+1:=by rw[sY];omega
     have KX:Keeps w4 (w4.setCell ⟨bh,4,none⟩ (.int .i64 ((dn.length:Int)+1))) (fun k=>k=bh):=eX (dJ _ (fun k=>k=bh)) (p:=⟨bh,4,none⟩) (.inl rfl) _
     have HC5:Hid (HouC (w4.setCell ⟨bh,4,none⟩ (.int .i64 ((dn.length:Int)+1))) bh bd cv rv bk (dn++[nrm e]).length false):=by
      rw[Hid,show((dn++[nrm e]).length:Int)=(dn.length:Int)+1 by simp];exact HC4.out.s4 _
     have HH5:Hid (iX (w4.setCell ⟨bh,4,none⟩ (.int .i64 ((dn.length:Int)+1))) (fun k=>lo<=k) bh bd l ts (dn++[nrm e])):=by
      refine FIN.out _ _ KX.size HC5.out (HB4.out.kp KX ?_) (HT4.out.kp KX (by have:=HQ.out.hB.2;omega) ?_)
      ·rintro k hk rfl
       rcases hk with d|d
       ·exact(HQ.out.nn _ d).2.2 rfl
       ·omega
      ·rintro k h1 h2 rfl
       have:=HQ.out.ap;omega
     have HB5:Hid (Below lo w (w4.setCell ⟨bh,4,none⟩ (.int .i64 ((dn.length:Int)+1)))):=(HW.out.trans HB04.out).setCell (p:=⟨bh,4,none⟩) hbhl _
     have hm1:vK bh (w4.setCell ⟨bh,4,none⟩ (.int .i64 ((dn.length:Int)+1)))=dn.length+1:=by
      rw[arZ HC5.out];simp
     have hm0:vK bh wr=dn.length:=arZ HQ.out.hc;have HM5:Hid (4097 - vK bh (w4.setCell ⟨bh,4,none⟩ (.int .i64 ((dn.length:Int)+1)))<4097 - vK bh wr):=by rw[Hid,hm1,hm0];omega
     clear hst hcn hmo KX hm1 hm0;go_wp2
     go_roundw
     ·exact⟨dn++[nrm e],HMO,HH5,HB5⟩
     ·exact HM5.out
    ·have hst:rY dn e=dn:=by unfold rY;rw[qQ (by rw[HER.out];exact h0)]
     rw[hst] at HB4
     have hno:¬ wU disk dn dn.length:=fun hc=>by
      have h2:=hc.2.2.2;rw[HEN.out.1,HER.out] at h2;exact h0 h2
     have h01:(er == 0)=false:=by simpa using h0
     have h02:(er != 0)=true:=by simpa using h0
     clear hst;go_wp2;refine yQ (fK rfl _ _ _) rfl ?_;exact⟨rfl,DONE.out _ HB04.out (FIN.out _ dn (jQ _) HC4.out HB4.out HT4.out) hno⟩

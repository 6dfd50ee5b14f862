import Derived.Test.YtdceajgpolckiaaGreatDoorQq33
import Derived.Test.YtdceajgpolckiaaGreatDoorQq24
open Go.Proofs.Tryz
set_option linter.unusedSimpArgs false
set_option maxHeartbeats 16000000
set_option maxRecDepth 100000
namespace Go.Proofs.YtdceajgpolckiaaGreatDoor
namespace K.P
open Go.RowKit K.Ds
theorem atX {H:Type}{w w':World}{P:Program}{t:TypeId}{R:Value->Option (DataW H × List MemPlace)}{b n:Nat}{D:DataW H}(h:w.ownsMap P t R b n D)(e:w'.heap[b]? = w.heap[b]?):w'.ownsMap P t R b n D:=by
 obtain⟨es,clock,hb,hr⟩:=h;exact⟨es,clock,e.trans hb,hr⟩
theorem atZ {w w':World}{b:Nat}{x y:Value}(h:TwoB w b x y)(e:w'.heap[b]? = w.heap[b]?)(hs:w.heap.size<=w'.heap.size):TwoB w' b x y :=
 ⟨(mZ (w:=w) (a:=⟨b,0,none⟩) e).trans h.c0,(mZ (w:=w) (a:=⟨b,1,none⟩) e).trans h.c1,(zV (w:=w) (a:=⟨b,0,none⟩) e).trans h.f0,(zV (w:=w) (a:=⟨b,1,none⟩) e).trans h.f1,qX h.lt hs⟩
theorem BookM.kp {w w':World}{N K:Nat->Prop}{bk bm n:Nat}{v:Value}{D:DataW Value}{done:List En}(h:BookM w N bk bm n v D done)(hk:Keeps w w' K)(hd:∀ k,N k->¬ K k):BookM w' N bk bm n v D done:=by
 obtain⟨hl1,hl2,hl3,hl4⟩:=h.lob;refine⟨h.inv,atZ h.two (hk.block bk h.two.lt (hd _ hl1)) hk.size,atX h.own (hk.block bm h.own.lt (hd _ hl2)),dD h.row hk (fun g hg=>hd _ (hl4 g hg).1),h.cnt,h.is,fun x b hx=>?_,h.sz,h.lob⟩;obtain⟨bp,np,Dp,h1,h2,h3,h4,h5,h6,h7⟩:=(h.el x b hx).ex;exact⟨bp,np,Dp,h1,⟨atX h2.own (hk.block bp h2.own.lt (hd _ h5)),h2.is,h2.el,h2.rng⟩,h3,h4,h5,h6,h7⟩
def Agr (h B:Nat) (w w':World):Prop:=B<=w'.heap.size/\∀ k,h<=k->k<B->w'.heap[k]? = w.heap[k]?
def pG (w:World) (h B:Nat) (cv rv:Value) (l:List jQ) (ts:List (List Int)):Prop :=
 ∃ rs,rr rs=ts/\∀ w',Agr h B w w'->eQ w' B cv l/\iQ w' B rv rs
theorem pG.kp {w w':World}{h B:Nat}{cv rv:Value}{l:List jQ}{ts:List (List Int)}{K:Nat->Prop}(ht:pG w h B cv rv l ts)(hk:Keeps w w' K)(hB:B<=w.heap.size)(hd:∀ k,h<=k->k<B->¬ K k):pG w' h B cv rv l ts:=by
 obtain⟨rs,h1,h2⟩:=ht;refine⟨rs,h1,fun w'' ha=>h2 w'' ⟨ha.1,fun k hk1 hk2=>?_⟩⟩;rw[ha.2 k hk1 hk2,hk.block k (by omega) (hd k hk1 hk2)]
theorem djZ {w:World}{h B:Nat}{cv rv:Value}{l:List jQ}{rs:List Rw}(hc:eQ w B cv l)(hr:iQ w B rv rs)(ac:uC (fun b=>h<=b) cv)(ar:djQ (fun b=>h<=b) rv rs):pG w h B cv rv l (rr rs):=by
 refine⟨rs,rfl,fun w' ha=>⟨?_,?_⟩⟩
 ·obtain⟨a,c,rfl,h2,h3,h4,h5⟩:=hc
  refine⟨a,c,rfl,h2,h3,h4,fun hne=>?_⟩;obtain⟨b,o,rfl,hb,hx⟩:=h5 hne;have e:=ha.2 b (ac b o _ _ rfl) hb;exact⟨b,o,rfl,hb,fun i x hi=>⟨(mZ (w:=w) (a:=⟨b,o+i*2,none⟩) e).trans (hx i x hi).1,(mZ (w:=w) (a:=⟨b,o+i*2+1,none⟩) e).trans (hx i x hi).2⟩⟩
 ·obtain⟨a,c,rfl,h2,h3,h4,h5⟩:=hr
  refine⟨a,c,rfl,h2,h3,fun t ht=>?_,fun hne=>?_⟩
  ·obtain⟨a2,c2,hv,k2,k3,k4⟩:=h4 t ht
   refine⟨a2,c2,hv,k2,k3,fun hne=>?_⟩;obtain⟨b,o,rfl,hb,hbn,hx⟩:=k4 hne;have e:=ha.2 b (ar.2 t ht b o _ _ hv) hb;exact⟨b,o,rfl,hb,hbn,fun i x hi=>(mZ (w:=w) (a:=⟨b,o+i,none⟩) e).trans (hx i x hi)⟩
  ·obtain⟨b,o,rfl,hb,hx⟩:=h5 hne
   have e:=ha.2 b (ar.1 b o _ _ rfl) hb;exact⟨b,o,rfl,hb,fun i t hi=>(mZ (w:=w) (a:=⟨b,o+i,none⟩) e).trans (hx i t hi)⟩
structure HouK (w:World) (M:Nat->Prop) (bh bd:Nat) (l:List jQ) (ts:List (List Int)) (done:List En) (cv rv:Value) (bk bm n:Nat) (v:Value) (D:DataW Value) (h B:Nat) (N:Nat->Prop):Prop where
 hc:HouC w bh bd cv rv bk done.length false
 bo:BookM w N bk bm n v D done
 tb:pG w h B cv rv l ts
 nn:∀ k,N k->B<=k/\k<w.heap.size/\k≠bh
 hB:h<=B/\B<=w.heap.size
 ap:bh<h\/B<=bh
 mm:∀ k,k=bh\/N k\/(h<=k/\k<B)->M k
def kX (w:World) (M:Nat->Prop) (bh bd:Nat) (l:List jQ) (ts:List (List Int)) (done:List En):Prop :=
 ∃ cv rv bk bm n v D h B N,HouK w M bh bd l ts done cv rv bk bm n v D h B N
theorem kX.kp {w w':World}{M K:Nat->Prop}{bh bd:Nat}{l:List jQ}{ts:List (List Int)}{done:List En}(hh:kX w M bh bd l ts done)(hk:Keeps w w' K)(hd:∀ k,M k->¬ K k):kX w' M bh bd l ts done:=by
 obtain⟨cv,rv,bk,bm,n,v,D,h,B,N,q⟩:=hh;refine⟨cv,rv,bk,bm,n,v,D,h,B,N,q.hc.kp hk (hd _ (q.mm _ (.inl rfl))),q.bo.kp hk (fun k hN=>hd _ (q.mm _ (.inr (.inl hN)))),q.tb.kp hk q.hB.2 (fun k h1 h2=>hd _ (q.mm _ (.inr (.inr ⟨h1,h2⟩)))),fun k hN=>?_,⟨q.hB.1,uQ q.hB.2 hk.size⟩,q.ap,q.mm⟩;have:=q.nn k hN;exact⟨this.1,qX this.2.1 hk.size,this.2.2⟩
theorem kX.mono {w:World}{M M':Nat->Prop}{bh bd:Nat}{l:List jQ}{ts:List (List Int)}{done:List En}(hh:kX w M bh bd l ts done)(hm:∀ k,M k->M' k):kX w M' bh bd l ts done:=by
 obtain⟨cv,rv,bk,bm,n,v,D,h,B,N,q⟩:=hh;exact⟨cv,rv,bk,bm,n,v,D,h,B,N,q.hc,q.bo,q.tb,q.nn,q.hB,q.ap,fun k hk=>hm k (q.mm k hk)⟩
def xG (M:Nat->Prop) (bh bd bw:Nat) (a:Option Addr) (c:Nat) (l:List jQ) (ts:List (List Int)) (s':HSt) (er:Int) (w:World):Ending->World->Prop:=fun x w' =>
 x=.returned (.int .i64 er)/\Keeps w w' (fun k=>M k\/k=bd\/k=bw)/\DskM w' bd bw a c s'.disk s'.left /\
  (s'.brk=false->kX w' (fun k=>M k\/w.heap.size<=k/\k<w'.heap.size) bh bd l ts s'.done)/\(s'.brk=true->Cl w' bh 5 (.bool true))
theorem djJ {done:List En}{e:En}(h:cZ done (nrm e)=0):e.2.1.size<=32:=by
 have h1:=(xH (pN h).1).2.2.1;rw[uB] at h1;unfold eZ at h1;simp only[wM,oV] at h1;have h2:=h1.1.2;rw[qN] at h2;exact h2
theorem atJ (M:Nat->Prop)(bh bd bw:Nat)(a:Option Addr)(c:Nat)(l:List jQ)(ts:List (List Int))(disk:List Int)(left:Int)(done:List En)(e:En)(w:World)(hh:kX w M bh bd l ts done)(hd:DskM w bd bw a c disk left)(hM:¬ M bd/\¬ M bw)(hbw:bw<w.heap.size)(hl:-9223372036854775808<=left/\left<=9223372036854775807)(hs:e.2.1.size<=9223372036854775807)(hpI:-9223372036854775808<=e.2.2.1/\e.2.2.1<=9223372036854775807)(hnr:nrm e=e)(s':HSt)(er:Int)(hr:xZ ⟨disk,left,true,false,done⟩ e=(s',er)) :
  Calls prog 48 #[.pointer (some ⟨bh,0,none⟩),ev e] w (xG M bh bd bw a c l ts s' er w):=by
 obtain⟨cv,rv,bk,bm,n,v,D,h,B,N,q⟩:=hh;have hlen:done.length<=4096:=q.bo.inv.len;have hbd:bd<w.heap.size:=hd.c0.lt;have HQ:Hid (HouK w M bh bd l ts done cv rv bk bm n v D h B N):=q;have HD:Hid (DskM w bd bw a c disk left):=hd;have HM:Hid (¬ M bd/\¬ M bw):=hM;have HLI:Hid (-9223372036854775808<=left/\left<=9223372036854775807):=hl;have HNR:Hid (nrm e=e):=hnr;obtain⟨W,hW⟩:∃ W,w.alloc (.cells #[.int .i64 e.1,.string e.2.1,.int .i64 e.2.2.1,.int .i64 e.2.2.2.1,.int .i64 e.2.2.2.2] 53)=W:=⟨_,rfl⟩;have HWb:Hid (Below w.heap.size w W):=hW▸ba _ _;have HWs:Hid (W.heap.size=w.heap.size+1):=by rw[<-hW];simp[Hid]
 have HV:Hid (FivB W w.heap.size (.int .i64 e.1) (.string e.2.1) (.int .i64 e.2.2.1) (.int .i64 e.2.2.2.1) (.int .i64 e.2.2.2.2)):=hW▸FivB.new _ _ _ _ _ _ 53 _ rfl;obtain⟨rm,hrm⟩:∃ rm,decide (9*done.length+9<=disk.length)=rm:=⟨_,rfl⟩;have kr:=arJ bh bd bw cv rv bk done.length false a c disk left W (q.hc.at HWb.out) (hd.at HWb.out) hlen rm hrm;have HRM:Hid (decide (9*done.length+9<=disk.length)=rm):=hrm;have HR:Hid (xZ ⟨disk,left,true,false,done⟩ e=(s',er)):=hr;clear q hd hM hl hnr hrm hr;go_enter func48,ntmps48;go_wp2_with fail;clear hW;refine kr.mono ?_;rintro x w1 ⟨rfl,hb1⟩;have B1:Below w.heap.size w w1:=bt HWb.out hb1;cases rm with
 | false =>
  have h2:=HR.out;have h3:disk.length<9*done.length+9:=by have:=jN HRM.out;omega
  unfold xZ at h2;rw[xQ h3] at h2;simp only[cQ] at h2;obtain⟨rfl,rfl⟩:=h2;clear kr;go_wp2;go_ret;refine⟨rfl,oQ B1,HD.out.at B1,fun _=>?_,(fun h=>by cases h)⟩;have h5:kX w M bh bd l ts done:=⟨_,_,_,_,_,_,_,_,_,_,HQ.out⟩;exact(h5.kp (K:=fun _=>False) (oQ B1) (fun _ _ h=>h)).mono (fun k h=>.inl h)
 | true =>
  have hroom:9*done.length+9<=disk.length:=cH HRM.out;have HROOM:Hid (9*done.length+9<=disk.length):=hroom;have V1:FivB w1 w.heap.size (.int .i64 e.1) (.string e.2.1) (.int .i64 e.2.2.1) (.int .i64 e.2.2.2.1) (.int .i64 e.2.2.2.2):=HV.out.below hb1;obtain⟨c0,c1,c2,c3,c4,_,_,_,_,_,hv1⟩:=id V1;have HV1:Hid (FivB w1 w.heap.size (.int .i64 e.1) (.string e.2.1) (.int .i64 e.2.2.1) (.int .i64 e.2.2.2.1) (.int .i64 e.2.2.2.2)):=V1;have HC1:HouC w1 bh bd cv rv bk done.length false:=HQ.out.hc.at B1;have m2:=HC1.c2.c;have HB1:Hid (Below w.heap.size w w1):=B1;have BK1:BookM w1.drew (fun k=>N k\/w1.heap.size<=k) bk bm n v D done:=((HQ.out.bo.kp (K:=fun _=>False) (oQ B1) (fun _ _ h=>h)).keep (aQ _ _).drew).mono (fun k _ h=>.inl h)
  have kd:Calls prog 60 #[.pointer (some ⟨bk,0,none⟩),ev e] w1.drew fun x w'=>x=.returned (.int .i64 (cZ done (nrm e)))/\Keeps w1 w' (fun k=>N k\/w1.heap.size<=k)/\(∃ n v D,BookM w' (fun k=>N k\/w1.heap.size<=k) bk bm n v D (iU done e))/\HouC w' bh bd cv rv bk done.length false/\FivB w' w.heap.size (.int .i64 e.1) (.string e.2.1) (.int .i64 e.2.2.1) (.int .i64 e.2.2.2.1) (.int .i64 e.2.2.2.2):=by
   refine(aoQ (fun k=>N k\/w1.heap.size<=k) bk bm n v D done e w1.drew BK1 hs (fun k hk=>.inr hk) hpI).mono ?_;rintro x w2 ⟨h1,h2,h3⟩;have K:Keeps w1 w2 (fun k=>N k\/w1.heap.size<=k):=(oQ (aQ _ _).drew).trans h2;refine⟨h1,K,h3,HC1.kp K ?_,?_⟩
   ·rintro(c|c)
    ·exact(HQ.out.nn _ c).2.2 rfl
    ·have:=HC1.c0.lt;omega
   ·obtain⟨c0,c1,c2,c3,c4,f0,f1,f2,f3,f4,hv1⟩:=V1
    have e:=K.block w.heap.size hv1 (by
     rintro(c|c)
     ·have:=(HQ.out.nn _ c).2.1;omega
     ·omega)
    exact⟨(mZ (w:=w1) (a:=⟨w.heap.size,0,none⟩) e).trans c0,(mZ (w:=w1) (a:=⟨w.heap.size,1,none⟩) e).trans c1,(mZ (w:=w1) (a:=⟨w.heap.size,2,none⟩) e).trans c2,(mZ (w:=w1) (a:=⟨w.heap.size,3,none⟩) e).trans c3,(mZ (w:=w1) (a:=⟨w.heap.size,4,none⟩) e).trans c4,(zV (w:=w1) (a:=⟨w.heap.size,0,none⟩) e).trans f0,(zV (w:=w1) (a:=⟨w.heap.size,1,none⟩) e).trans f1,(zV (w:=w1) (a:=⟨w.heap.size,2,none⟩) e).trans f2,(zV (w:=w1) (a:=⟨w.heap.size,3,none⟩) e).trans f3,(zV (w:=w1) (a:=⟨w.heap.size,4,none⟩) e).trans f4,qX hv1 K.size⟩
  clear kr hroom V1 HC1 BK1 B1 hb1;go_wp2_with fail
  go_region_held3 (fun w'=>w'.cell? ⟨bh,2,none⟩=some (.pointer (some ⟨bk,0,none⟩))/\w'.cell? ⟨w.heap.size,0,none⟩=some (.int .i64 e.1)/\w'.cell? ⟨w.heap.size,1,none⟩=some (.string e.2.1)/\w'.cell? ⟨w.heap.size,2,none⟩=some (.int .i64 e.2.2.1)/\w'.cell? ⟨w.heap.size,3,none⟩=some (.int .i64 e.2.2.2.1)/\w'.cell? ⟨w.heap.size,4,none⟩=some (.int .i64 e.2.2.2.2))
   (first|assumption|(simp[go_sem, *];done))
   ((go_at_call 60;refine kd.mono ?_;rintro x w2 ⟨rfl,hK2,hB2,hC2,hV2⟩;have z2:=hC2.c2.c;have y0:=hV2.c0;have y1:=hV2.c1;have y2:=hV2.c2;have y3:=hV2.c3;have y4:=hV2.c4))
  clear kd m2 c0 c1 c2 c3 c4;have HK2:Hid (Keeps w1 w2 (fun k=>N k\/w1.heap.size<=k)):=hK2;obtain⟨n2,v2,D2,hB2⟩:=hB2;have HB2:Hid (BookM w2 (fun k=>N k\/w1.heap.size<=k) bk bm n2 v2 D2 (iU done e)):=hB2;have hs12:w1.heap.size<=w2.heap.size:=hK2.size;have hs01:w.heap.size<=w1.heap.size:=HB1.out.size
  have KW:Hid (∀ w',Keeps w2 w' (fun k=>k=bd\/k=bw\/k=bh)->Keeps w w' (fun k=>M k\/k=bd\/k=bw)):=fun w' hk=>by
   have k1:Keeps w w2 (fun k=>(M k\/k=bd\/k=bw)\/w.heap.size<=k):=(oQ HB1.out).trans (HK2.out.imp (fun k _ h=>h.elim (fun c=>.inl (.inl (HQ.out.mm _ (.inr (.inl c))))) (fun c=>.inr (by omega))))
   have k2:Keeps w w' (fun k=>(M k\/k=bd\/k=bw)\/w.heap.size<=k):=k1.trans (hk.imp (fun k _ h=>by
    rcases h with c|c|rfl
    ·exact .inl (.inr (.inl c))
    ·exact .inl (.inr (.inr c))
    ·exact .inl (.inl (HQ.out.mm _ (.inl rfl)))))
   exact k2.imp (fun k hk h=>h.elim id (fun c=>by omega))
  have HT2:Hid (pG w2 h B cv rv l ts):=(HQ.out.tb.kp (K:=fun _=>False) (oQ HB1.out) HQ.out.hB.2 (fun _ _ _ h=>h)).kp HK2.out (by have:=HQ.out.hB.2;omega) (fun k h1 h2 c=>by
   rcases c with c|c
   ·have:=(HQ.out.nn _ c).1;omega
   ·have:=HQ.out.hB.2;omega)
  have HD2:Hid (DskM w2 bd bw a c disk left):=(HD.out.at HB1.out).kp HK2.out (by
   rintro(c|c)
   ·exact HM.out.1 (HQ.out.mm _ (.inr (.inl c)))
   ·omega) (by
   rintro(c|c)
   ·exact HM.out.2 (HQ.out.mm _ (.inr (.inl c)))
   ·omega)
  have hbh:bh<w.heap.size:=HQ.out.hc.c0.lt;have hNM:Hid (∀ k,N k->M k):=fun k c=>HQ.out.mm _ (.inr (.inl c))
  have FIN:Hid (∀ w' dn,w2.heap.size<=w'.heap.size->HouC w' bh bd cv rv bk (dn:List En).length false->BookM w' (fun k=>N k\/w1.heap.size<=k) bk bm n2 v2 D2 dn->pG w' h B cv rv l ts->kX w' (fun k=>M k\/w.heap.size<=k/\k<w'.heap.size) bh bd l ts dn):=fun w' dn hsz hc hb ht=>by
   refine⟨cv,rv,bk,bm,n2,v2,D2,h,B,(fun k=>(N k\/w1.heap.size<=k)/\k<w'.heap.size),hc,hb.mono (fun k hk c=>⟨c,hk⟩),ht,fun k hk=>?_,⟨HQ.out.hB.1,by have:=HQ.out.hB.2;omega⟩,HQ.out.ap,fun k hk=>?_⟩
   ·refine⟨?_,hk.2,?_⟩
    ·rcases hk.1 with c|c
     ·exact(HQ.out.nn _ c).1
     ·have:=HQ.out.hB.2;omega
    ·rcases hk.1 with c|c
     ·exact(HQ.out.nn _ c).2.2
     ·omega
   ·rcases hk with c|c|c
    ·exact .inl (HQ.out.mm _ (.inl c))
    ·rcases c.1 with d|d
     ·exact .inl (HQ.out.mm _ (.inr (.inl d)))
     ·exact .inr ⟨by omega,c.2⟩
    ·exact .inl (HQ.out.mm _ (.inr (.inr c)))
  clear hK2 hB2;obtain⟨er2,he2⟩:∃ er2,cZ done (nrm e)=er2:=⟨_,rfl⟩;have HE2:Hid (cZ done (nrm e)=er2):=he2;simp only[he2];clear he2
  have hdt:xZ ⟨disk,left,true,false,done⟩ e=if er2≠0 then (⟨disk,left,true,false,done⟩,er2) else if (iX disk left (wrs done.length e)).2.2=true then (⟨(iX disk left (wrs done.length e)).1,(iX disk left (wrs done.length e)).2.1,true,false,done++[e]⟩,0) else (⟨(iX disk left (wrs done.length e)).1,(iX disk left (wrs done.length e)).2.1,true,true,done⟩,11):=by
   have he3:cZ done e=er2:=by rw[<-HE2.out,HNR.out]
   unfold xZ;rw[qQ (by have:=HROOM.out;simp only;omega)];simp only[HNR.out,he3]
  have HDT:Hid _:=hdt.symm.trans HR.out;clear hdt;by_cases h0:er2=0
  ·subst h0
   rw[qQ (by simp)] at HDT;have hst:iU done e=done++[e]:=by unfold iU;rw[xQ HE2.out,HNR.out]
   rw[hst] at HB2;have hfit:=djJ HE2.out;obtain⟨x0,x1,x2,x3,x4,x5,x6,x7,x8,hx⟩:=qO (rN e);have krec:=anX e hfit w2;rw[hx,arQ] at krec;obtain⟨d1,l1,ok,hp⟩:∃ d1 l1 ok,iX disk left (wrs done.length e)=(d1,l1,ok):=⟨_,_,_,rfl⟩
   have kw:∀ W,HouC W bh bd cv rv bk done.length false->DskM W bd bw a c disk left->bw<W.heap.size->_:=fun W h1 h2 h3=>diJ bh bd bw cv rv bk done.length false a c disk left e W h1 h2 (by
    have:=HQ.out.mm _ (.inl rfl);exact⟨fun c=>HM.out.1 (c▸this),fun c=>HM.out.2 (c▸this)⟩) h3 hlen HROOM.out HLI.out x0 x1 x2 x3 x4 x5 x6 x7 x8 hx d1 l1 ok hp
   rw[hp] at HDT;simp only at HDT;have HC2:Hid (HouC w2 bh bd cv rv bk done.length false):=hC2;clear hx hp hfit hst hC2 z2;go_wp2_with fail;refine krec.mono ?_;rintro x w3 ⟨rfl,hb3⟩;have hs3:=hb3.size;have kw3:=kw w3 (HC2.out.at hb3) (HD2.out.at hb3) (by omega);clear krec;go_wp2_with fail;refine kw3.mono ?_;rintro x w4 ⟨rfl,hD4,hK4⟩;have hs4:=hK4.size;have K24:Keeps w2 w4 (fun k=>k=bd\/k=bw\/k=bh):=(oQ hb3).trans (hK4.imp (fun k _ h=>h.elim .inl (fun c=>.inr (.inl c))))
   have nbh:¬ (bh=bd\/bh=bw):=by
    have:=HQ.out.mm _ (.inl rfl);rintro(c|c)
    ·exact HM.out.1 (c▸this)
    ·exact HM.out.2 (c▸this)
   have C4:HouC w4 bh bd cv rv bk done.length false:=(HC2.out.at hb3).kp hK4 nbh;have HC4:Hid (HouC w4 bh bd cv rv bk done.length false):=C4;have HK24:Hid (Keeps w2 w4 (fun k=>k=bd\/k=bw\/k=bh)):=K24;have HD4:Hid (DskM w4 bd bw a c d1 l1):=hD4;have hne1:bh≠bd:=fun c=>nbh (.inl c);have hne2:bh≠bw:=fun c=>nbh (.inr c);cases ok with
   | false =>
    rw[qQ (by simp)] at HDT;have h6:=HDT.out;simp only[cQ] at h6;obtain⟨rfl,rfl⟩:=h6;obtain⟨q5,f5,_⟩:=C4.c5;clear kw kw3 C4 hD4 hK4 K24;go_wp2;go_ret;refine⟨rfl,KW.out _ (eX HK24.out (.inl (.inr (.inr rfl))) _),HD4.out.kp (N:=fun k=>k=bh) (eX (rJ _ (fun k=>k=bh)) (p:=⟨bh,5,none⟩) (.inl rfl) _) hne1.symm hne2.symm,(fun h=>by cases h),fun _=>HC4.out.c5.set _⟩
   | true =>
    rw[xQ rfl] at HDT;have h6:=HDT.out;simp only[cQ] at h6;obtain⟨rfl,rfl⟩:=h6;obtain⟨q4,f4,_⟩:=C4.c4;have hw1:IntKind.i64.wrap ((done.length:Int)+1)=((done++[e]).length:Int):=by rw[bJ];simp;omega
    clear kw kw3 C4 hD4 hK4 K24;go_wp2;have KX:Keeps w2 (w4.setCell ⟨bh,4,none⟩ (.int .i64 ((done.length:Int)+1))) (fun k=>k=bd\/k=bw\/k=bh):=eX HK24.out (.inl (.inr (.inr rfl))) _;go_ret;refine⟨rfl,KW.out _ KX,HD4.out.kp (N:=fun k=>k=bh) (eX (rJ _ (fun k=>k=bh)) (p:=⟨bh,4,none⟩) (.inl rfl) _) hne1.symm hne2.symm,fun _=>FIN.out _ (done++[e]) KX.size ?_ (HB2.out.kp KX ?_) (HT2.out.kp KX (by have:=HQ.out.hB.2;omega) ?_),(fun h=>by cases h)⟩
    ·rw[show((done++[e]).length:Int)=(done.length:Int)+1 by simp]
     exact HC4.out.s4 _
    ·rintro k hk (rfl|rfl|rfl)
     ·rcases hk with d|d
      ·exact HM.out.1 (hNM.out _ d)
      ·omega
     ·rcases hk with d|d
      ·exact HM.out.2 (hNM.out _ d)
      ·omega
     ·rcases hk with d|d
      ·exact(HQ.out.nn _ d).2.2 rfl
      ·omega
    ·rintro k h1 h2 (rfl|rfl|rfl)
     ·exact HM.out.1 (HQ.out.mm _ (.inr (.inr ⟨h1,h2⟩)))
     ·exact HM.out.2 (HQ.out.mm _ (.inr (.inr ⟨h1,h2⟩)))
     ·have:=HQ.out.ap;omega
  ·rw[xQ h0] at HDT
   have h6:=HDT.out;simp only[cQ] at h6;obtain⟨rfl,rfl⟩:=h6;have hst:iU done e=done:=by unfold iU;rw[qQ (by rw[HE2.out];exact h0)]
   rw[hst] at HB2;have h01:(er2 == 0)=false:=by simpa using h0
   have h02:(er2 != 0)=true:=by simpa using h0
   have HC2:Hid (HouC w2 bh bd cv rv bk done.length false):=hC2;clear hst hC2 z2;go_wp2;go_ret;exact⟨rfl,KW.out _ (rJ _ _),HD2.out,fun _=>FIN.out _ done (vQ _) HC2.out HB2.out HT2.out,(fun h=>by cases h)⟩
def sJ (l:List Int):Prop:=∀ x∈l,-9223372036854775808<=x/\x<=9223372036854775807
def qL (bh:Nat) (w:World):Nat:=match w.cell? ⟨bh,4,none⟩ with
 | some (.int _ z)=>z.toNat
 | _=>0
theorem auQ {w:World}{bh bd:Nat}{cv rv:Value}{bk n:Nat}{brk:Bool}(h:HouC w bh bd cv rv bk n brk):qL bh w=n:=by
 unfold qL;rw[h.c4.c];simp
theorem dkQ (x0 x1 x2 x3 x4 x5 x6 x7 x8:Int):pI [x0,x1,x2,x3,x4,x5,x6,x7,x8]=(x1,eU (bA [x5,x6,x7,x8]),x2,x3,x4):=rfl
theorem dkX {w w':World}{b:Nat}{a0 a1 a2 a3 a4:Value}{N:Nat->Prop}(h:FivB w b a0 a1 a2 a3 a4)(hk:Keeps w w' N)(hn:¬ N b):FivB w' b a0 a1 a2 a3 a4 :=
 have e:=hk.block b h.lt hn
 ⟨(mZ (w:=w) (a:=⟨b,0,none⟩) e).trans h.c0,(mZ (w:=w) (a:=⟨b,1,none⟩) e).trans h.c1,(mZ (w:=w) (a:=⟨b,2,none⟩) e).trans h.c2,(mZ (w:=w) (a:=⟨b,3,none⟩) e).trans h.c3,(mZ (w:=w) (a:=⟨b,4,none⟩) e).trans h.c4,(zV (w:=w) (a:=⟨b,0,none⟩) e).trans h.f0,(zV (w:=w) (a:=⟨b,1,none⟩) e).trans h.f1,(zV (w:=w) (a:=⟨b,2,none⟩) e).trans h.f2,(zV (w:=w) (a:=⟨b,3,none⟩) e).trans h.f3,(zV (w:=w) (a:=⟨b,4,none⟩) e).trans h.f4,qX h.lt hk.size⟩
theorem dkZ (lo:Nat)(bh bd bw:Nat)(a:Option Addr)(c:Nat)(l:List jQ)(ts:List (List Int))(disk:List Int)(left:Int)(w:World)(hh:kX w (fun k=>lo<=k) bh bd l ts [])(hd:DskM w bd bw a c disk left)(hM:bd<lo/\bw<lo)(hlo:lo<=w.heap.size)(h64:sJ disk) :
  Calls prog 47 #[.pointer (some ⟨bh,0,none⟩)] w fun x w'=>x=.returned (.tuple #[])/\Below lo w w'/\kX w' (fun k=>lo<=k) bh bd l ts (kV disk):=by
 have HH0:Hid (kX w (fun k=>lo<=k) bh bd l ts []):=hh;have HD0:Hid (DskM w bd bw a c disk left):=hd;have H64:Hid (sJ disk):=h64;clear hh hd h64;go_enter func47,ntmps47;go_wp2
 go_loopw [] (fun wr=>∃ (dn:List En),Hid (Rds disk dn.length dn)/\Hid (kX wr (fun k=>lo<=k) bh bd l ts dn)/\Hid (Below lo w wr)) (fun wr=>4097 - qL bh wr)
 case atStart=>exact⟨[],.nil,HH0,aQ _ _⟩
 case round =>
  obtain⟨dn,HRd,HHr,HW⟩:=hrel;obtain⟨cv,rv,bk,bm,n,v,D,h,B,N,q⟩:=HHr.out;have HQ:Hid (HouK wr (fun k=>lo<=k) bh bd l ts dn cv rv bk bm n v D h B N):=q;have hlen:dn.length<=4096:=q.bo.inv.len;have HDr:Hid (DskM wr bd bw a c disk left):=HD0.out.kp (N:=fun k=>lo<=k) ⟨HW.out.os,HW.out.tape,HW.out.output,HW.out.size,fun k _ hn=>HW.out.block k (by omega)⟩ (by omega) (by omega);have hlw:lo<=wr.heap.size:=uQ hlo HW.out.size;obtain⟨rm,hrm⟩:∃ rm,decide (9*dn.length+9<=disk.length)=rm:=⟨_,rfl⟩;have kr:=arJ bh bd bw cv rv bk dn.length false a c disk left wr q.hc HDr.out hlen rm hrm;have HRM:Hid (decide (9*dn.length+9<=disk.length)=rm):=hrm
  have DONE:Hid (∀ w',Below lo wr w'->kX w' (fun k=>lo<=k) bh bd l ts dn->¬ sA disk dn dn.length->Below lo w w'/\kX w' (fun k=>lo<=k) bh bd l ts (kV disk)):=fun w' hb hh hc=>by
   refine⟨HW.out.trans hb,?_⟩;rw[ajQ ⟨HRd.out,hc⟩];exact hh
  clear q hrm;go_wp2_with fail;refine kr.mono ?_;rintro x w1 ⟨rfl,hb1⟩;have hs1:=hb1.size;cases rm with
  | false =>
   have hno:¬ sA disk dn dn.length:=fun hc=>by have:=jN HRM.out;exact this hc.1
   clear kr;go_wp2;go_end0;exact⟨rfl,DONE.out _ (hb1.mono hlw) (HHr.out.kp (K:=fun _=>False) (oQ hb1) (fun _ _ h=>h)) hno⟩
  | true =>
   have hroom:9*dn.length+9<=disk.length:=cH HRM.out;obtain⟨x0,x1,x2,x3,x4,x5,x6,x7,x8,hx⟩:=qO (jC hroom);have kd:=dhZ bh bd bw cv rv bk dn.length false a c disk left w1 (HQ.out.hc.at hb1) (HDr.out.at hb1) hlen hroom x0 x1 x2 x3 x4 x5 x6 x7 x8 hx;obtain⟨e,he⟩:∃ e,(x1,eU (bA [x5,x6,x7,x8]),x2,x3,x4)=e:=⟨_,rfl⟩;obtain⟨r,hr⟩:∃ r,decide ([x0,x1,x2,x3,x4,x5,x6,x7,x8]=vZ e)=r:=⟨_,rfl⟩;have ke:=fun W=>dhQ x0 x1 x2 x3 x4 x5 x6 x7 x8 W e he r hr;have hen:pI (rcd disk dn.length)=e:=by rw[hx,dkQ];exact he
   have HEN:Hid (pI (rcd disk dn.length)=e/\decide (rcd disk dn.length=vZ e)=r):=⟨hen,by rw[hx];exact hr⟩;have HROOM:Hid (9*dn.length+9<=disk.length):=hroom;have hsz:e.2.1.size<=32:=by rw[<-he];simp only;rw[aqZ];exact aqJ _ _ _ _
   have hpI:-9223372036854775808<=e.2.2.1/\e.2.2.1<=9223372036854775807:=by
    have h2:(rcd disk dn.length)[2]? = some x2:=by rw[hx];rfl
    rw[asQ (by decide)] at h2;rw[<-he];exact H64.out x2 (uX h2)
   clear hx he hr hen hroom kr;go_wp2_with fail;refine kd.mono ?_;rintro x w2 ⟨rfl,hb2⟩;have hs2:=hb2.size;have ke2:=ke w2;clear kd;go_wp2_with fail;refine ke2.mono ?_;rintro x w3 ⟨rfl,hb3⟩;have hs3:=hb3.size;have BR:Below wr.heap.size wr w3:=bt (bt hb1 hb2) hb3;have HBR:Hid (Below wr.heap.size wr w3):=BR;clear ke ke2 hb1 hb2 hb3 BR;cases r with
   | false =>
    have hno:¬ sA disk dn dn.length:=fun hc=>by
     have h1:=jN HEN.out.2;have h2:=hc.2.2.1;rw[HEN.out.1] at h2;exact h1 h2.symm
    go_wp2_with fail;go_quiet (fail);go_wp2;refine yQ (eL rfl _ _ _) rfl ?_;have BX:=below_drewN (bal HBR.out (.cells #[.int .i64 e.1,.string e.2.1,.int .i64 e.2.2.1,.int .i64 e.2.2.2.1,.int .i64 e.2.2.2.2] 53)) nq;exact⟨rfl,DONE.out _ (BX.mono hlw) (HHr.out.kp (K:=fun _=>False) (oQ BX) (fun _ _ h=>h)) hno⟩
   | true =>
    have hrec:rcd disk dn.length=vZ e:=cH HEN.out.2;have HREC:Hid (rcd disk dn.length=vZ e):=hrec;obtain⟨W,hW⟩:∃ W,w3.alloc (.cells #[.int .i64 e.1,.string e.2.1,.int .i64 e.2.2.1,.int .i64 e.2.2.2.1,.int .i64 e.2.2.2.2] 53)=W:=⟨_,rfl⟩;have hbW:Below wr.heap.size wr W:=hW▸bal HBR.out _;have V1:FivB W w3.heap.size (.int .i64 e.1) (.string e.2.1) (.int .i64 e.2.2.1) (.int .i64 e.2.2.2.1) (.int .i64 e.2.2.2.2):=hW▸FivB.new _ _ _ _ _ _ 53 _ rfl;have C1:HouC W bh bd cv rv bk dn.length false:=HQ.out.hc.at hbW;obtain⟨c0,c1,c2,c3,c4,_,_,_,_,_,hv1⟩:=id V1;have m2:=C1.c2.c;have BK1:BookM W.drew (fun k=>N k\/W.heap.size<=k) bk bm n v D dn:=((HQ.out.bo.kp (K:=fun _=>False) (oQ hbW) (fun _ _ h=>h)).keep (aQ _ _).drew).mono (fun k _ h=>.inl h);obtain⟨er,her⟩:∃ er,cZ dn (nrm e)=er:=⟨_,rfl⟩
    have kd:Calls prog 60 #[.pointer (some ⟨bk,0,none⟩),ev e] W.drew fun x w'=>x=.returned (.int .i64 er)/\Keeps W w' (fun k=>N k\/W.heap.size<=k)/\(∃ n v D,BookM w' (fun k=>N k\/W.heap.size<=k) bk bm n v D (iU dn e))/\HouC w' bh bd cv rv bk dn.length false/\FivB w' w3.heap.size (.int .i64 e.1) (.string e.2.1) (.int .i64 e.2.2.1) (.int .i64 e.2.2.2.1) (.int .i64 e.2.2.2.2):=by
     refine(aoQ (fun k=>N k\/W.heap.size<=k) bk bm n v D dn e W.drew BK1 (by omega) (fun k hk=>.inr hk) hpI).mono ?_;rintro x w4 ⟨h1,h2,h3⟩;rw[her] at h1;have K:Keeps W w4 (fun k=>N k\/W.heap.size<=k):=(oQ (aQ _ _).drew).trans h2;refine⟨h1,K,h3,C1.kp K ?_,dkX V1 K ?_⟩
     ·rintro(d|d)
      ·exact(HQ.out.nn _ d).2.2 rfl
      ·have:=C1.c0.lt;omega
     ·rintro(d|d)
      ·have:=(HQ.out.nn _ d).2.1;omega
      ·omega
    have HHW:Hid (Below wr.heap.size wr W):=hbW;have hWs:wr.heap.size<=W.heap.size:=hbW.size;have HER:Hid (cZ dn (nrm e)=er):=her;clear V1 C1 BK1 hbW her hrec;go_wp2_with fail;clear hW
    go_region_held3 (fun w'=>w'.cell? ⟨bh,2,none⟩=some (.pointer (some ⟨bk,0,none⟩))/\w'.cell? ⟨w3.heap.size,0,none⟩=some (.int .i64 e.1)/\w'.cell? ⟨w3.heap.size,1,none⟩=some (.string e.2.1)/\w'.cell? ⟨w3.heap.size,2,none⟩=some (.int .i64 e.2.2.1)/\w'.cell? ⟨w3.heap.size,3,none⟩=some (.int .i64 e.2.2.2.1)/\w'.cell? ⟨w3.heap.size,4,none⟩=some (.int .i64 e.2.2.2.2))
     (first|assumption|(simp[go_sem, *];done))
     ((go_at_call 60;refine kd.mono ?_;rintro x w4 ⟨rfl,hK4,hB4,hC4,hV4⟩;have z2:=hC4.c2.c;have y0:=hV4.c0;have y1:=hV4.c1;have y2:=hV4.c2;have y3:=hV4.c3;have y4:=hV4.c4))
    clear kd m2 c0 c1 c2 c3 c4 z2 y0 y1 y2 y3 y4;obtain⟨n4,v4,D4,hB4⟩:=hB4;have hs4:=hK4.size;have HB4:Hid (BookM w4 (fun k=>N k\/W.heap.size<=k) bk bm n4 v4 D4 (iU dn e)):=hB4;have HC4:Hid (HouC w4 bh bd cv rv bk dn.length false):=hC4;have K04:Keeps wr w4 (fun k=>lo<=k):=(oQ HHW.out).trans (hK4.imp (fun k _ d=>d.elim (fun d=>HQ.out.mm _ (.inr (.inl d))) (fun d=>by omega)));have B04:Below lo wr w4:=⟨K04.os,K04.tape,K04.output,K04.size,fun k hk=>K04.block k (by omega) (by omega)⟩;have HB04:Hid (Below lo wr w4):=B04
    have HT4:Hid (pG w4 h B cv rv l ts):=(HQ.out.tb.kp (K:=fun _=>False) (oQ HHW.out) HQ.out.hB.2 (fun _ _ _ h=>h)).kp hK4 (by have:=HQ.out.hB.2;omega) (fun k h1 h2 d=>by
     rcases d with d|d
     ·have:=(HQ.out.nn _ d).1;omega
     ·have:=HQ.out.hB.2;omega)
    have hbh:bh<wr.heap.size:=HQ.out.hc.c0.lt;have hbhl:lo<=bh:=HQ.out.mm _ (.inl rfl)
    have FIN:Hid (∀ w' d',w4.heap.size<=w'.heap.size->HouC w' bh bd cv rv bk (d':List En).length false->BookM w' (fun k=>N k\/W.heap.size<=k) bk bm n4 v4 D4 d'->pG w' h B cv rv l ts->kX w' (fun k=>lo<=k) bh bd l ts d'):=fun w' d' hsz hc hb ht=>by
     refine⟨cv,rv,bk,bm,n4,v4,D4,h,B,(fun k=>(N k\/W.heap.size<=k)/\k<w'.heap.size),hc,hb.mono (fun k hk c=>⟨c,hk⟩),ht,fun k hk=>?_,⟨HQ.out.hB.1,by have:=HQ.out.hB.2;omega⟩,HQ.out.ap,fun k hk=>?_⟩
     ·refine⟨?_,hk.2,?_⟩
      ·rcases hk.1 with d|d
       ·exact(HQ.out.nn _ d).1
       ·have:=HQ.out.hB.2;omega
      ·rcases hk.1 with d|d
       ·exact(HQ.out.nn _ d).2.2
       ·omega
     ·rcases hk with d|d|d
      ·exact HQ.out.mm _ (.inl d)
      ·rcases d.1 with d|d
       ·exact HQ.out.mm _ (.inr (.inl d))
       ·omega
      ·exact HQ.out.mm _ (.inr (.inr d))
    clear hK4 hC4 hB4 hV4 K04 B04;by_cases h0:er=0
    ·subst h0
     have hst:iU dn e=dn++[nrm e]:=by unfold iU;rw[xQ HER.out]
     rw[hst] at HB4
     have hcn:sA disk dn dn.length:=by
      refine⟨HROOM.out,?_,?_,?_⟩
      ·rw[HREC.out];rfl
      ·rw[HEN.out.1,HREC.out]
      ·rw[HEN.out.1];exact HER.out
     have hmo:Rds disk (dn.length+1) (dn++[nrm e]):=by
      have:=Rds.more HRd.out hcn;rw[HEN.out.1] at this;exact this
     have HMO:Hid (Rds disk (dn++[nrm e]).length (dn++[nrm e])):=by rw[Hid,zJ];exact hmo
     obtain⟨q4,f4,_⟩:=HC4.out.c4;have hw1:IntKind.i64.wrap ((dn.length:Int)+1)=(dn.length:Int)+1:=by rw[bJ];omega
     have KX:Keeps w4 (w4.setCell ⟨bh,4,none⟩ (.int .i64 ((dn.length:Int)+1))) (fun k=>k=bh):=eX (rJ _ (fun k=>k=bh)) (p:=⟨bh,4,none⟩) (.inl rfl) _
     have HC5:Hid (HouC (w4.setCell ⟨bh,4,none⟩ (.int .i64 ((dn.length:Int)+1))) bh bd cv rv bk (dn++[nrm e]).length false):=by
      rw[Hid,show((dn++[nrm e]).length:Int)=(dn.length:Int)+1 by simp];exact HC4.out.s4 _
     have HH5:Hid (kX (w4.setCell ⟨bh,4,none⟩ (.int .i64 ((dn.length:Int)+1))) (fun k=>lo<=k) bh bd l ts (dn++[nrm e])):=by
      refine FIN.out _ _ KX.size HC5.out (HB4.out.kp KX ?_) (HT4.out.kp KX (by have:=HQ.out.hB.2;omega) ?_)
      ·rintro k hk rfl
       rcases hk with d|d
       ·exact(HQ.out.nn _ d).2.2 rfl
       ·omega
      ·rintro k h1 h2 rfl
       have:=HQ.out.ap;omega
     have HB5:Hid (Below lo w (w4.setCell ⟨bh,4,none⟩ (.int .i64 ((dn.length:Int)+1)))):=(HW.out.trans HB04.out).setCell (p:=⟨bh,4,none⟩) hbhl _
     have hm1:qL bh (w4.setCell ⟨bh,4,none⟩ (.int .i64 ((dn.length:Int)+1)))=dn.length+1:=by
      rw[auQ HC5.out];simp
     have hm0:qL bh wr=dn.length:=auQ HQ.out.hc;have HM5:Hid (4097 - qL bh (w4.setCell ⟨bh,4,none⟩ (.int .i64 ((dn.length:Int)+1)))<4097 - qL bh wr):=by rw[Hid,hm1,hm0];omega
     clear hst hcn hmo KX hm1 hm0;go_wp2
     go_roundw
     ·exact⟨dn++[nrm e],HMO,HH5,HB5⟩
     ·exact HM5.out
    ·have hst:iU dn e=dn:=by unfold iU;rw[qQ (by rw[HER.out];exact h0)]
     rw[hst] at HB4
     have hno:¬ sA disk dn dn.length:=fun hc=>by
      have h2:=hc.2.2.2;rw[HEN.out.1,HER.out] at h2;exact h0 h2
     have h01:(er == 0)=false:=by simpa using h0
     have h02:(er != 0)=true:=by simpa using h0
     clear hst;go_wp2;refine yQ (eL rfl _ _ _) rfl ?_;exact⟨rfl,DONE.out _ HB04.out (FIN.out _ dn (vQ _) HC4.out HB4.out HT4.out) hno⟩
theorem dkJ:(prog.info? 82).map (fun i=>(i.zero,i.size,i.bytes))=some (some (.agg #[.string ⟨#[]⟩,.int .i64 0]),2,24):=by kernel_rfl
theorem dlQ:(prog.info? 37).map (fun i=>(i.zero,i.size,i.bytes))=some (some (.slice none 0 0),1,24):=by kernel_rfl
theorem gM:(prog.info? 3).map (fun i=>(i.zero,i.size,i.bytes))=some (some (.int .i64 0),1,8):=by kernel_rfl
theorem dlX (a:Option Addr)(n c:Nat)(xs:List Value)(w:World)(hl:xs.length=n*2)(hn:n<=1000000)(ha:a=none->n=0)(hx:∀ ad,a=some ad->∀ j u,xs[j]? = some u->ad.block<w.heap.size/\w.cell? (ad.add j)=some u)(hsc:∀ u∈xs,u.oneCell' = true) :
  Calls prog 89 #[.slice a n c] w fun e w'=>∃ v',e=.returned v'/\w'.ownsRow w.heap.size 82 2 v' n xs/\Below w.heap.size w w':=by
 have q22:∀ (w:World) (a:Option Addr) (n c n' c':Nat),(binOp .eql 22 (.slice a n c) (.slice none n' c')).run prog w=.ok (.bool a.isNone) w:=fun w a n c n' c'=>uN w _ _ a n c n' c' underlying22;cases a with
 | none =>
  obtain rfl:=ha rfl;obtain rfl:xs=[]:=xK.1 (by omega);clear hx hsc;go_enter func89,ntmps89;go_wp2;go_ret;exact⟨_,rfl,⟨rfl,.inl ⟨rfl,rfl⟩⟩,aQ _ _⟩
 | some ad =>
  have A:Hid (∀ j u,xs[j]? = some u->∀ o,(w.alloc o).cell? (ad.add j)=some u):=by
   intro j u hj o;obtain⟨h1,h2⟩:=hx ad rfl j u hj;rw[gH _ _ _ (by unfold Addr.add;split <;> simpa using h1)];exact h2
  obtain⟨i0,hi,hz0,hz1,hz2⟩:=oY dkJ;have HSC:Hid (∀ u∈xs,u.oneCell' = true):=hsc;have HL:Hid (xs.length=n*2):=hl;clear hx hsc ha hl;go_enter func89,ntmps89;go_wp2_with (at_builtin;refine vK _ rfl _ _ 22 rfl w.heap.size 82 i0 (.agg #[.string ⟨#[]⟩,.int .i64 0]) 2 24 underlying22 hi hz0 hz1 hz2 rfl (by decide) _ _ _ rfl (aN w #[] 0 (vQ _) (nQ _) (by simp)) ad n c xs rfl ?qc1 ?qc2 ?qc3 ?qc4 ?qc5 ?qc6 ?_)
  case qc1=>exact HL.out
  case qc2=>intro j u hj;exact A.out j u hj _
  case qc3=>exact HSC.out
  case qc4=>rw[jZ];simp[maxLen];omega
  case qc5=>rw[jZ];omega
  case qc6=>simp
  intro v' w1 hown hgrow hnil;go_wp2;go_ret;refine⟨v',rfl,by simpa using hown,((aQ _ w).alloc (vQ _) _).grown hgrow (by simp) (by intro k hk;simp[Value.ownBlock] at hk;omega)⟩
theorem dlZ (a:Option Addr)(n c:Nat)(xs:List Value)(w:World)(hl:xs.length=n*1)(hn:n<=1000000)(ha:a=none->n=0)(hx:∀ ad,a=some ad->∀ j u,xs[j]? = some u->ad.block<w.heap.size/\w.cell? (ad.add j)=some u)(hsc:∀ u∈xs,u.oneCell' = true) :
  Calls prog 90 #[.slice a n c] w fun e w'=>∃ v',e=.returned v'/\w'.ownsRow w.heap.size 37 1 v' n xs/\Below w.heap.size w w':=by
 have q22:∀ (w:World) (a:Option Addr) (n c n' c':Nat),(binOp .eql 23 (.slice a n c) (.slice none n' c')).run prog w=.ok (.bool a.isNone) w:=fun w a n c n' c'=>uN w _ _ a n c n' c' underlying23;cases a with
 | none =>
  obtain rfl:=ha rfl;obtain rfl:xs=[]:=xK.1 (by omega);clear hx hsc;go_enter func90,ntmps90;go_wp2;go_ret;exact⟨_,rfl,⟨rfl,.inl ⟨rfl,rfl⟩⟩,aQ _ _⟩
 | some ad =>
  have A:Hid (∀ j u,xs[j]? = some u->∀ o,(w.alloc o).cell? (ad.add j)=some u):=by
   intro j u hj o;obtain⟨h1,h2⟩:=hx ad rfl j u hj;rw[gH _ _ _ (by unfold Addr.add;split <;> simpa using h1)];exact h2
  obtain⟨i0,hi,hz0,hz1,hz2⟩:=oY dlQ;have HSC:Hid (∀ u∈xs,u.oneCell' = true):=hsc;have HL:Hid (xs.length=n*1):=hl;clear hx hsc ha hl;go_enter func90,ntmps90;go_wp2_with (at_builtin;refine vK _ rfl _ _ 23 rfl w.heap.size 37 i0 (.slice none 0 0) 1 24 underlying23 hi hz0 hz1 hz2 rfl (by decide) _ _ _ rfl (aN w #[] 0 (vQ _) (nQ _) (by simp)) ad n c xs rfl ?qc1 ?qc2 ?qc3 ?qc4 ?qc5 ?qc6 ?_)
  case qc1=>exact HL.out
  case qc2=>intro j u hj;exact A.out j u hj _
  case qc3=>exact HSC.out
  case qc4=>rw[jZ];simp[maxLen];omega
  case qc5=>rw[jZ];omega
  case qc6=>simp
  intro v' w1 hown hgrow hnil;go_wp2;go_ret;refine⟨v',rfl,by simpa using hown,((aQ _ w).alloc (vQ _) _).grown hgrow (by simp) (by intro k hk;simp[Value.ownBlock] at hk;omega)⟩
theorem dlJ (a:Option Addr)(n c:Nat)(xs:List Value)(w:World)(hl:xs.length=n*1)(hn:n<=1000000)(ha:a=none->n=0)(hx:∀ ad,a=some ad->∀ j u,xs[j]? = some u->ad.block<w.heap.size/\w.cell? (ad.add j)=some u)(hsc:∀ u∈xs,u.oneCell' = true) :
  Calls prog 92 #[.slice a n c] w fun e w'=>∃ v',e=.returned v'/\w'.ownsRow w.heap.size 3 1 v' n xs/\Below w.heap.size w w':=by
 have q22:∀ (w:World) (a:Option Addr) (n c n' c':Nat),(binOp .eql 37 (.slice a n c) (.slice none n' c')).run prog w=.ok (.bool a.isNone) w:=fun w a n c n' c'=>uN w _ _ a n c n' c' underlying37;cases a with
 | none =>
  obtain rfl:=ha rfl;obtain rfl:xs=[]:=xK.1 (by omega);clear hx hsc;go_enter func92,ntmps92;go_wp2;go_ret;exact⟨_,rfl,⟨rfl,.inl ⟨rfl,rfl⟩⟩,aQ _ _⟩
 | some ad =>
  have A:Hid (∀ j u,xs[j]? = some u->∀ o,(w.alloc o).cell? (ad.add j)=some u):=by
   intro j u hj o;obtain⟨h1,h2⟩:=hx ad rfl j u hj;rw[gH _ _ _ (by unfold Addr.add;split <;> simpa using h1)];exact h2
  obtain⟨i0,hi,hz0,hz1,hz2⟩:=oY gM;have HSC:Hid (∀ u∈xs,u.oneCell' = true):=hsc;have HL:Hid (xs.length=n*1):=hl;clear hx hsc ha hl;go_enter func92,ntmps92;go_wp2_with (at_builtin;refine vK _ rfl _ _ 37 rfl w.heap.size 3 i0 (.int .i64 0) 1 8 underlying37 hi hz0 hz1 hz2 rfl (by decide) _ _ _ rfl (aN w #[] 0 (vQ _) (nQ _) (by simp)) ad n c xs rfl ?qc1 ?qc2 ?qc3 ?qc4 ?qc5 ?qc6 ?_)
  case qc1=>exact HL.out
  case qc2=>intro j u hj;exact A.out j u hj _
  case qc3=>exact HSC.out
  case qc4=>rw[jZ];simp[maxLen];omega
  case qc5=>rw[jZ];omega
  case qc6=>simp
  intro v' w1 hown hgrow hnil;go_wp2;go_ret;refine⟨v',rfl,by simpa using hown,((aQ _ w).alloc (vQ _) _).grown hgrow (by simp) (by intro k hk;simp[Value.ownBlock] at hk;omega)⟩

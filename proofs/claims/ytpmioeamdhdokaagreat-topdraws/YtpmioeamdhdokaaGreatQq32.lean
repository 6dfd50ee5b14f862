import Derived.Test.YtpmioeamdhdokaaGreatQq31
import Derived.Laws.AppendOwn
namespace Go.Proofs.YtpmioeamdhdokaaGreat.K.P
open Go.RowKit Go.Proofs.YtpmioeamdhdokaaGreat.K.Ds
def W64 (l:List Int):Prop:=∀ x∈l,-9223372036854775808≤x∧x≤9223372036854775807
def recOf (bh:Nat) (w:World):Nat:=match w.cell? ⟨bh,4,none⟩ with
 | some (.int _ z)=>z.toNat
 | _=>0
theorem recOf_is {w:World} {bh bd:Nat} {cv rv:Value} {bk n:Nat} {brk:Bool} (h:HouC w bh bd cv rv bk n brk):recOf bh w=n:=by
 unfold recOf; rw [h.c4.c]; simp
theorem enO_nine (x0 x1 x2 x3 x4 x5 x6 x7 x8:Int):enO [x0,x1,x2,x3,x4,x5,x6,x7,x8]=(x1,baN (nmO [x5,x6,x7,x8]),x2,x3,x4):=rfl
theorem fiv_kp {w w':World} {b:Nat} {a0 a1 a2 a3 a4:Value} {N:Nat→Prop} (h:FivB w b a0 a1 a2 a3 a4) (hk:Keeps w w' N) (hn:¬ N b):FivB w' b a0 a1 a2 a3 a4 :=
 have e:=hk.block b h.lt hn
 ⟨(World.cell?_of_block (w:=w) (a:=⟨b,0,none⟩) e).trans h.c0,(World.cell?_of_block (w:=w) (a:=⟨b,1,none⟩) e).trans h.c1,(World.cell?_of_block (w:=w) (a:=⟨b,2,none⟩) e).trans h.c2,(World.cell?_of_block (w:=w) (a:=⟨b,3,none⟩) e).trans h.c3,(World.cell?_of_block (w:=w) (a:=⟨b,4,none⟩) e).trans h.c4,(World.frozen?_of_block (w:=w) (a:=⟨b,0,none⟩) e).trans h.f0,(World.frozen?_of_block (w:=w) (a:=⟨b,1,none⟩) e).trans h.f1,(World.frozen?_of_block (w:=w) (a:=⟨b,2,none⟩) e).trans h.f2,(World.frozen?_of_block (w:=w) (a:=⟨b,3,none⟩) e).trans h.f3,(World.frozen?_of_block (w:=w) (a:=⟨b,4,none⟩) e).trans h.f4,Nat.lt_of_lt_of_le h.lt hk.size⟩
set_option maxHeartbeats 4000000 in
set_option maxRecDepth 100000 in
theorem remember_any (lo:Nat) (bh bd bw:Nat) (a:Option Addr) (c:Nat) (l:List Col) (ts:List (List Int)) (disk:List Int) (left:Int) (w:World) (hh:HouM w (fun k=>lo≤k) bh bd l ts []) (hd:DskM w bd bw a c disk left) (hM:bd < lo∧bw < lo) (hlo:lo≤w.heap.size) (h64:W64 disk) :
  Calls Tryz.prog 53 #[.pointer (some ⟨bh,0,none⟩)] w fun x w'=>x=.returned (.tuple #[])∧Below lo w w'∧HouM w' (fun k=>lo≤k) bh bd l ts (liesT disk):=by
 have HH0:Hid (HouM w (fun k=>lo≤k) bh bd l ts []):=hh
 have HD0:Hid (DskM w bd bw a c disk left):=hd
 have H64:Hid (W64 disk):=h64
 clear hh hd h64
 go_enter Tryz.func53,Tryz.ntmps53
 go_wp2
 go_loopw [] (fun wr=>∃ (dn:List En),Hid (Rds disk dn.length dn)∧Hid (HouM wr (fun k=>lo≤k) bh bd l ts dn)∧Hid (Below lo w wr)) (fun wr=>4097 - recOf bh wr)
 case atStart=>exact ⟨[],.nil,HH0,Below.refl _ _⟩
 case round =>
  obtain ⟨dn,HRd,HHr,HW⟩:=hrel
  obtain ⟨cv,rv,bk,bm,n,v,D,h,B,N,q⟩:=HHr.out
  have HQ:Hid (HouK wr (fun k=>lo≤k) bh bd l ts dn cv rv bk bm n v D h B N):=q
  have hlen:dn.length≤4096:=q.bo.inv.len
  have HDr:Hid (DskM wr bd bw a c disk left):=HD0.out.kp (N:=fun k=>lo≤k) ⟨HW.out.os,HW.out.tape,HW.out.output,HW.out.size,fun k _ hn=>HW.out.block k (by omega)⟩ (by omega) (by omega)
  have hlw:lo≤wr.heap.size:=Nat.le_trans hlo HW.out.size
  obtain ⟨rm,hrm⟩:∃ rm,decide (9 * dn.length + 9≤disk.length)=rm:=⟨_,rfl⟩
  have kr:=room_any bh bd bw cv rv bk dn.length false a c disk left wr q.hc HDr.out hlen rm hrm
  have HRM:Hid (decide (9 * dn.length + 9≤disk.length)=rm):=hrm
  have DONE:Hid (∀ w',Below lo wr w'→HouM w' (fun k=>lo≤k) bh bd l ts dn→¬ Cnt disk dn dn.length→Below lo w w'∧HouM w' (fun k=>lo≤k) bh bd l ts (liesT disk)):=fun w' hb hh hc=>by
   refine ⟨HW.out.trans hb,?_⟩
   rw [liesT_is ⟨HRd.out,hc⟩]
   exact hh
  clear q hrm
  go_wp2_with fail
  refine kr.mono ?_
  rintro x w1 ⟨rfl,hb1⟩
  have hs1:=hb1.size
  cases rm with
  | false =>
   have hno:¬ Cnt disk dn dn.length:=fun hc=>by have:=of_decide_eq_false HRM.out; exact this hc.1
   clear kr
   go_wp2
   go_end0
   exact ⟨rfl,DONE.out _ (hb1.mono hlw) (HHr.out.kp (K:=fun _=>False) (keeps_below hb1) (fun _ _ h=>h)) hno⟩
  | true =>
   have hroom:9 * dn.length + 9≤disk.length:=of_decide_eq_true HRM.out
   obtain ⟨x0,x1,x2,x3,x4,x5,x6,x7,x8,hx⟩:=nine_of (rcd_len hroom)
   have kd:=read_any bh bd bw cv rv bk dn.length false a c disk left w1 (HQ.out.hc.at hb1) (HDr.out.at hb1) hlen hroom x0 x1 x2 x3 x4 x5 x6 x7 x8 hx
   obtain ⟨e,he⟩:∃ e,(x1,baN (nmO [x5,x6,x7,x8]),x2,x3,x4)=e:=⟨_,rfl⟩
   obtain ⟨r,hr⟩:∃ r,decide ([x0,x1,x2,x3,x4,x5,x6,x7,x8]=recW e)=r:=⟨_,rfl⟩
   have ke:=fun W=>entry_any x0 x1 x2 x3 x4 x5 x6 x7 x8 W e he r hr
   have hen:enO (rcd disk dn.length)=e:=by rw [hx,enO_nine]; exact he
   have HEN:Hid (enO (rcd disk dn.length)=e∧decide (rcd disk dn.length=recW e)=r):=⟨hen,by rw [hx]; exact hr⟩
   have HROOM:Hid (9 * dn.length + 9≤disk.length):=hroom
   have hsz:e.2.1.size≤32:=by rw [← he]; simp only; rw [baN_size]; exact nmO_len _ _ _ _
   have hpI:-9223372036854775808≤e.2.2.1∧e.2.2.1≤9223372036854775807:=by
    have h2:(rcd disk dn.length)[2]? = some x2:=by rw [hx]; rfl
    rw [rcd_get (by decide)] at h2
    rw [← he]
    exact H64.out x2 (List.mem_of_getElem? h2)
   clear hx he hr hen hroom kr
   go_wp2_with fail
   refine kd.mono ?_
   rintro x w2 ⟨rfl,hb2⟩
   have hs2:=hb2.size
   have ke2:=ke w2
   clear kd
   go_wp2_with fail
   refine ke2.mono ?_
   rintro x w3 ⟨rfl,hb3⟩
   have hs3:=hb3.size
   have BR:Below wr.heap.size wr w3:=bt (bt hb1 hb2) hb3
   have HBR:Hid (Below wr.heap.size wr w3):=BR
   clear ke ke2 hb1 hb2 hb3 BR
   cases r with
   | false =>
    have hno:¬ Cnt disk dn dn.length:=fun hc=>by
     have h1:=of_decide_eq_false HEN.out.2
     have h2:=hc.2.2.1
     rw [HEN.out.1] at h2
     exact h1 h2.symm
    go_wp2_with fail
    go_quiet (fail)
    go_wp2
    refine bodyPost_ret (results_none rfl _ _ _) rfl ?_
    have BX:=below_drewN (bal HBR.out (.cells #[.int .i64 e.1,.string e.2.1,.int .i64 e.2.2.1,.int .i64 e.2.2.2.1,.int .i64 e.2.2.2.2] 59)) nq
    exact ⟨rfl,DONE.out _ (BX.mono hlw) (HHr.out.kp (K:=fun _=>False) (keeps_below BX) (fun _ _ h=>h)) hno⟩
   | true =>
    have hrec:rcd disk dn.length=recW e:=of_decide_eq_true HEN.out.2
    have HREC:Hid (rcd disk dn.length=recW e):=hrec
    obtain ⟨W,hW⟩:∃ W,w3.alloc (.cells #[.int .i64 e.1,.string e.2.1,.int .i64 e.2.2.1,.int .i64 e.2.2.2.1,.int .i64 e.2.2.2.2] 59)=W:=⟨_,rfl⟩
    have hbW:Below wr.heap.size wr W:=hW▸bal HBR.out _
    have V1:FivB W w3.heap.size (.int .i64 e.1) (.string e.2.1) (.int .i64 e.2.2.1) (.int .i64 e.2.2.2.1) (.int .i64 e.2.2.2.2):=hW▸FivB.new _ _ _ _ _ _ 59 _ rfl
    have C1:HouC W bh bd cv rv bk dn.length false:=HQ.out.hc.at hbW
    obtain ⟨c0,c1,c2,c3,c4,_,_,_,_,_,hv1⟩:=id V1
    have m2:=C1.c2.c
    have BK1:BookM W.drew (fun k=>N k∨W.heap.size≤k) bk bm n v D dn:=((HQ.out.bo.kp (K:=fun _=>False) (keeps_below hbW) (fun _ _ h=>h)).keep (Below.refl _ _).drew).mono (fun k _ h=>.inl h)
    obtain ⟨er,her⟩:∃ er,doT dn (nrm e)=er:=⟨_,rfl⟩
    have kd:Calls Tryz.prog 75 #[.pointer (some ⟨bk,0,none⟩),ev e] W.drew fun x w'=>x=.returned (.int .i64 er)∧Keeps W w' (fun k=>N k∨W.heap.size≤k)∧(∃ n v D,BookM w' (fun k=>N k∨W.heap.size≤k) bk bm n v D (stepD dn e))∧HouC w' bh bd cv rv bk dn.length false∧FivB w' w3.heap.size (.int .i64 e.1) (.string e.2.1) (.int .i64 e.2.2.1) (.int .i64 e.2.2.2.1) (.int .i64 e.2.2.2.2):=by
     refine (do_any (fun k=>N k∨W.heap.size≤k) bk bm n v D dn e W.drew BK1 (by omega) (fun k hk=>.inr hk) hpI).mono ?_
     rintro x w4 ⟨h1,h2,h3⟩
     rw [her] at h1
     have K:Keeps W w4 (fun k=>N k∨W.heap.size≤k):=(keeps_below (Below.refl _ _).drew).trans h2
     refine ⟨h1,K,h3,C1.kp K ?_,fiv_kp V1 K ?_⟩
     ·rintro (d | d)
      ·exact (HQ.out.nn _ d).2.2 rfl
      ·have:=C1.c0.lt; omega
     ·rintro (d | d)
      ·have:=(HQ.out.nn _ d).2.1; omega
      ·omega
    have HHW:Hid (Below wr.heap.size wr W):=hbW
    have hWs:wr.heap.size≤W.heap.size:=hbW.size
    have HER:Hid (doT dn (nrm e)=er):=her
    clear V1 C1 BK1 hbW her hrec
    go_wp2_with fail
    clear hW
    go_region_held3 (fun w'=>w'.cell? ⟨bh,2,none⟩=some (.pointer (some ⟨bk,0,none⟩))∧w'.cell? ⟨w3.heap.size,0,none⟩=some (.int .i64 e.1)∧w'.cell? ⟨w3.heap.size,1,none⟩=some (.string e.2.1)∧w'.cell? ⟨w3.heap.size,2,none⟩=some (.int .i64 e.2.2.1)∧w'.cell? ⟨w3.heap.size,3,none⟩=some (.int .i64 e.2.2.2.1)∧w'.cell? ⟨w3.heap.size,4,none⟩=some (.int .i64 e.2.2.2.2))
     (first | assumption | (simp [go_sem, *]; done))
     ((go_at_call 75; refine kd.mono ?_; rintro x w4 ⟨rfl,hK4,hB4,hC4,hV4⟩; have z2:=hC4.c2.c; have y0:=hV4.c0; have y1:=hV4.c1; have y2:=hV4.c2; have y3:=hV4.c3; have y4:=hV4.c4))
    clear kd m2 c0 c1 c2 c3 c4 z2 y0 y1 y2 y3 y4
    obtain ⟨n4,v4,D4,hB4⟩:=hB4
    have hs4:=hK4.size
    have HB4:Hid (BookM w4 (fun k=>N k∨W.heap.size≤k) bk bm n4 v4 D4 (stepD dn e)):=hB4
    have HC4:Hid (HouC w4 bh bd cv rv bk dn.length false):=hC4
    have K04:Keeps wr w4 (fun k=>lo≤k):=(keeps_below HHW.out).trans (hK4.imp (fun k _ d=>d.elim (fun d=>HQ.out.mm _ (.inr (.inl d))) (fun d=>by omega)))
    have B04:Below lo wr w4:=⟨K04.os,K04.tape,K04.output,K04.size,fun k hk=>K04.block k (by omega) (by omega)⟩
    have HB04:Hid (Below lo wr w4):=B04
    have HT4:Hid (TabM w4 h B cv rv l ts):=(HQ.out.tb.kp (K:=fun _=>False) (keeps_below HHW.out) HQ.out.hB.2 (fun _ _ _ h=>h)).kp hK4 (by have:=HQ.out.hB.2; omega) (fun k h1 h2 d=>by
     rcases d with d | d
     ·have:=(HQ.out.nn _ d).1; omega
     ·have:=HQ.out.hB.2; omega)
    have hbh:bh < wr.heap.size:=HQ.out.hc.c0.lt
    have hbhl:lo≤bh:=HQ.out.mm _ (.inl rfl)
    have FIN:Hid (∀ w' d',w4.heap.size≤w'.heap.size→HouC w' bh bd cv rv bk (d':List En).length false→BookM w' (fun k=>N k∨W.heap.size≤k) bk bm n4 v4 D4 d'→TabM w' h B cv rv l ts→HouM w' (fun k=>lo≤k) bh bd l ts d'):=fun w' d' hsz hc hb ht=>by
     refine ⟨cv,rv,bk,bm,n4,v4,D4,h,B,(fun k=>(N k∨W.heap.size≤k)∧k < w'.heap.size),hc,hb.mono (fun k hk c=>⟨c,hk⟩),ht,fun k hk=>?_,⟨HQ.out.hB.1,by have:=HQ.out.hB.2; omega⟩,HQ.out.ap,fun k hk=>?_⟩
     ·refine ⟨?_,hk.2,?_⟩
      ·rcases hk.1 with d | d
       ·exact (HQ.out.nn _ d).1
       ·have:=HQ.out.hB.2; omega
      ·rcases hk.1 with d | d
       ·exact (HQ.out.nn _ d).2.2
       ·omega
     ·rcases hk with d | d | d
      ·exact HQ.out.mm _ (.inl d)
      ·rcases d.1 with d | d
       ·exact HQ.out.mm _ (.inr (.inl d))
       ·omega
      ·exact HQ.out.mm _ (.inr (.inr d))
    clear hK4 hC4 hB4 hV4 K04 B04
    by_cases h0:er=0
    ·subst h0
     have hst:stepD dn e=dn ++ [nrm e]:=by unfold stepD; rw [if_pos HER.out]
     rw [hst] at HB4
     have hcn:Cnt disk dn dn.length:=by
      refine ⟨HROOM.out,?_,?_,?_⟩
      ·rw [HREC.out]; rfl
      ·rw [HEN.out.1,HREC.out]
      ·rw [HEN.out.1]; exact HER.out
     have hmo:Rds disk (dn.length + 1) (dn ++ [nrm e]):=by
      have:=Rds.more HRd.out hcn
      rw [HEN.out.1] at this
      exact this
     have HMO:Hid (Rds disk (dn ++ [nrm e]).length (dn ++ [nrm e])):=by rw [Hid,List.length_append]; exact hmo
     obtain ⟨q4,f4,_⟩:=HC4.out.c4
     have hw1:IntKind.i64.wrap ((dn.length:Int) + 1)=(dn.length:Int) + 1:=by rw [IntKind.wrap_i64]; omega
     have KX:Keeps w4 (w4.setCell ⟨bh,4,none⟩ (.int .i64 ((dn.length:Int) + 1))) (fun k=>k=bh):=keeps_set (keeps_refl _ (fun k=>k=bh)) (p:=⟨bh,4,none⟩) (.inl rfl) _
     have HC5:Hid (HouC (w4.setCell ⟨bh,4,none⟩ (.int .i64 ((dn.length:Int) + 1))) bh bd cv rv bk (dn ++ [nrm e]).length false):=by
      rw [Hid,show ((dn ++ [nrm e]).length:Int)=(dn.length:Int) + 1 by simp]
      exact HC4.out.s4 _
     have HH5:Hid (HouM (w4.setCell ⟨bh,4,none⟩ (.int .i64 ((dn.length:Int) + 1))) (fun k=>lo≤k) bh bd l ts (dn ++ [nrm e])):=by
      refine FIN.out _ _ KX.size HC5.out (HB4.out.kp KX ?_) (HT4.out.kp KX (by have:=HQ.out.hB.2; omega) ?_)
      ·rintro k hk rfl
       rcases hk with d | d
       ·exact (HQ.out.nn _ d).2.2 rfl
       ·omega
      ·rintro k h1 h2 rfl
       have:=HQ.out.ap; omega
     have HB5:Hid (Below lo w (w4.setCell ⟨bh,4,none⟩ (.int .i64 ((dn.length:Int) + 1)))):=(HW.out.trans HB04.out).setCell (p:=⟨bh,4,none⟩) hbhl _
     have hm1:recOf bh (w4.setCell ⟨bh,4,none⟩ (.int .i64 ((dn.length:Int) + 1)))=dn.length + 1:=by
      rw [recOf_is HC5.out]; simp
     have hm0:recOf bh wr=dn.length:=recOf_is HQ.out.hc
     have HM5:Hid (4097 - recOf bh (w4.setCell ⟨bh,4,none⟩ (.int .i64 ((dn.length:Int) + 1))) < 4097 - recOf bh wr):=by rw [Hid,hm1,hm0]; omega
     clear hst hcn hmo KX hm1 hm0
     go_wp2
     go_roundw
     ·exact ⟨dn ++ [nrm e],HMO,HH5,HB5⟩
     ·exact HM5.out
    ·have hst:stepD dn e=dn:=by unfold stepD; rw [if_neg (by rw [HER.out]; exact h0)]
     rw [hst] at HB4
     have hno:¬ Cnt disk dn dn.length:=fun hc=>by
      have h2:=hc.2.2.2
      rw [HEN.out.1,HER.out] at h2
      exact h0 h2
     have h01:(er == 0)=false:=by simpa using h0
     have h02:(er != 0)=true:=by simpa using h0
     clear hst
     go_wp2
     refine bodyPost_ret (results_none rfl _ _ _) rfl ?_
     exact ⟨rfl,DONE.out _ HB04.out (FIN.out _ dn (Nat.le_refl _) HC4.out HB4.out HT4.out) hno⟩
theorem infocloneC_any:(Tryz.prog.info? 105).map (fun i=>(i.zero,i.size,i.bytes))=some (some (.agg #[.string ⟨#[]⟩,.int .i64 0]),2,24):=by kernel_rfl
theorem infocloneR_any:(Tryz.prog.info? 35).map (fun i=>(i.zero,i.size,i.bytes))=some (some (.slice none 0 0),1,24):=by kernel_rfl
theorem infocloneI_any:(Tryz.prog.info? 3).map (fun i=>(i.zero,i.size,i.bytes))=some (some (.int .i64 0),1,8):=by kernel_rfl
set_option maxHeartbeats 1000000 in
set_option maxRecDepth 100000 in
theorem cloneC_any (a:Option Addr) (n c:Nat) (xs:List Value) (w:World) (hl:xs.length=n * 2) (hn:n≤1000000) (ha:a=none→n=0) (hx:∀ ad,a=some ad→∀ j u,xs[j]? = some u→ad.block < w.heap.size∧w.cell? (ad.add j)=some u) (hsc:∀ u∈xs,u.oneCell' = true) :
  Calls Tryz.prog 104 #[.slice a n c] w fun e w'=>∃ v',e=.returned v'∧w'.ownsRow w.heap.size 105 2 v' n xs∧Below w.heap.size w w':=by
 have q22:∀ (w:World) (a:Option Addr) (n c n' c':Nat),(binOp .eql 22 (.slice a n c) (.slice none n' c')).run Tryz.prog w=.ok (.bool a.isNone) w:=fun w a n c n' c'=>Lib.run_eql_slice_nil w _ _ a n c n' c' Tryz.underlying22
 cases a with
 | none =>
  obtain rfl:=ha rfl
  obtain rfl:xs=[]:=List.length_eq_zero_iff.1 (by omega)
  clear hx hsc
  go_enter Tryz.func104,Tryz.ntmps104
  go_wp2
  go_ret
  exact ⟨_,rfl,⟨rfl,.inl ⟨rfl,rfl⟩⟩,Below.refl _ _⟩
 | some ad =>
  have A:Hid (∀ j u,xs[j]? = some u→∀ o,(w.alloc o).cell? (ad.add j)=some u):=by
   intro j u hj o
   obtain ⟨h1,h2⟩:=hx ad rfl j u hj
   rw [World.cell?_alloc_lt _ _ _ (by unfold Addr.add; split <;> simpa using h1)]
   exact h2
  obtain ⟨i0,hi,hz0,hz1,hz2⟩:=info_parts infocloneC_any
  have HSC:Hid (∀ u∈xs,u.oneCell' = true):=hsc
  have HL:Hid (xs.length=n * 2):=hl
  clear hx hsc ha hl
  go_enter Tryz.func104,Tryz.ntmps104
  go_wp2_with (at_builtin; refine wpList_append_own _ rfl _ _ 22 rfl w.heap.size 105 i0 (.agg #[.string ⟨#[]⟩,.int .i64 0]) 2 24 Tryz.underlying22 hi hz0 hz1 hz2 rfl (by decide) _ _ _ rfl (World.ownsRow_made w #[] 0 (Nat.le_refl _) (Nat.zero_le _) (by simp)) ad n c xs rfl ?qc1 ?qc2 ?qc3 ?qc4 ?qc5 ?qc6 ?_)
  case qc1=>exact HL.out
  case qc2=>intro j u hj; exact A.out j u hj _
  case qc3=>exact HSC.out
  case qc4=>rw [Nat.zero_add]; simp [maxLen]; omega
  case qc5=>rw [Nat.zero_add]; omega
  case qc6=>simp
  intro v' w1 hown hgrow hnil
  go_wp2
  go_ret
  refine ⟨v',rfl,by simpa using hown,((Below.refl _ w).alloc (Nat.le_refl _) _).grown hgrow (by simp) (by intro k hk; simp [Value.ownBlock] at hk; omega)⟩
set_option maxHeartbeats 1000000 in
set_option maxRecDepth 100000 in
theorem cloneR_any (a:Option Addr) (n c:Nat) (xs:List Value) (w:World) (hl:xs.length=n * 1) (hn:n≤1000000) (ha:a=none→n=0) (hx:∀ ad,a=some ad→∀ j u,xs[j]? = some u→ad.block < w.heap.size∧w.cell? (ad.add j)=some u) (hsc:∀ u∈xs,u.oneCell' = true) :
  Calls Tryz.prog 105 #[.slice a n c] w fun e w'=>∃ v',e=.returned v'∧w'.ownsRow w.heap.size 35 1 v' n xs∧Below w.heap.size w w':=by
 have q22:∀ (w:World) (a:Option Addr) (n c n' c':Nat),(binOp .eql 23 (.slice a n c) (.slice none n' c')).run Tryz.prog w=.ok (.bool a.isNone) w:=fun w a n c n' c'=>Lib.run_eql_slice_nil w _ _ a n c n' c' Tryz.underlying23
 cases a with
 | none =>
  obtain rfl:=ha rfl
  obtain rfl:xs=[]:=List.length_eq_zero_iff.1 (by omega)
  clear hx hsc
  go_enter Tryz.func105,Tryz.ntmps105
  go_wp2
  go_ret
  exact ⟨_,rfl,⟨rfl,.inl ⟨rfl,rfl⟩⟩,Below.refl _ _⟩
 | some ad =>
  have A:Hid (∀ j u,xs[j]? = some u→∀ o,(w.alloc o).cell? (ad.add j)=some u):=by
   intro j u hj o
   obtain ⟨h1,h2⟩:=hx ad rfl j u hj
   rw [World.cell?_alloc_lt _ _ _ (by unfold Addr.add; split <;> simpa using h1)]
   exact h2
  obtain ⟨i0,hi,hz0,hz1,hz2⟩:=info_parts infocloneR_any
  have HSC:Hid (∀ u∈xs,u.oneCell' = true):=hsc
  have HL:Hid (xs.length=n * 1):=hl
  clear hx hsc ha hl
  go_enter Tryz.func105,Tryz.ntmps105
  go_wp2_with (at_builtin; refine wpList_append_own _ rfl _ _ 23 rfl w.heap.size 35 i0 (.slice none 0 0) 1 24 Tryz.underlying23 hi hz0 hz1 hz2 rfl (by decide) _ _ _ rfl (World.ownsRow_made w #[] 0 (Nat.le_refl _) (Nat.zero_le _) (by simp)) ad n c xs rfl ?qc1 ?qc2 ?qc3 ?qc4 ?qc5 ?qc6 ?_)
  case qc1=>exact HL.out
  case qc2=>intro j u hj; exact A.out j u hj _
  case qc3=>exact HSC.out
  case qc4=>rw [Nat.zero_add]; simp [maxLen]; omega
  case qc5=>rw [Nat.zero_add]; omega
  case qc6=>simp
  intro v' w1 hown hgrow hnil
  go_wp2
  go_ret
  refine ⟨v',rfl,by simpa using hown,((Below.refl _ w).alloc (Nat.le_refl _) _).grown hgrow (by simp) (by intro k hk; simp [Value.ownBlock] at hk; omega)⟩
set_option maxHeartbeats 1000000 in
set_option maxRecDepth 100000 in
theorem cloneI_any (a:Option Addr) (n c:Nat) (xs:List Value) (w:World) (hl:xs.length=n * 1) (hn:n≤1000000) (ha:a=none→n=0) (hx:∀ ad,a=some ad→∀ j u,xs[j]? = some u→ad.block < w.heap.size∧w.cell? (ad.add j)=some u) (hsc:∀ u∈xs,u.oneCell' = true) :
  Calls Tryz.prog 107 #[.slice a n c] w fun e w'=>∃ v',e=.returned v'∧w'.ownsRow w.heap.size 3 1 v' n xs∧Below w.heap.size w w':=by
 have q22:∀ (w:World) (a:Option Addr) (n c n' c':Nat),(binOp .eql 35 (.slice a n c) (.slice none n' c')).run Tryz.prog w=.ok (.bool a.isNone) w:=fun w a n c n' c'=>Lib.run_eql_slice_nil w _ _ a n c n' c' Tryz.underlying35
 cases a with
 | none =>
  obtain rfl:=ha rfl
  obtain rfl:xs=[]:=List.length_eq_zero_iff.1 (by omega)
  clear hx hsc
  go_enter Tryz.func107,Tryz.ntmps107
  go_wp2
  go_ret
  exact ⟨_,rfl,⟨rfl,.inl ⟨rfl,rfl⟩⟩,Below.refl _ _⟩
 | some ad =>
  have A:Hid (∀ j u,xs[j]? = some u→∀ o,(w.alloc o).cell? (ad.add j)=some u):=by
   intro j u hj o
   obtain ⟨h1,h2⟩:=hx ad rfl j u hj
   rw [World.cell?_alloc_lt _ _ _ (by unfold Addr.add; split <;> simpa using h1)]
   exact h2
  obtain ⟨i0,hi,hz0,hz1,hz2⟩:=info_parts infocloneI_any
  have HSC:Hid (∀ u∈xs,u.oneCell' = true):=hsc
  have HL:Hid (xs.length=n * 1):=hl
  clear hx hsc ha hl
  go_enter Tryz.func107,Tryz.ntmps107
  go_wp2_with (at_builtin; refine wpList_append_own _ rfl _ _ 35 rfl w.heap.size 3 i0 (.int .i64 0) 1 8 Tryz.underlying35 hi hz0 hz1 hz2 rfl (by decide) _ _ _ rfl (World.ownsRow_made w #[] 0 (Nat.le_refl _) (Nat.zero_le _) (by simp)) ad n c xs rfl ?qc1 ?qc2 ?qc3 ?qc4 ?qc5 ?qc6 ?_)
  case qc1=>exact HL.out
  case qc2=>intro j u hj; exact A.out j u hj _
  case qc3=>exact HSC.out
  case qc4=>rw [Nat.zero_add]; simp [maxLen]; omega
  case qc5=>rw [Nat.zero_add]; omega
  case qc6=>simp
  intro v' w1 hown hgrow hnil
  go_wp2
  go_ret
  refine ⟨v',rfl,by simpa using hown,((Below.refl _ w).alloc (Nat.le_refl _) _).grown hgrow (by simp) (by intro k hk; simp [Value.ownBlock] at hk; omega)⟩
end Go.Proofs.YtpmioeamdhdokaaGreat.K.P

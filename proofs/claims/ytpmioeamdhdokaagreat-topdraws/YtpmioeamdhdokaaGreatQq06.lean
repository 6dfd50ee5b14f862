import Derived.Test.YtpmioeamdhdokaaGreatQq04
import Derived.Test.YtpmioeamdhdokaaGreatQq05
import Derived.Maps.AppendAt
import Derived.Deep.RegionWith
import Derived.Test.YtpmioeamdhdokaaGreatQq01
namespace Go.Proofs.YtpmioeamdhdokaaGreat
open Go.RowKit Go.Proofs.YtpmioeamdhdokaaGreat.Ds
def roSure (l:List Pt):Option (List Int):=match l with
 | [p]=>some p.1
 | _=>none
theorem roSure_one {l:List Pt} {p:Pt} (h:l[0]? = some p) (h1:l.length=1):roSure l=some p.1:=by
 match l,h1,h with
 | [q],_,h=>simp at h; subst h; rfl
theorem roSure_none {l:List Pt} (h1:l.length≠1):roSure l=none:=by
 match l,h1 with
 | [],_=>rfl
 | _ :: _ :: _,_=>rfl
set_option maxHeartbeats 1000000 in
theorem roSure_any (N E:Nat) (a:Option Addr) (c:Nat) (ts:List Tr) (T nd u pl:Int) (w:World) (h:Rob w E (.slice a ts.length c) T nd u pl) (hP:Rop w N E a c ts) (hN:N≤w.heap.size) :
  Calls Tryz.prog 190 #[.pointer (some ⟨E,0,none⟩)] w (SureP (roSure (rd ts)) w):=by
 have H:Hid (Rob w E (.slice a ts.length c) T nd u pl):=h
 have HP:Hid (Rop w N E a c ts):=hP
 obtain ⟨c0,_,_,_,_,_,lt⟩:=h
 have hfw:=hP.few
 clear hP
 by_cases h1:ts.length=1
 ·obtain ⟨bb,bo,sa,sc,xs,k,rfl,hbN,hbE,hs,d1,d2,hI⟩:=HP.out.get (i:=0) (by omega)
  have HS:Hid (roSure (rd ts)=some xs):=roSure_one (rd_get hs) (by rw [rd_len,h1])
  have HI:Hid (Ints w N E (.slice sa xs.length sc) xs):=hI
  simp only [Nat.zero_mul,Nat.add_zero] at d1
  rw [h1] at c0
  have hc1:1≤c:=by have:=HP.out.cap; omega
  have HV:Hid (Rv (w.alloc (.cells #[.slice none 0 0,.int .i64 0] 162)) w.heap.size (.slice none 0 0) 0):=Rv.new _ _ _ _ _ rfl
  have hb0:Below w.heap.size w (w.alloc (.cells #[.slice none 0 0,.int .i64 0] 162)):=ba _ _
  have kc:=cloneN_any N E (.slice sa xs.length sc) xs (w.alloc (.cells #[.slice none 0 0,.int .i64 0] 162)) (by simp; omega) (HI.out.at hN hb0)
  have d3:∀ o,(w.alloc o).cell? ⟨bb,bo,none⟩=some (.slice sa xs.length sc):=fun o=>((ba w o).cell (p:=⟨bb,bo,none⟩) (show bb < w.heap.size by omega)).trans d1
  clear hs hI h1
  go_enter Tryz.func190,Tryz.ntmps190
  go_wp2_with fail
  refine kc.mono ?_
  rintro e w1 ⟨v1,rfl,hI1,hb1⟩
  obtain ⟨av,cv,rfl,_⟩:=hI1 w.heap.size (by simp)
  have HV1:Hid (Rv w1 w.heap.size (.slice none 0 0) 0):=HV.out.below hb1
  have HI1:Hid (∀ m,m < w.heap.size + 1→Ints w1 w1.heap.size m (.slice av xs.length cv) xs):=fun m hm=>hI1 m (by simpa using hm)
  have hbw:Below w.heap.size w w1:=bt hb0 hb1
  clear kc hI1 hb1
  obtain ⟨r0,r1,r2,r3,r4⟩:=id HV1.out
  go_wp2
  generalize hZ:(w1.setCell ⟨w.heap.size,0,none⟩ (.slice av xs.length cv)).setCell ⟨w.heap.size,1,none⟩ (.int .i64 0)=Z
  have hbZ:Below w.heap.size w Z:=hZ▸bs (bs hbw (p:=⟨w.heap.size,0,none⟩) (Nat.le_refl _) _) (p:=⟨w.heap.size,1,none⟩) (Nat.le_refl _) _
  have HVZ:Rv Z w.heap.size (.slice av xs.length cv) 0:=hZ▸HV1.out.put _ _
  have HFZ:∀ m,m < w.heap.size + 1→Ints Z Z.heap.size m (.slice av xs.length cv) xs:=by
   have h1:=Ints.setm (Ints.setm HI1.out w.heap.size 0 (by omega) (.slice av xs.length cv)) w.heap.size 1 (by omega) (.int .i64 0)
   intro m hm
   have h2:=h1 m hm
   rw [← hZ]
   simpa using h2
  clear hZ
  obtain ⟨z0,z1,_,_,_⟩:=HVZ
  refine bodyPost_ret (v:=.tuple #[.agg #[.slice av xs.length cv,.int .i64 0],.bool true]) (by simp [results,Tryz.results190,go_sem,z0,z1]) rfl ⟨hbZ,fun hh=>?_,fun o ho=>?_⟩
  ·rw [HS.out] at hh; cases hh
  ·rw [HS.out] at ho
   simp only [Option.some.injEq] at ho
   subst ho
   exact ⟨av,cv,rfl,fun m hm=>HFZ m (by omega)⟩
 ·have HS:Hid (roSure (rd ts)=none):=roSure_none (by rw [rd_len]; exact h1)
  have h1':((ts.length:Int) == 1)=false:=by simp; omega
  have h1'':¬ (ts.length:Int)=1:=by omega
  go_enter Tryz.func190,Tryz.ntmps190
  go_wp2
  refine bodyPost_ret (v:=.tuple #[noD,.bool false]) (by simp [results,Tryz.results190,go_sem]) rfl ⟨ba _ _,fun _=>rfl,fun o ho=>?_⟩
  rw [HS.out] at ho; cases ho
def NewP (l:List Pt) (er:Int) (w:World) (e:Ending) (w':World):Prop :=
 Below w.heap.size w w'∧((er≠0∧e=.returned (.tuple #[.pointer none,.int .i64 er])) ∨
  (er=0∧∃ E a c us,e=.returned (.tuple #[.pointer (some ⟨E,0,none⟩),.int .i64 0])∧rd us=l∧Rob w' E (.slice a us.length c) (tot l) 0 0 1∧Rop w' w'.heap.size E a c us∧w.heap.size≤E))
theorem set_list {us:List Tr} {i:Nat} {s s':Value} {xs:List Int} {k:Int} (h:us[i]? = some (s,xs,k)):rd (us.set i (s',xs,k))=rd us:=by
 rw [rd_set]
 refine List.ext_getElem? fun j=>?_
 by_cases e:i=j
 ·subst e
  have:=rd_get h
  rw [List.getElem?_set_self (by have:=(List.getElem?_eq_some_iff.1 this).1; exact this),this]
 ·rw [List.getElem?_set_ne e]
theorem Row.setL {w:World} {b:Nat} {us:List Tr} (h:Row w b 0 us) {i:Nat} {s:Value} {xs:List Int} {k:Int} (ht:us[i]? = some (s,xs,k)) (s':Value) :
  Row (w.setCell ⟨b,i * 2,none⟩ s') b 0 (us.set i (s',xs,k)):=by
 have hi:=(List.getElem?_eq_some_iff.1 ht).1
 refine ⟨fun j u hu=>?_,fun j hj=>by rw [sc_frozen]; exact h.thaw j (by simpa using hj),by simpa using h.lt⟩
 simp only [Nat.zero_add]
 by_cases hj:i=j
 ·subst hj
  rw [List.getElem?_set_self hi] at hu
  obtain rfl:(s',xs,k)=u:=by simpa using hu
  have c:=h.cells i _ ht
  simp only [Nat.zero_add] at c
  exact ⟨sc_same c.1,by rw [sc_other (by simp)]; exact c.2⟩
 ·rw [List.getElem?_set_ne hj] at hu
  have c:=h.cells j u hu
  simp only [Nat.zero_add] at c
  exact ⟨by rw [sc_other (by simp <;> omega)]; exact c.1,by rw [sc_other (by simp <;> omega)]; exact c.2⟩
theorem Ints.set2 {w:World} {B b m:Nat} {v:Value} {xs:List Int} (h:Ints w B b v xs) (hm:Ints w B m v xs) (k:Nat) (u:Value):Ints (w.setCell ⟨b,k,none⟩ u) B m v xs:=by
 obtain ⟨a,c,hv,hc,hl,hx⟩:=hm
 refine ⟨a,c,hv,hc,hl,fun hne=>?_⟩
 obtain ⟨b1,o1,ha,hb,hn,hcell⟩:=hx hne
 refine ⟨b1,o1,ha,hb,hn,fun i x hi=>?_⟩
 rw [sc_other]
 ·exact hcell i x hi
 ·obtain ⟨a2,c2,hv2,_,_,hx2⟩:=h
  obtain ⟨b2,o2,ha2,_,hn2,_⟩:=hx2 hne
  rw [hv,ha,ha2] at hv2
  simp only [Value.slice.injEq,Option.some.injEq,Addr.mk.injEq] at hv2
  intro e
  simp only [Addr.mk.injEq] at e
  omega
set_option maxHeartbeats 2000000 in
set_option maxRecDepth 100000 in
theorem new_any (B:Nat) (v:Value) (ts:List Tr) (w:World) (hB:B≤w.heap.size) (hp:Parts w B v ts) (l0:List Pt) (er:Int) (hr:ownT (rd ts)=(l0,er)) :
  Calls Tryz.prog 113 #[v] w (NewP (rd ts) er w):=by
 have kw:=wrong_any B v ts w hB hp er (by rw [hr])
 have HP:Hid (Parts w B v ts):=hp
 have HR:Hid (ownT (rd ts)=(l0,er)):=hr
 obtain ⟨a,c,rfl,hc,hl,_⟩:=hp
 clear hr
 go_enter Tryz.func113,Tryz.ntmps113
 go_wp2_with fail
 refine kw.mono ?_
 rintro e w1 ⟨rfl,hb1⟩
 clear kw
 by_cases h0:er=0
 ·subst h0
  obtain ⟨_,hdis⟩:=ownT_ok HR.out
  have HD:Hid (Dis (rd ts)):=hdis
  have hne:Hid (ts≠[]):=fun h=>hdis.ne (by rw [h]; rfl)
  have hfw:ts.length≤4096:=by have:=hdis.few; rwa [rd_len] at this
  have hs1:=hb1.size
  have kc:=cloneD_any B _ ts w1 (by omega) (HP.out.at hB hb1)
  clear hdis
  go_wp2_with fail
  refine kc.mono ?_
  rintro e w2 ⟨v2,rfl,hb2,h2⟩
  obtain ⟨g,cap,rfl,hcap,hg1,hrow⟩:∃ g cap,v2=.slice (some ⟨g,0,none⟩) ts.length cap∧ts.length≤cap∧w1.heap.size≤g∧Row w2 g 0 ts:=by
   rcases h2 with ⟨h,_⟩ | h
   ·exact absurd h hne.out
   ·exact h
  have HW2:Hid (Row w2 g 0 ts):=hrow
  have hg2:=hrow.lt
  have kb:=begun_any w2
  clear kc h2 hrow
  go_wp2_with fail
  refine kb.mono ?_
  rintro e w3 ⟨rfl,hb3⟩
  have hs2:=hb2.size
  have hs3:=hb3.size
  clear kb
  go_wp2
  generalize hX:w3.alloc (.cells #[.slice (some ⟨g,0,none⟩) ts.length cap,.int .i64 0,.int .i64 0,.int .i64 0,.int .i64 1] 273)=X
  have hbX:Below w.heap.size w X:=hX▸bal (bt (bt hb1 hb2) hb3) _
  have HRX:Hid (Rob X w3.heap.size (.slice (some ⟨g,0,none⟩) ts.length cap) 0 0 0 1):=hX▸⟨nc _ _ 0 _ rfl rfl,nc _ _ 1 _ rfl rfl,nc _ _ 2 _ rfl rfl,nc _ _ 3 _ rfl rfl,nc _ _ 4 _ rfl rfl,fun j=>nf _ _ j rfl,by simp⟩
  have HWX:Hid (Row X g 0 ts):=hX▸(HW2.out.keep hb3).keep (ba _ _)
  have hgE:g < w3.heap.size:=by omega
  have hwE:w.heap.size≤w3.heap.size:=by omega
  have hwg:w.heap.size≤g:=by omega
  clear hX
  generalize hE:w3.heap.size=E at hgE hwE HRX ⊢
  clear hb1 hb2 hb3 HW2 hs1 hs2 hs3 hE hg1 hg2
  go_loopw [20] (fun iv wr=>∃ (i:Nat) (us:List Tr),iv=.int .i64 (i:Int)∧i≤ts.length∧us.length=ts.length∧Hid (rd us=rd ts)∧Hid (Row wr g 0 us)∧Hid (∀ t∈us,∀ m,m=E∨m=g→Ints wr wr.heap.size m t.1 t.2.1)∧Hid (Rob wr E (.slice (some ⟨g,0,none⟩) ts.length cap) (tot ((rd ts).take i)) 0 0 1)∧Below w.heap.size w wr) (fun iv _=>ts.length - (intOf iv).toNat)
  case atStart =>
   refine ⟨0,ts,rfl,Nat.zero_le _,rfl,rfl,HWX,fun t ht m hm=>?_,by simpa [tot] using HRX,hbX⟩
   obtain ⟨_,_,_,_,_,hI,_⟩:=HP.out.at hB hbX
   exact (hI t ht).mono (Nat.le_trans hB hbX.size) (.inr (by omega))
  case round =>
   obtain ⟨i,us,rfl,hit,hul,HU,HW,HI,HR1,hbl⟩:=hrel
   have hrl:=HR1.out.lt
   have HUL:Hid (us.length=ts.length):=hul
   clear hul
   by_cases h1:i < ts.length
   ·obtain ⟨b,o,sa,sc,xs,k,rfl,hb,hs,c1,c2,hIx⟩:=HP.out.get hB hbl h1
    have HS:Hid (ts[i]? = some (.slice sa xs.length sc,xs,k)):=hs
    obtain ⟨⟨s0,xs0,k0⟩,hs0⟩:=get_lt (l:=us) (i:=i) (by have:=HUL.out; omega)
    have hxk:xs0=xs∧k0=k:=by
     have e1:=rd_get hs0
     rw [HU.out,rd_get hs] at e1
     simp only [Option.some.injEq,Prod.mk.injEq] at e1
     exact ⟨e1.1.symm,e1.2.symm⟩
    obtain ⟨rfl,rfl⟩:=hxk
    have HS0:Hid (us[i]? = some (s0,xs0,k0)):=hs0
    have r1:=(HW.out.cells i _ hs0).1
    have r2:=HW.out.thaw (i * 2) (by have:=HUL.out; omega)
    simp only [Nat.zero_add] at r1 r2
    have HIx:Hid (Ints wr B B (.slice sa xs0.length sc) xs0):=hIx
    clear hs hs0 hIx
    go_wp2_with fail
    generalize hO:Obj.cells #[Value.slice sa xs0.length sc,Value.int IntKind.i64 k0] 82=O
    have HSW:Hid (Rv (wr.alloc O) wr.heap.size (.slice sa xs0.length sc) k0):=hO▸Rv.new _ _ _ _ _ rfl
    have HRW:Hid (Rob (wr.alloc O) E (.slice (some ⟨g,0,none⟩) ts.length cap) (tot ((rd ts).take i)) 0 0 1):=HR1.out.alloc O
    have hgl:=HW.out.lt
    have t1:(wr.alloc O).cell? ⟨g,i * 2,none⟩=some s0:=((ba wr O).cell (p:=⟨g,i * 2,none⟩) hgl).trans r1
    have t2:(wr.alloc O).frozen? ⟨g,i * 2,none⟩=false:=((ba wr O).frozen (p:=⟨g,i * 2,none⟩) hgl).trans r2
    have g7:(wr.alloc O).heap.size=wr.heap.size + 1:=by simp
    obtain ⟨W,hW⟩:∃ W,wr.alloc O=W:=⟨_,rfl⟩
    have HB:Hid (Below wr.heap.size wr W):=hW▸ba wr O
    rw [hW] at HSW HRW t1 t2 g7 ⊢
    clear hO hW r1 r2 c1 c2
    have s1:=HSW.out.c0
    have s2:=HRW.out.c0
    have ne1:¬ g=E:=by omega
    have ne2:¬ E=g:=by omega
    have ne3:¬ g=wr.heap.size:=by omega
    have ne4:¬ wr.heap.size=g:=by omega
    have lw1:g < W.heap.size:=by omega
    have lw2:wr.heap.size < W.heap.size:=by omega
    have lw3:E < W.heap.size:=by omega
    have y1:(i:Int) < (ts.length:Int):=by omega
    go_region_held3 (fun w'=>w'.cell? ⟨wr.heap.size,0,none⟩=some (.slice sa xs0.length sc)∧w'.cell? ⟨E,0,none⟩=some (.slice (some ⟨g,0,none⟩) ts.length cap))
     ((go_split_ands; refine ⟨?_,?_⟩ <;> first | assumption | (simp [go_sem, *]; done)))
     ((go_at_call 107; refine (cloneN_any B B _ xs0 _ ?_ ?_).mono ?_; (have:=HB.out.size; have:=hbl.size; show B≤W.heap.size; omega); (exact HIx.out.at (by have:=hbl.size; omega) HB.out.drew); rintro x1 w4 ⟨v',rfl,hI4,hb4⟩; obtain ⟨av,cv,hv1,_⟩:=hI4 0 (by show 0 < W.heap.size; omega); subst hv1; obtain ⟨hc4,hf4⟩:=bcell hb4; have hs4:W.heap.size≤w4.heap.size:=hb4.size; have q1:w4.cell? ⟨g,i * 2,none⟩=some s0:=(hc4 _ _ lw1).trans t1; have q2:w4.frozen? ⟨g,i * 2,none⟩=false:=(hf4 _ _ lw1).trans t2; have q3:w4.cell? ⟨wr.heap.size,0,none⟩=some (.slice sa xs0.length sc):=(hc4 _ _ lw2).trans s1; have q4:w4.cell? ⟨E,0,none⟩=some (.slice (some ⟨g,0,none⟩) ts.length cap):=(hc4 _ _ lw3).trans s2; clear hc4 hf4))
    have hbW:Below wr.heap.size wr w4:=bt HB.out.drew hb4
    have HSY:Hid (Rv (w4.setCell ⟨g,i * 2,none⟩ (.slice av xs0.length cv)) wr.heap.size (.slice sa xs0.length sc) k0):=(HSW.out.below ((Below.refl _ W).drew.trans hb4)).other g (i * 2) (by omega) _
    have HRY:Hid (Rob (w4.setCell ⟨g,i * 2,none⟩ (.slice av xs0.length cv)) E (.slice (some ⟨g,0,none⟩) ts.length cap) (tot ((rd ts).take i)) 0 0 1):=(HR1.out.at hbW).other g (i * 2) (by omega) _
    have HWY:Hid (Row (w4.setCell ⟨g,i * 2,none⟩ (.slice av xs0.length cv)) g 0 (us.set i (.slice av xs0.length cv,xs0,k0))):=(HW.out.keep hbW).setL HS0.out _
    have HUY:Hid (rd (us.set i (.slice av xs0.length cv,xs0,k0))=rd ts):=by rw [Hid,set_list HS0.out]; exact HU.out
    have HIY:Hid (∀ t∈us.set i (.slice av xs0.length cv,xs0,k0),∀ m,m=E∨m=g→Ints (w4.setCell ⟨g,i * 2,none⟩ (.slice av xs0.length cv)) (w4.setCell ⟨g,i * 2,none⟩ (.slice av xs0.length cv)).heap.size m t.1 t.2.1):=by
     intro t ht m hm
     have key:∀ (s:Value) (x:List Int),Ints w4 w4.heap.size g s x→Ints w4 w4.heap.size m s x→Ints (w4.setCell ⟨g,i * 2,none⟩ (.slice av xs0.length cv)) (w4.setCell ⟨g,i * 2,none⟩ (.slice av xs0.length cv)).heap.size m s x:=by
      intro s x hg hm2
      have h1:=Ints.set2 hg hm2 (i * 2) (.slice av xs0.length cv)
      simpa using h1
     rcases List.mem_or_eq_of_mem_set ht with h | rfl
     ·exact key _ _ ((HI.out t h g (.inr rfl)).at2 hbW) ((HI.out t h m hm).at2 hbW)
     ·exact key _ _ (hI4 g lw1) (hI4 m (by show m < W.heap.size; omega))
    have hbY:Below w.heap.size w (w4.setCell ⟨g,i * 2,none⟩ (.slice av xs0.length cv)):=bs (bt hbl hbW) (p:=⟨g,i * 2,none⟩) hwg _
    have HT:Hid (tot ((rd ts).take (i + 1))=tot ((rd ts).take i) + k0):=tot_take (rd_get HS.out)
    have ht1:=(Nn.of_pos HD.out.pos).tot_take_le i
    have ht2:=(Nn.of_pos HD.out.pos).tot_take_le (i + 1)
    have ht3:=HD.out.le
    rw [HT.out] at ht2
    obtain ⟨tt,htt⟩:∃ tt,tot ((rd ts).take i)=tt:=⟨_,rfl⟩
    have HTT:Hid (tot ((rd ts).take i)=tt):=htt
    rw [htt] at HRY ht1 ht2
    have hbd:0≤tt∧tt≤1073741824∧0≤tt + k0∧tt + k0≤1073741824:=by omega
    generalize hYY:w4.setCell ⟨g,i * 2,none⟩ (.slice av xs0.length cv)=Y at HSY HRY HWY HIY hbY ⊢
    clear hYY htt ht1 ht2 ht3 hb4 hI4 hbW q1 q2 q3 q4 s1 s2 t1 t2 HSW HRW HR1 HW HI HU HB
    have s1:=HSY.out.c1
    have s2:=HRY.out.c1
    have s3:=HRY.out.fz 1
    go_wp2
    go_region
    go_wp2
    go_roundw
    case rel =>
     refine ⟨i + 1,us.set i (.slice av xs0.length cv,xs0,k0),by go_num,h1,by simpa using HUL.out,HUY,?_,?_,?_,(bs hbY (p:=⟨E,1,none⟩) hwE _).drew⟩
     ·have:=HWY.out
      exact ⟨fun j u hu=>by
       have c:=this.cells j u hu
       exact ⟨by rw [show ((Y.setCell ⟨E,1,none⟩ (.int .i64 (tt + k0))).drew).cell? ⟨g,0 + j * 2,none⟩=(Y.setCell ⟨E,1,none⟩ (.int .i64 (tt + k0))).cell? ⟨g,0 + j * 2,none⟩ from rfl,sc_other (fun e=>ne2 (congrArg Addr.block e))]; exact c.1,by rw [show ((Y.setCell ⟨E,1,none⟩ (.int .i64 (tt + k0))).drew).cell? ⟨g,0 + j * 2 + 1,none⟩=(Y.setCell ⟨E,1,none⟩ (.int .i64 (tt + k0))).cell? ⟨g,0 + j * 2 + 1,none⟩ from rfl,sc_other (fun e=>ne2 (congrArg Addr.block e))]; exact c.2⟩,
       fun j hj=>by
        have c:=this.thaw j hj
        exact (sc_frozen (w:=Y) (a:=⟨E,1,none⟩) (b:=⟨g,0 + j,none⟩) (v:=.int .i64 (tt + k0))).trans c,by have:=this.lt; simpa using this⟩
     ·intro t ht m hm
      have h1:=Ints.set2 (HIY.out t ht E (.inl rfl)) (HIY.out t ht m hm) 1 (.int .i64 (tt + k0))
      have h2:Ints (Y.setCell ⟨E,1,none⟩ (.int .i64 (tt + k0))).drew Y.heap.size m t.1 t.2.1:=h1.keep (Below.refl _ _).drew
      simpa using h2
     ·rw [HT.out,HTT.out]
      exact (HRY.out.s1 (tt + k0)).drew
    case measure=>simp [intOf]; omega
   ·have HT:Hid (tot ((rd ts).take i)=tot (rd ts)):=by rw [Hid,rd_take_all (by omega)]
    rw [HT.out] at HR1
    go_wp2
    refine bodyPost_ret (v:=.tuple #[.pointer (some ⟨E,0,none⟩),.int .i64 0]) (by simp [results,Tryz.results113,go_sem]) rfl ⟨hbl,.inr ⟨rfl,E,some ⟨g,0,none⟩,cap,us,rfl,HU.out,by rw [HUL.out]; exact HR1.out,⟨by rw [HUL.out]; exact hcap,by rw [HUL.out]; exact hfw,fun _=>⟨g,0,rfl,HW.out.lt,by omega,HW.out.cells⟩,fun t ht=>HI.out t ht E (.inl rfl)⟩,hwE⟩⟩
 ·have h0':(er == 0)=false:=by simpa using h0
  go_wp2
  exact bodyPost_ret (v:=.tuple #[.pointer none,.int .i64 er]) (by simp [results,Tryz.results113,go_sem]) rfl ⟨hb1,.inl ⟨h0,rfl⟩⟩
theorem row_of_ownsD {w:World} {base:Nat} {v:Value} {ts:List Tr} {n:Nat} (hn:n=ts.length) (h:w.ownsRow base 162 2 v n (flat ts)) (hne:v≠.slice none 0 0) :
  ∃ g cap,v=.slice (some ⟨g,0,none⟩) ts.length cap∧ts.length≤cap∧base≤g∧Row w g 0 ts:=by
 subst hn
 obtain ⟨_,⟨hv,_⟩ | ⟨g,cap,cur,hv,hb,hcur,hc,_,hsz,hx⟩⟩:=h
 ·exact absurd hv hne
 ·have hget:∀ j u,(flat ts)[j]? = some u→w.cell? ⟨g,0 + j,none⟩=some u:=by
   intro j u hj
   have hj2:j < ts.length * 2:=by rw [← flat_len]; exact (List.getElem?_eq_some_iff.1 hj).1
   have:cur[j]? = some u:=by
    rw [← hx,List.getElem?_take_of_lt hj2] at hj
    simpa using hj
   simp [World.cell?,hcur,this]
  refine ⟨g,cap,hv,hc,hb,⟨fun i t ht=>?_,fun j _=>frozen_zero hcur,(Array.getElem?_eq_some_iff.1 hcur).1⟩⟩
  have hg:=flat_get ts i
  exact ⟨hget _ _ (by rw [hg.1,ht]; rfl),by rw [Nat.add_assoc]; exact hget _ _ (by rw [hg.2,ht]; rfl)⟩
def Rwd (w:World) (lo:Nat) (v:Value) (ds:List Tr):Prop :=
 w.ownsRow lo 162 2 v ds.length (flat ds)∧∀ t∈ds,∃ m,Ints w w.heap.size m t.1 t.2.1∧∀ g,v.ownBlock=some g→m=g
theorem Rwd.nil (w:World) (lo:Nat):Rwd w lo (.slice none 0 0) []:=⟨⟨rfl,.inl ⟨rfl,rfl⟩⟩,fun t ht=>by cases ht⟩
theorem Rwd.keep {w w':World} {lo:Nat} {v:Value} {ds:List Tr} (h:Rwd w lo v ds) (hb:Below w.heap.size w w'):Rwd w' lo v ds :=
 ⟨owns_below h.1 hb,fun t ht=>let ⟨m,h1,h2⟩:=h.2 t ht; ⟨m,h1.at2 hb,h2⟩⟩
theorem Rwd.slice {w:World} {lo:Nat} {v:Value} {ds:List Tr} (h:Rwd w lo v ds):∃ a c,v=.slice a ds.length c:=owns_slice h.1
theorem Rwd.lt {w:World} {lo:Nat} {v:Value} {ds:List Tr} (h:Rwd w lo v ds):∀ g,v.ownBlock=some g→lo≤g∧g < w.heap.size:=h.1.lt
theorem Rwd.app {W w':World} {lo:Nat} {v v' s:Value} {ds:List Tr} {xs:List Int} {k:Int} {m:Nat} (h:Rwd W lo v ds) (hown:w'.ownsRow lo 162 2 v' (ds.length + 1) (flat ds ++ [s,.int .i64 k])) (hg:W.grownBy w' v.ownBlock)
  (hat:v'.ownBlock=v.ownBlock∨v'.ownBlock=some W.heap.size) (hi:Ints W W.heap.size m s xs) (hm:∀ g,v.ownBlock=some g→m=g):Rwd w' lo v' (ds ++ [(s,xs,k)]):=by
 refine ⟨by rw [← flat_snoc]; simpa using hown,fun t ht=>?_⟩
 have key:∀ (m:Nat) (s:Value) (xs:List Int),Ints W W.heap.size m s xs→(∀ g,v.ownBlock=some g→m=g)→∃ m',Ints w' w'.heap.size m' s xs∧∀ g,v'.ownBlock=some g→m' = g:=by
  intro m s xs h1 h2
  rcases hat with hat | hat
  ·exact ⟨m,h1.grow hg (Nat.le_refl _) h2 (.inl rfl),by rw [hat]; exact h2⟩
  ·exact ⟨W.heap.size,h1.grow hg (Nat.le_refl _) h2 (.inr (Nat.le_refl _)),by rw [hat]; intro g e; simpa using e⟩
 rcases List.mem_append.1 ht with ht | ht
 ·obtain ⟨m,h1,h2⟩:=h.2 t ht
  exact key m t.1 t.2.1 h1 h2
 ·obtain rfl:t=(s,xs,k):=by simpa using ht
  exact key m s xs hi hm
theorem Rwd.parts {w:World} {lo:Nat} {v:Value} {ds:List Tr} (h:Rwd w lo v ds) (hl:ds.length≤1073741824):Parts w w.heap.size v ds:=by
 have hi:∀ t∈ds,Ints w w.heap.size w.heap.size t.1 t.2.1:=fun t ht=>let ⟨m,h1,_⟩:=h.2 t ht; h1.mono (Nat.le_refl _) (.inr (Nat.le_refl _))
 by_cases hv:v=.slice none 0 0
 ·subst hv
  have h0:ds=[]:=by
   obtain ⟨_,⟨_,h0⟩ | ⟨g,cap,cur,hv,_⟩⟩:=h.1
   ·exact List.length_eq_zero_iff.1 h0
   ·cases hv
  subst h0
  exact parts_nil w _
 ·obtain ⟨g,cap,rfl,hcap,hgb,hrow⟩:=row_of_ownsD rfl h.1 hv
  exact ⟨_,cap,rfl,hcap,hl,hi,fun _=>⟨g,0,rfl,hrow.lt,hrow.cells⟩⟩
theorem info38:(Tryz.prog.info? 162).map (fun i=>(i.zero,i.size,i.bytes))=some (some (.agg #[.slice none 0 0,.int .i64 0]),2,32):=by kernel_rfl
theorem Rwd.gb {w w':World} {lo E:Nat} {v:Value} {ds:List Tr} (h:Rwd w lo v ds) (hg:w.grownBy w' (some E)) (hE:E < lo) (hf:Frs lo ds):Rwd w' lo v ds:=by
 refine ⟨h.1.kept hg ?_,fun t ht=>?_⟩
 ·cases e:v.ownBlock with
  | none=>exact .inl rfl
  | some g=>exact .inr (by have:=(h.lt g e).1; simp; omega)
 ·obtain ⟨m,⟨a,c,hv,hc,hl,hx⟩,h2⟩:=h.2 t ht
  refine ⟨m,⟨a,c,hv,hc,hl,fun hne=>?_⟩,h2⟩
  obtain ⟨b,o,ha,hb,hn,hcell⟩:=hx hne
  have:=hf t ht hne b o none t.2.1.length c (by rw [hv,ha])
  have:=hg.size
  exact ⟨b,o,ha,by omega,hn,fun i x hi=>hg.cell (hcell i x hi) (by simp; omega)⟩
theorem Frs.snoc {lo:Nat} {ds:List Tr} {t:Tr} (h:Frs lo ds) (ht:t.2.1≠[]→∀ b o sp n c,t.1=.slice (some ⟨b,o,sp⟩) n c→lo≤b):Frs lo (ds ++ [t]):=by
 intro u hu
 rcases List.mem_append.1 hu with h1 | h1
 ·exact h u h1
 ·obtain rfl:u=t:=by simpa using h1
  exact ht
theorem own_or {v:Value} {n:Nat} (h:∀ g,v.ownBlock=some g→g < n) (hn:0 < n):∃ m,m < n∧∀ g,v.ownBlock=some g→m=g:=by
 cases e:v.ownBlock with
 | none=>exact ⟨0,hn,fun g e=>by cases e⟩
 | some g=>exact ⟨g,h g e,fun g' e=>by simpa using e⟩
def drawsT (nx:Nx) (bits:List Int) (times:Int):List Pt × Int:=if wrB bits times=0 then (drT nx times.toNat bits,0) else ([],wrB bits times)
def NewAt (lo:Nat) (v:Value) (ds:List Tr):Prop:=(∀ g,v.ownBlock=some g→lo≤g)∧Frs lo ds
theorem NewAt.nil (lo:Nat):NewAt lo (.slice none 0 0) []:=⟨fun g h=>by simp [Value.ownBlock] at h,Frs.nil lo⟩
theorem NewAt.mono {lo lo':Nat} {v:Value} {ds:List Tr} (h:NewAt lo v ds) (hl:lo'≤lo):NewAt lo' v ds:=⟨fun g e=>Nat.le_trans hl (h.1 g e),h.2.mono hl⟩
def DrawsP (E:Nat) (l:List Pt) (er:Int) (w:World) (e:Ending) (w':World):Prop :=
 ∃ v' ds,e=.returned (.tuple #[v',.int .i64 er])∧rd ds=l∧Parts w' w'.heap.size v' ds∧w.grownBy w' (some E)∧NewAt w.heap.size v' ds
def AnsP (l:List Pt) (er:Int) (w:World) (e:Ending) (w':World):Prop :=
 ∃ v' ds,e=.returned (.tuple #[v',.int .i64 er])∧rd ds=l∧Parts w' w'.heap.size v' ds∧Below w.heap.size w w'∧NewAt w.heap.size v' ds
def okB (b:Int):Bool:=decide (b=0∨b=1)
theorem bad_all (l:List Int):badB l = !l.all okB:=by
 rw [badB,List.not_all_eq_any_not]
 congr 1
 funext b
 simp [okB]
theorem bitN_any (n:Int) (w:World):Calls Tryz.prog 188 #[.int .i64 n] w fun e w'=>e=.returned (.bool (!okB n))∧w' = w:=by
 unfold okB
 by_cases h1:n=0
 ·subst h1
  rw [decide_eq_true (by omega)]
  go_enter Tryz.func188,Tryz.ntmps188
  go_wp2
  go_ret
  exact ⟨rfl,rfl⟩
 ·have h1':(n == 0)=false:=by simpa using h1
  by_cases h2:n=1
  ·subst h2
   rw [decide_eq_true (by omega)]
   go_enter Tryz.func188,Tryz.ntmps188
   go_wp2
   go_ret
   exact ⟨rfl,rfl⟩
  ·have h2':(n == 1)=false:=by simpa using h2
   rw [decide_eq_false (by omega)]
   go_enter Tryz.func188,Tryz.ntmps188
   go_wp2
   go_ret
   exact ⟨by show Ending.returned (.bool (n != 0 && n != 1))=_; simp [h1,h2],rfl⟩
set_option maxHeartbeats 400000 in
theorem indexB_any (B nb:Nat) (v:Value) (x:List Int) (w:World) (hx:Ints w B nb v x) :
  Calls Tryz.prog 231 #[v,.func (.func 188) #[] #[]] w fun e w'=>∃ r:Int,e=.returned (.int .i64 r)∧(decide (0≤r) = !x.all okB)∧w' = w:=by
 obtain ⟨a,c,rfl,hc,hl,hxx⟩:=hx
 have HX:Hid (x≠[]→∃ b o,a=some ⟨b,o,none⟩∧b < B∧b≠nb∧∀ i z,x[i]? = some z→w.cell? ⟨b,o + i,none⟩=some (.int .i64 z)):=hxx
 clear hxx
 go_enter Tryz.func231,Tryz.ntmps231
 go_wp2
 go_loop [8] (fun s=>∃ i:Nat,s=.int .i64 (i:Int)∧i≤x.length∧(x.take i).all okB=true) (fun s=>x.length - (intOf s).toNat)
 case atStart=>exact ⟨0,rfl,Nat.zero_le _,by simp⟩
 case round =>
  obtain ⟨i,rfl,hix,hall⟩:=hrel
  have HA:Hid ((x.take i).all okB=true):=hall
  clear hall
  by_cases h1:i < x.length
  ·obtain ⟨b,o,rfl,hb,hn,hcell⟩:=HX.out (ne_of_lt h1)
   obtain ⟨z,hz⟩:=get_lt h1
   have cx1:=hcell i z hz
   have HZ:Hid (x[i]? = some z):=hz
   clear hcell HX hz
   cases hk:okB z with
   | true =>
    have hk':Hid (okB z=true):=hk
    clear hk
    have kc:=bitN_any z w
    rw [hk'.out] at kc
    go_wp2_with (go_at_call 188; refine kc.mono ?_; rintro e w' ⟨rfl,rfl⟩)
    go_round
    case rel=>exact ⟨i + 1,by go_num,h1,by rw [all_take HZ.out,HA.out,hk'.out]; rfl⟩
    case measure=>simp [intOf]; omega
   | false =>
    have hk':Hid (okB z=false):=hk
    clear hk
    have kc:=bitN_any z w
    rw [hk'.out] at kc
    go_wp2_with (go_at_call 188; refine kc.mono ?_; rintro e w' ⟨rfl,rfl⟩)
    go_ret
    exact ⟨_,rfl,by rw [all_false HZ.out hk'.out]; simp,rfl⟩
  ·have hi:i=x.length:=by omega
   have hA:x.all okB=true:=by have:=HA.out; rw [hi,List.take_length] at this; exact this
   have HA2:Hid (x.all okB=true):=hA
   clear hA HX
   go_wp2
   go_ret
   exact ⟨_,rfl,by rw [HA2.out]; simp,rfl⟩
set_option maxHeartbeats 400000 in
theorem containsB_any (B nb:Nat) (v:Value) (x:List Int) (w:World) (hx:Ints w B nb v x) (r:Bool) (hr:x.all okB=r) :
  Calls Tryz.prog 187 #[v,.func (.func 188) #[] #[]] w fun e w'=>e=.returned (.bool (!r))∧w' = w:=by
 subst hr
 have HX:Hid (Ints w B nb v x):=hx
 obtain ⟨a,c,rfl,_⟩:=hx
 go_enter Tryz.func187,Tryz.ntmps187
 go_wp2_with (go_at_call 231; refine (indexB_any B nb _ x _ HX.out).mono ?_; rintro e w' ⟨r,rfl,hr,rfl⟩)
 go_ret
 exact ⟨ret_b (by rw [← hr]),rfl⟩
set_option maxHeartbeats 1000000 in
set_option maxRecDepth 100000 in
theorem next_r (B N E:Nat) {S:Type} (St:World→S→Prop) (go:S→Nx) (us:S→Int) (s0:S) (sur:Option (List Int)) (D:Drw N E 191 190 St go us s0 sur) (v:Value) (bits:List Int) (w:World) (hB:B≤N) (hN:N≤w.heap.size) (hs:St w s0) (hv:Ints w B E v bits) (hbad:badB bits=false) (hlen:bits.length≤65536) :
  Calls Tryz.prog 189 #[.iface 211 (.pointer (some ⟨E,0,none⟩)),v] w (NextP B E St (nxD go s0 sur) s0 bits w):=by
 have hm1 : ∀ w : World, (method 481 211 (.pointer (some ⟨E, 0, none⟩)) "Sure").run Tryz.prog w = .ok (190, .pointer (some ⟨E, 0, none⟩)) w := fun _ => by kernel_rfl
 have hm2 : ∀ w : World, (method 481 211 (.pointer (some ⟨E, 0, none⟩)) "Feed").run Tryz.prog w = .ok (191, .pointer (some ⟨E, 0, none⟩)) w := fun _ => by kernel_rfl
 have HV:Hid (Ints w B E v bits):=hv
 have HD:Hid (Drw N E 191 190 St go us s0 sur):=D
 have HS:Hid (St w s0):=hs
 have HBad:Hid (badB bits=false):=hbad
 have lt:=D.lt
 obtain ⟨a,c,rfl,hc,hl,_⟩:=hv
 have hb0:Below w.heap.size w (w.alloc (.cells #[.slice none 0 0,.int .i64 0] 162)):=ba _ _
 have kc:=D.sure (w.alloc (.cells #[.slice none 0 0,.int .i64 0] 162)) s0 (D.keep hs (hb0.mono hN) hN) (by simp; omega)
 have HR0:Hid (Rv (w.alloc (.cells #[.slice none 0 0,.int .i64 0] 162)) w.heap.size (.slice none 0 0) 0):=Rv.new _ _ _ _ _ rfl
 clear D hs hbad hb0
 go_enter Tryz.func189,Tryz.ntmps189
 go_wp2_with fail
 refine kc.mono ?_
 rintro e w1 ⟨hb1,hs0,hs1⟩
 clear kc
 have hz1:w.heap.size + 1≤w1.heap.size:=by simpa using hb1.size
 have HR:Hid (Rv w1 w.heap.size (.slice none 0 0) 0):=HR0.out.below hb1
 have HG:Hid (w.grownBy w1 (some E)):=gb_below (bt (ba _ _) hb1)
 cases hsur:sur with
 | some o =>
  obtain ⟨sa,sc,rfl,hI⟩:=hs1 o hsur
  have HI:Hid (∀ m,m < w.heap.size + 1→Ints w1 w1.heap.size m (.slice sa o.length sc) o):=fun m hm=>hI m (by simpa using hm)
  have HS1:Hid (St w1 s0):=HD.out.keep HS.out ((bt (ba _ _) hb1).mono hN) hN
  clear hs0 hs1 hI
  subst hsur
  obtain ⟨r0,r1,r2,r3,r4⟩:=HR.out
  have ne1:¬ w.heap.size=w1.heap.size:=by omega
  go_wp2
  generalize hX:((w1.setCell ⟨w.heap.size,0,none⟩ (.slice sa o.length sc)).setCell ⟨w.heap.size,1,none⟩ (.int .i64 0)).alloc (.cells #[.slice sa o.length sc,.int .i64 0] 162)=X
  have hbX:Below w.heap.size w X:=hX▸bal (bs (bs (bt (ba _ _) hb1) (p:=⟨w.heap.size,0,none⟩) (Nat.le_refl _) _) (p:=⟨w.heap.size,1,none⟩) (Nat.le_refl _) _) _
  have HRX:Rv X w.heap.size (.slice sa o.length sc) 0:=hX▸((HR.out.put _ _).alloc _)
  have HIX:Hid (∀ m,m < w.heap.size + 1→Ints X X.heap.size m (.slice sa o.length sc) o):=by
   have h1:=Ints.setm (Ints.setm HI.out w.heap.size 0 (by omega) (.slice sa o.length sc)) w.heap.size 1 (by omega) (.int .i64 0)
   intro m hm
   have h2:=h1 m hm
   rw [show w1.heap.size=((w1.setCell ⟨w.heap.size,0,none⟩ (.slice sa o.length sc)).setCell ⟨w.heap.size,1,none⟩ (.int .i64 0)).heap.size by simp] at h2
   rw [← hX]
   exact (h2.keep (ba _ _)).mono (by simp) (.inl rfl)
  have HVX:Hid (Ints X B E (.slice a bits.length c) bits):=HV.out.at (by omega) hbX
  have HSX:Hid (St X s0):=HD.out.keep HS.out (hbX.mono hN) hN
  clear hX
  obtain ⟨x0,x1,_,_,_⟩:=HRX
  refine bodyPost_ret (v:=.tuple #[.agg #[.slice sa o.length sc,.int .i64 0],.slice a bits.length c,.bool true]) (by simp [results,Tryz.results189,go_sem,x0,x1]) rfl ⟨gb_below hbX,.inr ⟨sa,sc,o,0,a,c,0,rfl,rfl,fun m hm=>HIX.out m (by omega),HVX.out,HSX.out⟩⟩
 | none =>
  have he:=hs0 hsur
  subst he
  subst hsur
  have HS1:Hid (St w1 s0):=HD.out.keep HS.out ((bt (ba _ _) hb1).mono hN) hN
  clear hs0 hs1
  obtain ⟨r0,r1,r2,r3,r4⟩:=HR.out
  go_wp2
  generalize hX:w1.alloc (.cells #[.slice none 0 0,.int .i64 0] 162)=X
  have hbX:Below w.heap.size w X:=hX▸bal (bt (ba _ _) hb1) _
  have HRX:Hid (Rv X w.heap.size (.slice none 0 0) 0):=hX▸HR.out.alloc _
  have HSX:Hid (St X s0):=HD.out.keep HS.out (hbX.mono hN) hN
  clear hX hb1 r0 r1 r2 r3 r4 HR HR0 HS1 HG hz1
  go_loopw [23] (fun iv wr=>∃ (i:Nat) (s:S),iv=.int .i64 (i:Int)∧i≤bits.length∧Hid (St wr s∧us s=i∧go s0 bits=go s (bits.drop i))∧Hid (w.grownBy wr (some E))∧Hid (Rv wr w.heap.size (.slice none 0 0) 0)) (fun iv _=>bits.length - (intOf iv).toNat)
  case atStart=>exact ⟨0,s0,rfl,Nat.zero_le _,⟨HSX.out,HD.out.u0,by simp⟩,gb_below hbX,HRX⟩
  case round =>
   obtain ⟨i,s,rfl,hit,HI,HG,HR⟩:=hrel
   have hz:w.heap.size + 1≤wr.heap.size:=HR.out.lt
   by_cases h1:i < bits.length
   ·obtain ⟨b,hb⟩:=get_lt h1
    have HB:Hid (bits[i]? = some b):=hb
    have HVr:Hid (Ints wr B E (.slice a bits.length c) bits):=HV.out.gb HG.out
    obtain ⟨_,_,hv',_,_,hx⟩:=HVr.out
    simp only [Value.slice.injEq] at hv'
    obtain ⟨rfl,_,rfl⟩:=hv'
    obtain ⟨bb,bo,rfl,hbB,hbE,hcell⟩:=hx (ne_of_lt h1)
    have c1:=hcell i b hb
    have hbit:=bad_get HBad.out hb
    have kc:=HD.out.feed rfl wr s b HI.out.1 (by omega) hbit (by rw [HI.out.2.1]; omega)
    clear hb hx hcell
    go_wp2_with fail
    refine kc.mono ?_
    rintro e w2 ⟨hg2,⟨rfl,s',h2,h3,h4⟩ | ⟨ra,rc,o,rfl,h2,h3,h4⟩⟩
    ·have HI2:Hid (St w2 s'∧us s' = (i + 1:Nat)∧go s0 bits=go s' (bits.drop (i + 1))):=⟨h2,by rw [h3,HI.out.2.1]; omega,by
      rw [HI.out.2.2,List.drop_eq_getElem_cons h1,← h4]
      have:=(List.getElem?_eq_some_iff.1 HB.out).2
      rw [this]⟩
     have HR2:Hid (Rv w2 w.heap.size (.slice none 0 0) 0):=HR.out.gb hg2 (by omega)
     have HG2:Hid (w.grownBy w2 (some E)):=gb_trans HG.out hg2
     have hz2:wr.heap.size≤w2.heap.size:=hg2.size
     clear kc h2 h3 h4 hg2 HI HG HR
     obtain ⟨r0,r1,r2,r3,r4⟩:=HR2.out
     go_wp2
     go_roundw
     case rel=>exact ⟨i + 1,s',by go_num,h1,⟨HD.out.keep HI2.out.1 ((ba _ _).mono (by omega)) (by omega),HI2.out.2⟩,gb_alloc HG2.out _,HR2.out.alloc _⟩
     case measure=>simp [intOf]; omega
    ·have HI2:Hid (go s0 bits=some (o,(i:Int) + 1,bits.drop (i + 1))):=by
      have:=(List.getElem?_eq_some_iff.1 HB.out).2
      rw [Hid,HI.out.2.2,List.drop_eq_getElem_cons h1,this,h4,HI.out.2.1]
     have HS2:Hid (St w2 s0):=h3
     have hu:us s=(i:Int):=HI.out.2.1
     rw [hu]
     have HR2:Hid (Rv w2 w.heap.size (.slice none 0 0) 0):=HR.out.gb hg2 (by omega)
     have HG2:Hid (w.grownBy w2 (some E)):=gb_trans HG.out hg2
     have hz2:wr.heap.size≤w2.heap.size:=hg2.size
     have HO:Hid (∀ m,m < wr.heap.size→Ints w2 w2.heap.size m (.slice ra o.length rc) o):=h2
     have HV2:Hid (Ints w2 B E (.slice (some ⟨bb,bo,none⟩) bits.length c) bits):=HVr.out.gb hg2
     clear kc h2 h3 h4 hg2 HI HG HR hu
     obtain ⟨r0,r1,r2,r3,r4⟩:=HR2.out
     have ne1:¬ w.heap.size=w2.heap.size:=by omega
     have ne2:¬ w2.heap.size=w.heap.size:=by omega
     go_wp2
     go_region
     generalize hX:(((w2.setCell ⟨w.heap.size,0,none⟩ (.slice ra o.length rc)).setCell ⟨w.heap.size,1,none⟩ (.int .i64 ((i:Int) + 1))).alloc (.cells #[.slice ra o.length rc,.int .i64 ((i:Int) + 1)] 162)).drew=X
     have hgX:w.grownBy X (some E):=hX▸gb_drew (gb_alloc (gb_new (gb_new HG2.out (p:=⟨w.heap.size,0,none⟩) (Nat.le_refl _) _) (p:=⟨w.heap.size,1,none⟩) (Nat.le_refl _) _) _)
     have hbX:Below w.heap.size w2 X:=hX▸(((((Below.refl w.heap.size w2).setCell (p:=⟨w.heap.size,0,none⟩) (Nat.le_refl _) _).setCell (p:=⟨w.heap.size,1,none⟩) (Nat.le_refl _) _).alloc (by simp; omega) _).drew)
     have HRX:Rv X w.heap.size (.slice ra o.length rc) ((i:Int) + 1):=hX▸((HR2.out.put _ _).alloc _).drew
     have HIX:Hid (∀ m,m < w.heap.size + 1→Ints X X.heap.size m (.slice ra o.length rc) o):=by
      have h1:=Ints.setm (Ints.setm (fun m hm=>HO.out m (by omega)) w.heap.size 0 (show w.heap.size < w.heap.size + 1 by omega) (.slice ra o.length rc)) w.heap.size 1 (by omega) (.int .i64 ((i:Int) + 1))
      intro m hm
      have h2:=h1 m hm
      rw [show w2.heap.size=((w2.setCell ⟨w.heap.size,0,none⟩ (.slice ra o.length rc)).setCell ⟨w.heap.size,1,none⟩ (.int .i64 ((i:Int) + 1))).heap.size by simp] at h2
      rw [← hX]
      exact (h2.keep (ba _ _).drew).mono (by simp) (.inl rfl)
     have HVX:Hid (Ints X B E _ (bits.drop (i + 1))):=((HV2.out.drop2 (i + 1) h1).keep (hbX.mono (by omega)))
     have HSX:Hid (St X s0):=HD.out.keep HS2.out (hbX.mono (by omega)) (by omega)
     rw [List.length_drop] at HVX
     clear hX
     obtain ⟨x0,x1,_,_,_⟩:=HRX
     generalize hsl:(if c=i + 1 then some (⟨bb,bo,none⟩:Addr) else some ⟨bb,bo + (i + 1),none⟩)=sl at HVX ⊢
     clear hsl
     go_wp2
     exact bodyPost_ret (v:=.tuple #[.agg #[.slice ra o.length rc,.int .i64 ((i:Int) + 1)],.slice sl (bits.length - (i + 1)) (c - (i + 1)),.bool true]) (by simp [results,Tryz.results189,go_sem,x0,x1]) rfl
      ⟨hgX,.inr ⟨ra,rc,o,_,_,_,i + 1,HI2.out,by rw [List.length_drop],fun m hm=>HIX.out m (by omega),by rw [List.length_drop]; exact HVX.out,HSX.out⟩⟩
   ·have HI2:Hid (go s0 bits=none):=by rw [Hid,HI.out.2.2,List.drop_eq_nil_of_le (by omega),HD.out.nil]
    have HR2:=HR.out.put (.slice none 0 0) 0
    obtain ⟨r0,r1,r2,r3,r4⟩:=HR.out
    obtain ⟨x0,x1,_,_,_⟩:=HR2
    go_wp2
    exact bodyPost_ret (v:=.tuple #[noD,.slice none 0 0,.bool false]) (by simp [results,Tryz.results189,go_sem,x0,x1]) rfl
     ⟨gb_new (gb_new HG.out (p:=⟨w.heap.size,0,none⟩) (Nat.le_refl _) _) (p:=⟨w.heap.size,1,none⟩) (Nat.le_refl _) _,.inl ⟨HI2.out,rfl⟩⟩
end Go.Proofs.YtpmioeamdhdokaaGreat

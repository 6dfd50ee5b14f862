import Derived.Test.YtlndlpjadajelaaGreatQq21
import Derived.Laws.StructEq
import Derived.Test.YtlndlpjadajelaaGreatQq22
namespace Go.Proofs.YtlndlpjadajelaaGreat.K
open Go.RowKit Go.Proofs.YtlndlpjadajelaaGreat.K.Ds
theorem col_struct:Tryz.prog.underlying 74=some (.struct (Tryz.prog.fieldsOf 74)):=by rw [Program.fieldsOf,Tryz.underlying74]
theorem col_held:Tryz.prog.stoodInHeld 74=false:=by kernel_rfl
theorem col_guard:Tryz.prog.eqGuardType Tryz.prog.depth 64=false:=by kernel_rfl
theorem col_fields : ∃ f0 f1 : Field, (Tryz.prog.fieldsOf 74).toList = [f0, f1] ∧ f0.name ≠ "_" ∧ f1.name ≠ "_" ∧ f0.type = 9 ∧ f1.type = 3 ∧ f0.offset = 0 ∧ f1.offset = 1 := by
 refine ⟨_,_,by rw [Program.fieldsOf,Tryz.underlying74],by decide,by decide,rfl,rfl,rfl,rfl⟩
theorem col_neq (n1 n2:ByteArray) (s1 s2:Int) (r:Bool) (hr:(!decide ((n1,s1)=(n2,s2)))=r) (u:World):(binOp .neq 74 (.agg #[.string n1,.int .i64 s1]) (.agg #[.string n2,.int .i64 s2])).run Tryz.prog u=.ok (.bool r) u:=by
 obtain ⟨f0,f1,hf,n0,n1',t0,t1,o0,o1⟩:=col_fields
 rw [run_neq_struct,run_equalIn_struct u 9999 74 _ _ col_struct col_held,hf,← hr]
 simp [Op.eqFields,n0,n1',t0,t1,o0,o1,go_sem,Tryz.underlying9,Tryz.underlying3,str_eq]
 by_cases h1:n1=n2 <;> by_cases h2:s1=s2 <;> simp [h1,h2]
theorem take_next {α:Type} {l m:List α} {i:Nat} {x:α} (h:l.take i=m.take i) (h1:l[i]? = some x) (h2:m[i]? = some x):l.take (i + 1)=m.take (i + 1):=by
 rw [List.take_add_one,List.take_add_one,h,h1,h2]
set_option maxHeartbeats 1000000 in
theorem equal_any (B:Nat) (u v:Value) (l m:List Col) (w:World) (hB:B≤w.heap.size) (hp:Cols w B u l) (hq:Cols w B v m) (r:Bool) (hr:decide (l=m)=r) :
  Calls Tryz.prog 36 #[u,v] w fun e w'=>e=.returned (.bool r)∧Below w.heap.size w w':=by
 have HP:Hid (Cols w B u l):=hp
 have HQ:Hid (Cols w B v m):=hq
 have HR:Hid (decide (l=m)=r):=hr
 obtain ⟨a,c,rfl,hc,hl⟩:=hp.slice
 obtain ⟨a2,c2,rfl,hc2,hl2⟩:=hq.slice
 clear hr
 go_enter Tryz.func36,Tryz.ntmps36
 by_cases hlen:l.length=m.length
 ·have hle2:(((l.length:Int)) != (m.length:Int))=false:=by simp [hlen]
  have HLN:Hid (l.length=m.length):=hlen
  clear hlen
  go_wp2
  go_loopw [13] (fun s wr=>∃ i:Nat,s=.int .i64 (i:Int)∧i≤l.length∧Hid (l.take i=m.take i)∧Below w.heap.size w wr) (fun s _=>l.length - (intOf s).toNat)
  case atStart=>exact ⟨0,rfl,Nat.zero_le _,by simp [Hid],Below.refl _ _⟩
  case round =>
   obtain ⟨i,rfl,hi,HT,hbl⟩:=hrel
   by_cases h1:i < l.length
   ·obtain ⟨b,o,nm,sz,rfl,hb,hg,c1,c2',hn⟩:=HP.out.get hB hbl h1
    obtain ⟨b2,o2,nm2,sz2,rfl,hb2,hg2,d1,d2,hn2⟩:=HQ.out.get hB hbl (i:=i) (by have:=HLN.out; omega)
    have HG:Hid (l[i]? = some (nm,sz)):=hg
    have HG2:Hid (m[i]? = some (nm2,sz2)):=hg2
    have z1:(i:Int) < (m.length:Int):=by have:=HLN.out; omega
    have hgd:=col_guard
    clear hg hg2
    by_cases he:(nm,sz)=(nm2,sz2)
    ·have hbn:=col_neq nm nm2 sz sz2 false (by rw [decide_eq_true he]; rfl)
     have HX:Hid ((nm,sz)=(nm2,sz2)):=he
     clear he
     go_wp2
     go_quiet (fail)
     go_wp2
     go_roundw
     case rel=>exact ⟨i + 1,by go_num,h1,take_next HT.out HG.out (by rw [HG2.out,HX.out]),below_drewN hbl _⟩
     case measure=>simp [intOf]; omega
    ·have hbn:=col_neq nm nm2 sz sz2 true (by rw [decide_eq_false he]; rfl)
     obtain rfl:false=r:=by
      rw [← HR.out]
      refine (decide_eq_false fun h=>he ?_).symm
      have:=HG.out
      rw [h,HG2.out] at this
      exact (Option.some.inj this).symm
     clear he
     go_wp2
     go_quiet (fail)
     go_wp2
     go_ret
     exact ⟨rfl,below_drewN hbl _⟩
   ·obtain rfl:true=r:=by
     rw [← HR.out]
     refine (decide_eq_true ?_).symm
     have:=HT.out
     rwa [List.take_of_length_le (by omega),List.take_of_length_le (by have:=HLN.out; omega)] at this
    go_wp2
    go_ret
    exact ⟨rfl,hbl⟩
 ·have hle2:(((l.length:Int)) != (m.length:Int))=true:=by simp; omega
  obtain rfl:false=r:=by
   rw [← HR.out]
   exact (decide_eq_false fun h=>hlen (by rw [h])).symm
  go_wp2
  go_ret
  exact ⟨rfl,Below.refl _ _⟩
theorem bcell {W w1:World} (hb:Below W.heap.size W w1):(∀ b o,b < W.heap.size→w1.cell? ⟨b,o,none⟩=W.cell? ⟨b,o,none⟩)∧(∀ b o,b < W.heap.size→w1.frozen? ⟨b,o,none⟩=W.frozen? ⟨b,o,none⟩) :=
 ⟨fun b o h=>hb.cell (p:=⟨b,o,none⟩) h,fun b o h=>hb.frozen (p:=⟨b,o,none⟩) h⟩
set_option maxHeartbeats 2000000 in
set_option maxRecDepth 100000 in
theorem apart_any (B:Nat) (cu ru cv rv:Value) (l m:List Col) (ts us:List Rw) (w:World) (hB:B≤w.heap.size) (hp:Cols w B cu l) (hq:Rws w B ru ts) (hp2:Cols w B cv m) (hq2:Rws w B rv us) (n er:Int) (hn:apaT l m (rr ts) (rr us)=n) (hr:apaE l m (rr ts) (rr us)=er) :
  Calls Tryz.prog 12 #[.agg #[cu,ru],.agg #[cv,rv]] w fun e w'=>e=.returned (.tuple #[.int .i64 n,.int .i64 er])∧Below w.heap.size w w':=by
 have HP:Hid (Cols w B cu l):=hp
 have HQ:Hid (Rws w B ru ts):=hq
 have HP2:Hid (Cols w B cv m):=hp2
 have HQ2:Hid (Rws w B rv us):=hq2
 have HN:Hid (apaT l m (rr ts) (rr us)=n):=hn
 have HR:Hid (apaE l m (rr ts) (rr us)=er):=hr
 obtain ⟨a,c,rfl,hc,hl⟩:=hp.slice
 obtain ⟨a2,c2,rfl,hc2,hl2⟩:=hq.slice
 obtain ⟨a3,c3,rfl,hc3,hl3⟩:=hp2.slice
 obtain ⟨a4,c4,rfl,hc4,hl4⟩:=hq2.slice
 clear hn hr
 obtain ⟨W,hW⟩:∃ W,(w.alloc (.cells #[.slice a l.length c,.slice a2 ts.length c2] 27)).alloc (.cells #[.slice a3 m.length c3,.slice a4 us.length c4] 27)=W:=⟨_,rfl⟩
 have hbW:Below w.heap.size w W:=by rw [← hW]; exact bal (ba _ _) _
 have hsW:W.heap.size=w.heap.size + 2:=by rw [← hW]; simp
 have p0:W.cell? ⟨w.heap.size,0,none⟩=some (.slice a l.length c):=by rw [← hW]; simp [go_sem]
 have p1:W.cell? ⟨w.heap.size,1,none⟩=some (.slice a2 ts.length c2):=by rw [← hW]; simp [go_sem]
 have p2:W.cell? ⟨w.heap.size + 1,0,none⟩=some (.slice a3 m.length c3):=by rw [← hW]; simp [go_sem]
 have p3:W.cell? ⟨w.heap.size + 1,1,none⟩=some (.slice a4 us.length c4):=by rw [← hW]; simp [go_sem]
 obtain ⟨xs,ea,hra⟩:∃ xs ea,Hid (cellsR l (rr ts)=(xs,ea)):=⟨_,_,rfl⟩
 have kc:=cells_any B _ _ l ts W (by omega) (HP.out.at hB hbW) (HQ.out.at hB hbW) xs ea hra.out
 go_enter Tryz.func12,Tryz.ntmps12
 go_wp2_with fail
 clear hW
 refine kc.mono ?_
 rintro e w1 ⟨v1,rfl,hx1,hb1⟩
 have HX1:Hid (NewI W.heap.size w1 v1 xs):=hx1
 have hbw:Below w.heap.size w w1:=bt hbW hb1
 obtain ⟨h1c,h1f⟩:=bcell hb1
 have q0:=(h1c w.heap.size 0 (by omega)).trans p0
 have q1:=(h1c w.heap.size 1 (by omega)).trans p1
 have q2:=(h1c (w.heap.size + 1) 0 (by omega)).trans p2
 have q3:=(h1c (w.heap.size + 1) 1 (by omega)).trans p3
 have hz1:w.heap.size + 2≤w1.heap.size:=by have:=hb1.size; omega
 obtain ⟨va,vc,hv1,hvc1,hvl1⟩:=(hx1 0 (by omega)).slice
 subst hv1
 clear kc h1c h1f p0 p1 p2 p3 hx1 hb1
 by_cases he0:ea=0
 ·subst he0
  have HA:Hid (wroE l (rr ts)=0∧celT l (rr ts)=xs):=by
   have:=hra.out
   unfold cellsR at this
   split at this
   ·rename_i h0; simp only [Prod.mk.injEq] at this; exact ⟨h0,this.1⟩
   ·rename_i h0; simp only [Prod.mk.injEq] at this; exact absurd this.2 h0
  obtain ⟨ys,eb,hrb⟩:∃ ys eb,Hid (cellsR m (rr us)=(ys,eb)):=⟨_,_,rfl⟩
  have kc:=cells_any B _ _ m us w1 (by omega) (HP2.out.at hB hbw) (HQ2.out.at hB hbw) ys eb hrb.out
  go_wp2_with fail
  refine kc.mono ?_
  rintro e w2 ⟨v2,rfl,hx2,hb2⟩
  have HX2:Hid (NewI w1.heap.size w2 v2 ys):=hx2
  have hbw2:Below w.heap.size w w2:=bt hbw hb2
  obtain ⟨h1c,h1f⟩:=bcell hb2
  have r0:=(h1c w.heap.size 0 (by omega)).trans q0
  have r2:=(h1c (w.heap.size + 1) 0 (by omega)).trans q2
  have hz2:w1.heap.size≤w2.heap.size:=hb2.size
  have HX1b:Hid (Ints w2 w1.heap.size 0 (.slice va xs.length vc) xs):=(HX1.out 0 (by omega)).keep hb2
  obtain ⟨vb,vd,hv2,hvc2,hvl2⟩:=(hx2 0 (by omega)).slice
  subst hv2
  clear kc h1c h1f q0 q1 q2 q3 hx2 hb2
  by_cases he1:eb=0
  ·subst he1
   have HBb:Hid (wroE m (rr us)=0∧celT m (rr us)=ys):=by
    have:=hrb.out
    unfold cellsR at this
    split at this
    ·rename_i h0; simp only [Prod.mk.injEq] at this; exact ⟨h0,this.1⟩
    ·rename_i h0; simp only [Prod.mk.injEq] at this; exact absurd this.2 h0
   obtain ⟨rc,hrc⟩:∃ rc,Hid (decide (l=m)=rc):=⟨_,rfl⟩
   have kc:=equal_any B _ _ l m w2 (by omega) (HP.out.at hB hbw2) (HP2.out.at hB hbw2) rc hrc.out
   go_wp2_with fail
   refine kc.mono ?_
   rintro e w3 ⟨rfl,hb3⟩
   have hbw3:Below w.heap.size w w3:=bt hbw2 hb3
   have hz3:=hb3.size
   have HX1c:Hid (Ints w3 w2.heap.size 0 (.slice va xs.length vc) xs):=(HX1b.out.mono hz2 (.inl rfl)).keep hb3
   have HX2c:Hid (Ints w3 w2.heap.size 0 (.slice vb ys.length vd) ys):=(HX2.out 0 (by omega)).keep hb3
   clear kc r0 r2
   cases rc with
   | false =>
    have hne:l≠m:=of_decide_eq_false hrc.out
    obtain rfl:8=er:=by rw [← HR.out,apaE,if_pos HA.out.1,if_pos HBb.out.1,if_neg hne]
    obtain rfl:0=n:=by rw [← HN.out,apaT,HR.out,if_neg (by decide)]
    clear hne
    go_wp2
    go_ret2
    exact ⟨rfl,hbw3⟩
   | true =>
    have hlm:l=m:=of_decide_eq_true hrc.out
    obtain rfl:0=er:=by rw [← HR.out,apaE,if_pos HA.out.1,if_pos HBb.out.1,if_pos hlm]
    have HNN:Hid (apaS xs ys=n):=by rw [Hid,← HN.out,apaT,HR.out,if_pos rfl,HA.out.2,HBb.out.2]
    have hxl:Hid (xs.length=prd l):=by rw [Hid,← HA.out.2,celT_len]
    have hyl:Hid (ys.length=xs.length):=by rw [Hid,← HBb.out.2,← HA.out.2,celT_len,celT_len,hlm]
    have hx4:xs.length≤4096:=by rw [hxl.out]; exact (colE_ok (wroE_ok HA.out.1).1).2.2.2.1
    have HBX:Hid (∀ x∈xs,0≤x∧x≤(4096:Int)):=by
     intro x hx
     rw [← HA.out.2] at hx
     have h1:=celT_bd hx
     have h2:=(wroE_ok HA.out.1).2.1
     omega
    have HBY:Hid (∀ x∈ys,0≤x∧x≤(4096:Int)):=by
     intro x hx
     rw [← HBb.out.2] at hx
     have h1:=celT_bd hx
     have h2:=(wroE_ok HBb.out.1).2.1
     omega
    clear hlm
    go_wp2
    go_loopw [9,35] (fun nv s wr=>∃ (i:Nat) (k:Int),nv=.int .i64 k∧s=.int .i64 (i:Int)∧i≤xs.length∧0≤k∧k≤4096 * (i:Int)∧Hid (k + apaS (xs.drop i) (ys.drop i)=n)∧Below w3.heap.size w3 wr) (fun _ s _=>xs.length - (intOf s).toNat)
    case atStart=>exact ⟨0,0,rfl,rfl,Nat.zero_le _,by omega,by omega,by show _=_; simpa using HNN.out,Below.refl _ _⟩
    case round =>
     obtain ⟨i,k,rfl,rfl,hi,hk0,hk1,HI,hbl⟩:=hrel
     by_cases h1:i < xs.length
     ·obtain ⟨b,o,x,rfl,hb,_,hg,e1⟩:=HX1c.out.get hz3 hbl h1
      obtain ⟨b2,o2,y,rfl,hb2,_,hg2,e2⟩:=HX2c.out.get hz3 hbl (i:=i) (by have:=hyl.out; omega)
      have hxb:=HBX.out _ (List.mem_of_getElem? hg)
      have hyb:=HBY.out _ (List.mem_of_getElem? hg2)
      have z1:(i:Int) < (ys.length:Int):=by have:=hyl.out; omega
      have ST:Hid (k + max (x - y) (y - x) + apaS (xs.drop (i + 1)) (ys.drop (i + 1))=n):=by
       have:=HI.out
       rw [apaS_step hg hg2] at this
       show _=_
       omega
      clear hg hg2 HI
      go_wp2
      go_quiet (fail)
      go_wp2
      have hmx:(if x - y < y - x then y - x else x - y)=max (x - y) (y - x):=by split <;> omega
      go_roundw
      case rel=>exact ⟨i + 1,k + max (x - y) (y - x),by rw [hmx],by go_num,h1,by omega,by omega,ST,below_drewN hbl _⟩
      case measure=>simp [intOf]; omega
     ·obtain rfl:k=n:=by have:=HI.out; rw [List.drop_eq_nil_of_le (by omega),List.drop_eq_nil_of_le (by have:=hyl.out; omega)] at this; simpa [apaS] using this
      go_wp2
      go_ret2
      exact ⟨rfl,bt hbw3 hbl⟩
  ·have hne:(eb != 0)=true:=by simpa using he1
   have hwb:wroE m (rr us)=eb:=by
    have:=hrb.out
    unfold cellsR at this
    split at this
    ·simp only [Prod.mk.injEq] at this; exact absurd this.2.symm he1
    ·simp only [Prod.mk.injEq] at this; exact this.2
   obtain rfl:eb=er:=by rw [← HR.out,apaE,if_pos HA.out.1,hwb,if_neg he1]
   obtain rfl:0=n:=by rw [← HN.out,apaT,HR.out,if_neg he1]
   clear hwb
   go_wp2
   go_ret2
   exact ⟨rfl,hbw2⟩
 ·have hne:(ea != 0)=true:=by simpa using he0
  have hwa:wroE l (rr ts)=ea:=by
   have:=hra.out
   unfold cellsR at this
   split at this
   ·simp only [Prod.mk.injEq] at this; exact absurd this.2.symm he0
   ·simp only [Prod.mk.injEq] at this; exact this.2
  obtain rfl:ea=er:=by rw [← HR.out,apaE,hwa,if_neg he0]
  obtain rfl:0=n:=by rw [← HN.out,apaT,HR.out,if_neg he0]
  clear hwa
  go_wp2
  go_ret2
  exact ⟨rfl,hbw⟩
theorem Ints.got {w:World} {B nb n c:Nat} {a:Option Addr} {xs:List Int} (h:Ints w B nb (.slice a n c) xs) {i:Nat} (hi:i < xs.length):∃ b o x,a=some ⟨b,o,none⟩∧n=xs.length∧b < B∧b≠nb∧xs[i]? = some x∧xs.getD i 0=x∧w.cell? ⟨b,o + i,none⟩=some (.int .i64 x):=by
 obtain ⟨a',c',e,_,_,hx⟩:=h
 simp only [Value.slice.injEq] at e
 obtain ⟨rfl,rfl,rfl⟩:=e
 obtain ⟨b,o,rfl,hb,hn,hcell⟩:=hx (ne_of_lt hi)
 obtain ⟨x,hx⟩:=get_lt hi
 exact ⟨b,o,x,rfl,rfl,hb,hn,hx,by simp [List.getD,hx],hcell i x hx⟩
set_option maxHeartbeats 1000000 in
set_option maxRecDepth 100000 in
theorem pass1_any (h i p:Nat) (at':Nat) (d z:Int) (hd:doB d=true) (B nb:Nat) (rv:Value) (row:List Int) (w:World) (hh:Boxed w h 229 (holV d p)) (hi:Boxed w i 3 (.int .i64 (at':Int))) (hp:Boxed w p 3 (.int .i64 z)) (hr:Ints w B nb rv row) (hat:at' < row.length) :
  Calls Tryz.prog 210 #[rv,.pointer (some ⟨h,0,none⟩),.pointer (some ⟨i,0,none⟩)] w fun e w'=>e=.returned (.bool (tstB d z (row.getD at' 0)))∧w' = w.drew:=by
 obtain ⟨a,c,rfl,hc,hl,hx⟩:=hr
 obtain ⟨b,o,x,rfl,_,hb,hn,hg,hgd,hcell⟩:=Ints.got ⟨a,c,rfl,hc,hl,hx⟩ hat
 have q1:=hh.cell
 have q2:=hi.cell
 have q3:=hp.cell
 have q3':w.drew.cell? ⟨p,0,none⟩=some (.int .i64 z):=q3
 rw [hgd]
 clear hh hi hp hx hg hgd
 simp only [doB,decide_eq_true_eq] at hd
 by_cases h1:d=1
 ·subst h1
  have kt:=tst_any 1 z x p w.drew (by decide) q3'
  simp only [holV] at q1
  go_enter Tryz.func210,Tryz.ntmps210
  go_wp2
  go_region_held3 (fun w'=>w'.cell? ⟨h,0,none⟩=some (.func (.func 227) #[] #[.pointer (some ⟨p,0,none⟩)])∧w'.cell? ⟨i,0,none⟩=some (.int .i64 (at':Int))∧w'.cell? ⟨b,o + at',none⟩=some (.int .i64 x)) (first | assumption | (simp [go_sem, *]; done)) ((refine kt.mono ?_; rintro x3 w3 ⟨rfl,hw3⟩; subst hw3))
  go_wp2
  go_ret
  exact ⟨rfl,rfl⟩
 by_cases h2:d=2
 ·subst h2
  have kt:=tst_any 2 z x p w.drew (by decide) q3'
  simp only [holV] at q1
  go_enter Tryz.func210,Tryz.ntmps210
  go_wp2
  go_region_held3 (fun w'=>w'.cell? ⟨h,0,none⟩=some (.func (.func 228) #[] #[.pointer (some ⟨p,0,none⟩)])∧w'.cell? ⟨i,0,none⟩=some (.int .i64 (at':Int))∧w'.cell? ⟨b,o + at',none⟩=some (.int .i64 x)) (first | assumption | (simp [go_sem, *]; done)) ((refine kt.mono ?_; rintro x3 w3 ⟨rfl,hw3⟩; subst hw3))
  go_wp2
  go_ret
  exact ⟨rfl,rfl⟩
 by_cases h3:d=3
 ·subst h3
  have kt:=tst_any 3 z x p w.drew (by decide) q3'
  simp only [holV] at q1
  go_enter Tryz.func210,Tryz.ntmps210
  go_wp2
  go_region_held3 (fun w'=>w'.cell? ⟨h,0,none⟩=some (.func (.func 229) #[] #[.pointer (some ⟨p,0,none⟩)])∧w'.cell? ⟨i,0,none⟩=some (.int .i64 (at':Int))∧w'.cell? ⟨b,o + at',none⟩=some (.int .i64 x)) (first | assumption | (simp [go_sem, *]; done)) ((refine kt.mono ?_; rintro x3 w3 ⟨rfl,hw3⟩; subst hw3))
  go_wp2
  go_ret
  exact ⟨rfl,rfl⟩
 by_cases h4:d=4
 ·subst h4
  have kt:=tst_any 4 z x p w.drew (by decide) q3'
  simp only [holV] at q1
  go_enter Tryz.func210,Tryz.ntmps210
  go_wp2
  go_region_held3 (fun w'=>w'.cell? ⟨h,0,none⟩=some (.func (.func 230) #[] #[.pointer (some ⟨p,0,none⟩)])∧w'.cell? ⟨i,0,none⟩=some (.int .i64 (at':Int))∧w'.cell? ⟨b,o + at',none⟩=some (.int .i64 x)) (first | assumption | (simp [go_sem, *]; done)) ((refine kt.mono ?_; rintro x3 w3 ⟨rfl,hw3⟩; subst hw3))
  go_wp2
  go_ret
  exact ⟨rfl,rfl⟩
 by_cases h5:d=5
 ·subst h5
  have kt:=tst_any 5 z x p w.drew (by decide) q3'
  simp only [holV] at q1
  go_enter Tryz.func210,Tryz.ntmps210
  go_wp2
  go_region_held3 (fun w'=>w'.cell? ⟨h,0,none⟩=some (.func (.func 231) #[] #[.pointer (some ⟨p,0,none⟩)])∧w'.cell? ⟨i,0,none⟩=some (.int .i64 (at':Int))∧w'.cell? ⟨b,o + at',none⟩=some (.int .i64 x)) (first | assumption | (simp [go_sem, *]; done)) ((refine kt.mono ?_; rintro x3 w3 ⟨rfl,hw3⟩; subst hw3))
  go_wp2
  go_ret
  exact ⟨rfl,rfl⟩
 obtain rfl:d=6:=by omega
 have kt:=tst_any 6 z x p w.drew (by decide) q3'
 simp only [holV] at q1
 go_enter Tryz.func210,Tryz.ntmps210
 go_wp2
 go_region_held3 (fun w'=>w'.cell? ⟨h,0,none⟩=some (.func (.func 232) #[] #[.pointer (some ⟨p,0,none⟩)])∧w'.cell? ⟨i,0,none⟩=some (.int .i64 (at':Int))∧w'.cell? ⟨b,o + at',none⟩=some (.int .i64 x)) (first | assumption | (simp [go_sem, *]; done)) ((refine kt.mono ?_; rintro x3 w3 ⟨rfl,hw3⟩; subst hw3))
 go_wp2
 go_ret
 exact ⟨rfl,rfl⟩
structure Pss (w:World) (A lo:Nat) (ps:List (Nat × Int × Int)) (sv:Value) (es:List (Value × Nat × Int × Int)):Prop where
 box:Boxed w A 234 sv
 tcs:Tcs w lo sv es
 eq:es.map (·.2)=ps
theorem Pss.at {w w':World} {A lo:Nat} {ps:List (Nat × Int × Int)} {sv:Value} {es:List (Value × Nat × Int × Int)} (h:Pss w A lo ps sv es) (hb:Below w.heap.size w w'):Pss w' A lo ps sv es:=⟨Boxed.at h.box hb,h.tcs.at hb,h.eq⟩
theorem pasB_step {es:List (Value × Nat × Int × Int)} {i:Nat} {e:Value × Nat × Int × Int} {r:List Int} (h:es[i]? = some e):pasB ((es.drop i).map (·.2)) r=(tstB e.2.2.1 e.2.2.2 (r.getD e.2.1 0) && pasB ((es.drop (i + 1)).map (·.2)) r):=by
 rw [List.drop_eq_getElem_cons (List.getElem?_eq_some_iff.1 h).1,(List.getElem?_eq_some_iff.1 h).2]
 simp [pasB]
set_option maxHeartbeats 1000000 in
set_option maxRecDepth 100000 in
theorem pass2_any (A lo:Nat) (ps:List (Nat × Int × Int)) (sv:Value) (es:List (Value × Nat × Int × Int)) (w:World) (hP:Pss w A lo ps sv es) (hes:es.length≤64) (B nb:Nat) (rv:Value) (row:List Int) (hB:B≤w.heap.size) (hr:Ints w B nb rv row) (hat:∀ e∈ps,doB e.2.1=true∧e.1 < row.length) (r:Bool) (hrr:pasB ps row=r) :
  Calls Tryz.prog 211 #[rv,.pointer (some ⟨A,0,none⟩)] w fun e w'=>e=.returned (.bool r)∧Below w.heap.size w w':=by
 have HP:Hid (Pss w A lo ps sv es):=hP
 have HRV:Hid (Ints w B nb rv row):=hr
 have HAT:Hid (∀ e∈ps,doB e.2.1=true∧e.1 < row.length):=hat
 have HRR:Hid (pasB ((es.drop 0).map (·.2)) row=r):=by rw [List.drop_zero,hP.eq]; exact hrr
 have q0:=hP.box.cell
 obtain ⟨sa,sc,rfl⟩:=owns_slice hP.tcs.1
 obtain ⟨ra,rc,rfl,_⟩:=hr
 clear hP hat hrr
 go_enter Tryz.func211,Tryz.ntmps211
 go_wp2
 go_loopw [8] (fun s' wr=>∃ (i:Nat),s' = .int .i64 (i:Int)∧i≤es.length∧Hid (pasB ((es.drop i).map (·.2)) row=r)∧Below w.heap.size w wr) (fun s' _=>es.length - (intOf s').toNat)
 case atStart=>exact ⟨0,rfl,Nat.zero_le _,HRR,Below.refl _ _⟩
 case round =>
  obtain ⟨i,rfl,hi,HI,hbl⟩:=hrel
  clear q0
  by_cases h1:i < es.length
  ·obtain ⟨e,he⟩:=get_lt h1
   have hTc:=HP.out.tcs.at hbl
   obtain ⟨g,c',rfl,hg1,hg2⟩:∃ g c',sa=some ⟨g,0,none⟩∧c' = sc∧True:=by
    obtain ⟨_,h2 | ⟨g,cap,cur,e1,_⟩⟩:=hTc.1
    ·have:=h2.2; omega
    ·simp only [Value.slice.injEq] at e1; exact ⟨g,sc,e1.1,rfl,trivial⟩
   have hc0:wr.cell? ⟨g,i,none⟩=some e.1:=by
    have:=World.ownsRow.cells hTc.1 (g:=g) rfl i e.1 (by simp [he])
    rwa [Addr.add_lit,Nat.zero_add] at this
   obtain ⟨h,ii,p,hV,b1,b2,b3⟩:=hTc.2 e (List.mem_of_getElem? he)
   have hmem:e.2∈ps:=by rw [← HP.out.eq]; exact List.mem_map_of_mem (List.mem_of_getElem? he)
   obtain ⟨hd,ha⟩:=HAT.out _ hmem
   have HST:Hid (pasB ((es.drop i).map (·.2)) row=(tstB e.2.2.1 e.2.2.2 (row.getD e.2.1 0) && pasB ((es.drop (i + 1)).map (·.2)) row)):=pasB_step he
   have k1:=pass1_any h ii p e.2.1 e.2.2.1 e.2.2.2 hd B nb _ row wr b1 b2 b3 (HRV.out.at hB hbl) ha
   obtain ⟨tb,htb⟩:∃ tb,tstB e.2.2.1 e.2.2.2 (row.getD e.2.1 0)=tb:=⟨_,rfl⟩
   rw [htb] at k1
   rw [hV] at hc0
   have HB2:Hid ((tb && pasB ((es.drop (i + 1)).map (·.2)) row)=r):=by rw [← htb,← HST.out]; exact HI.out
   clear hTc b1 b2 b3 hd ha hmem htb hV HI
   cases tb with
   | false =>
    obtain rfl:false=r:=by rw [← HB2.out]; rfl
    go_wp2_with fail
    refine k1.mono ?_
    rintro e w1 ⟨rfl,hw1⟩
    subst hw1
    go_wp2
    go_ret
    exact ⟨rfl,hbl.drew⟩
   | true =>
    have HI2:Hid (pasB ((es.drop (i + 1)).map (·.2)) row=r):=by have:=HB2.out; simpa [Hid] using this
    go_wp2_with fail
    refine k1.mono ?_
    rintro e w1 ⟨rfl,hw1⟩
    subst hw1
    go_wp2
    go_roundw
    case rel=>exact ⟨i + 1,by go_num,h1,HI2,hbl.drew⟩
    case measure=>simp [intOf]; omega
  ·obtain rfl:true=r:=by have:=HI.out; rw [List.drop_of_length_le (by omega)] at this; exact this
   go_wp2
   go_ret
   exact ⟨rfl,hbl⟩
end Go.Proofs.YtlndlpjadajelaaGreat.K

import Derived.Test.YtlndlpjadajelaaGreatQq20
import Derived.Deep.RegionHeld3
import Derived.BigRegion
import Derived.OwnWalk
import Derived.Laws.MakeOwn
import Derived.Maps.AppendAt
import Derived.Laws.OwnMore
import Derived.Lib.SliceRun
import Derived.RangeFuncBox
import Derived.Laws.EntriesVeiled
namespace Go.Proofs.YtlndlpjadajelaaGreat.K
open Go.RowKit Go.Proofs.YtlndlpjadajelaaGreat.K.Ds
abbrev Rw:=Value × List Int
def Rws (w:World) (B:Nat) (v:Value) (ts:List Rw):Prop :=
 ∃ a c,v=.slice a ts.length c∧ts.length≤c∧ts.length≤9223372036854775807∧(∀ t∈ts,Ints w B B t.1 t.2) ∧
  (ts≠[]→∃ b o,a=some ⟨b,o,none⟩∧b < B∧∀ i t,ts[i]? = some t→w.cell? ⟨b,o + i,none⟩=some t.1)
def rr (ts:List Rw):List (List Int):=ts.map (·.2)
theorem rr_len (ts:List Rw):(rr ts).length=ts.length:=by simp [rr]
theorem rr_get {ts:List Rw} {i:Nat} {t:Rw} (h:ts[i]? = some t):(rr ts)[i]? = some t.2:=by simp [rr,h]
theorem Rws.keep {w w':World} {B:Nat} {v:Value} {ts:List Rw} (h:Rws w B v ts) (hb:Below B w w'):Rws w' B v ts:=by
 obtain ⟨a,c,hv,hc,hl,hi,hx⟩:=h
 refine ⟨a,c,hv,hc,hl,fun t ht=>(hi t ht).keep hb,fun hne=>?_⟩
 obtain ⟨b,o,ha,hB,hcell⟩:=hx hne
 exact ⟨b,o,ha,hB,fun i t ht=>(hb.cell (p:=⟨b,o + i,none⟩) hB).trans (hcell i t ht)⟩
theorem Rws.at {w w':World} {B:Nat} {v:Value} {ts:List Rw} (h:Rws w B v ts) (hB:B≤w.heap.size) (hb:Below w.heap.size w w'):Rws w' B v ts:=h.keep (hb.mono hB)
theorem Rws.slice {w:World} {B:Nat} {v:Value} {ts:List Rw} (h:Rws w B v ts):∃ a c,v=.slice a ts.length c∧ts.length≤c∧ts.length≤9223372036854775807:=by
 obtain ⟨a,c,hv,hc,hl,_⟩:=h
 exact ⟨a,c,hv,hc,hl⟩
theorem Rws.get {w wr:World} {B:Nat} {a:Option Addr} {n c:Nat} {ts:List Rw} (h:Rws w B (.slice a n c) ts) (hB:B≤w.heap.size) (hb:Below w.heap.size w wr) {i:Nat} (hi:i < ts.length) :
  ∃ b o sa sc xs,a=some ⟨b,o,none⟩∧b < B∧ts[i]? = some (.slice sa xs.length sc,xs)∧wr.cell? ⟨b,o + i,none⟩=some (.slice sa xs.length sc)∧Ints wr B B (.slice sa xs.length sc) xs:=by
 obtain ⟨a',c',hv,_,_,hin,hx⟩:=h.at hB hb
 simp only [Value.slice.injEq] at hv
 obtain ⟨rfl,rfl,rfl⟩:=hv
 obtain ⟨b,o,rfl,hbB,hcell⟩:=hx (ne_of_lt hi)
 obtain ⟨⟨tv,xs⟩,ht⟩:=get_lt hi
 have hI:=hin _ (List.mem_of_getElem? ht)
 obtain ⟨sa,sc,e,_⟩:=hI.slice
 simp only at e
 subst e
 exact ⟨b,o,sa,sc,xs,rfl,hbB,ht,hcell i _ ht,hI⟩
set_option maxHeartbeats 1000000 in
theorem wrong_any (B:Nat) (cv rv:Value) (l:List Col) (ts:List Rw) (w:World) (hB:B≤w.heap.size) (hp:Cols w B cv l) (hq:Rws w B rv ts) (er:Int) (hr:wroE l (rr ts)=er) :
  Calls Tryz.prog 71 #[.agg #[cv,rv]] w fun e w'=>e=.returned (.int .i64 er)∧Below w.heap.size w w':=by
 have HP:Hid (Cols w B cv l):=hp
 have HQ:Hid (Rws w B rv ts):=hq
 have HR:Hid (wroE l (rr ts)=er):=hr
 obtain ⟨a,c,rfl,hc,hl⟩:=hp.slice
 obtain ⟨a2,c2,rfl,hc2,hl2⟩:=hq.slice
 clear hr
 obtain ⟨ec,hec⟩:∃ ec,Hid (colE l=ec):=⟨_,rfl⟩
 have kc:=columns_any B _ l (w.alloc (.cells #[.slice a l.length c,.slice a2 ts.length c2] 27)) (by simp; omega) (HP.out.at hB (ba _ _)) ec hec.out
 have d0:(w.alloc (.cells #[.slice a l.length c,.slice a2 ts.length c2] 27)).cell? ⟨w.heap.size,0,none⟩=some (.slice a l.length c):=nc _ _ 0 _ rfl rfl
 have d1:(w.alloc (.cells #[.slice a l.length c,.slice a2 ts.length c2] 27)).cell? ⟨w.heap.size,1,none⟩=some (.slice a2 ts.length c2):=nc _ _ 1 _ rfl rfl
 go_enter Tryz.func71,Tryz.ntmps71
 go_wp2_with fail
 refine kc.mono ?_
 rintro e w1 ⟨rfl,hb1⟩
 have hbw:Below w.heap.size w w1:=bt (ba _ _) hb1
 have f0:w1.cell? ⟨w.heap.size,0,none⟩=some (.slice a l.length c):=(hb1.cell (p:=⟨w.heap.size,0,none⟩) (by simp)).trans d0
 have f1:w1.cell? ⟨w.heap.size,1,none⟩=some (.slice a2 ts.length c2):=(hb1.cell (p:=⟨w.heap.size,1,none⟩) (by simp)).trans d1
 have hz1:w.heap.size < w1.heap.size:=by have:=hb1.size; simp at this; omega
 clear kc d0 d1 hb1
 by_cases he0:ec=0
 ·subst he0
  have HE:Hid (wroE l (rr ts)=if 4096 < ts.length then 4 else rowsL l (rr ts)):=by show _=_; rw [wroE,if_pos hec.out,rr_len]
  by_cases h4:4096 < ts.length
  ·obtain rfl:4=er:=by rw [← HR.out,HE.out,if_pos h4]
   go_wp2
   go_ret
   exact ⟨rfl,hbw⟩
  ·go_wp2
   go_loopw [20] (fun s wr=>∃ (i:Nat),s=.int .i64 (i:Int)∧i≤ts.length∧Hid (rowsL l ((rr ts).drop i)=er)∧wr=w1) (fun s _=>ts.length - (intOf s).toNat)
   case atStart=>exact ⟨0,rfl,Nat.zero_le _,by show _=_; rw [List.drop_zero,← HR.out,HE.out,if_neg h4],rfl⟩
   case round =>
    obtain ⟨i,rfl,hi,HI,rfl⟩:=hrel
    by_cases h1:i < ts.length
    ·obtain ⟨b,o,sa,sc,xs,rfl,hb,hg,e1,hI⟩:=HQ.out.get hB hbw h1
     have HII:Hid (Ints wr B B (.slice sa xs.length sc) xs):=hI
     have ST:Hid (er=if rowE l xs=0 then rowsL l ((rr ts).drop (i + 1)) else rowE l xs):=HI.out.symm.trans (rowsL_step (rr_get hg))
     clear hg hI HI
     obtain ⟨ew,hew⟩:∃ ew,Hid (rowE l xs=ew):=⟨_,rfl⟩
     have hBr:B≤wr.heap.size:=by omega
     have kc:=wrongRow_any B B B _ _ l xs wr hBr (HP.out.at hB hbw) hBr HII.out ew hew.out
     by_cases hw0:ew=0
     ·subst hw0
      have HI2:Hid (rowsL l ((rr ts).drop (i + 1))=er):=by show _=_; rw [ST.out,if_pos hew.out]
      go_wp2_with fail
      refine kc.mono ?_
      rintro e w2 ⟨rfl,rfl⟩
      go_wp2
      go_roundw
      case rel=>exact ⟨i + 1,by go_num,h1,HI2,trivial⟩
      case measure=>simp [intOf]; omega
     ·have hne:(ew != 0)=true:=by simpa using hw0
      obtain rfl:ew=er:=by rw [ST.out,hew.out,if_neg hw0]
      go_wp2_with fail
      refine kc.mono ?_
      rintro e w2 ⟨rfl,rfl⟩
      go_wp2
      go_ret
      exact ⟨rfl,hbw⟩
    ·obtain rfl:0=er:=by have:=HI.out; rw [List.drop_eq_nil_of_le (by rw [rr_len]; omega)] at this; exact this
     go_wp2
     go_ret
     exact ⟨rfl,hbw⟩
 ·have hne:(ec != 0)=true:=by simpa using he0
  obtain rfl:ec=er:=by rw [← HR.out,wroE,hec.out,if_neg he0]
  go_wp2
  go_ret
  exact ⟨rfl,hbw⟩
theorem rowOk_at {l:List Col} {r:List Int} (h:RowOk l r) {i:Nat} {c:Col} {v:Int} (hc:l[i]? = some c) (hv:r[i]? = some v):0≤v∧v < c.2:=by
 induction l generalizing r i with
 | nil=>simp at hc
 | cons d l ih =>
  cases r with
  | nil=>simp at hv
  | cons x r =>
   cases i with
   | zero=>simp at hc hv; subst hc; subst hv; exact ⟨h.1,h.2.1⟩
   | succ i=>simp at hc hv; exact ih h.2.2 hc hv
theorem plcF_step {l:List Col} {r:List Int} {i k:Nat} {c:Col} {v:Int} (hc:l[i]? = some c) (hv:r[i]? = some v):plcF k (l.drop i) (r.drop i)=plcF (k * c.2.toNat + v.toNat) (l.drop (i + 1)) (r.drop (i + 1)):=by
 rw [List.drop_eq_getElem_cons (List.getElem?_eq_some_iff.1 hc).1,(List.getElem?_eq_some_iff.1 hc).2,List.drop_eq_getElem_cons (List.getElem?_eq_some_iff.1 hv).1,(List.getElem?_eq_some_iff.1 hv).2]
 rfl
set_option maxHeartbeats 1000000 in
theorem place_any (B Bi nb:Nat) (v u:Value) (l:List Col) (r:List Int) (w:World) (hB:B≤w.heap.size) (hp:Cols w B v l) (hBi:Bi≤w.heap.size) (hq:Ints w Bi nb u r) (hs:Szs l) (hle:prd l≤4096) (ho:RowOk l r) (k0:Nat) (hr:plc l r=k0) :
  Calls Tryz.prog 85 #[v,u] w fun e w'=>e=.returned (.int .i64 (k0:Int))∧Below w.heap.size w w':=by
 have HP:Hid (Cols w B v l):=hp
 have HQ:Hid (Ints w Bi nb u r):=hq
 have HR:Hid (plcF 0 l r=k0):=by show _=_; rw [plcF_eq ho,hr]; omega
 have HO:Hid (RowOk l r∧Szs l∧prd l≤4096):=⟨ho,hs,hle⟩
 have HLN:Hid (r.length=l.length):=ho.len
 obtain ⟨a,c,rfl,hc,hl⟩:=hp.slice
 obtain ⟨a2,c2,rfl,hc2,hl2⟩:=hq.slice
 clear hr hs hle ho
 go_enter Tryz.func85,Tryz.ntmps85
 go_wp2
 go_loopw [5,10] (fun nv s wr=>∃ (i k:Nat),nv=.int .i64 (k:Int)∧s=.int .i64 (i:Int)∧i≤l.length∧Hid (plcF k (l.drop i) (r.drop i)=k0)∧Hid (k < prd (l.take i))∧Below w.heap.size w wr) (fun _ s _=>l.length - (intOf s).toNat)
 case atStart=>exact ⟨0,0,rfl,rfl,Nat.zero_le _,by simpa [Hid] using HR.out,by simp [Hid,prd],Below.refl _ _⟩
 case round =>
  obtain ⟨i,k,rfl,rfl,hi,HI,HK,hbl⟩:=hrel
  by_cases h1:i < l.length
  ·obtain ⟨b,o,nm,sz,rfl,hb,hg,c1,c2,hn⟩:=HP.out.get hB hbl h1
   obtain ⟨b2,o2,x,rfl,hb2,_,hg2,e1⟩:=HQ.out.get hBi hbl (i:=i) (by have:=HLN.out; omega)
   have z1:(i:Int) < (r.length:Int):=by have:=HLN.out; omega
   have hsz:=HO.out.2.1 _ (List.mem_of_getElem? hg)
   simp only at hsz
   have hx:=rowOk_at HO.out.1 hg hg2
   simp only at hx
   have HI2:Hid (plcF (k * sz.toNat + x.toNat) (l.drop (i + 1)) (r.drop (i + 1))=k0):=(plcF_step hg hg2).symm.trans HI.out
   have HK2:Hid (k * sz.toNat + x.toNat < prd (l.take (i + 1))):=by
    show _ < _
    rw [prd_next hg]
    have h2:(k + 1) * sz.toNat≤prd (l.take i) * sz.toNat:=Nat.mul_le_mul_right _ HK.out
    rw [Nat.add_mul] at h2
    simp only
    omega
   have HK3:Hid (k * sz.toNat + x.toNat≤4096):=by
    have h3:=prd_pre HO.out.2.1 (i + 1)
    have:=HK2.out
    have:=HO.out.2.2
    show _≤_
    omega
   have HM:Hid ((k:Int) * sz=((k * sz.toNat:Nat):Int)):=by
    show _=_
    rw [Int.natCast_mul,Int.toNat_of_nonneg (by omega)]
   have hw:wrap64 ((k:Int) * sz)=(k:Int) * sz:=wrap_id (by have:=HM.out; have:=HK3.out; omega)
   have hw2:wrap64 ((k:Int) * sz + x)=(k:Int) * sz + x:=wrap_id (by have:=HM.out; have:=HK3.out; omega)
   have d1:(wr.alloc (.cells #[.string nm,.int .i64 sz] 74)).cell? ⟨b2,o2 + i,none⟩=some (.int .i64 x):=((ba wr _).cell (p:=⟨b2,o2 + i,none⟩) (by have:=hbl.size; simp; omega)).trans e1
   clear hg hg2 HI
   go_wp2
   go_quiet (fail)
   go_wp2
   go_roundw
   case rel=>exact ⟨i + 1,k * sz.toNat + x.toNat,by have:=HM.out; first | go_num | (simp [hw,hw2]; omega),by go_num,h1,HI2,HK2,below_drewN (bal hbl _) _⟩
   case measure=>simp [intOf]; omega
  ·have HN:Hid (k=k0):=by
    have:=HI.out
    rw [List.drop_eq_nil_of_le (by omega)] at this
    exact this
   go_wp2
   go_ret
   exact ⟨by rw [← HN.out]; rfl,hbl⟩
theorem info3:(Tryz.prog.info? 3).map (fun i=>(i.zero,i.size,i.bytes))=some (some (.int .i64 0),1,8):=by kernel_rfl
structure RowI (w:World) (g:Nat) (xs:List Int):Prop where
 cells:∀ i x,xs[i]? = some x→w.cell? ⟨g,i,none⟩=some (.int .i64 x)
 thaw:∀ i,i < xs.length→w.frozen? ⟨g,i,none⟩=false
 lt:g < w.heap.size
theorem RowI.keep {w w':World} {g N:Nat} {xs:List Int} (h:RowI w g xs) (hb:Below N w w') (hg:g < N):RowI w' g xs :=
 ⟨fun i x hi=>(hb.cell (p:=⟨g,i,none⟩) hg).trans (h.cells i x hi),fun i hi=>(hb.frozen (p:=⟨g,i,none⟩) hg).trans (h.thaw i hi),Nat.lt_of_lt_of_le h.lt hb.size⟩
theorem RowI.set {w:World} {g:Nat} {xs:List Int} (h:RowI w g xs) (i:Nat) (k:Int):RowI (w.setCell ⟨g,i,none⟩ (.int .i64 k)) g (xs.set i k):=by
 refine ⟨fun j x hj=>?_,fun j hj=>by rw [sc_frozen]; exact h.thaw j (by simpa using hj),by simpa using h.lt⟩
 by_cases e:i=j
 ·subst e
  have hi:i < xs.length:=by have:=(List.getElem?_eq_some_iff.1 hj).1; simpa using this
  rw [List.getElem?_set_self hi] at hj
  obtain rfl:k=x:=by simpa using hj
  obtain ⟨y,hy⟩:=get_lt hi
  exact sc_same (h.cells i y hy)
 ·rw [List.getElem?_set_ne e] at hj
  rw [sc_other (fun h=>e (congrArg Addr.off h))]
  exact h.cells j x hj
theorem RowI.made (w:World) (n:Nat):RowI (w.alloc (.cells (madeCells #[.int .i64 0] n) 3)) w.heap.size (List.replicate n 0):=by
 refine ⟨fun i x hi=>?_,fun i _=>World.frozen?_alloc_at _ _ _ _ rfl,by simp⟩
 have h1:i < n:=by have:=(List.getElem?_eq_some_iff.1 hi).1; simpa using this
 obtain rfl:x=0:=by
  have:=(List.getElem?_eq_some_iff.1 hi).2; simp at this; exact this.symm
 rw [World.cell?_alloc_at _ _ _ _ rfl]
 simp [madeCells,h1,Nat.mod_one]
theorem RowI.ints {w:World} {g:Nat} {xs:List Int} (h:RowI w g xs) (hl:xs.length≤9223372036854775807):∀ m,m < g→Ints w w.heap.size m (.slice (some ⟨g,0,none⟩) xs.length xs.length) xs :=
 fun m hm=>⟨_,_,rfl,Nat.le_refl _,hl,fun _=>⟨g,0,rfl,h.lt,by omega,fun i x hi=>by rw [Nat.zero_add]; exact h.cells i x hi⟩⟩
theorem make_ints (n:Nat) (hn:n≤1073741824) (u:World):(Instr.makeSlice 65 (.int .i64 (n:Int)) (.int .i64 (n:Int))).run Tryz.prog u =
  .ok (.slice (some ⟨u.heap.size,0,none⟩) n n) (u.alloc (.cells (madeCells #[.int .i64 0] n) 3)):=by
 obtain ⟨i0,hi,hz0,hz1,hz2⟩:=info_parts info3
 have h:=run_make (P:=Tryz.prog) u 65 3 i0 (.int .i64 0) Tryz.underlying65 hi hz0 .i64 .i64 (n:Int) (n:Int) (by omega) (Int.le_refl _) (by rw [hz2]; omega) (by omega)
 rw [Int.toNat_natCast] at h
 simpa [hz1,Value.cells] using h
def cellsR (l:List Col) (rs:List (List Int)):List Int × Int:=if wroE l rs=0 then (celT l rs,0) else ([],wroE l rs)
def NewI (lo:Nat) (w:World) (v:Value) (xs:List Int):Prop:=∀ m,m < lo→Ints w w.heap.size m v xs
def CellsP (xs:List Int) (er:Int) (w:World) (e:Ending) (w':World):Prop :=
 ∃ v',e=.returned (.tuple #[v',.int .i64 er])∧NewI w.heap.size w' v' xs∧Below w.heap.size w w'
theorem newI_nil (lo:Nat) (w:World):NewI lo w (.slice none 0 0) []:=fun m _=>⟨none,0,rfl,Nat.le_refl _,by simp,fun h=>absurd rfl h⟩
theorem cadd_get {xs:List Int} {k:Nat} {x:Int} (h:xs[k]? = some x):cadd xs k=xs.set k (x + 1):=by
 rw [cadd,List.getD,h]; rfl
set_option maxHeartbeats 1000000 in
theorem cells_any (B:Nat) (cv rv:Value) (l:List Col) (ts:List Rw) (w:World) (hB:B≤w.heap.size) (hp:Cols w B cv l) (hq:Rws w B rv ts) (xs:List Int) (er:Int) (hr:cellsR l (rr ts)=(xs,er)) :
  Calls Tryz.prog 35 #[.agg #[cv,rv]] w (CellsP xs er w):=by
 have HP:Hid (Cols w B cv l):=hp
 have HQ:Hid (Rws w B rv ts):=hq
 have HR:Hid (cellsR l (rr ts)=(xs,er)):=hr
 obtain ⟨a,c,rfl,hc,hl⟩:=hp.slice
 obtain ⟨a2,c2,rfl,hc2,hl2⟩:=hq.slice
 clear hr
 obtain ⟨ec,hec⟩:∃ ec,Hid (wroE l (rr ts)=ec):=⟨_,rfl⟩
 have kc:=wrong_any B _ _ l ts (w.alloc (.cells #[.slice a l.length c,.slice a2 ts.length c2] 27)) (by simp; omega) (HP.out.at hB (ba _ _)) (HQ.out.at hB (ba _ _)) ec hec.out
 have d0:(w.alloc (.cells #[.slice a l.length c,.slice a2 ts.length c2] 27)).cell? ⟨w.heap.size,0,none⟩=some (.slice a l.length c):=nc _ _ 0 _ rfl rfl
 have d1:(w.alloc (.cells #[.slice a l.length c,.slice a2 ts.length c2] 27)).cell? ⟨w.heap.size,1,none⟩=some (.slice a2 ts.length c2):=nc _ _ 1 _ rfl rfl
 go_enter Tryz.func35,Tryz.ntmps35
 go_wp2_with fail
 refine kc.mono ?_
 rintro e w1 ⟨rfl,hb1⟩
 have hbw:Below w.heap.size w w1:=bt (ba _ _) hb1
 have f0:w1.cell? ⟨w.heap.size,0,none⟩=some (.slice a l.length c):=(hb1.cell (p:=⟨w.heap.size,0,none⟩) (by simp)).trans d0
 have f1:w1.cell? ⟨w.heap.size,1,none⟩=some (.slice a2 ts.length c2):=(hb1.cell (p:=⟨w.heap.size,1,none⟩) (by simp)).trans d1
 have hz1:w.heap.size < w1.heap.size:=by have:=hb1.size; simp at this; omega
 clear kc d0 d1 hb1
 by_cases he0:ec=0
 ·subst he0
  have HW:Hid (colE l=0∧(rr ts).length≤4096∧∀ r∈rr ts,RowOk l r):=wroE_ok hec.out
  have HC:=colE_ok HW.out.1
  have HO:Hid (Szs l∧prd l≤4096):=⟨HC.2.2.1,HC.2.2.2.1⟩
  have hxs:celT l (rr ts)=xs∧0=er:=by
   have:=HR.out
   rw [cellsR,if_pos hec.out,Prod.mk.injEq] at this
   exact this
  obtain ⟨hxs,rfl⟩:=hxs
  have HX:Hid (celT l (rr ts)=xs):=hxs
  obtain ⟨n,hn⟩:∃ n,Hid (prd l=n):=⟨_,rfl⟩
  have hn4:n≤4096:=by rw [← hn.out]; exact HO.out.2
  have kc:=size_any B _ l w1 (by omega) (HP.out.at hB hbw) HO.out.1 n (by rw [hn.out]; omega)
  have hmk:=make_ints n (by omega)
  have hts:ts.length≤4096:=by have:=HW.out.2.1; rwa [rr_len] at this
  clear hxs HC
  go_wp2_with fail
  refine kc.mono ?_
  rintro e w2 ⟨rfl,hb2⟩
  have hbw2:Below w.heap.size w w2:=bt hbw hb2
  have g0:w2.cell? ⟨w.heap.size,0,none⟩=some (.slice a l.length c):=(hb2.cell (p:=⟨w.heap.size,0,none⟩) hz1).trans f0
  have g1:w2.cell? ⟨w.heap.size,1,none⟩=some (.slice a2 ts.length c2):=(hb2.cell (p:=⟨w.heap.size,1,none⟩) hz1).trans f1
  have hz2:w.heap.size < w2.heap.size:=by have:=hb2.size; omega
  clear kc f0 f1 hb2 hbw hz1
  have e1:(w2.alloc (.cells (madeCells #[.int .i64 0] n) 3)).cell? ⟨w.heap.size,1,none⟩=some (.slice a2 ts.length c2):=((ba w2 _).cell (p:=⟨w.heap.size,1,none⟩) hz2).trans g1
  go_wp2
  go_loopw [20] (fun s wr=>∃ (i:Nat),s=.int .i64 (i:Int)∧i≤ts.length∧Hid (RowI wr w2.heap.size (celT l ((rr ts).take i)))∧Below w2.heap.size w2 wr) (fun s _=>ts.length - (intOf s).toNat)
  case atStart=>exact ⟨0,rfl,Nat.zero_le _,by show RowI _ _ _; rw [List.take_zero,celT_nil,hn.out]; exact RowI.made _ _,ba _ _⟩
  case round =>
   obtain ⟨i,rfl,hi,HI,hbl⟩:=hrel
   by_cases h1:i < ts.length
   ·have hbwr:Below w.heap.size w wr:=bt hbw2 hbl
    obtain ⟨b,o,sa,sc,r,rfl,hb,hg,c1,hI⟩:=HQ.out.get hB hbwr h1
    have HII:Hid (Ints wr B B (.slice sa r.length sc) r):=hI
    have HRO:Hid (RowOk l r):=HW.out.2.2 _ (List.mem_of_getElem? (rr_get hg))
    have q0:wr.cell? ⟨w.heap.size,0,none⟩=some (.slice a l.length c):=(hbl.cell (p:=⟨w.heap.size,0,none⟩) hz2).trans g0
    have hzr:=hbl.size
    obtain ⟨k0,hk0⟩:∃ k0,Hid (plc l r=k0):=⟨_,rfl⟩
    have hkn:k0 < n:=by rw [← hk0.out,← hn.out]; exact plc_lt HRO.out
    have kc:=place_any B B B _ _ l r wr (by omega) (HP.out.at hB hbwr) (by omega) HII.out HO.out.1 HO.out.2 HRO.out k0 hk0.out
    have HT:Hid (celT l ((rr ts).take (i + 1))=cadd (celT l ((rr ts).take i)) k0):=by
     show _=_
     rw [List.take_add_one,rr_get hg,Option.toList_some,celT_snoc HO.out.1 HRO.out,hk0.out]
    have hlen:Hid ((celT l ((rr ts).take i)).length=n):=by show _=_; rw [celT_len,hn.out]
    obtain ⟨y,hy⟩:=get_lt (l:=celT l ((rr ts).take i)) (i:=k0) (by rw [hlen.out]; exact hkn)
    have hyb:=celT_bd (List.mem_of_getElem? hy)
    have hyb2:y≤4096:=by
     have:((rr ts).take i).length≤4096:=by have:=HW.out.2.1; rw [List.length_take]; omega
     omega
    have hyb1:=hyb.1
    clear hg hI hyb
    go_wp2_with fail
    refine kc.mono ?_
    rintro e w4 ⟨rfl,hb4⟩
    have hbl4:Below w2.heap.size w2 w4:=bt hbl hb4
    have hR4:=HI.out.keep hb4 HI.out.lt
    have HR4:Hid (RowI w4 w2.heap.size (celT l ((rr ts).take i))):=hR4
    have p1:=hR4.cells k0 y hy
    have p2:=hR4.thaw k0 (by rw [hlen.out]; exact hkn)
    have HY:Hid ((celT l ((rr ts).take i))[k0]? = some y):=hy
    have zk:(k0:Int) < (n:Int):=by omega
    clear kc hb4 hR4 hy
    go_wp2
    go_roundw
    case rel =>
     refine ⟨i + 1,by go_num,h1,?_,bs hbl4 (p:=⟨w2.heap.size,k0,none⟩) (Nat.le_refl _) _⟩
     show RowI _ _ _
     rw [HT.out,cadd_get HY.out]
     exact HR4.out.set k0 (y + 1)
    case measure=>simp [intOf]; omega
   ·have HF:Hid (RowI wr w2.heap.size xs):=by
     have:=HI.out
     rwa [List.take_of_length_le (by rw [rr_len]; omega),HX.out] at this
    have hxl:xs.length=n:=by rw [← HX.out,celT_len,hn.out]
    go_wp2
    go_ret2
    have:=HF.out.ints (by omega)
    rw [hxl] at this
    exact ⟨_,rfl,fun m hm=>this m (by omega),bt hbw2 hbl⟩
 ·have hne:(ec != 0)=true:=by simpa using he0
  have hxs:([]:List Int)=xs∧ec=er:=by
   have:=HR.out
   rw [cellsR,hec.out,if_neg he0,Prod.mk.injEq] at this
   exact this
  obtain ⟨rfl,rfl⟩:=hxs
  go_wp2
  go_ret2
  exact ⟨_,rfl,newI_nil _ _,hbw⟩
theorem frozen_zero {w:World} {g j:Nat} {cur:Array Value} {e:TypeId} (h:w.heap[g]? = some (.cells cur e (0,0))):w.frozen? ⟨g,j,none⟩=false:=by
 simp [World.frozen?,h]
theorem owns_below {w w':World} {base:Nat} {e:TypeId} {size:Nat} {v:Value} {n:Nat} {xs:List Value} (h:w.ownsRow base e size v n xs) (hb:Below w.heap.size w w'):w'.ownsRow base e size v n xs:=by
 obtain ⟨h1,h2⟩:=h
 refine ⟨h1,?_⟩
 rcases h2 with h2 | ⟨g,cap,cur,hv,hg,hcur,h3⟩
 ·exact .inl h2
 ·exact .inr ⟨g,cap,cur,hv,hg,by rw [hb.block g (Array.getElem?_eq_some_iff.1 hcur).1]; exact hcur,h3⟩
theorem owns_slice {w:World} {base:Nat} {e:TypeId} {size:Nat} {v:Value} {n:Nat} {xs:List Value} (h:w.ownsRow base e size v n xs):∃ a c,v=.slice a n c:=by
 obtain ⟨_,⟨rfl,rfl⟩ | ⟨g,cap,cur,rfl,_⟩⟩:=h
 ·exact ⟨_,_,rfl⟩
 ·exact ⟨_,_,rfl⟩
theorem owns_some {w:World} {base:Nat} {e:TypeId} {size:Nat} {v:Value} {n:Nat} {xs:List Value} (h:w.ownsRow base e size v n xs) (hne:v≠.slice none 0 0):∃ g c,v=.slice (some ⟨g,0,none⟩) n c∧base≤g∧g < w.heap.size:=by
 obtain ⟨_,⟨rfl,rfl⟩ | ⟨g,cap,cur,rfl,hb,hcur,_⟩⟩:=h
 ·exact absurd rfl hne
 ·exact ⟨g,cap,rfl,hb,(Array.getElem?_eq_some_iff.1 hcur).1⟩
theorem rws_nil (w:World) (B:Nat):Rws w B (.slice none 0 0) []:=⟨none,0,rfl,Nat.le_refl _,by simp,by simp,fun h=>absurd rfl h⟩
theorem Boxed.at {w w':World} {b:Nat} {t:TypeId} {v:Value} (h:Boxed w b t v) (hb:Below w.heap.size w w'):Boxed w' b t v:=(hb.block b h.lt).trans h
def Tcl (w:World) (V:Value) (e:Nat × Int × Int):Prop :=
 ∃ h i p,V=.func (.func 210) #[] #[.pointer (some ⟨h,0,none⟩),.pointer (some ⟨i,0,none⟩)]∧Boxed w h 229 (holV e.2.1 p)∧Boxed w i 3 (.int .i64 (e.1:Int))∧Boxed w p 3 (.int .i64 e.2.2)
theorem Tcl.at {w w':World} {V:Value} {e:Nat × Int × Int} (h:Tcl w V e) (hb:Below w.heap.size w w'):Tcl w' V e:=by
 obtain ⟨h,i,p,e,h1,h2,h3⟩:=h
 exact ⟨h,i,p,e,Boxed.at h1 hb,Boxed.at h2 hb,Boxed.at h3 hb⟩
def Tcs (w:World) (lo:Nat) (v:Value) (es:List (Value × Nat × Int × Int)):Prop :=
 w.ownsRow lo 202 1 v es.length (es.map (·.1))∧∀ e∈es,Tcl w e.1 e.2
theorem Tcs.at {w w':World} {lo:Nat} {v:Value} {es:List (Value × Nat × Int × Int)} (h:Tcs w lo v es) (hb:Below w.heap.size w w'):Tcs w' lo v es :=
 ⟨owns_below h.1 hb,fun e he=>(h.2 e he).at hb⟩
theorem Tcl.grow {w w':World} {V v:Value} {e:Nat × Int × Int} {lo n:Nat} {xs:List Value} (h:Tcl w V e) (hr:w.ownsRow lo 202 1 v n xs) (hg:w.grownBy w' v.ownBlock):Tcl w' V e:=by
 obtain ⟨h,i,p,e,h1,h2,h3⟩:=h
 exact ⟨h,i,p,e,h1.kept hg (h1.not_row (by decide) hr),h2.kept hg (h2.not_row (by decide) hr),h3.kept hg (h3.not_row (by decide) hr)⟩
theorem Tcl.setb {w:World} {V u v:Value} {e:Nat × Int × Int} {A:Nat} (h:Tcl w V e) (hA:Boxed w A 234 u):Tcl (w.setCell ⟨A,0,none⟩ v) V e:=by
 have ne:∀ {b:Nat} {t:TypeId} {x:Value},Boxed w b t x→t≠234→some b≠some A:=by
  intro b t x hb ht e
  simp only [Option.some.injEq] at e
  subst e
  have:=(show w.heap[b]? = _ from hb).symm.trans (show w.heap[b]? = _ from hA)
  simp at this
  exact ht this.2
 obtain ⟨h,i,p,e,h1,h2,h3⟩:=h
 exact ⟨h,i,p,e,h1.kept (grownBy_setCell' _ _ _) (ne h1 (by decide)),h2.kept (grownBy_setCell' _ _ _) (ne h2 (by decide)),h3.kept (grownBy_setCell' _ _ _) (ne h3 (by decide))⟩
def trp (l:List Col) (t:Tst):Nat × Int × Int:=((fnd l t.1).getD 0,t.2.1,t.2.2)
def PasP (w:World) (ps:List (Nat × Int × Int)) (er:Int) (e:Ending) (w':World):Prop :=
 Below w.heap.size w w'∧((er=0∧∃ A sv es,w.heap.size≤A∧e=.returned (.func (.func 211) #[] #[.pointer (some ⟨A,0,none⟩)])∧Boxed w' A 234 sv∧Tcs w' w.heap.size sv es∧es.map (·.2)=ps)∨(er≠0∧e=.panicked (chn er)))
theorem info94:(Tryz.prog.info? 202).map (fun i=>(i.zero,i.size,i.bytes))=some (some .nilFunc,1,8):=by kernel_rfl
set_option maxHeartbeats 4000000 in
set_option maxRecDepth 100000 in
theorem passing_any (B:Nat) (lv v:Value) (l:List Col) (wh:List Tst) (w:World) (hB:B≤w.heap.size) (hp:Cols w B lv l) (hq:Tss w B v wh) (er:Int) (hr:whE l wh=er) :
  Calls Tryz.prog 178 #[lv,v] w fun e w'=>PasP w (wh.map (trp l)) er e w':=by
 have HP:Hid (Cols w B lv l):=hp
 have HQ:Hid (Tss w B v wh):=hq
 have HR:Hid (whE l wh=er):=hr
 obtain ⟨a,c,rfl,hc,hl⟩:=hq.slice
 obtain ⟨a',c',rfl,hc',hl'⟩:=hp.slice
 obtain ⟨i0,hi0,hz0,hz1,hz2⟩:=info_parts info94
 have hmf:=hmf
 clear hr
 go_enter Tryz.func178,Tryz.ntmps178
 by_cases h64:64 < wh.length
 ·obtain rfl:4=er:=by rw [← HR.out,whE,if_pos h64]
  have hle:¬ (wh.length:Int)≤64:=by omega
  go_wp2_with fail
  refine (must_no 4 w).mono ?_
  rintro e w2 ⟨rfl,rfl⟩
  go_wp2
  exact ⟨rfl,Below.refl _ _,.inr ⟨by decide,rfl⟩⟩
 have HR2:Hid (tsE l wh=er):=by have:=HR.out; rwa [whE,if_neg h64] at this
 have hle:(wh.length:Int)≤64:=by omega
 go_wp2_with fail
 refine (must_ok 4 w).mono ?_
 rintro e w2 ⟨rfl,rfl⟩
 go_wp2
 go_loopw [16] (fun s wr=>∃ (i:Nat),s=.int .i64 (i:Int)∧i≤wh.length∧Hid (tsE l (wh.drop i)=er)∧Below w2.heap.size w2 wr ∧
  ∃ sv es,Boxed wr w2.heap.size 234 sv∧Tcs wr w2.heap.size sv es∧es.map (·.2)=(wh.take i).map (trp l)) (fun s _=>wh.length - (intOf s).toNat)
 case atStart=>exact ⟨0,rfl,Nat.zero_le _,by simpa [Hid] using HR2.out,ba _ _,.slice none 0 0,[],Boxed.new _ _ _,⟨⟨rfl,.inl ⟨rfl,rfl⟩⟩,fun e he=>by cases he⟩,by simp⟩
 case round =>
  obtain ⟨i,rfl,hi,HI,hbl,sv,es,hbx,hts,hes⟩:=hrel
  have HBX:Hid (Boxed wr w2.heap.size 234 sv):=hbx
  have HT:Hid (Tcs wr w2.heap.size sv es):=hts
  have HES:Hid (es.map (·.2)=(wh.take i).map (trp l)):=hes
  have hsz:=hbl.size
  clear hbx hes
  obtain ⟨sa,sc,rfl⟩:=owns_slice hts.1
  clear hts
  by_cases h1:i < wh.length
  ·obtain ⟨b,o,nm,d,z,rfl,hb,hgt,c1,c2,c3,hn⟩:=HQ.out.get hB hbl h1
   have HG:Hid (wh[i]? = some (nm,d,z)):=hgt
   have HST:Hid (tsE l (wh.drop i)=if (fnd l nm).isSome then (if doB d then tsE l (wh.drop (i + 1)) else 1) else 7):=tsE_step hgt
   have kcol:Cols (wr.alloc (.cells #[.string nm,.int .i64 d,.int .i64 z] 214)) B (.slice a' l.length c') l:=(HP.out.at hB hbl).at (by omega) (ba _ _)
   clear hgt
   cases hf:fnd l nm with
   | none =>
    obtain rfl:7=er:=by rw [← HI.out,HST.out,hf]; rfl
    have k1:=find_no B _ l nm _ (by simp; omega) kcol hf
    clear hf kcol
    go_wp2_with fail
    refine k1.mono ?_
    rintro e w3 ⟨rfl,hb3⟩
    go_wp2
    exact ⟨rfl,bt (bal hbl _) hb3,.inr ⟨by decide,rfl⟩⟩
   | some p =>
    have k1:=find_ok B _ l nm _ (by simp; omega) kcol p hf
    have HF:Hid (fnd l nm=some p):=hf
    clear hf kcol
    go_wp2_with fail
    refine k1.mono ?_
    rintro e w3 ⟨rfl,hb3⟩
    clear k1
    have e0:Cl w3 wr.heap.size 0 (.string nm):=(Cl.new (w:=wr) #[.string nm,.int .i64 d,.int .i64 z] 214 0 _ rfl rfl).at hb3
    have e1:Cl w3 wr.heap.size 1 (.int .i64 d):=(Cl.new (w:=wr) #[.string nm,.int .i64 d,.int .i64 z] 214 1 _ rfl rfl).at hb3
    have e2:Cl w3 wr.heap.size 2 (.int .i64 z):=(Cl.new (w:=wr) #[.string nm,.int .i64 d,.int .i64 z] 214 2 _ rfl rfl).at hb3
    have hb3':Below wr.heap.size wr w3:=bt (ba _ _) hb3
    have t1:=(e1.at (ba w3 (.cells #[.int .i64 (p:Int)] 3))).c
    have t2:=(e2.at (ba w3 (.cells #[.int .i64 (p:Int)] 3))).c
    cases hd:doB d with
    | false =>
     obtain rfl:1=er:=by rw [← HI.out,HST.out,HF.out,hd]; rfl
     have k2:=hold_no d z (w3.alloc (.cells #[.int .i64 (p:Int)] 3)) hd
     clear hd
     go_wp2_with fail
     refine k2.mono ?_
     rintro e w4 ⟨rfl,hb4⟩
     go_wp2
     exact ⟨rfl,bt (bt hbl (bt hb3' (ba _ _))) hb4,.inr ⟨by decide,rfl⟩⟩
    | true =>
     have k2:=hold_ok d z (w3.alloc (.cells #[.int .i64 (p:Int)] 3)) hd
     have HI2:Hid (tsE l (wh.drop (i + 1))=er):=by have:=HI.out; rwa [HST.out,HF.out,hd] at this
     clear hd
     go_wp2_with fail
     refine k2.mono ?_
     rintro e w4 ⟨rfl,hw4⟩
     have es1:(w3.alloc (.cells #[.int .i64 (p:Int)] 3)).heap.size=w3.heap.size + 1:=by simp
     rw [es1]
     have hs4:Hid (w4.heap.size=w3.heap.size + 2):=by show _=_; rw [hw4]; simp
     have X1:Boxed w4 w3.heap.size 3 (.int .i64 (p:Int)):=by rw [hw4]; exact (Boxed.new w3 3 _).alloc _
     have X2:Boxed w4 (w3.heap.size + 1) 3 (.int .i64 z):=by rw [hw4]; have:=Boxed.new (w3.alloc (.cells #[.int .i64 (p:Int)] 3)) 3 (.int .i64 z); rwa [es1] at this
     have hb34:Below w3.heap.size w3 w4:=by rw [hw4]; exact bal (ba _ _) _
     have hb4:Below wr.heap.size wr w4:=bt hb3' hb34
     clear hw4 k2 t1 t2 e0 e1 e2 hb3 hb34 es1
     obtain ⟨W5,hW5⟩:∃ W5,w4.alloc (.cells #[holV d (w3.heap.size + 1)] 229)=W5:=⟨_,rfl⟩
     have hb5:Below wr.heap.size wr W5:=by rw [← hW5]; exact bal hb4 _
     have hs5:Hid (W5.heap.size=w4.heap.size + 1):=by show _=_; rw [← hW5]; simp
     have Y1:=Boxed.at X1 (by rw [← hW5]; exact ba _ _:Below w4.heap.size w4 W5)
     have Y2:=Boxed.at X2 (by rw [← hW5]; exact ba _ _:Below w4.heap.size w4 W5)
     have Y3:Boxed W5 w4.heap.size 229 (holV d (w3.heap.size + 1)):=by rw [← hW5]; exact Boxed.new w4 229 _
     have YA:Boxed W5 w2.heap.size 234 (.slice sa es.length sc):=Boxed.at HBX.out hb5
     have YT:Tcs W5 w2.heap.size (.slice sa es.length sc) es:=HT.out.at hb5
     have tA:=YA.cell
     have HY:Hid (Boxed W5 w3.heap.size 3 (.int .i64 (p:Int))∧Boxed W5 (w3.heap.size + 1) 3 (.int .i64 z)∧Boxed W5 w4.heap.size 229 (holV d (w3.heap.size + 1))∧Boxed W5 w2.heap.size 234 (.slice sa es.length sc)∧Tcs W5 w2.heap.size (.slice sa es.length sc) es):=⟨Y1,Y2,Y3,YA,YT⟩
     clear Y1 Y2 Y3 X1 X2 YA YT
     have HW5:Hid (w4.alloc (.cells #[holV d (w3.heap.size + 1)] 229)=W5):=hW5
     have tA2:(w4.alloc (.cells #[holV d (w3.heap.size + 1)] 229)).cell? ⟨w2.heap.size,0,none⟩=some (.slice sa es.length sc):=by rw [hW5]; exact tA
     have HO:Hid (((w4.alloc (.cells #[holV d (w3.heap.size + 1)] 229)).alloc (.cells #[.func (.func 210) #[] #[.pointer (some ⟨w4.heap.size,0,none⟩),.pointer (some ⟨w3.heap.size,0,none⟩)]] 202)).ownsRow w2.heap.size 202 1 (.slice sa es.length sc) es.length (es.map (·.1))):=by
      show World.ownsRow _ _ _ _ _ _ _; rw [hW5]; exact owns_below HY.out.2.2.2.2.1 (ba _ _)
     have hlen:Hid (es.length≤64):=by have:=congrArg List.length HES.out; simp at this; show _≤_; omega
     have hsA:Hid (w2.heap.size≤w4.heap.size):=by show _≤_; exact Nat.le_trans hsz hb4.size
     clear hW5 tA
     simp only [holV] at tA2 HO ⊢
     go_wp2_with (at_builtin; refine wpList_append_own _ rfl _ _ 234 rfl w2.heap.size 202 i0 .nilFunc 1 8 Tryz.underlying234 hi0 hz0 hz1 hz2 rfl (by decide) _ _ _ rfl HO.out ⟨w4.heap.size + 1,0,none⟩ 1 1 [.func (.func 210) #[] #[.pointer (some ⟨w4.heap.size,0,none⟩),.pointer (some ⟨w3.heap.size,0,none⟩)]] rfl ?q1 ?q2 ?q3 ?q4 ?q5 ?q6 ?_)
     case q1=>rfl
     case q2 =>
      intro j u hj
      match j,hj with
      | 0,hj=>simp at hj; subst hj; simp [go_sem,Addr.add]
     case q3=>intro u hu; simp at hu; subst hu; rfl
     case q4=>have:=hlen.out; simp [maxLen]; omega
     case q5=>have:=hlen.out; omega
     case q6=>have:=hsA.out; simp; omega
     intro v6 w6 hown6 hgrow hnil
     rw [show (w4.alloc (.cells #[.func (.func (226 + d.toNat)) #[] #[.pointer (some ⟨w3.heap.size + 1,0,none⟩)]] 229))=W5 from HW5.out] at hgrow
     obtain ⟨Z1,Z2,Z3,_,Z5⟩:=Boxed.appended HY.out.2.2.2.1 (by decide) HY.out.2.2.2.2.1 (Nat.le_trans hsz hb5.size) (Nat.le_refl _) hown6 hgrow
     obtain ⟨va,vc,rfl⟩:=owns_slice hown6
     have ZC:Hid (Tcs (w6.setCell ⟨w2.heap.size,0,none⟩ (.slice va (es.length + 1) vc)) w2.heap.size (.slice va (es.length + 1) vc) (es ++ [(.func (.func 210) #[] #[.pointer (some ⟨w4.heap.size,0,none⟩),.pointer (some ⟨w3.heap.size,0,none⟩)],(p,d,z))])):=by
      have key:∀ V e,Tcl W5 V e→Tcl (w6.setCell ⟨w2.heap.size,0,none⟩ (.slice va (es.length + 1) vc)) V e:=fun V e he =>
       ((he.at (ba _ _)).grow (owns_below HY.out.2.2.2.2.1 (ba _ _)) hgrow).setb Z1
      refine ⟨by simpa using Z3,fun e he=>?_⟩
      rcases List.mem_append.1 he with he | he
      ·exact key _ _ (HY.out.2.2.2.2.2 e he)
      ·obtain rfl:=List.mem_singleton.1 he
       exact key _ _ ⟨_,_,_,rfl,HY.out.2.2.1,HY.out.1,HY.out.2.1⟩
     have ZE:Hid ((es ++ [((.func (.func 210) #[] #[.pointer (some ⟨w4.heap.size,0,none⟩),.pointer (some ⟨w3.heap.size,0,none⟩)]:Value),(p,d,z))]).map (·.2)=(wh.take (i + 1)).map (trp l)):=by
      show _=_
      rw [List.map_append,HES.out,List.take_add_one,HG.out,List.map_append]
      simp [trp,HF.out]
     have hbz:Below w2.heap.size w2 (w6.setCell ⟨w2.heap.size,0,none⟩ (.slice va (es.length + 1) vc)):=(bt hbl hb5).trans Z5
     have ZB:Hid (Boxed (w6.setCell ⟨w2.heap.size,0,none⟩ (.slice va (es.length + 1) vc)) w2.heap.size 234 (.slice va (es.length + 1) vc)):=Z2
     have z1:=Z1.cell
     have z2:=Z1.frozen
     clear Z1 Z2 Z3 Z5 hgrow hown6 hnil tA2 HO
     go_wp2
     go_roundw
     case rel=>exact ⟨i + 1,by go_num,h1,HI2,hbz,_,_,ZB.out,ZC.out,ZE.out⟩
     case measure=>simp [intOf]; omega
  ·obtain rfl:0=er:=by have:=HI.out; rw [List.drop_of_length_le (by omega)] at this; exact this
   have HES2:Hid (es.map (·.2)=wh.map (trp l)):=by have:=HES.out; rwa [List.take_of_length_le (by omega)] at this
   go_wp2
   go_ret
   exact ⟨hbl,.inl ⟨rfl,_,_,es,Nat.le_refl _,rfl,HBX.out,HT.out,HES2.out⟩⟩
end Go.Proofs.YtlndlpjadajelaaGreat.K

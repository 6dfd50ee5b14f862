import Derived.Test.YtpmioeamdhdokaaGreatQq12
import Derived.Test.YtpmioeamdhdokaaGreatQq13
import Derived.Deep.RegionHeld3
import Derived.BigRegion
import Derived.OwnWalk
import Derived.Laws.MakeOwn
import Derived.Maps.AppendAt
import Derived.Laws.OwnMore
import Derived.Lib.SliceRun
import Derived.RangeFuncBox
import Derived.Laws.EntriesVeiled
namespace Go.Proofs.YtpmioeamdhdokaaGreat.K
open Go.RowKit Go.Proofs.YtpmioeamdhdokaaGreat.K.Ds
def KP (p k:Nat):Prop:=k≤16777216∧(p≤4096→k=p)∧(4096 < p→4096 < k)
theorem KP.lo {p k z:Nat} (h:KP p k) (hk:k≤4096) (hz:z≤4096):KP (p * z) (k * z):=by
 obtain ⟨_,h2,h3⟩:=h
 have e:k=p:=h2 (by omega)
 subst e
 refine ⟨?_,fun _=>rfl,fun h=>h⟩
 exact Nat.mul_le_mul hk hz
theorem KP.hi {p k z:Nat} (h:KP p k) (hk:4096 < k) (hz:1≤z):KP (p * z) k:=by
 obtain ⟨h1,h2,h3⟩:=h
 have hp:4096 < p:=by omega
 have:p * 1≤p * z:=Nat.mul_le_mul_left _ hz
 exact ⟨h1,fun h=>by omega,fun _=>hk⟩
set_option maxHeartbeats 2000000 in
theorem rcolumns_any (B:Nat) (v:Value) (l:List Col) (w:World) (hB:B≤w.heap.size) (hp:Cols w B v l) (er:Int) (hr:colE l=er) :
  Calls Tryz.prog 34 #[v] w fun e w'=>e=.returned (.int .i64 er)∧Below w.heap.size w w':=by
 have HP:Hid (Cols w B v l):=hp
 have HR:Hid (colE l=er):=hr
 obtain ⟨a,c,rfl,hc,hl⟩:=hp.slice
 clear hr
 go_enter Tryz.func34,Tryz.ntmps34
 by_cases h0:l.length < 1
 ·obtain rfl:5=er:=by rw [← HR.out,colE,if_pos (by omega)]
  go_wp2
  go_ret
  exact ⟨rfl,Below.refl _ _⟩
 by_cases h6:6 < l.length
 ·obtain rfl:5=er:=by rw [← HR.out,colE,if_pos (by omega)]
  go_wp2
  go_ret
  exact ⟨rfl,Below.refl _ _⟩
 have HE:Hid (colE l=if colL [] l=0 then (if 4096 < prd l then 4 else 0) else colL [] l):=by show _=_; rw [colE,if_neg (by omega)]
 go_wp2
 go_loopw [3,18] (fun nv s wr=>∃ (i k:Nat),nv=.int .i64 (k:Int)∧s=.int .i64 (i:Int)∧i≤l.length∧Hid (colL (l.take i) (l.drop i)=colL [] l)∧Hid (KP (prd (l.take i)) k)∧Below w.heap.size w wr) (fun _ s _=>l.length - (intOf s).toNat)
 case atStart=>exact ⟨0,1,rfl,rfl,Nat.zero_le _,by simp [Hid],⟨by omega,fun _=>rfl,fun h=>by simp [prd] at h⟩,Below.refl _ _⟩
 case round =>
  obtain ⟨i,k,rfl,rfl,hi,HI,HK,hbl⟩:=hrel
  by_cases h1:i < l.length
  ·obtain ⟨b,o,nm,sz,rfl,hb,hgt,c1,c2,hn⟩:=HP.out.get hB hbl h1
   have ST:Hid (colL [] l=if namB nm.data.toList then (if (l.take i).any (fun d=>decide (d.1=nm)) then 7 else if sz < 1∨4096 < sz then 3 else colL (l.take (i + 1)) (l.drop (i + 1))) else 2):=HI.out.symm.trans (colL_step hgt)
   have HPN:Hid (prd (l.take (i + 1))=prd (l.take i) * sz.toNat):=prd_next hgt
   have hk16:k≤16777216:=HK.out.1
   clear hgt HI
   have hsz:=hbl.size
   cases hnm:namB nm.data.toList with
   | false =>
    have HN:Hid (namB nm.data.toList=false):=hnm
    clear hnm
    obtain rfl:2=er:=by rw [← HR.out,HE.out,ST.out,HN.out]; simp
    go_wp2_with fail
    refine (rnamed_any nm hn _ false HN.out).mono ?_
    rintro e w1 ⟨rfl,rfl⟩
    go_wp2
    go_ret
    exact ⟨rfl,bal hbl _⟩
   | true =>
    have HN:Hid (namB nm.data.toList=true):=hnm
    clear hnm
    go_wp2_with fail
    refine (rnamed_any nm hn _ true HN.out).mono ?_
    rintro e w1 ⟨rfl,rfl⟩
    obtain ⟨wq,hwq⟩:∃ wq:World,wq=wr:=⟨_,rfl⟩
    subst hwq
    obtain ⟨wo,hwo⟩:∃ wo:World,wo=wq.alloc (.cells #[.string nm,.int .i64 sz] 105):=⟨_,rfl⟩
    have hblo:Below w.heap.size w wo:=by rw [hwo]; exact bal hbl _
    have d0:wo.cell? ⟨wq.heap.size,0,none⟩=some (.string nm):=by rw [hwo]; exact World.cell?_alloc_at _ _ _ _ rfl
    have d1:wo.cell? ⟨wq.heap.size,1,none⟩=some (.int .i64 sz):=by rw [hwo]; exact World.cell?_alloc_at _ _ _ _ rfl
    have hz0:wq.heap.size < wo.heap.size:=by rw [hwo]; simp
    rw [← hwo]
    have HT:Hid (Cols wo B (.slice (some ⟨b,o,none⟩) i c) (l.take i)):=(HP.out.take i hi).at hB hblo
    have hti:Hid ((l.take i).length=i):=by show _=_; rw [List.length_take]; omega
    have hBo:B≤wo.heap.size:=by omega
    clear hwo hbl c1 c2
    go_wp2
    go_loopw [31] (fun s wi=>∃ (j:Nat),s=.int .i64 (j:Int)∧j≤i∧Hid (((l.take i).take j).any (fun d=>decide (d.1=nm))=false)∧Below wo.heap.size wo wi) (fun s _=>i - (intOf s).toNat)
    case atStart=>exact ⟨0,rfl,Nat.zero_le _,by simp [Hid],Below.refl _ _⟩
    case round =>
     obtain ⟨j,rfl,hj,HJ,hbi⟩:=hrel
     have d2:wr.cell? ⟨wq.heap.size,0,none⟩=some (.string nm):=(hbi.cell (p:=⟨wq.heap.size,0,none⟩) hz0).trans d0
     have d3:wr.cell? ⟨wq.heap.size,1,none⟩=some (.int .i64 sz):=(hbi.cell (p:=⟨wq.heap.size,1,none⟩) hz0).trans d1
     have hbr:Below w.heap.size w wr:=bt hblo hbi
     have hzr:=hbi.size
     clear d0 d1
     by_cases hj1:j < i
     ·obtain ⟨b',o',nm2,sz2,hbo,_,hgt2,e1,e2,_⟩:=HT.out.get hBo hbi (i:=j) (by rw [hti.out]; exact hj1)
      simp only [Option.some.injEq,Addr.mk.injEq] at hbo
      obtain ⟨rfl,rfl,_⟩:=hbo
      have HG2:Hid ((l.take i)[j]? = some (nm2,sz2)):=hgt2
      clear hgt2
      have d4:(wr.alloc (.cells #[.string nm2,.int .i64 sz2] 105)).cell? ⟨wq.heap.size,0,none⟩=some (.string nm):=((ba wr _).cell (p:=⟨wq.heap.size,0,none⟩) (Nat.lt_of_lt_of_le hz0 hzr)).trans d2
      cases heq:decide (nm2=nm) with
      | true =>
       have HE2:Hid (decide (nm2=nm)=true):=heq
       have hq:(nm2.toList == nm.toList)=true:=(str_eq _ _).trans heq
       clear heq
       obtain rfl:7=er:=by
        rw [← HR.out,HE.out,ST.out,HN.out,any_hit HG2.out HE2.out]; simp
       go_wp2
       go_ret
       exact ⟨rfl,bal hbr _⟩
      | false =>
       have HE2:Hid (decide (nm2=nm)=false):=heq
       have hq:(nm2.toList == nm.toList)=false:=(str_eq _ _).trans heq
       clear heq
       go_wp2
       go_roundw
       case rel=>exact ⟨j + 1,by go_num,hj1,by show _=_; rw [any_step HG2.out,HJ.out,HE2.out]; rfl,bal hbi _⟩
       case measure=>simp [intOf]; omega
     ·have HA:Hid ((l.take i).any (fun d=>decide (d.1=nm))=false):=by
       have:=HJ.out; rwa [List.take_of_length_le (by rw [hti.out]; omega)] at this
      by_cases hz:sz < 1∨4096 < sz
      ·obtain rfl:3=er:=by rw [← HR.out,HE.out,ST.out,HN.out,HA.out]; simp [hz]
       by_cases hz1:sz < 1
       ·clear hz
        go_wp2
        go_ret
        exact ⟨rfl,hbr⟩
       ·have hz2:4096 < sz:=by omega
        clear hz
        go_wp2
        go_ret
        exact ⟨rfl,hbr⟩
      ·have HI2:Hid (colL (l.take (i + 1)) (l.drop (i + 1))=colL [] l):=by show _=_; rw [ST.out,HN.out,HA.out]; simp [hz]
       have hz1:¬ sz < 1:=by omega
       have hz2:¬ 4096 < sz:=by omega
       clear hz
       by_cases hk2:k≤4096
       ·have HK2:Hid (KP (prd (l.take (i + 1))) (k * sz.toNat)):=by show KP _ _; rw [HPN.out]; exact HK.out.lo hk2 (by omega)
        have HKI:Hid ((k:Int) * sz=((k * sz.toNat:Nat):Int)):=by
         show _=_
         rw [Int.natCast_mul,Int.toNat_of_nonneg (by omega)]
        have hw:wrap64 ((k:Int) * sz)=(k:Int) * sz:=wrap_id (by have:=HKI.out; have:=HK2.out.1; omega)
        go_wp2
        go_roundw
        case rel=>exact ⟨i + 1,k * sz.toNat,by first | exact congrArg _ HKI.out | (rw [hw]; exact congrArg _ HKI.out),by go_num,h1,HI2,HK2,hbr⟩
        case measure=>simp [intOf]; omega
       ·have HK2:Hid (KP (prd (l.take (i + 1))) k):=by show KP _ _; rw [HPN.out]; exact HK.out.hi (by omega) (by omega)
        go_wp2
        go_roundw
        case rel=>exact ⟨i + 1,k,rfl,by go_num,h1,HI2,HK2,hbr⟩
        case measure=>simp [intOf]; omega
  ·have HN:Hid (colL [] l=0):=by have:=HI.out; rw [List.drop_eq_nil_of_le (by omega)] at this; exact this.symm.trans rfl
   have HK2:Hid (KP (prd l) k):=by have:=HK.out; rwa [List.take_of_length_le (by omega)] at this
   have hk16:k≤16777216:=HK.out.1
   by_cases hpz:4096 < k
   ·obtain rfl:4=er:=by rw [← HR.out,HE.out,HN.out,if_pos rfl,if_pos (by have:=HK2.out.2.1; omega)]
    go_wp2
    go_ret
    exact ⟨rfl,hbl⟩
   ·obtain rfl:0=er:=by rw [← HR.out,HE.out,HN.out,if_pos rfl,if_neg (by have:=HK2.out.2.2; omega)]
    go_wp2
    go_ret
    exact ⟨rfl,hbl⟩
abbrev Rw:=Value × List Int
def Rws (w:World) (B:Nat) (v:Value) (ts:List Rw):Prop :=
 ∃ a c,v=.slice a ts.length c∧ts.length≤c∧ts.length≤9223372036854775807∧(∀ t∈ts,Ints w B B t.1 t.2) ∧
  (ts≠[]→∃ b o,a=some ⟨b,o,none⟩∧b < B∧∀ i t,ts[i]? = some t→w.cell? ⟨b,o + i,none⟩=some t.1)
def rr (ts:List Rw):List (List Int):=ts.map (·.2)
theorem rr_len (ts:List Rw):(rr ts).length=ts.length:=by simp [rr]
theorem rr_get {ts:List Rw} {i:Nat} {t:Rw} (h:ts[i]? = some t):(rr ts)[i]? = some t.2:=by simp [rr,h]
theorem Rws.keep {w w':World} {B:Nat} {v:Value} {ts:List Rw} (h:Rws w B v ts) (hb:Below B w w'):Rws w' B v ts:=by
 obtain ⟨a,c,hv,hc,hl,hi,hx⟩:=h
 refine ⟨a,c,hv,hc,hl,fun t ht=>(hi t ht).keep hb,fun hne=>?_⟩
 obtain ⟨b,o,ha,hB,hcell⟩:=hx hne
 exact ⟨b,o,ha,hB,fun i t ht=>(hb.cell (p:=⟨b,o + i,none⟩) hB).trans (hcell i t ht)⟩
theorem Rws.at {w w':World} {B:Nat} {v:Value} {ts:List Rw} (h:Rws w B v ts) (hB:B≤w.heap.size) (hb:Below w.heap.size w w'):Rws w' B v ts:=h.keep (hb.mono hB)
theorem Rws.mono {w:World} {B B':Nat} {v:Value} {ts:List Rw} (h:Rws w B v ts) (hB:B≤B'):Rws w B' v ts:=by
 obtain ⟨a,c,hv,hc,hl,hi,hx⟩:=h
 refine ⟨a,c,hv,hc,hl,fun t ht=>(hi t ht).mono hB (.inr hB),fun hne=>?_⟩
 obtain ⟨b,o,ha,hb,hcell⟩:=hx hne
 exact ⟨b,o,ha,by omega,hcell⟩
theorem Rws.slice {w:World} {B:Nat} {v:Value} {ts:List Rw} (h:Rws w B v ts):∃ a c,v=.slice a ts.length c∧ts.length≤c∧ts.length≤9223372036854775807:=by
 obtain ⟨a,c,hv,hc,hl,_⟩:=h
 exact ⟨a,c,hv,hc,hl⟩
theorem Rws.get {w wr:World} {B:Nat} {a:Option Addr} {n c:Nat} {ts:List Rw} (h:Rws w B (.slice a n c) ts) (hB:B≤w.heap.size) (hb:Below w.heap.size w wr) {i:Nat} (hi:i < ts.length) :
  ∃ b o sa sc xs,a=some ⟨b,o,none⟩∧b < B∧ts[i]? = some (.slice sa xs.length sc,xs)∧wr.cell? ⟨b,o + i,none⟩=some (.slice sa xs.length sc)∧Ints wr B B (.slice sa xs.length sc) xs:=by
 obtain ⟨a',c',hv,_,_,hin,hx⟩:=h.at hB hb
 simp only [Value.slice.injEq] at hv
 obtain ⟨rfl,rfl,rfl⟩:=hv
 obtain ⟨b,o,rfl,hbB,hcell⟩:=hx (ne_of_lt hi)
 obtain ⟨⟨tv,xs⟩,ht⟩:=get_lt hi
 have hI:=hin _ (List.mem_of_getElem? ht)
 obtain ⟨sa,sc,e,_⟩:=hI.slice
 simp only at e
 subst e
 exact ⟨b,o,sa,sc,xs,rfl,hbB,ht,hcell i _ ht,hI⟩
set_option maxHeartbeats 1000000 in
theorem wrong_any (B:Nat) (cv rv:Value) (l:List Col) (ts:List Rw) (w:World) (hB:B≤w.heap.size) (hp:Cols w B cv l) (hq:Rws w B rv ts) (er:Int) (hr:wroE l (rr ts)=er) :
  Calls Tryz.prog 50 #[.agg #[cv,rv]] w fun e w'=>e=.returned (.int .i64 er)∧Below w.heap.size w w':=by
 have HP:Hid (Cols w B cv l):=hp
 have HQ:Hid (Rws w B rv ts):=hq
 have HR:Hid (wroE l (rr ts)=er):=hr
 obtain ⟨a,c,rfl,hc,hl⟩:=hp.slice
 obtain ⟨a2,c2,rfl,hc2,hl2⟩:=hq.slice
 clear hr
 obtain ⟨ec,hec⟩:∃ ec,Hid (colE l=ec):=⟨_,rfl⟩
 have kc:=columns_any B _ l (w.alloc (.cells #[.slice a l.length c,.slice a2 ts.length c2] 25)) (by simp; omega) (HP.out.at hB (ba _ _)) ec hec.out
 have d0:(w.alloc (.cells #[.slice a l.length c,.slice a2 ts.length c2] 25)).cell? ⟨w.heap.size,0,none⟩=some (.slice a l.length c):=nc _ _ 0 _ rfl rfl
 have d1:(w.alloc (.cells #[.slice a l.length c,.slice a2 ts.length c2] 25)).cell? ⟨w.heap.size,1,none⟩=some (.slice a2 ts.length c2):=nc _ _ 1 _ rfl rfl
 go_enter Tryz.func50,Tryz.ntmps50
 go_wp2_with fail
 refine kc.mono ?_
 rintro e w1 ⟨rfl,hb1⟩
 have hbw:Below w.heap.size w w1:=bt (ba _ _) hb1
 have f0:w1.cell? ⟨w.heap.size,0,none⟩=some (.slice a l.length c):=(hb1.cell (p:=⟨w.heap.size,0,none⟩) (by simp)).trans d0
 have f1:w1.cell? ⟨w.heap.size,1,none⟩=some (.slice a2 ts.length c2):=(hb1.cell (p:=⟨w.heap.size,1,none⟩) (by simp)).trans d1
 have hz1:w.heap.size < w1.heap.size:=by have:=hb1.size; simp at this; omega
 clear kc d0 d1 hb1
 by_cases he0:ec=0
 ·subst he0
  have HE:Hid (wroE l (rr ts)=if 4096 < ts.length then 4 else rowsL l (rr ts)):=by show _=_; rw [wroE,if_pos hec.out,rr_len]
  by_cases h4:4096 < ts.length
  ·obtain rfl:4=er:=by rw [← HR.out,HE.out,if_pos h4]
   go_wp2
   go_ret
   exact ⟨rfl,hbw⟩
  ·go_wp2
   go_loopw [20] (fun s wr=>∃ (i:Nat),s=.int .i64 (i:Int)∧i≤ts.length∧Hid (rowsL l ((rr ts).drop i)=er)∧wr=w1) (fun s _=>ts.length - (intOf s).toNat)
   case atStart=>exact ⟨0,rfl,Nat.zero_le _,by show _=_; rw [List.drop_zero,← HR.out,HE.out,if_neg h4],rfl⟩
   case round =>
    obtain ⟨i,rfl,hi,HI,rfl⟩:=hrel
    by_cases h1:i < ts.length
    ·obtain ⟨b,o,sa,sc,xs,rfl,hb,hg,e1,hI⟩:=HQ.out.get hB hbw h1
     have HII:Hid (Ints wr B B (.slice sa xs.length sc) xs):=hI
     have ST:Hid (er=if rowE l xs=0 then rowsL l ((rr ts).drop (i + 1)) else rowE l xs):=HI.out.symm.trans (rowsL_step (rr_get hg))
     clear hg hI HI
     obtain ⟨ew,hew⟩:∃ ew,Hid (rowE l xs=ew):=⟨_,rfl⟩
     have hBr:B≤wr.heap.size:=by omega
     have kc:=wrongRow_any B B B _ _ l xs wr hBr (HP.out.at hB hbw) hBr HII.out ew hew.out
     by_cases hw0:ew=0
     ·subst hw0
      have HI2:Hid (rowsL l ((rr ts).drop (i + 1))=er):=by show _=_; rw [ST.out,if_pos hew.out]
      go_wp2_with fail
      refine kc.mono ?_
      rintro e w2 ⟨rfl,rfl⟩
      go_wp2
      go_roundw
      case rel=>exact ⟨i + 1,by go_num,h1,HI2,trivial⟩
      case measure=>simp [intOf]; omega
     ·have hne:(ew != 0)=true:=by simpa using hw0
      obtain rfl:ew=er:=by rw [ST.out,hew.out,if_neg hw0]
      go_wp2_with fail
      refine kc.mono ?_
      rintro e w2 ⟨rfl,rfl⟩
      go_wp2
      go_ret
      exact ⟨rfl,hbw⟩
    ·obtain rfl:0=er:=by have:=HI.out; rw [List.drop_eq_nil_of_le (by rw [rr_len]; omega)] at this; exact this
     go_wp2
     go_ret
     exact ⟨rfl,hbw⟩
 ·have hne:(ec != 0)=true:=by simpa using he0
  obtain rfl:ec=er:=by rw [← HR.out,wroE,hec.out,if_neg he0]
  go_wp2
  go_ret
  exact ⟨rfl,hbw⟩
set_option maxHeartbeats 1000000 in
theorem rwrong_any (B:Nat) (cv rv:Value) (l:List Col) (ts:List Rw) (w:World) (hB:B≤w.heap.size) (hp:Cols w B cv l) (hq:Rws w B rv ts) (er:Int) (hr:wroE l (rr ts)=er) :
  Calls Tryz.prog 13 #[.agg #[cv,rv]] w fun e w'=>e=.returned (.int .i64 er)∧Below w.heap.size w w':=by
 have HP:Hid (Cols w B cv l):=hp
 have HQ:Hid (Rws w B rv ts):=hq
 have HR:Hid (wroE l (rr ts)=er):=hr
 obtain ⟨a,c,rfl,hc,hl⟩:=hp.slice
 obtain ⟨a2,c2,rfl,hc2,hl2⟩:=hq.slice
 clear hr
 obtain ⟨ec,hec⟩:∃ ec,Hid (colE l=ec):=⟨_,rfl⟩
 have kc:=rcolumns_any B _ l (w.alloc (.cells #[.slice a l.length c,.slice a2 ts.length c2] 25)) (by simp; omega) (HP.out.at hB (ba _ _)) ec hec.out
 have d0:(w.alloc (.cells #[.slice a l.length c,.slice a2 ts.length c2] 25)).cell? ⟨w.heap.size,0,none⟩=some (.slice a l.length c):=nc _ _ 0 _ rfl rfl
 have d1:(w.alloc (.cells #[.slice a l.length c,.slice a2 ts.length c2] 25)).cell? ⟨w.heap.size,1,none⟩=some (.slice a2 ts.length c2):=nc _ _ 1 _ rfl rfl
 go_enter Tryz.func13,Tryz.ntmps13
 go_wp2_with fail
 refine kc.mono ?_
 rintro e w1 ⟨rfl,hb1⟩
 have hbw:Below w.heap.size w w1:=bt (ba _ _) hb1
 have f0:w1.cell? ⟨w.heap.size,0,none⟩=some (.slice a l.length c):=(hb1.cell (p:=⟨w.heap.size,0,none⟩) (by simp)).trans d0
 have f1:w1.cell? ⟨w.heap.size,1,none⟩=some (.slice a2 ts.length c2):=(hb1.cell (p:=⟨w.heap.size,1,none⟩) (by simp)).trans d1
 have hz1:w.heap.size < w1.heap.size:=by have:=hb1.size; simp at this; omega
 clear kc d0 d1 hb1
 by_cases he0:ec=0
 ·subst he0
  have HE:Hid (wroE l (rr ts)=if 4096 < ts.length then 4 else rowsL l (rr ts)):=by show _=_; rw [wroE,if_pos hec.out,rr_len]
  by_cases h4:4096 < ts.length
  ·obtain rfl:4=er:=by rw [← HR.out,HE.out,if_pos h4]
   go_wp2
   go_ret
   exact ⟨rfl,hbw⟩
  ·go_wp2
   go_loopw [20] (fun s wr=>∃ (i:Nat),s=.int .i64 (i:Int)∧i≤ts.length∧Hid (rowsL l ((rr ts).drop i)=er)∧wr=w1) (fun s _=>ts.length - (intOf s).toNat)
   case atStart=>exact ⟨0,rfl,Nat.zero_le _,by show _=_; rw [List.drop_zero,← HR.out,HE.out,if_neg h4],rfl⟩
   case round =>
    obtain ⟨i,rfl,hi,HI,rfl⟩:=hrel
    by_cases h1:i < ts.length
    ·obtain ⟨b,o,sa,sc,xs,rfl,hb,hg,e1,hI⟩:=HQ.out.get hB hbw h1
     have HII:Hid (Ints wr B B (.slice sa xs.length sc) xs):=hI
     have ST:Hid (er=if rowE l xs=0 then rowsL l ((rr ts).drop (i + 1)) else rowE l xs):=HI.out.symm.trans (rowsL_step (rr_get hg))
     clear hg hI HI
     obtain ⟨ew,hew⟩:∃ ew,Hid (rowE l xs=ew):=⟨_,rfl⟩
     have hBr:B≤wr.heap.size:=by omega
     have kc:=rrow_any B B B _ _ l xs wr hBr (HP.out.at hB hbw) hBr HII.out ew hew.out
     by_cases hw0:ew=0
     ·subst hw0
      have HI2:Hid (rowsL l ((rr ts).drop (i + 1))=er):=by show _=_; rw [ST.out,if_pos hew.out]
      go_wp2_with fail
      refine kc.mono ?_
      rintro e w2 ⟨rfl,rfl⟩
      go_wp2
      go_roundw
      case rel=>exact ⟨i + 1,by go_num,h1,HI2,trivial⟩
      case measure=>simp [intOf]; omega
     ·have hne:(ew != 0)=true:=by simpa using hw0
      obtain rfl:ew=er:=by rw [ST.out,hew.out,if_neg hw0]
      go_wp2_with fail
      refine kc.mono ?_
      rintro e w2 ⟨rfl,rfl⟩
      go_wp2
      go_ret
      exact ⟨rfl,hbw⟩
    ·obtain rfl:0=er:=by have:=HI.out; rw [List.drop_eq_nil_of_le (by rw [rr_len]; omega)] at this; exact this
     go_wp2
     go_ret
     exact ⟨rfl,hbw⟩
 ·have hne:(ec != 0)=true:=by simpa using he0
  obtain rfl:ec=er:=by rw [← HR.out,wroE,hec.out,if_neg he0]
  go_wp2
  go_ret
  exact ⟨rfl,hbw⟩
theorem info3:(Tryz.prog.info? 3).map (fun i=>(i.zero,i.size,i.bytes))=some (some (.int .i64 0),1,8):=by kernel_rfl
structure RowI (w:World) (g:Nat) (xs:List Int):Prop where
 cells:∀ i x,xs[i]? = some x→w.cell? ⟨g,i,none⟩=some (.int .i64 x)
 thaw:∀ i,i < xs.length→w.frozen? ⟨g,i,none⟩=false
 lt:g < w.heap.size
theorem RowI.keep {w w':World} {g N:Nat} {xs:List Int} (h:RowI w g xs) (hb:Below N w w') (hg:g < N):RowI w' g xs :=
 ⟨fun i x hi=>(hb.cell (p:=⟨g,i,none⟩) hg).trans (h.cells i x hi),fun i hi=>(hb.frozen (p:=⟨g,i,none⟩) hg).trans (h.thaw i hi),Nat.lt_of_lt_of_le h.lt hb.size⟩
theorem RowI.set {w:World} {g:Nat} {xs:List Int} (h:RowI w g xs) (i:Nat) (k:Int):RowI (w.setCell ⟨g,i,none⟩ (.int .i64 k)) g (xs.set i k):=by
 refine ⟨fun j x hj=>?_,fun j hj=>by rw [sc_frozen]; exact h.thaw j (by simpa using hj),by simpa using h.lt⟩
 by_cases e:i=j
 ·subst e
  have hi:i < xs.length:=by have:=(List.getElem?_eq_some_iff.1 hj).1; simpa using this
  rw [List.getElem?_set_self hi] at hj
  obtain rfl:k=x:=by simpa using hj
  obtain ⟨y,hy⟩:=get_lt hi
  exact sc_same (h.cells i y hy)
 ·rw [List.getElem?_set_ne e] at hj
  rw [sc_other (fun h=>e (congrArg Addr.off h))]
  exact h.cells j x hj
theorem RowI.made (w:World) (n:Nat):RowI (w.alloc (.cells (madeCells #[.int .i64 0] n) 3)) w.heap.size (List.replicate n 0):=by
 refine ⟨fun i x hi=>?_,fun i _=>World.frozen?_alloc_at _ _ _ _ rfl,by simp⟩
 have h1:i < n:=by have:=(List.getElem?_eq_some_iff.1 hi).1; simpa using this
 obtain rfl:x=0:=by
  have:=(List.getElem?_eq_some_iff.1 hi).2; simp at this; exact this.symm
 rw [World.cell?_alloc_at _ _ _ _ rfl]
 simp [madeCells,h1,Nat.mod_one]
theorem make_ints (n:Nat) (hn:n≤1073741824) (u:World):(Instr.makeSlice 35 (.int .i64 (n:Int)) (.int .i64 (n:Int))).run Tryz.prog u =
  .ok (.slice (some ⟨u.heap.size,0,none⟩) n n) (u.alloc (.cells (madeCells #[.int .i64 0] n) 3)):=by
 obtain ⟨i0,hi,hz0,hz1,hz2⟩:=info_parts info3
 have h:=run_make (P:=Tryz.prog) u 35 3 i0 (.int .i64 0) Tryz.underlying35 hi hz0 .i64 .i64 (n:Int) (n:Int) (by omega) (Int.le_refl _) (by rw [hz2]; omega) (by omega)
 rw [Int.toNat_natCast] at h
 simpa [hz1,Value.cells] using h
theorem frozen_zero {w:World} {g j:Nat} {cur:Array Value} {e:TypeId} (h:w.heap[g]? = some (.cells cur e (0,0))):w.frozen? ⟨g,j,none⟩=false:=by
 simp [World.frozen?,h]
theorem owns_below {w w':World} {base:Nat} {e:TypeId} {size:Nat} {v:Value} {n:Nat} {xs:List Value} (h:w.ownsRow base e size v n xs) (hb:Below w.heap.size w w'):w'.ownsRow base e size v n xs:=by
 obtain ⟨h1,h2⟩:=h
 refine ⟨h1,?_⟩
 rcases h2 with h2 | ⟨g,cap,cur,hv,hg,hcur,h3⟩
 ·exact .inl h2
 ·exact .inr ⟨g,cap,cur,hv,hg,by rw [hb.block g (Array.getElem?_eq_some_iff.1 hcur).1]; exact hcur,h3⟩
theorem owns_slice {w:World} {base:Nat} {e:TypeId} {size:Nat} {v:Value} {n:Nat} {xs:List Value} (h:w.ownsRow base e size v n xs):∃ a c,v=.slice a n c:=by
 obtain ⟨_,⟨rfl,rfl⟩ | ⟨g,cap,cur,rfl,_⟩⟩:=h
 ·exact ⟨_,_,rfl⟩
 ·exact ⟨_,_,rfl⟩
theorem owns_some {w:World} {base:Nat} {e:TypeId} {size:Nat} {v:Value} {n:Nat} {xs:List Value} (h:w.ownsRow base e size v n xs) (hne:v≠.slice none 0 0):∃ g c,v=.slice (some ⟨g,0,none⟩) n c∧base≤g∧g < w.heap.size:=by
 obtain ⟨_,⟨rfl,rfl⟩ | ⟨g,cap,cur,rfl,hb,hcur,_⟩⟩:=h
 ·exact absurd rfl hne
 ·exact ⟨g,cap,rfl,hb,(Array.getElem?_eq_some_iff.1 hcur).1⟩
theorem rws_nil (w:World) (B:Nat):Rws w B (.slice none 0 0) []:=⟨none,0,rfl,Nat.le_refl _,by simp,by simp,fun h=>absurd rfl h⟩
theorem Boxed.at {w w':World} {b:Nat} {t:TypeId} {v:Value} (h:Boxed w b t v) (hb:Below w.heap.size w w'):Boxed w' b t v:=(hb.block b h.lt).trans h
def Tcl (w:World) (V:Value) (e:Nat × Int × Int):Prop :=
 ∃ h i p,V=.func (.func 254) #[] #[.pointer (some ⟨h,0,none⟩),.pointer (some ⟨i,0,none⟩)]∧Boxed w h 277 (holV e.2.1 p)∧Boxed w i 3 (.int .i64 (e.1:Int))∧Boxed w p 3 (.int .i64 e.2.2)
theorem Tcl.at {w w':World} {V:Value} {e:Nat × Int × Int} (h:Tcl w V e) (hb:Below w.heap.size w w'):Tcl w' V e:=by
 obtain ⟨h,i,p,e,h1,h2,h3⟩:=h
 exact ⟨h,i,p,e,Boxed.at h1 hb,Boxed.at h2 hb,Boxed.at h3 hb⟩
def Tcs (w:World) (lo:Nat) (v:Value) (es:List (Value × Nat × Int × Int)):Prop :=
 w.ownsRow lo 72 1 v es.length (es.map (·.1))∧∀ e∈es,Tcl w e.1 e.2
theorem Tcs.at {w w':World} {lo:Nat} {v:Value} {es:List (Value × Nat × Int × Int)} (h:Tcs w lo v es) (hb:Below w.heap.size w w'):Tcs w' lo v es :=
 ⟨owns_below h.1 hb,fun e he=>(h.2 e he).at hb⟩
theorem Tcl.grow {w w':World} {V v:Value} {e:Nat × Int × Int} {lo n:Nat} {xs:List Value} (h:Tcl w V e) (hr:w.ownsRow lo 72 1 v n xs) (hg:w.grownBy w' v.ownBlock):Tcl w' V e:=by
 obtain ⟨h,i,p,e,h1,h2,h3⟩:=h
 exact ⟨h,i,p,e,h1.kept hg (h1.not_row (by decide) hr),h2.kept hg (h2.not_row (by decide) hr),h3.kept hg (h3.not_row (by decide) hr)⟩
theorem Tcl.setb {w:World} {V u v:Value} {e:Nat × Int × Int} {A:Nat} (h:Tcl w V e) (hA:Boxed w A 321 u):Tcl (w.setCell ⟨A,0,none⟩ v) V e:=by
 have ne:∀ {b:Nat} {t:TypeId} {x:Value},Boxed w b t x→t≠321→some b≠some A:=by
  intro b t x hb ht e
  simp only [Option.some.injEq] at e
  subst e
  have:=(show w.heap[b]? = _ from hb).symm.trans (show w.heap[b]? = _ from hA)
  simp at this
  exact ht this.2
 obtain ⟨h,i,p,e,h1,h2,h3⟩:=h
 exact ⟨h,i,p,e,h1.kept (grownBy_setCell' _ _ _) (ne h1 (by decide)),h2.kept (grownBy_setCell' _ _ _) (ne h2 (by decide)),h3.kept (grownBy_setCell' _ _ _) (ne h3 (by decide))⟩
def trp (l:List Col) (t:Tst):Nat × Int × Int:=((fnd l t.1).getD 0,t.2.1,t.2.2)
def PasP (w:World) (ps:List (Nat × Int × Int)) (er:Int) (e:Ending) (w':World):Prop :=
 Below w.heap.size w w'∧((er=0∧∃ A sv es,w.heap.size≤A∧e=.returned (.func (.func 255) #[] #[.pointer (some ⟨A,0,none⟩)])∧Boxed w' A 321 sv∧Tcs w' w.heap.size sv es∧es.map (·.2)=ps)∨(er≠0∧e=.panicked (chn er)))
theorem info94:(Tryz.prog.info? 72).map (fun i=>(i.zero,i.size,i.bytes))=some (some .nilFunc,1,8):=by kernel_rfl
set_option maxHeartbeats 4000000 in
set_option maxRecDepth 100000 in
theorem passing_any (B:Nat) (lv v:Value) (l:List Col) (wh:List Tst) (w:World) (hB:B≤w.heap.size) (hp:Cols w B lv l) (hq:Tss w B v wh) (er:Int) (hr:whE l wh=er) :
  Calls Tryz.prog 224 #[lv,v] w fun e w'=>PasP w (wh.map (trp l)) er e w':=by
 have HP:Hid (Cols w B lv l):=hp
 have HQ:Hid (Tss w B v wh):=hq
 have HR:Hid (whE l wh=er):=hr
 obtain ⟨a,c,rfl,hc,hl⟩:=hq.slice
 obtain ⟨a',c',rfl,hc',hl'⟩:=hp.slice
 obtain ⟨i0,hi0,hz0,hz1,hz2⟩:=info_parts info94
 have hmf:=hmf
 clear hr
 go_enter Tryz.func224,Tryz.ntmps224
 by_cases h64:64 < wh.length
 ·obtain rfl:4=er:=by rw [← HR.out,whE,if_pos h64]
  have hle:¬ (wh.length:Int)≤64:=by omega
  go_wp2_with fail
  refine (must_no 4 w).mono ?_
  rintro e w2 ⟨rfl,rfl⟩
  go_wp2
  exact ⟨rfl,Below.refl _ _,.inr ⟨by decide,rfl⟩⟩
 have HR2:Hid (tsE l wh=er):=by have:=HR.out; rwa [whE,if_neg h64] at this
 have hle:(wh.length:Int)≤64:=by omega
 go_wp2_with fail
 refine (must_ok 4 w).mono ?_
 rintro e w2 ⟨rfl,rfl⟩
 go_wp2
 go_loopw [16] (fun s wr=>∃ (i:Nat),s=.int .i64 (i:Int)∧i≤wh.length∧Hid (tsE l (wh.drop i)=er)∧Below w2.heap.size w2 wr ∧
  ∃ sv es,Boxed wr w2.heap.size 321 sv∧Tcs wr w2.heap.size sv es∧es.map (·.2)=(wh.take i).map (trp l)) (fun s _=>wh.length - (intOf s).toNat)
 case atStart=>exact ⟨0,rfl,Nat.zero_le _,by simpa [Hid] using HR2.out,ba _ _,.slice none 0 0,[],Boxed.new _ _ _,⟨⟨rfl,.inl ⟨rfl,rfl⟩⟩,fun e he=>by cases he⟩,by simp⟩
 case round =>
  obtain ⟨i,rfl,hi,HI,hbl,sv,es,hbx,hts,hes⟩:=hrel
  have HBX:Hid (Boxed wr w2.heap.size 321 sv):=hbx
  have HT:Hid (Tcs wr w2.heap.size sv es):=hts
  have HES:Hid (es.map (·.2)=(wh.take i).map (trp l)):=hes
  have hsz:=hbl.size
  clear hbx hes
  obtain ⟨sa,sc,rfl⟩:=owns_slice hts.1
  clear hts
  by_cases h1:i < wh.length
  ·obtain ⟨b,o,nm,d,z,rfl,hb,hgt,c1,c2,c3,hn⟩:=HQ.out.get hB hbl h1
   have HG:Hid (wh[i]? = some (nm,d,z)):=hgt
   have HST:Hid (tsE l (wh.drop i)=if (fnd l nm).isSome then (if doB d then tsE l (wh.drop (i + 1)) else 1) else 7):=tsE_step hgt
   have kcol:Cols (wr.alloc (.cells #[.string nm,.int .i64 d,.int .i64 z] 287)) B (.slice a' l.length c') l:=(HP.out.at hB hbl).at (by omega) (ba _ _)
   clear hgt
   cases hf:fnd l nm with
   | none =>
    obtain rfl:7=er:=by rw [← HI.out,HST.out,hf]; rfl
    have k1:=find_no B _ l nm _ (by simp; omega) kcol hf
    clear hf kcol
    go_wp2_with fail
    refine k1.mono ?_
    rintro e w3 ⟨rfl,hb3⟩
    go_wp2
    exact ⟨rfl,bt (bal hbl _) hb3,.inr ⟨by decide,rfl⟩⟩
   | some p =>
    have k1:=find_ok B _ l nm _ (by simp; omega) kcol p hf
    have HF:Hid (fnd l nm=some p):=hf
    clear hf kcol
    go_wp2_with fail
    refine k1.mono ?_
    rintro e w3 ⟨rfl,hb3⟩
    clear k1
    have e0:Cl w3 wr.heap.size 0 (.string nm):=(Cl.new (w:=wr) #[.string nm,.int .i64 d,.int .i64 z] 287 0 _ rfl rfl).at hb3
    have e1:Cl w3 wr.heap.size 1 (.int .i64 d):=(Cl.new (w:=wr) #[.string nm,.int .i64 d,.int .i64 z] 287 1 _ rfl rfl).at hb3
    have e2:Cl w3 wr.heap.size 2 (.int .i64 z):=(Cl.new (w:=wr) #[.string nm,.int .i64 d,.int .i64 z] 287 2 _ rfl rfl).at hb3
    have hb3':Below wr.heap.size wr w3:=bt (ba _ _) hb3
    have t1:=(e1.at (ba w3 (.cells #[.int .i64 (p:Int)] 3))).c
    have t2:=(e2.at (ba w3 (.cells #[.int .i64 (p:Int)] 3))).c
    cases hd:doB d with
    | false =>
     obtain rfl:1=er:=by rw [← HI.out,HST.out,HF.out,hd]; rfl
     have k2:=hold_no d z (w3.alloc (.cells #[.int .i64 (p:Int)] 3)) hd
     clear hd
     go_wp2_with fail
     refine k2.mono ?_
     rintro e w4 ⟨rfl,hb4⟩
     go_wp2
     exact ⟨rfl,bt (bt hbl (bt hb3' (ba _ _))) hb4,.inr ⟨by decide,rfl⟩⟩
    | true =>
     have k2:=hold_ok d z (w3.alloc (.cells #[.int .i64 (p:Int)] 3)) hd
     have HI2:Hid (tsE l (wh.drop (i + 1))=er):=by have:=HI.out; rwa [HST.out,HF.out,hd] at this
     clear hd
     go_wp2_with fail
     refine k2.mono ?_
     rintro e w4 ⟨rfl,hw4⟩
     have es1:(w3.alloc (.cells #[.int .i64 (p:Int)] 3)).heap.size=w3.heap.size + 1:=by simp
     rw [es1]
     have hs4:Hid (w4.heap.size=w3.heap.size + 2):=by show _=_; rw [hw4]; simp
     have X1:Boxed w4 w3.heap.size 3 (.int .i64 (p:Int)):=by rw [hw4]; exact (Boxed.new w3 3 _).alloc _
     have X2:Boxed w4 (w3.heap.size + 1) 3 (.int .i64 z):=by rw [hw4]; have:=Boxed.new (w3.alloc (.cells #[.int .i64 (p:Int)] 3)) 3 (.int .i64 z); rwa [es1] at this
     have hb34:Below w3.heap.size w3 w4:=by rw [hw4]; exact bal (ba _ _) _
     have hb4:Below wr.heap.size wr w4:=bt hb3' hb34
     clear hw4 k2 t1 t2 e0 e1 e2 hb3 hb34 es1
     obtain ⟨W5,hW5⟩:∃ W5,w4.alloc (.cells #[holV d (w3.heap.size + 1)] 277)=W5:=⟨_,rfl⟩
     have hb5:Below wr.heap.size wr W5:=by rw [← hW5]; exact bal hb4 _
     have hs5:Hid (W5.heap.size=w4.heap.size + 1):=by show _=_; rw [← hW5]; simp
     have Y1:=Boxed.at X1 (by rw [← hW5]; exact ba _ _:Below w4.heap.size w4 W5)
     have Y2:=Boxed.at X2 (by rw [← hW5]; exact ba _ _:Below w4.heap.size w4 W5)
     have Y3:Boxed W5 w4.heap.size 277 (holV d (w3.heap.size + 1)):=by rw [← hW5]; exact Boxed.new w4 277 _
     have YA:Boxed W5 w2.heap.size 321 (.slice sa es.length sc):=Boxed.at HBX.out hb5
     have YT:Tcs W5 w2.heap.size (.slice sa es.length sc) es:=HT.out.at hb5
     have tA:=YA.cell
     have HY:Hid (Boxed W5 w3.heap.size 3 (.int .i64 (p:Int))∧Boxed W5 (w3.heap.size + 1) 3 (.int .i64 z)∧Boxed W5 w4.heap.size 277 (holV d (w3.heap.size + 1))∧Boxed W5 w2.heap.size 321 (.slice sa es.length sc)∧Tcs W5 w2.heap.size (.slice sa es.length sc) es):=⟨Y1,Y2,Y3,YA,YT⟩
     clear Y1 Y2 Y3 X1 X2 YA YT
     have HW5:Hid (w4.alloc (.cells #[holV d (w3.heap.size + 1)] 277)=W5):=hW5
     have tA2:(w4.alloc (.cells #[holV d (w3.heap.size + 1)] 277)).cell? ⟨w2.heap.size,0,none⟩=some (.slice sa es.length sc):=by rw [hW5]; exact tA
     have HO:Hid (((w4.alloc (.cells #[holV d (w3.heap.size + 1)] 277)).alloc (.cells #[.func (.func 254) #[] #[.pointer (some ⟨w4.heap.size,0,none⟩),.pointer (some ⟨w3.heap.size,0,none⟩)]] 72)).ownsRow w2.heap.size 72 1 (.slice sa es.length sc) es.length (es.map (·.1))):=by
      show World.ownsRow _ _ _ _ _ _ _; rw [hW5]; exact owns_below HY.out.2.2.2.2.1 (ba _ _)
     have hlen:Hid (es.length≤64):=by have:=congrArg List.length HES.out; simp at this; show _≤_; omega
     have hsA:Hid (w2.heap.size≤w4.heap.size):=by show _≤_; exact Nat.le_trans hsz hb4.size
     clear hW5 tA
     simp only [holV] at tA2 HO ⊢
     go_wp2_with (at_builtin; refine wpList_append_own _ rfl _ _ 321 rfl w2.heap.size 72 i0 .nilFunc 1 8 Tryz.underlying321 hi0 hz0 hz1 hz2 rfl (by decide) _ _ _ rfl HO.out ⟨w4.heap.size + 1,0,none⟩ 1 1 [.func (.func 254) #[] #[.pointer (some ⟨w4.heap.size,0,none⟩),.pointer (some ⟨w3.heap.size,0,none⟩)]] rfl ?q1 ?q2 ?q3 ?q4 ?q5 ?q6 ?_)
     case q1=>rfl
     case q2 =>
      intro j u hj
      match j,hj with
      | 0,hj=>simp at hj; subst hj; simp [go_sem,Addr.add]
     case q3=>intro u hu; simp at hu; subst hu; rfl
     case q4=>have:=hlen.out; simp [maxLen]; omega
     case q5=>have:=hlen.out; omega
     case q6=>have:=hsA.out; simp; omega
     intro v6 w6 hown6 hgrow hnil
     rw [show (w4.alloc (.cells #[.func (.func (283 + d.toNat)) #[] #[.pointer (some ⟨w3.heap.size + 1,0,none⟩)]] 277))=W5 from HW5.out] at hgrow
     obtain ⟨Z1,Z2,Z3,_,Z5⟩:=Boxed.appended HY.out.2.2.2.1 (by decide) HY.out.2.2.2.2.1 (Nat.le_trans hsz hb5.size) (Nat.le_refl _) hown6 hgrow
     obtain ⟨va,vc,rfl⟩:=owns_slice hown6
     have ZC:Hid (Tcs (w6.setCell ⟨w2.heap.size,0,none⟩ (.slice va (es.length + 1) vc)) w2.heap.size (.slice va (es.length + 1) vc) (es ++ [(.func (.func 254) #[] #[.pointer (some ⟨w4.heap.size,0,none⟩),.pointer (some ⟨w3.heap.size,0,none⟩)],(p,d,z))])):=by
      have key:∀ V e,Tcl W5 V e→Tcl (w6.setCell ⟨w2.heap.size,0,none⟩ (.slice va (es.length + 1) vc)) V e:=fun V e he =>
       ((he.at (ba _ _)).grow (owns_below HY.out.2.2.2.2.1 (ba _ _)) hgrow).setb Z1
      refine ⟨by simpa using Z3,fun e he=>?_⟩
      rcases List.mem_append.1 he with he | he
      ·exact key _ _ (HY.out.2.2.2.2.2 e he)
      ·obtain rfl:=List.mem_singleton.1 he
       exact key _ _ ⟨_,_,_,rfl,HY.out.2.2.1,HY.out.1,HY.out.2.1⟩
     have ZE:Hid ((es ++ [((.func (.func 254) #[] #[.pointer (some ⟨w4.heap.size,0,none⟩),.pointer (some ⟨w3.heap.size,0,none⟩)]:Value),(p,d,z))]).map (·.2)=(wh.take (i + 1)).map (trp l)):=by
      show _=_
      rw [List.map_append,HES.out,List.take_add_one,HG.out,List.map_append]
      simp [trp,HF.out]
     have hbz:Below w2.heap.size w2 (w6.setCell ⟨w2.heap.size,0,none⟩ (.slice va (es.length + 1) vc)):=(bt hbl hb5).trans Z5
     have ZB:Hid (Boxed (w6.setCell ⟨w2.heap.size,0,none⟩ (.slice va (es.length + 1) vc)) w2.heap.size 321 (.slice va (es.length + 1) vc)):=Z2
     have z1:=Z1.cell
     have z2:=Z1.frozen
     clear Z1 Z2 Z3 Z5 hgrow hown6 hnil tA2 HO
     go_wp2
     go_roundw
     case rel=>exact ⟨i + 1,by go_num,h1,HI2,hbz,_,_,ZB.out,ZC.out,ZE.out⟩
     case measure=>simp [intOf]; omega
  ·obtain rfl:0=er:=by have:=HI.out; rw [List.drop_of_length_le (by omega)] at this; exact this
   have HES2:Hid (es.map (·.2)=wh.map (trp l)):=by have:=HES.out; rwa [List.take_of_length_le (by omega)] at this
   go_wp2
   go_ret
   exact ⟨hbl,.inl ⟨rfl,_,_,es,Nat.le_refl _,rfl,HBX.out,HT.out,HES2.out⟩⟩
end Go.Proofs.YtpmioeamdhdokaaGreat.K

import Derived.Test.YtlndlpjadajelaaGreatQq08
import Derived.Test.YtlndlpjadajelaaGreatQq15
import Derived.Test.YtlndlpjadajelaaGreatQq14
import Derived.Lib.AppendZerosOnto
import Derived.Deep.Upon
namespace Go.Proofs.YtlndlpjadajelaaGreat
open Go.RowKit Go.Proofs.YtlndlpjadajelaaGreat.Ds
open Go.Maps (Keyed int_keyed keyOf_int_mk)
theorem info26:(Tryz.prog.info? 44).map (fun i=>(i.zero,i.size,i.bytes))=some (some (.slice none 0 0),1,24):=by kernel_rfl
def I64 (z:Int):Prop:=-9223372036854775808≤z∧z≤9223372036854775807
theorem Ints.get' {w wr:World} {B nb:Nat} {a:Option Addr} {n c:Nat} {xs:List Int} (hp:Ints w B nb (.slice a n c) xs) (hB:B≤w.heap.size) (hbl:Below w.heap.size w wr) {i:Nat} (h:i < xs.length) :
  ∃ b o x,a=some ⟨b,o,none⟩∧b < w.heap.size∧xs[i]? = some x∧wr.cell? ⟨b,o + i,none⟩=some (.int .i64 x):=by
 obtain ⟨a',c',hv,hc,hl,hx⟩:=hp
 simp only [Value.slice.injEq] at hv
 obtain ⟨rfl,rfl,rfl⟩:=hv
 obtain ⟨b,o,ha,hb,hn,hcell⟩:=hx (ne_of_lt h)
 obtain ⟨x,hxx⟩:=get_lt h
 exact ⟨b,o,x,ha,by omega,hxx,(hbl.cell (p:=⟨b,o + i,none⟩) (by show b < w.heap.size; omega)).trans (hcell i x hxx)⟩
set_option maxHeartbeats 4000000 in
set_option maxRecDepth 100000 in
theorem hideAll_any (B nb:Nat) (u d lo hi:Int) (v:Value) (ns:List Int) (w:World) (hB:B≤w.heap.size) (hx:Ints w B nb v ns) (hlo:I64 lo) (hhi:I64 hi) (hns:∀ n∈ns,I64 n) (hlen:ns.length≤1048576) (l:List (List Pt)) (er:Int) (hr:hidsT u d lo hi ns=(l,er)) :
  Calls Tryz.prog 28 #[rv u d,.int .i64 lo,.int .i64 hi,v] w (HidsP w l er):=by
 have HX:Hid (Ints w B nb v ns):=hx
 have HR:Hid (hidsT u d lo hi ns=(l,er)):=hr
 have HNS:Hid ((∀ n∈ns,I64 n)∧I64 lo∧I64 hi):=⟨hns,hlo,hhi⟩
 obtain ⟨va,vc,rfl,_⟩:=hx
 obtain ⟨i0,hi0,hz0,hz1,hz2⟩:=info_parts info26
 have hmk:∀ u:World,(Instr.makeSlice 32 (.int .i64 (ns.length:Int)) (.int .i64 (ns.length:Int))).run Tryz.prog u =
   .ok (.slice (some ⟨u.heap.size,0,none⟩) ns.length ns.length) (u.alloc (.cells (madeCells #[.slice none 0 0] ns.length) 44)):=fun u=>by
  have h:=run_make (P:=Tryz.prog) u 32 44 i0 (.slice none 0 0) Tryz.underlying32 hi0 hz0 .i64 .i64 (ns.length:Int) (ns.length:Int) (by omega) (Int.le_refl _) (by rw [hz2]; omega) (by omega)
  rw [Int.toNat_natCast] at h
  simpa [hz1,Value.cells] using h
 have hmm:=@run_makeMap Tryz.prog
 have q26:∀ (w:World) (a:Option Addr) (n c n' c':Nat),(binOp .eql 44 (.slice a n c) (.slice none n' c')).run Tryz.prog w=.ok (.bool a.isNone) w:=fun w a n c n' c'=>Lib.run_eql_slice_nil w _ _ a n c n' c' Tryz.underlying44
 clear hr hns hlo hhi
 go_enter Tryz.func28,Tryz.ntmps28
 go_wp2
 go_loopw [23] (fun s wr=>∃ (i:Nat) (zs:List Dz) (D:DataW Value) (m:Nat),s=.int .i64 (i:Int)∧i≤ns.length∧Hid (zs.length=ns.length∧rds (zs.take i)=(ns.take i).map (fun n=>(hideT u d lo hi n).1)∧∀ x∈ns.take i,(hideT u d lo hi x).2=0)∧Hid (RowD wr (w.heap.size + 1 + 1) (w.heap.size + 1 + 1 + 1) zs)∧Hid (Mpi wr (w.heap.size + 1) m (w.heap.size + 1 + 1 + 1) D u d lo hi)∧m≤i∧Below w.heap.size w wr∧w.heap.size + 1 + 1 + 1≤wr.heap.size∧wr.cell? ⟨w.heap.size,0,none⟩=some (.int .i64 u)∧wr.cell? ⟨w.heap.size,1,none⟩=some (.int .i64 d)) (fun s _=>ns.length - (intOf s).toNat)
 case atStart =>
  refine ⟨0,List.replicate ns.length (.slice none 0 0,[]),.map [],0,rfl,Nat.zero_le _,⟨by simp,by simp [rds],by simp⟩,?_,?_,Nat.le_refl _,bal (bal (ba _ _) _) _,by simp,by simp [go_sem],by simp [go_sem]⟩
  ·have:=rowD_made ((w.alloc (.cells #[.int .i64 u,.int .i64 d] 23)).alloc (.map #[] 0)) ns.length (w.heap.size + 1 + 1 + 1)
   simpa [Hid] using this
  ·have:=(Mpi.made (w.alloc (.cells #[.int .i64 u,.int .i64 d] 23)) (w.heap.size + 1 + 1 + 1) u d lo hi).keep (ba _ (.cells (madeCells #[.slice none 0 0] ns.length) 44))
   simpa [Hid] using this
 case round =>
  obtain ⟨i,zs,D,m,rfl,hit,HZ,HRw,HMp,hmi,hbl,hsz,c1,c2⟩:=hrel
  by_cases h1:i < ns.length
  ·obtain ⟨b,o,x,rfl,hb,hxi,hcx⟩:=HX.out.get' hB hbl h1
   have HX1:Hid (ns[i]? = some x):=hxi
   obtain ⟨p,hp0⟩:∃ p,plcT lo hi x=p:=⟨_,rfl⟩
   have HPX:Hid (plcT lo hi x=p):=hp0
   have hp:(Lit.int .i64 p).wf=true:=by
    have h2:=HNS.out.1 x (List.mem_of_getElem? hxi)
    have h3:=HNS.out.2
    unfold I64 at h2 h3
    refine WalkArith.wf_i64 ?_
    rw [← hp0]
    unfold plcT
    omega
   have ki:=into_any x lo hi wr
   rw [hp0] at ki
   obtain ⟨vv,hvv,hor⟩:=HMp.out.el p
   have hrun1:=HMp.out.look hp hvv
   have HVV0:Hid (D.atKey (.int .i64 p) (.held (.slice none 0 0))=.held vv):=hvv
   clear hxi hp0 hvv
   rcases hor with rfl | ⟨us,hdd,hne,hhp⟩
   ·obtain ⟨⟨l1,e1⟩,hh⟩:∃ y,hideT u d lo hi p=y:=⟨_,rfl⟩
    have kh:=hide_fr u d lo hi p l1 e1 hh
    have HH:Hid (hideT u d lo hi p=(l1,e1)):=hh
    clear hh
    go_wp2_with fail
    refine ki.mono ?_
    rintro e w1 ⟨rfl,rfl⟩
    go_wp2_with fail
    refine (kh _).mono ?_
    rintro e w2 ⟨v2,us,rfl,k1,k2,k3,k4⟩
    obtain ⟨a2,c2',hv2⟩:=k2.slice
    subst hv2
    have hbw2:=bt hbl k3
    by_cases he1:e1=0
    ·subst he1
     have hs2:=k3.size
     have HM2:Hid (Mpi w2 (w.heap.size + 1) m (w.heap.size + 1 + 1 + 1) D u d lo hi):=HMp.out.keep k3
     have HR2:Hid (RowD w2 (w.heap.size + 1 + 1) (w.heap.size + 1 + 1 + 1) zs):=HRw.out.keep k3
     have HD2:Hid (Dd w2 (w.heap.size + 1 + 1 + 1) (.slice a2 us.length c2') us):=(show Dd w2 w1.heap.size (.slice a2 us.length c2') us from ⟨k2,k4⟩).mono hsz
     have HHV:Hid (hideT u d lo hi p=(rd us,0)):=by rw [Hid,k1]; exact HH.out
     have hne:Hid (us≠[]):=by intro h; have:=hide_ne HHV.out; rw [h] at this; exact this rfl
     have f1:w2.cell? ⟨w.heap.size,0,none⟩=some (.int .i64 u):=((bcell k3).1 _ _ (by omega)).trans c1
     have f2:w2.cell? ⟨w.heap.size,1,none⟩=some (.int .i64 d):=((bcell k3).1 _ _ (by omega)).trans c2
     clear k1 k2 k3 k4 kh hrun1 ki
     go_wp2_with (at_mapUpdate; refine wpList_mapUpdate_own _ rfl _ _ _ 121 rfl 3 44 law3 Tryz.underlying121 hR (w.heap.size + 1) m D rfl HM2.out.own (by unfold maxLen; omega) _ _ (.int .i64 p) rfl rfl (keyOf_int_mk Tryz.underlying3 hp) (.held (.slice a2 us.length c2')) [] rfl ?_)
     intro w4 hown4 hgrow4
     have hs4':=hgrow4.size
     have HMW:Hid (Mpi w4 (w.heap.size + 1) (m + 1) (w.heap.size + 1 + 1 + 1) (D.put (.int .i64 p) (.held (.slice a2 us.length c2'))) u d lo hi):=HM2.out.put hgrow4 (by omega) hown4 HD2.out hne.out HHV.out
     have HRW:Hid (RowD w4 (w.heap.size + 1 + 1) (w.heap.size + 1 + 1 + 1) zs):=HR2.out.beside hgrow4 (by omega) (by omega)
     have HDV:Hid (Dd w4 (w.heap.size + 1 + 1 + 1) (.slice a2 us.length c2') us):=HD2.out.beside hgrow4 (by omega)
     have HVV:Hid ((D.put (.int .i64 p) (.held (.slice a2 us.length c2'))).atKey (.int .i64 p) (.held (.slice none 0 0))=.held (.slice a2 us.length c2')):=Maps.atKey_put_same (k:=.int .i64 p) HM2.out.own.isMap True.intro _ _
     have hbW:Below w.heap.size w w4:=hbw2.grown hgrow4 (by omega) (fun j hj=>by cases hj; omega)
     have d1:w4.cell? ⟨w.heap.size,0,none⟩=some (.int .i64 u):=hgrow4.cell f1 (by simp)
     have d2:w4.cell? ⟨w.heap.size,1,none⟩=some (.int .i64 d):=hgrow4.cell f2 (by simp)
     clear hown4 hgrow4 HM2 HR2 HD2 f1 f2 HRw HMp
     have hrun2:=HMW.out.look hp HVV.out
     have kcp:=ncopied_fr w4.heap.size _ us w4 (Nat.le_refl _) HDV.out.1.parts
     obtain ⟨z0,hz0⟩:=get_lt (l:=zs) (i:=i) (by rw [HZ.out.1]; exact h1)
     have r1:=HRW.out.cell i z0 hz0
     have r2:=HRW.out.thaw i (by rw [HZ.out.1]; exact h1)
     have hsW:=HRW.out.lt
     obtain ⟨z1,hz1'⟩:∃ z1,z0.1=z1:=⟨_,rfl⟩
     rw [hz1'] at r1
     clear hz0 hz1'
     go_wp2_with fail
     refine kcp.mono ?_
     rintro e w3 ⟨v3,us3,rfl,k1,k2,k3,k4⟩
     obtain ⟨a3,c3,hv3⟩:=k1.slice
     subst hv3
     have hs3:=k3.size
     have q1:w3.cell? ⟨w.heap.size + 1 + 1,i,none⟩=some z1:=((bcell k3).1 _ _ hsW).trans r1
     have q2:w3.frozen? ⟨w.heap.size + 1 + 1,i,none⟩=false:=((bcell k3).2 _ _ hsW).trans r2
     have hlW:w.heap.size + 1 + 1 + 1≤w4.heap.size:=by omega
     have HD3:Hid (Dd w3 (w.heap.size + 1 + 1 + 1) (.slice a3 us3.length c3) us3):=(show Dd w3 w4.heap.size (.slice a3 us3.length c3) us3 from ⟨k1,k4⟩).mono hlW
     have HR3:Hid (RowD (w3.setCell ⟨w.heap.size + 1 + 1,i,none⟩ (.slice a3 us3.length c3)) (w.heap.size + 1 + 1) (w.heap.size + 1 + 1 + 1) (zs.set i (.slice a3 us3.length c3,us3))):=(HRW.out.keep k3).set (by rw [HZ.out.1]; exact h1) (by omega) HD3.out
     have HM3:Hid (Mpi (w3.setCell ⟨w.heap.size + 1 + 1,i,none⟩ (.slice a3 us3.length c3)) (w.heap.size + 1) (m + 1) (w.heap.size + 1 + 1 + 1) (D.put (.int .i64 p) (.held (.slice a2 us.length c2'))) u d lo hi):=(HMW.out.keep k3).beside (gb_setc w3 (w.heap.size + 1 + 1) i _) (by omega) (by omega)
     have HB3:Hid (Below w.heap.size w (w3.setCell ⟨w.heap.size + 1 + 1,i,none⟩ (.slice a3 us3.length c3))):=bs (bt hbW k3) (by dsimp only; omega) _
     have HZ3:Hid ((zs.set i (.slice a3 us3.length c3,us3)).length=ns.length∧rds ((zs.set i (.slice a3 us3.length c3,us3)).take (i + 1))=(ns.take (i + 1)).map (fun n=>(hideT u d lo hi n).1)∧∀ x∈ns.take (i + 1),(hideT u d lo hi x).2=0):=by
      have hx:=HHV.out
      rw [← HPX.out,hide_plc] at hx
      refine ⟨by simp [HZ.out.1],?_,?_⟩
      ·rw [take_set_succ _ (by rw [HZ.out.1]; exact h1),List.take_add_one,HX1.out]
       have h5:=HZ.out.2.1
       simp only [rds,List.map_append] at h5 ⊢
       rw [h5]
       simp [hx,k2]
      ·intro y hy
       rw [List.take_add_one,HX1.out] at hy
       rcases List.mem_append.1 hy with h6 | h6
       ·exact HZ.out.2.2 y h6
       ·obtain rfl:y=x:=by simpa using h6
        rw [hx]
     have hs4:w.heap.size + 1 + 1 + 1≤(w3.setCell ⟨w.heap.size + 1 + 1,i,none⟩ (.slice a3 us3.length c3)).heap.size:=by simp; omega
     have e1:(w3.setCell ⟨w.heap.size + 1 + 1,i,none⟩ (.slice a3 us3.length c3)).cell? ⟨w.heap.size,0,none⟩=some (.int .i64 u):=by rw [sc_other (by simp),(bcell k3).1 _ _ (by omega)]; exact d1
     have e2:(w3.setCell ⟨w.heap.size + 1 + 1,i,none⟩ (.slice a3 us3.length c3)).cell? ⟨w.heap.size,1,none⟩=some (.int .i64 d):=by rw [sc_other (by simp),(bcell k3).1 _ _ (by omega)]; exact d2
     clear k1 k3 k4 kcp hrun2 d1 d2
     go_wp2
     go_roundw
     case rel=>exact ⟨i + 1,_,_,_,by go_num,h1,HZ3,HR3,HM3,by omega,HB3.out,hs4,e1,e2⟩
     case measure=>simp [intOf]; omega
    ·have hne1:(e1 == 0)=false:=by simpa using he1
     have hne2:(e1 != 0)=true:=by simpa using he1
     have hh:=HH.out
     rw [← HPX.out,hide_plc] at hh
     have hE:=hids_err HZ.out.2.2 HX1.out (e:=e1) (by rw [hh]) he1
     rw [hE] at HR
     have hR':=HR.out
     simp only [Prod.mk.injEq] at hR'
     obtain ⟨rfl,rfl⟩:=hR'
     clear k1 k2 k4 kh hrun1 ki hE hh HH HVV0
     go_wp2
     exact bodyPost_ret (v:=.tuple #[.slice none 0 0,.int .i64 e1]) (by simp [results,Tryz.results28,go_sem]) rfl ⟨_,[],rfl,rfl,.inl ⟨rfl,rfl⟩,hbw2⟩
   ·have HMW:Hid (Mpi wr (w.heap.size + 1) m (w.heap.size + 1 + 1 + 1) D u d lo hi):=HMp
    have HRW:Hid (RowD wr (w.heap.size + 1 + 1) (w.heap.size + 1 + 1 + 1) zs):=HRw
    have HDV:Hid (Dd wr (w.heap.size + 1 + 1 + 1) vv us):=hdd
    have HHV:Hid (hideT u d lo hi p=(rd us,0)):=hhp
    have HVV:Hid (D.atKey (.int .i64 p) (.held (.slice none 0 0))=.held vv):=HVV0
    have hbW:=hbl
    have d1:=c1
    have d2:=c2
    obtain ⟨gs,go,vc',rfl⟩:∃ g o c,vv=.slice (some ⟨g,o,none⟩) us.length c:=by
     rcases hdd.1 with ⟨_,h⟩ | ⟨b,o,c,h,_⟩
     ·exact absurd h hne
     ·exact ⟨b,o,c,h⟩
    clear hdd hhp HMp HRw HVV0
    go_wp2_with fail
    refine ki.mono ?_
    rintro e w1 ⟨rfl,rfl⟩
    have hrun2:=HMW.out.look hp HVV.out
    have kcp:=ncopied_fr w1.heap.size _ us w1 (Nat.le_refl _) HDV.out.1.parts
    obtain ⟨z0,hz0⟩:=get_lt (l:=zs) (i:=i) (by rw [HZ.out.1]; exact h1)
    have r1:=HRW.out.cell i z0 hz0
    have r2:=HRW.out.thaw i (by rw [HZ.out.1]; exact h1)
    have hsW:=HRW.out.lt
    obtain ⟨z1,hz1'⟩:∃ z1,z0.1=z1:=⟨_,rfl⟩
    rw [hz1'] at r1
    clear hz0 hz1'
    go_wp2_with fail
    refine kcp.mono ?_
    rintro e w3 ⟨v3,us3,rfl,k1,k2,k3,k4⟩
    obtain ⟨a3,c3,hv3⟩:=k1.slice
    subst hv3
    have hs3:=k3.size
    have q1:w3.cell? ⟨w.heap.size + 1 + 1,i,none⟩=some z1:=((bcell k3).1 _ _ hsW).trans r1
    have q2:w3.frozen? ⟨w.heap.size + 1 + 1,i,none⟩=false:=((bcell k3).2 _ _ hsW).trans r2
    have hlW:w.heap.size + 1 + 1 + 1≤w1.heap.size:=by omega
    have HD3:Hid (Dd w3 (w.heap.size + 1 + 1 + 1) (.slice a3 us3.length c3) us3):=(show Dd w3 w1.heap.size (.slice a3 us3.length c3) us3 from ⟨k1,k4⟩).mono hlW
    have HR3:Hid (RowD (w3.setCell ⟨w.heap.size + 1 + 1,i,none⟩ (.slice a3 us3.length c3)) (w.heap.size + 1 + 1) (w.heap.size + 1 + 1 + 1) (zs.set i (.slice a3 us3.length c3,us3))):=(HRW.out.keep k3).set (by rw [HZ.out.1]; exact h1) (by omega) HD3.out
    have HM3:Hid (Mpi (w3.setCell ⟨w.heap.size + 1 + 1,i,none⟩ (.slice a3 us3.length c3)) (w.heap.size + 1) m (w.heap.size + 1 + 1 + 1) D u d lo hi):=(HMW.out.keep k3).beside (gb_setc w3 (w.heap.size + 1 + 1) i _) (by omega) (by omega)
    have HB3:Hid (Below w.heap.size w (w3.setCell ⟨w.heap.size + 1 + 1,i,none⟩ (.slice a3 us3.length c3))):=bs (bt hbW k3) (by dsimp only; omega) _
    have HZ3:Hid ((zs.set i (.slice a3 us3.length c3,us3)).length=ns.length∧rds ((zs.set i (.slice a3 us3.length c3,us3)).take (i + 1))=(ns.take (i + 1)).map (fun n=>(hideT u d lo hi n).1)∧∀ x∈ns.take (i + 1),(hideT u d lo hi x).2=0):=by
     have hx:=HHV.out
     rw [← HPX.out,hide_plc] at hx
     refine ⟨by simp [HZ.out.1],?_,?_⟩
     ·rw [take_set_succ _ (by rw [HZ.out.1]; exact h1),List.take_add_one,HX1.out]
      have h5:=HZ.out.2.1
      simp only [rds,List.map_append] at h5 ⊢
      rw [h5]
      simp [hx,k2]
     ·intro y hy
      rw [List.take_add_one,HX1.out] at hy
      rcases List.mem_append.1 hy with h6 | h6
      ·exact HZ.out.2.2 y h6
      ·obtain rfl:y=x:=by simpa using h6
       rw [hx]
    have hs4:w.heap.size + 1 + 1 + 1≤(w3.setCell ⟨w.heap.size + 1 + 1,i,none⟩ (.slice a3 us3.length c3)).heap.size:=by simp; omega
    have e1:(w3.setCell ⟨w.heap.size + 1 + 1,i,none⟩ (.slice a3 us3.length c3)).cell? ⟨w.heap.size,0,none⟩=some (.int .i64 u):=by rw [sc_other (by simp),(bcell k3).1 _ _ (by omega)]; exact d1
    have e2:(w3.setCell ⟨w.heap.size + 1 + 1,i,none⟩ (.slice a3 us3.length c3)).cell? ⟨w.heap.size,1,none⟩=some (.int .i64 d):=by rw [sc_other (by simp),(bcell k3).1 _ _ (by omega)]; exact d2
    clear k1 k3 k4 kcp hrun2 d1 d2 hrun1 ki
    go_wp2
    go_roundw
    case rel=>exact ⟨i + 1,_,_,_,by go_num,h1,HZ3,HR3,HM3,by omega,HB3.out,hs4,e1,e2⟩
    case measure=>simp [intOf]; omega
  ·have hall:∀ n∈ns,(hideT u d lo hi n).2=0:=by have:=HZ.out.2.2; rwa [List.take_of_length_le (by omega)] at this
   have hE:=hids_ok hall
   rw [hE] at HR
   have hR':=HR.out
   simp only [Prod.mk.injEq] at hR'
   obtain ⟨rfl,rfl⟩:=hR'
   have HZZ:Hid (HidsP w (ns.map fun n=>(hideT u d lo hi n).1) 0 (.returned (.tuple #[.slice (some ⟨w.heap.size + 1 + 1,0,none⟩) ns.length ns.length,.int .i64 0])) wr):=by
    refine ⟨_,zs,rfl,?_,.inr ⟨_,ns.length,_,by rw [HZ.out.1],by rw [HZ.out.1]; exact Nat.le_refl _,by rw [HZ.out.1]; exact hlen,HRw.out,by omega,by omega⟩,hbl⟩
    have h5:=HZ.out.2.1
    rwa [List.take_of_length_le (by rw [HZ.out.1]; omega),List.take_of_length_le (by omega)] at h5
   clear HRw HMp HR hE
   go_wp2
   exact bodyPost_ret (v:=.tuple #[.slice (some ⟨w.heap.size + 1 + 1,0,none⟩) ns.length ns.length,.int .i64 0]) (by simp [results,Tryz.results28,go_sem]) rfl HZZ.out
theorem Ints.away {w:World} {B nb m:Nat} {s:Value} {xs:List Int} (h:Ints w B nb s xs) (hx:xs≠[]→∀ b o sp n c,s=.slice (some ⟨b,o,sp⟩) n c→b≠m):Ints w B m s xs:=by
 obtain ⟨a,c,hv,hc,hl,hy⟩:=h
 refine ⟨a,c,hv,hc,hl,fun hne=>?_⟩
 obtain ⟨b,o,ha,hb,_,hcell⟩:=hy hne
 exact ⟨b,o,ha,hb,hx hne b o none xs.length c (by rw [hv,ha]),hcell⟩
def PartsN (w:World) (B nb:Nat) (v:Value) (ts:List Tr):Prop :=
 ∃ a c,v=.slice a ts.length c∧ts.length≤c∧ts.length≤1073741824∧(∀ t∈ts,Ints w B nb t.1 t.2.1) ∧
  (ts≠[]→∃ b o,a=some ⟨b,o,none⟩∧b < B∧b≠nb∧Cells w b o ts)
theorem PartsN.parts {w:World} {nb:Nat} {v:Value} {ts:List Tr} (h:PartsN w w.heap.size nb v ts):Parts w w.heap.size v ts:=by
 obtain ⟨a,c,hv,hc,hl,hi,hx⟩:=h
 refine ⟨a,c,hv,hc,hl,fun t ht=>(hi t ht).mono (Nat.le_refl _) (.inr (Nat.le_refl _)),fun hne=>?_⟩
 obtain ⟨b,o,ha,hb,_,hcell⟩:=hx hne
 exact ⟨b,o,ha,hb,hcell⟩
theorem PartsN.at2 {w w':World} {nb:Nat} {v:Value} {ts:List Tr} (h:PartsN w w.heap.size nb v ts) (hb:Below w.heap.size w w'):PartsN w' w'.heap.size nb v ts:=by
 obtain ⟨a,c,hv,hc,hl,hi,hx⟩:=h
 refine ⟨a,c,hv,hc,hl,fun t ht=>(hi t ht).at2 hb,fun hne=>?_⟩
 obtain ⟨b,o,ha,hB,hn,hcell⟩:=hx hne
 exact ⟨b,o,ha,Nat.lt_of_lt_of_le hB hb.size,hn,hcell.keep hb hB⟩
theorem PartsN.grow {W w':World} {m m':Nat} {v:Value} {ts:List Tr} {row:Option Nat} (h:PartsN W W.heap.size m v ts) (hg:W.grownBy w' row) (hrow:∀ g,row=some g→m=g) (hm:m' = m∨W.heap.size≤m'):PartsN w' w'.heap.size m' v ts:=by
 obtain ⟨a,c,hv,hc,hl,hi,hx⟩:=h
 refine ⟨a,c,hv,hc,hl,fun t ht=>(hi t ht).grow hg (Nat.le_refl _) hrow hm,fun hne=>?_⟩
 obtain ⟨b,o,ha,hb,hn,hcell⟩:=hx hne
 have:=hg.size
 refine ⟨b,o,ha,by omega,by rcases hm with h | h <;> omega,fun i t ht=>?_⟩
 have hne':some b≠row:=fun e=>hn (hrow b e.symm).symm
 exact ⟨hg.cell (hcell i t ht).1 hne',hg.cell (hcell i t ht).2 hne'⟩
theorem own_away {w:World} {lo m:Nat} {v:Value} {ts:List Tr} (h:OwnN w lo v ts) (hf:Frs lo ts) (hm:m < lo):PartsN w w.heap.size m v ts:=by
 rcases h with ⟨rfl,rfl⟩ | ⟨b,o,c,rfl,hc,hl,hlo,hr,hi⟩
 ·exact ⟨none,0,rfl,Nat.le_refl _,by simp,by simp,fun h=>absurd rfl h⟩
 ·refine ⟨_,c,rfl,hc,hl,fun t ht=>(hi t ht).away fun hne b o sp n c e=>?_,fun _=>⟨b,o,rfl,hr.lt,by omega,hr.cells⟩⟩
  have:=hf t ht hne b o sp n c e
  omega
theorem own_or2 {v:Value} {lo n:Nat} (h:∀ g,v.ownBlock=some g→lo≤g∧g < n) (hn:lo < n):∃ m,lo≤m∧m < n∧∀ g,v.ownBlock=some g→m=g:=by
 cases e:v.ownBlock with
 | none=>exact ⟨lo,Nat.le_refl _,hn,fun g e=>by cases e⟩
 | some g=>exact ⟨g,(h g e).1,(h g e).2,fun g' e=>by simpa using e⟩
abbrev Dl:=Value × List Tr
def Dss (w:World) (B:Nat) (v:Value) (ns:List Dl):Prop :=
 ∃ a c,v=.slice a ns.length c∧ns.length≤c∧ns.length≤1073741824∧(∀ n∈ns,Parts w B n.1 n.2) ∧
  (ns≠[]→∃ b o,a=some ⟨b,o,none⟩∧b < B∧∀ i n,ns[i]? = some n→w.cell? ⟨b,o + i,none⟩=some n.1)
theorem Dss.keep {w w':World} {B:Nat} {v:Value} {ns:List Dl} (h:Dss w B v ns) (hb:Below B w w'):Dss w' B v ns:=by
 obtain ⟨a,c,hv,hc,hl,hi,hx⟩:=h
 refine ⟨a,c,hv,hc,hl,fun t ht=>(hi t ht).keep hb,fun hne=>?_⟩
 obtain ⟨b,o,ha,hB,hcell⟩:=hx hne
 exact ⟨b,o,ha,hB,fun i z hz=>(hb.cell (p:=⟨b,o + i,none⟩) hB).trans (hcell i z hz)⟩
theorem Dss.at {w w':World} {B:Nat} {v:Value} {ns:List Dl} (h:Dss w B v ns) (hB:B≤w.heap.size) (hb:Below w.heap.size w w'):Dss w' B v ns:=h.keep (hb.mono hB)
theorem Dss.get {w wr:World} {B:Nat} {a:Option Addr} {n c:Nat} {ns:List Dl} (hp:Dss w B (.slice a n c) ns) (hB:B≤w.heap.size) (hbl:Below w.heap.size w wr) {i:Nat} (h:i < ns.length) :
  ∃ b o na nc us,a=some ⟨b,o,none⟩∧b < w.heap.size∧ns[i]? = some (.slice na us.length nc,us)∧wr.cell? ⟨b,o + i,none⟩=some (.slice na us.length nc)∧Parts wr B (.slice na us.length nc) us:=by
 obtain ⟨a',c',hv,hc,hl,hi,hx⟩:=hp
 simp only [Value.slice.injEq] at hv
 obtain ⟨rfl,rfl,rfl⟩:=hv
 obtain ⟨b,o,ha,hb,hcell⟩:=hx (ne_of_lt h)
 obtain ⟨⟨s,us⟩,hs⟩:=get_lt h
 have hI:=hi _ (List.mem_of_getElem? hs)
 have hI2:=hI.at hB hbl
 obtain ⟨na,nc,he,_⟩:=hI
 simp only at he
 subst he
 have hlt:b < w.heap.size:=by omega
 exact ⟨b,o,na,nc,us,ha,hlt,hs,(hbl.cell (p:=⟨b,o + i,none⟩) hlt).trans (hcell i _ hs),hI2⟩
theorem Ints.grow2 {W w':World} {m m0:Nat} {s:Value} {xs:List Int} {row:Option Nat} (h:Ints W W.heap.size m s xs) (h0:Ints W W.heap.size m0 s xs) (hg:W.grownBy w' row) (hrow:∀ g,row=some g→m0=g):Ints w' w'.heap.size m s xs:=by
 obtain ⟨a,c,hv,hc,hl,hx⟩:=h
 obtain ⟨a0,c0,hv0,_,_,hx0⟩:=h0
 refine ⟨a,c,hv,hc,hl,fun hne=>?_⟩
 obtain ⟨b,o,ha,hb,hn,hcell⟩:=hx hne
 obtain ⟨b0,o0,ha0,_,hn0,_⟩:=hx0 hne
 rw [hv,ha,ha0] at hv0
 simp only [Value.slice.injEq,Option.some.injEq,Addr.mk.injEq] at hv0
 have hbb:=hv0.1.1
 have:=hg.size
 exact ⟨b,o,ha,by omega,hn,fun i x hi=>hg.cell (hcell i x hi) fun e=>hn0 (by rw [← hbb]; exact (hrow b e.symm).symm)⟩
theorem PartsN.grow2 {W w':World} {m m0:Nat} {v:Value} {ts:List Tr} {row:Option Nat} (h:PartsN W W.heap.size m v ts) (h0:PartsN W W.heap.size m0 v ts) (hg:W.grownBy w' row) (hrow:∀ g,row=some g→m0=g):PartsN w' w'.heap.size m v ts:=by
 obtain ⟨a,c,hv,hc,hl,hi,hx⟩:=h
 obtain ⟨a0,c0,hv0,_,_,hi0,hx0⟩:=h0
 refine ⟨a,c,hv,hc,hl,fun t ht=>(hi t ht).grow2 (hi0 t ht) hg hrow,fun hne=>?_⟩
 obtain ⟨b,o,ha,hb,hn,hcell⟩:=hx hne
 obtain ⟨b0,o0,ha0,_,hn0,_⟩:=hx0 hne
 rw [hv,ha,ha0] at hv0
 simp only [Value.slice.injEq,Option.some.injEq,Addr.mk.injEq] at hv0
 have hbb:=hv0.1.1
 have hne':some b≠row:=fun e=>hn0 (by rw [← hbb]; exact (hrow b e.symm).symm)
 have:=hg.size
 exact ⟨b,o,ha,by omega,hn,fun i t ht=>⟨hg.cell (hcell i t ht).1 hne',hg.cell (hcell i t ht).2 hne'⟩⟩
def DssA (w:World) (h:Nat) (v:Value) (zs:List Dz):Prop :=
 ∃ a c,v=.slice a zs.length c∧zs.length≤c∧zs.length≤1073741824∧(∀ z∈zs,∀ m,m < h→PartsN w w.heap.size m z.1 z.2) ∧
  (zs≠[]→∃ b o,a=some ⟨b,o,none⟩∧h≤b∧b < w.heap.size∧∀ i z,zs[i]? = some z→w.cell? ⟨b,o + i,none⟩=some z.1)
theorem DssA.nil (w:World) (h:Nat):DssA w h (.slice none 0 0) []:=⟨none,0,rfl,Nat.le_refl _,by simp,by simp,fun h=>absurd rfl h⟩
theorem DssA.keep {w w':World} {h:Nat} {v:Value} {zs:List Dz} (d:DssA w h v zs) (hb:Below w.heap.size w w'):DssA w' h v zs:=by
 obtain ⟨a,c,hv,hc,hl,hi,hx⟩:=d
 refine ⟨a,c,hv,hc,hl,fun z hz m hm=>(hi z hz m hm).at2 hb,fun hne=>?_⟩
 obtain ⟨b,o,ha,h1,h2,hcell⟩:=hx hne
 exact ⟨b,o,ha,h1,Nat.lt_of_lt_of_le h2 hb.size,fun i z hz=>(hb.cell (p:=⟨b,o + i,none⟩) h2).trans (hcell i z hz)⟩
theorem DssA.mono {w:World} {h h':Nat} {v:Value} {zs:List Dz} (d:DssA w h v zs) (hl:h'≤h):DssA w h' v zs:=by
 obtain ⟨a,c,hv,hc,hl',hi,hx⟩:=d
 exact ⟨a,c,hv,hc,hl',fun z hz m hm=>hi z hz m (by omega),fun hne=>let ⟨b,o,ha,h1,h2⟩:=hx hne; ⟨b,o,ha,by omega,h2⟩⟩
theorem DssA.dss {w:World} {h:Nat} {v:Value} {zs:List Dz} (d:DssA w h v zs) (h0:0 < h):Dss w w.heap.size v zs:=by
 obtain ⟨a,c,hv,hc,hl,hi,hx⟩:=d
 exact ⟨a,c,hv,hc,hl,fun z hz=>(hi z hz 0 h0).parts,fun hne=>let ⟨b,o,ha,_,h2,h3⟩:=hx hne; ⟨b,o,ha,h2,h3⟩⟩
theorem DssA.set {w:World} {h g k:Nat} {v x:Value} {zs:List Dz} (d:DssA w h v zs) (hg:g < h):DssA (w.setCell ⟨g,k,none⟩ x) h v zs:=by
 obtain ⟨a,c,hv,hc,hl,hi,hx⟩:=d
 refine ⟨a,c,hv,hc,hl,fun z hz m hm=>(hi z hz m hm).grow2 (hi z hz g hg) (gb_setc w g k x) (fun g' e=>by simpa using e),fun hne=>?_⟩
 obtain ⟨b,o,ha,h1,h2,hcell⟩:=hx hne
 exact ⟨b,o,ha,h1,by simpa using h2,fun i z hz=>(gb_setc w g k x).cell (hcell i z hz) (by simp; omega)⟩
theorem DosN.dssA {w:World} {h:Nat} {v:Value} {zs:List Dz} (d:DosN w h v zs):DssA w h v zs:=by
 rcases d with ⟨rfl,rfl⟩ | ⟨g,cap,lo,rfl,h1,h2,hr,hg,hlo⟩
 ·exact DssA.nil w h
 ·exact ⟨_,cap,rfl,h1,by omega,fun z hz m hm=>own_away (hr.el z hz).1 (hr.el z hz).2 (by omega),fun _=>⟨g,0,rfl,hg,hr.lt,fun i z hz=>by rw [Nat.zero_add]; exact hr.cell i z hz⟩⟩
theorem rds_len (zs:List Dz):(rds zs).length=zs.length:=by simp [rds]
set_option maxHeartbeats 1000000 in
set_option maxRecDepth 100000 in
theorem grow_any (n:Nat) (hn:n≤1073741824) (w:World) :
  Calls Tryz.prog 201 #[.slice none 0 0,.int .i64 (n:Int)] w fun e w'=>∃ v',e=.returned v'∧w'.ownsRow w.heap.size 3 1 v' 0 []∧Below w.heap.size w w':=by
 obtain ⟨i0,hi,hz0,hz1,hz2⟩:=info_parts info3
 by_cases h0:n=0
 ·subst h0
  go_enter Tryz.func201,Tryz.ntmps201
  go_wp2
  go_ret
  exact ⟨_,rfl,⟨rfl,.inl ⟨rfl,rfl⟩⟩,Below.refl _ _⟩
 ·have hrz:=fun ty=>Lib.run_append_nil_zeros (P:=Tryz.prog) w 65 3 ty 3 i0 (.int .i64 0) .i64 .i64 Tryz.underlying65 Tryz.underlying3 hi hz0 n (by omega) (by omega) (by omega) (by rw [hz2]; omega)
  have hGn:n≤grownCap w n 0 3:=grownCap_ge w _ _ _
  have hGm:grownCap w n 0 3≤maxLen:=grownCap_le_maxLen w n 0 3 (by unfold maxLen; omega)
  obtain ⟨G,hG⟩:∃ G,grownCap w n 0 3=G:=⟨_,rfl⟩
  rw [hG] at hrz hGn hGm
  obtain ⟨cur,hcur⟩:∃ cur,Builtin.zeroCells (Value.int .i64 0).cells n ++ Builtin.zeroCells (Value.int .i64 0).cells (G - n)=cur:=⟨_,rfl⟩
  rw [hcur] at hrz
  have hcs:cur.size=G * 1:=by rw [← hcur]; simp [Builtin.zeroCells,Value.cells]; omega
  have HO:Hid ((w.drew.alloc (.cells cur 3)).ownsRow w.heap.size 3 1 (.slice (some ⟨w.heap.size,0,none⟩) 0 G) 0 []) :=
   ⟨rfl,.inr ⟨w.heap.size,G,cur,rfl,Nat.le_refl _,World.alloc_heap_new w.drew _,Nat.zero_le _,hGm,hcs,by simp⟩⟩
  have h1:¬ ((n:Int) < 0):=by omega
  have h4:(0:Int) < (n:Int):=by omega
  have hG63:G≤9223372036854775807:=by unfold maxLen at hGm; omega
  clear hG hcur
  go_enter Tryz.func201,Tryz.ntmps201
  go_wp2_with (at_builtin; refine Lib.wpList_append_run _ rfl _ _ _ _ rfl _ _ rfl rfl _ _ (hrz _) ?_)
  go_ret
  exact ⟨_,rfl,HO.out,bal (Below.refl _ _).drew _⟩
theorem app0 (w:World) (ty:TypeId) (base a:Option Addr) (sLen sCap c:Nat) (hle:sLen≤sCap) (i0:TypeInfo) (hi:Tryz.prog.info? 3=some i0) (hz1:i0.size=1):(Builtin.append_ #[65,65] ty #[.slice base sLen sCap,.slice a 0 c]).run Tryz.prog w=.ok (.slice base sLen sCap) w:=by
 refine run_append_nothing (P:=Tryz.prog) w 65 65 ty 3 i0 Tryz.underlying65 hi base sLen sCap hle (.slice a 0 c) ?_
 rw [hz1]
 have key:∀ W:World,(Builtin.firstCells 1 0 (.slice a 0 c)).run Tryz.prog W=.ok ([]:List Value).toArray W:=by
  intro W
  cases a with
  | none=>exact run_firstCells_none W 1 0 0 c
  | some ad=>exact run_firstCells_some W 1 0 ad 0 c [] rfl (by simp)
 exact ⟨.inl ⟨3,Tryz.underlying65⟩,fun w'=>by simp [Builtin.lenOf],key w,key w.drew,rfl,by simp⟩
theorem owns_le {w:World} {base:Nat} {e:TypeId} {size:Nat} {a:Option Addr} {n c:Nat} {xs:List Value} (h:w.ownsRow base e size (.slice a n c) n xs):n≤c:=by
 rcases h.2 with ⟨h1,h2⟩ | ⟨g,cap,cur,h1,_,_,h2,_⟩
 ·simp only [Value.slice.injEq] at h1; omega
 ·simp only [Value.slice.injEq] at h1; omega
def cat (zs:List Vl):List Int:=zs.flatMap (·.2)
theorem cat_take {zs:List Vl} {i:Nat} {z:Vl} (h:zs[i]? = some z):cat (zs.take (i + 1))=cat (zs.take i) ++ z.2:=by
 unfold cat
 rw [List.take_add_one,h]
 simp
set_option maxHeartbeats 2000000 in
set_option maxRecDepth 100000 in
theorem concat_any (C:Nat) (v:Value) (zs:List Vl) (w:World) (hC:C≤w.heap.size) (hp:Lsts w C v zs) (hz:zs.length≤1073741824) (hs:(cat zs).length≤1073741824) :
  Calls Tryz.prog 164 #[v] w fun e w'=>∃ v',e=.returned v'∧(∀ m,m < w.heap.size→Ints w' w'.heap.size m v' (cat zs))∧Below w.heap.size w w':=by
 have HP:Hid (Lsts w C v zs):=hp
 obtain ⟨a,c,rfl,hcc,_,_⟩:=hp
 obtain ⟨i0,hi,hz0,hz1,hz2⟩:=info_parts info3
 have hlen:∀ i,(cat (zs.take i)).length≤1073741824:=by
  intro i
  have e:cat zs=cat (zs.take i) ++ cat (zs.drop i):=by unfold cat; rw [← List.flatMap_append,List.take_append_drop]
  rw [e,List.length_append] at hs
  omega
 have HLN:Hid (∀ i,(cat (zs.take i)).length≤1073741824):=hlen
 clear hlen
 go_enter Tryz.func164,Tryz.ntmps164
 go_wp2
 go_loopw [3,11] (fun s u wr=>∃ i n:Nat,u=.int .i64 (i:Int)∧s=.int .i64 (n:Int)∧i≤zs.length∧n≤1073741824∧Hid ((cat (zs.take i)).length=n)∧Below w.heap.size w wr) (fun _ u _=>zs.length - (intOf u).toNat)
 case atStart=>exact ⟨0,0,rfl,rfl,Nat.zero_le _,by omega,by simp [Hid,cat],Below.refl _ _⟩
 case round =>
  obtain ⟨i,n,rfl,rfl,hit,hn,HN,hbl⟩:=hrel
  by_cases h1:i < zs.length
  ·obtain ⟨b,o,sa,sc,xs,rfl,hb,hsg,d1,hI⟩:=HP.out.get hC hbl h1
   have hn2:n + xs.length≤1073741824:=by
    have h5:=HLN.out (i + 1)
    rw [cat_take hsg,List.length_append,HN.out] at h5
    exact h5
   have HN2:Hid ((cat (zs.take (i + 1))).length=n + xs.length):=by rw [Hid,cat_take hsg,List.length_append,HN.out]
   have hneg:¬ ((n:Int) + (xs.length:Int) < 0):=by omega
   clear hsg hI
   go_wp2
   go_roundw
   case rel=>exact ⟨i + 1,n + xs.length,by go_num,by go_num,h1,hn2,HN2,hbl⟩
   case measure=>simp [intOf]; omega
  ·have kg:=grow_any n hn wr
   go_wp2_with fail
   refine kg.mono ?_
   rintro e w1 ⟨v1,rfl,ho1,hb1⟩
   obtain ⟨va,vc,rfl⟩:=owns_slice ho1
   have b1:Below w.heap.size w w1:=bt hbl hb1
   have HO1:Hid (w1.ownsRow w.heap.size 3 1 (.slice va 0 vc) 0 []):=⟨ho1.1,ho1.2.imp id fun ⟨g,cap,cur,h1,h2,h3⟩=>⟨g,cap,cur,h1,Nat.le_trans hbl.size h2,h3⟩⟩
   clear kg ho1
   go_wp2
   go_loopw [6,27] (fun pv u wq=>∃ (j:Nat),u=.int .i64 (j:Int)∧j≤zs.length∧Hid (wq.ownsRow w.heap.size 3 1 pv (cat (zs.take j)).length ((cat (zs.take j)).map (Value.int .i64)))∧Below w.heap.size w wq) (fun _ u _=>zs.length - (intOf u).toNat)
   case atStart=>exact ⟨0,rfl,Nat.zero_le _,by simpa [Hid,cat] using HO1.out,b1⟩
   case round =>
    obtain ⟨j,rfl,hjt,HR,hbq⟩:=hrel
    have hqs:=hbq.size
    obtain ⟨pa,pc,rfl⟩:=owns_slice HR.out
    obtain ⟨P,hP⟩:∃ P,(cat (zs.take j)).length=P:=⟨_,rfl⟩
    rw [hP] at HR ⊢
    have HPB:Hid (P≤1073741824∧(cat (zs.take j)).length=P):=⟨by rw [← hP]; exact HLN.out j,hP⟩
    clear hP
    by_cases h2:j < zs.length
    ·obtain ⟨b,o,sa,sc,xs,rfl,hb,hsg,d1,hI⟩:=HP.out.get hC hbq h2
     have hn2:P + xs.length≤1073741824:=by
      have h5:=HLN.out (j + 1)
      rw [cat_take hsg,List.length_append,HPB.out.2] at h5
      exact h5
     have HCT:Hid (cat (zs.take (j + 1))=cat (zs.take j) ++ xs):=cat_take hsg
     by_cases hx:xs=[]
     ·subst hx
      have hle:=owns_le HR.out
      have hap:=fun (W:World) ty=>app0 W ty pa sa P pc sc hle i0 hi hz1
      have HR2:Hid (wr.ownsRow w.heap.size 3 1 (.slice pa P pc) (cat (zs.take (j + 1))).length ((cat (zs.take (j + 1))).map (Value.int .i64))):=by rw [Hid,HCT.out,List.append_nil,HPB.out.2]; exact HR.out
      clear hsg hI HR hle
      go_wp2_with (at_builtin; refine Lib.wpList_append_run _ rfl _ _ _ _ rfl _ _ rfl rfl _ _ (hap _ _) ?_)
      go_roundw
      case rel=>exact ⟨j + 1,by go_num,h2,HR2,hbq⟩
      case measure=>simp [intOf]; omega
     ·obtain ⟨sa',sc',hv,hscc,_,hxx⟩:=hI
      simp only [Value.slice.injEq] at hv
      obtain ⟨rfl,_,rfl⟩:=hv
      obtain ⟨b',o',rfl,hb',_,hcell⟩:=hxx hx
      have HCE:Hid (∀ m u,(xs.map (Value.int .i64))[m]? = some u→wr.cell? ((⟨b',o',none⟩:Addr).add m)=some u):=by
       intro m u hm
       have hlt:m < xs.length:=by have:=(List.getElem?_eq_some_iff.1 hm).1; simpa using this
       obtain ⟨x,hx2⟩:=get_lt hlt
       rw [Addr.add_lit,hcell m x hx2]
       simpa [hx2] using hm
      clear hsg hxx hcell
      go_wp2_with (at_builtin; refine wpList_append_own _ rfl _ _ 65 rfl w.heap.size 3 i0 (.int .i64 0) 1 8 Tryz.underlying65 hi hz0 hz1 hz2 rfl (by decide) _ _ _ rfl HR.out ⟨b',o',none⟩ xs.length sc (xs.map (Value.int .i64)) rfl ?q1 ?q2 ?q3 ?q4 ?q5 ?q6 ?_)
      case q1=>simp
      case q2=>exact HCE.out
      case q3=>intro u hu; obtain ⟨x,_,rfl⟩:=List.mem_map.1 hu; rfl
      case q4=>unfold maxLen; omega
      case q5=>omega
      case q6=>omega
      intro v2 w2 hown hgrow _
      have HR2:Hid (w2.ownsRow w.heap.size 3 1 v2 (cat (zs.take (j + 1))).length ((cat (zs.take (j + 1))).map (Value.int .i64))):=by
       rw [Hid,HCT.out,List.length_append,HPB.out.2,List.map_append]; exact hown
      have B2:Below w.heap.size w w2:=hbq.grown hgrow hqs (owns_block HR.out)
      obtain ⟨a2,c2,hv2⟩:=owns_slice hown
      subst hv2
      clear hown hgrow HR
      go_wp2
      go_roundw
      case rel=>exact ⟨j + 1,by go_num,h2,HR2,B2⟩
      case measure=>simp [intOf]; omega
    ·have htk:zs.take j=zs:=List.take_of_length_le (by omega)
     have HF:Hid (∀ m,m < w.heap.size→Ints wr wr.heap.size m (.slice pa P pc) (cat zs)):=by
      intro m hm
      have h5:=HR.out
      rw [htk] at h5
      have h6:=HPB.out.2
      rw [htk] at h6
      exact ints_of_owns h6.symm hs h5 hm
     clear htk HR
     go_wp2
     go_ret
     exact ⟨_,rfl,HF.out,hbq⟩
end Go.Proofs.YtlndlpjadajelaaGreat

import Derived.Test.YtlndlpjadajelaaGreatQq16
import Derived.Shelf.SlIterI.Nil
import Derived.Shelf.SlIter.Nil
import Derived.Shelf.SortM.Plain
import Derived.Shelf.SortM.SortNone
import Derived.Shelf.SlMaps.Clone
import Derived.Shelf.Pu.Clone
import Derived.Shelf.SlGeneric
import Derived.Ground.GgzProg
import Derived.Ground.SlgmProg
import Derived.Ground.SlmcProg
import Derived.Ground.MpProg
import Derived.Test.YtlndlpjadajelaaGreatProg
namespace Go.Proofs.YtlndlpjadajelaaGreat
open Go.RowKit Go.Shelf Go.Proofs.YtlndlpjadajelaaGreat.Ds
def pre (x:List Int) (b:List Pt):List Pt:=b.map fun q=>(x ++ q.1,q.2)
def behT (x:List Int) (b:List Pt):List Pt × Int:=if (pre x b).all okP then (pre x b,0) else ([],3)
theorem lsts_two (w:World) (C:Nat) (u v:Value) (xs ys:List Int) (hC:C≤w.heap.size) (hu:Ints w C C u xs) (hv:Ints w C C v ys) :
  Lsts (w.alloc (.cells #[u,v] 65)) (w.heap.size + 1) (.slice (some ⟨w.heap.size,0,none⟩) 2 2) [(u,xs),(v,ys)]:=by
 refine ⟨_,2,rfl,by simp,by simp,fun z hz=>?_,fun _=>⟨w.heap.size,0,rfl,by omega,fun i z hi=>?_⟩⟩
 ·simp at hz
  rcases hz with rfl | rfl
  ·exact (hu.at hC (ba _ _)).mono (by omega) (.inr (by omega))
  ·exact (hv.at hC (ba _ _)).mono (by omega) (.inr (by omega))
 ·match i,hi with
  | 0,hi=>simp at hi; subst hi; simp [go_sem]
  | 1,hi=>simp at hi; subst hi; simp [go_sem]
def Bhd (x:List Int) (b:List Pt) (us:List Tr) (i:Nat):Prop:=us.length=b.length∧(rd us).take i=(pre x b).take i∧((pre x b).take i).all okP=true
theorem Bhd.step {x:List Int} {b:List Pt} {us:List Tr} {i:Nat} {y:List Int} {k:Int} {s:Value} (h:Bhd x b us i) (hp:b[i]? = some (y,k)) (hk:okP (x ++ y,k)=true):Bhd x b (us.set i (s,x ++ y,k)) (i + 1):=by
 obtain ⟨h1,h2,h3⟩:=h
 have hi:=(List.getElem?_eq_some_iff.1 hp).1
 have hg:(pre x b)[i]? = some (x ++ y,k):=by simp [pre,hp]
 refine ⟨by simp [h1],?_,?_⟩
 ·rw [rd_set,take_set_succ _ (by rw [rd_len]; omega),h2,List.take_add_one,hg]; rfl
 ·rw [List.take_add_one,hg,List.all_append,h3]; simp [hk]
set_option maxHeartbeats 2000000 in
set_option maxRecDepth 100000 in
theorem behind_any (C D:Nat) (u v:Value) (xs:List Int) (ts:List Tr) (w:World) (hC:C≤w.heap.size) (hD:D≤w.heap.size) (hx:Ints w C C u xs) (hp:Parts w D v ts) (hxl:xs.length≤16) (hd:Dis (rd ts)) (l:List Pt) (er:Int) (hr:behT xs (rd ts)=(l,er)) :
  Calls Tryz.prog 100 #[u,v] w fun e w'=>∃ v' us,e=.returned (.tuple #[v',.int .i64 er])∧rd us=l∧OwnN w' w.heap.size v' us∧Below w.heap.size w w'∧Frs w.heap.size us:=by
 have HP:Hid (Parts w D v ts):=hp
 have HX:Hid (Ints w C C u xs):=hx
 have HR:Hid (behT xs (rd ts)=(l,er)∧Dis (rd ts)):=⟨hr,hd⟩
 obtain ⟨a,c,rfl,hc,hl,_⟩:=hp
 obtain ⟨xa,xc,rfl,_⟩:=hx
 obtain ⟨i0,hi,hz0,hz1,hz2⟩:=info_parts info32
 have hmk:∀ u:World,(Instr.makeSlice 44 (.int .i64 (ts.length:Int)) (.int .i64 (ts.length:Int))).run Tryz.prog u =
   .ok (.slice (some ⟨u.heap.size,0,none⟩) ts.length ts.length) (u.alloc (.cells (madeCells #[.slice none 0 0,.int .i64 0] (ts.length * 2)) 82)):=fun u=>by
  have h:=run_make (P:=Tryz.prog) u 44 82 i0 (.agg #[.slice none 0 0,.int .i64 0]) Tryz.underlying44 hi hz0 .i64 .i64 (ts.length:Int) (ts.length:Int) (by omega) (Int.le_refl _) (by rw [hz2]; omega) (by omega)
  rw [Int.toNat_natCast] at h
  simpa [hz1,Value.cells] using h
 clear hr hd
 go_enter Tryz.func100,Tryz.ntmps100
 go_wp2
 go_loopw [14] (fun s wr=>∃ (i:Nat) (us:List Tr),s=.int .i64 (i:Int)∧i≤ts.length∧Hid (Bhd xs (rd ts) us i)∧Row wr w.heap.size 0 us∧(∀ t∈us,Ints wr wr.heap.size w.heap.size t.1 t.2.1)∧Below w.heap.size w wr∧Hid (Frs w.heap.size us)) (fun s _=>ts.length - (intOf s).toNat)
 case atStart =>
  refine ⟨0,List.replicate ts.length no,rfl,Nat.zero_le _,⟨by simp [rd],by simp,by simp⟩,row_made _ _,fun t ht=>?_,ba _ _,fun t ht hne=>?_⟩
  ·rw [List.eq_of_mem_replicate ht]
   exact ints_nil _ _ _
  ·rw [List.eq_of_mem_replicate ht] at hne
   exact absurd rfl hne
 case round =>
  obtain ⟨i,us,rfl,hit,HT,hrow,hI,hbl,HFR⟩:=hrel
  have hul:us.length=ts.length:=by have:=HT.out.1; rw [rd_len] at this; exact this
  by_cases h1:i < ts.length
  ·obtain ⟨b,o,sa,sc,ys,k,rfl,hb,hs,c1,c2,hIx⟩:=HP.out.get hD hbl h1
   have HS:Hid ((rd ts)[i]? = some (ys,k)):=rd_get hs
   have hyl:ys.length≤16:=by
    have h5:=dis_okO HR.out.2 (List.mem_of_getElem? HS.out)
    simp [okO] at h5
    exact h5.1
   obtain ⟨t0,ht0⟩:=get_lt (l:=us) (i:=i) (by omega)
   have r1:=hrow.cells i t0 ht0
   have r2:=hrow.thaw (i * 2) (by omega)
   have r3:=hrow.thaw (i * 2 + 1) (by omega)
   have HRo:Hid (Row wr w.heap.size 0 us∧us.length=ts.length):=⟨hrow,hul⟩
   have HI:Hid (∀ t∈us,Ints wr wr.heap.size w.heap.size t.1 t.2.1):=hI
   have HIx:Hid (Ints wr D D (.slice sa ys.length sc) ys):=hIx
   have hs1:=hbl.size
   have hlt:=hrow.lt
   obtain ⟨r4,r5⟩:=r1
   simp only [Nat.zero_add] at r2 r3 r4 r5
   obtain ⟨v0,hv0⟩:∃ v0,t0.1=v0:=⟨_,rfl⟩
   rw [hv0] at r4
   clear hs hrow hI hIx ht0 hv0 hul
   have r6:∀ o,(wr.alloc o).cell? ⟨w.heap.size,i * 2,none⟩=some v0:=fun o=>by rw [World.cell?_alloc_lt _ _ _ hlt]; exact r4
   have r7:∀ o,(wr.alloc o).cell? ⟨w.heap.size,i * 2 + 1,none⟩=some (.int .i64 t0.2.2):=fun o=>by rw [World.cell?_alloc_lt _ _ _ hlt]; exact r5
   have r8:∀ o,(wr.alloc o).frozen? ⟨w.heap.size,i * 2,none⟩=false:=fun o=>by rw [(ba wr o).frozen hlt]; exact r2
   have r9:∀ o,(wr.alloc o).frozen? ⟨w.heap.size,i * 2 + 1,none⟩=false:=fun o=>by rw [(ba wr o).frozen hlt]; exact r3
   go_wp2_with fail
   generalize hO:Obj.cells #[Value.slice sa ys.length sc,Value.int IntKind.i64 k] 82=O
   have g1:(wr.alloc O).cell? ⟨wr.heap.size,0,none⟩=some (.slice sa ys.length sc):=by rw [← hO]; simp [go_sem]
   have g2:(wr.alloc O).cell? ⟨wr.heap.size,1,none⟩=some (.int .i64 k):=by rw [← hO]; simp [go_sem]
   have g3:=r6 O
   have g4:=r7 O
   have g5:=r8 O
   have g6:=r9 O
   have g7:(wr.alloc O).heap.size=wr.heap.size + 1:=by simp
   obtain ⟨W,hW⟩:∃ W,wr.alloc O=W:=⟨_,rfl⟩
   have HW:Hid (Below wr.heap.size wr W):=hW▸ba wr O
   rw [hW] at g1 g2 g3 g4 g5 g6 g7 ⊢
   clear r2 r3 r4 r5 r6 r7 r8 r9 hO hW
   have HB:Below w.heap.size w W:=bt hbl HW.out
   have ne1:¬ w.heap.size=wr.heap.size:=by omega
   have ne2:¬ wr.heap.size=w.heap.size:=by omega
   have lw1:w.heap.size < W.heap.size:=by omega
   have lw2:wr.heap.size < W.heap.size:=by omega
   have z1:(0:Int)≤(i:Int):=by omega
   have z2:(i:Int) < (ts.length:Int):=by omega
   obtain ⟨WA,hWA0⟩:∃ WA,(W.alloc (.cells #[.slice xa xs.length xc,.slice sa ys.length sc] 65)).drew=WA:=⟨_,rfl⟩
   have hWA:Below W.heap.size W WA:=by rw [← hWA0]; exact (bal (Below.refl _ _) _).drew
   have hWAs:WA.heap.size=wr.heap.size + 2:=by rw [← hWA0]; show (W.alloc _).heap.size=_; simp; omega
   have HL2:Hid (Lsts WA (W.heap.size + 1) (.slice (some ⟨wr.heap.size + 1,0,none⟩) 2 2) [(.slice xa xs.length xc,xs),(.slice sa ys.length sc,ys)]):=by
    rw [Hid,← hWA0,← g7]
    exact (lsts_two W W.heap.size _ _ xs ys (Nat.le_refl _) ((HX.out.at hC HB).mono (by omega) (.inr (by omega))) ((HIx.out.at (by omega) HW.out).mono (by omega) (.inr (by omega)))).keep (Below.refl _ _).drew
   have kcat:=concat_any (W.heap.size + 1) (.slice (some ⟨wr.heap.size + 1,0,none⟩) 2 2) [(.slice xa xs.length xc,xs),(.slice sa ys.length sc,ys)] WA (by omega) HL2.out (by simp) (by simp [cat]; omega)
   have ecat:cat [((.slice xa xs.length xc,xs):Vl),(.slice sa ys.length sc,ys)]=xs ++ ys:=by simp [cat]
   obtain ⟨zs,hzs⟩:∃ zs,xs ++ ys=zs:=⟨_,rfl⟩
   rw [ecat,hzs] at kcat
   have HZ:Hid (xs ++ ys=zs):=hzs
   clear hzs
   have HKC:Hid (Calls Tryz.prog 164 #[.slice (some ⟨wr.heap.size + 1,0,none⟩) 2 2] WA fun e w'=>∃ v',e=.returned v'∧(∀ m,m < WA.heap.size→Ints w' w'.heap.size m v' zs)∧Below WA.heap.size WA w'):=kcat
   have kA1:WA.cell? ⟨wr.heap.size,0,none⟩=some (.slice sa ys.length sc):=(hWA.cell (p:=⟨wr.heap.size,0,none⟩) lw2).trans g1
   have kA2:WA.cell? ⟨wr.heap.size,1,none⟩=some (.int .i64 k):=(hWA.cell (p:=⟨wr.heap.size,1,none⟩) lw2).trans g2
   have kB1:(W.alloc (.cells #[.slice xa xs.length xc,.slice sa ys.length sc] 65)).cell? ⟨wr.heap.size,0,none⟩=some (.slice sa ys.length sc):=((ba W _).cell (p:=⟨wr.heap.size,0,none⟩) lw2).trans g1
   have kB2:(W.alloc (.cells #[.slice xa xs.length xc,.slice sa ys.length sc] 65)).cell? ⟨wr.heap.size,1,none⟩=some (.int .i64 k):=((ba W _).cell (p:=⟨wr.heap.size,1,none⟩) lw2).trans g2
   have hza:0 < WA.heap.size:=by omega
   clear kcat ecat HL2
   go_region_held3 (fun w'=>w'.cell? ⟨wr.heap.size,0,none⟩=some (.slice sa ys.length sc)∧w'.cell? ⟨wr.heap.size,1,none⟩=some (.int .i64 k))
    ((go_split_ands; refine ⟨?_,?_⟩ <;> first | assumption | (simp [go_sem, *]; done)))
    ((go_at_call 164; refine HKC.out.mono ?_; rintro x1 w1 ⟨v',rfl,hI1,hb1⟩; obtain ⟨av,cv,hv1,_⟩:=hI1 0 hza; subst hv1; have hb2:Below W.heap.size W w1:=(bt hWA hb1); obtain ⟨hc1,hf1⟩:=bcell hb2; have hs1':=hb2.size; have k1:w1.cell? ⟨w.heap.size,i * 2,none⟩=some v0:=(hc1 _ _ lw1).trans g3; have k2:w1.cell? ⟨w.heap.size,i * 2 + 1,none⟩=some (.int .i64 t0.2.2):=(hc1 _ _ lw1).trans g4; have k3:w1.frozen? ⟨w.heap.size,i * 2,none⟩=false:=(hf1 _ _ lw1).trans g5; have k4:w1.frozen? ⟨w.heap.size,i * 2 + 1,none⟩=false:=(hf1 _ _ lw1).trans g6; have k5:w1.cell? ⟨wr.heap.size,0,none⟩=some (.slice sa ys.length sc):=(hc1 _ _ lw2).trans g1; have k6:w1.cell? ⟨wr.heap.size,1,none⟩=some (.int .i64 k):=(hc1 _ _ lw2).trans g2; clear hc1 hf1))
   have HB1:Below wr.heap.size wr w1:=bt HW.out hb2
   obtain ⟨W2,hW2⟩:∃ W2,(w1.setCell ⟨w.heap.size,i * 2,none⟩ (.slice av zs.length cv)).setCell ⟨w.heap.size,i * 2 + 1,none⟩ (.int .i64 k)=W2:=⟨_,rfl⟩
   have hmW:w.heap.size < WA.heap.size:=by omega
   have HRn:Hid (Row W2 w.heap.size 0 (us.set i (.slice av zs.length cv,zs,k))):=hW2▸(HRo.out.1.keep HB1).set0 (by rw [HRo.out.2]; exact h1) _ zs k
   have hIs:∀ t∈us.set i (.slice av zs.length cv,zs,k),Ints W2 W2.heap.size w.heap.size t.1 t.2.1:=by
    intro t ht
    have hI2:Ints w1 w1.heap.size w.heap.size t.1 t.2.1:=by
     rcases List.mem_or_eq_of_mem_set ht with h | rfl
     ·exact (HI.out t h).at2 HB1
     ·exact hI1 _ hmW
    have:=(hI2.set (p:=⟨w.heap.size,i * 2,none⟩) rfl (.slice av zs.length cv)).set (p:=⟨w.heap.size,i * 2 + 1,none⟩) rfl (.int .i64 k)
    rw [← hW2]
    simpa using this
   have HIn:Hid (∀ t∈us.set i (.slice av zs.length cv,zs,k),Ints W2 W2.heap.size w.heap.size t.1 t.2.1):=hIs
   have HFn:Hid (Frs w.heap.size (us.set i (.slice av zs.length cv,zs,k))):=by
    intro t ht
    rcases List.mem_or_eq_of_mem_set ht with h | rfl
    ·exact HFR.out t h
    ·exact fr_of (w:=w1) (B:=w1.heap.size) fun m hm=>hI1 m (by omega)
   have B2:Below w.heap.size w W2:=by rw [← hW2]; exact bs (bs (bt hbl HB1) (Nat.le_refl _) _) (Nat.le_refl _) _
   have e1:W2.cell? ⟨w.heap.size,i * 2,none⟩=some (.slice av zs.length cv):=by rw [← hW2]; exact (sc_other (by simp)).trans (sc_same k1)
   have e2:W2.cell? ⟨w.heap.size,i * 2 + 1,none⟩=some (.int .i64 k):=by rw [← hW2]; exact sc_same (u:=.int .i64 t0.2.2) ((sc_other (by simp)).trans k2)
   have hmem:((.slice av zs.length cv,zs,k):Tr)∈us.set i (.slice av zs.length cv,zs,k):=by
    refine List.mem_of_getElem? (i:=i) ?_
    rw [List.getElem?_set_self (by rw [HRo.out.2]; exact h1)]
   obtain ⟨r,HOK⟩:∃ r,Hid (okP (zs,k)=r):=⟨_,rfl⟩
   have kb:=beyond_any W2.heap.size w.heap.size (.slice av zs.length cv) k zs W2 (Nat.le_refl _) (hIs _ hmem) r HOK.out
   clear hI1 hb1 hb2 HB1 k1 k2 k3 k4 k5 k6 g1 g2 g3 g4 g5 g6 hIs hmem kA1 kA2 kB1 kB2 HKC hWA0 hWA
   go_wp2_with fail
   refine kb.mono ?_
   rintro e w3 ⟨rfl,hb3⟩
   clear kb
   cases r with
   | true =>
    have HTn:Hid (Bhd xs (rd ts) (us.set i (.slice av zs.length cv,zs,k)) (i + 1)):=by
     have h5:=HT.out.step (s:=.slice av zs.length cv) HS.out (by rw [HZ.out]; exact HOK.out)
     rwa [HZ.out] at h5
    have HRn3:Hid (Row w3 w.heap.size 0 (us.set i (.slice av zs.length cv,zs,k))):=HRn.out.keep hb3
    go_wp2
    go_roundw
    case rel=>exact ⟨i + 1,us.set i (.slice av zs.length cv,zs,k),by go_num,h1,HTn,HRn3.out,fun t ht=>(HIn.out t ht).at2 hb3,bt B2 hb3,HFn⟩
    case measure=>simp [intOf]; omega
   | false =>
    have hbeh:=HR.out.1
    have hno:¬ (pre xs (rd ts)).all okP=true:=by
     rw [List.all_eq_true]
     intro h5
     have h6:=h5 (zs,k) (List.mem_map.2 ⟨(ys,k),List.mem_of_getElem? HS.out,by simp only [HZ.out]⟩)
     rw [HOK.out] at h6
     cases h6
    unfold behT at hbeh
    rw [if_neg hno] at hbeh
    simp only [Prod.mk.injEq] at hbeh
    obtain ⟨rfl,rfl⟩:=hbeh
    clear hno
    go_wp2
    exact bodyPost_ret (v:=.tuple #[.slice none 0 0,.int .i64 3]) (by simp [results,Tryz.results100,go_sem]) rfl ⟨_,[],rfl,rfl,.inl ⟨rfl,rfl⟩,bt B2 hb3,Frs.nil _⟩
  ·have hlen2:(pre xs (rd ts)).length=ts.length:=by simp [pre,rd_len]
   have htk:(pre xs (rd ts)).take i=pre xs (rd ts):=List.take_of_length_le (by omega)
   have hrd:rd us=pre xs (rd ts):=by
    have h5:=HT.out.2.1
    rw [htk,List.take_of_length_le (by rw [rd_len]; omega)] at h5
    exact h5
   have hbeh:=HR.out.1
   unfold behT at hbeh
   have hall:=HT.out.2.2
   rw [htk] at hall
   rw [if_pos hall] at hbeh
   simp only [Prod.mk.injEq] at hbeh
   obtain ⟨hbl1,rfl⟩:=hbeh
   have HD2:Hid (rd us=l∧us.length=ts.length):=⟨hrd.trans hbl1,hul⟩
   have HRo:Hid (Row wr w.heap.size 0 us):=hrow
   have HI:Hid (∀ t∈us,Ints wr wr.heap.size w.heap.size t.1 t.2.1):=hI
   clear hrow hI hrd htk hall hlen2 hul hbl1
   go_wp2
   exact bodyPost_ret (v:=.tuple #[.slice (some ⟨w.heap.size,0,none⟩) ts.length ts.length,.int .i64 0]) (by simp [results,Tryz.results100,go_sem]) rfl ⟨_,us,rfl,HD2.out.1,.inr ⟨w.heap.size,0,ts.length,by rw [HD2.out.2],by rw [HD2.out.2]; exact Nat.le_refl _,by rw [HD2.out.2]; exact hl,Nat.le_refl _,HRo.out,HI.out⟩,hbl,HFR.out⟩
theorem cmp_pre (x a b:List Int):cmpT (x ++ a) (x ++ b)=cmpT a b:=by
 induction x with
 | nil=>rfl
 | cons c x ih=>simp only [List.cons_append,cmpT]; rw [if_neg (by omega),if_neg (by omega)]; exact ih
theorem pre_tot (x:List Int) (b:List Pt):tot (pre x b)=tot b:=by
 induction b with
 | nil=>rfl
 | cons p b ih=>simp only [pre,List.map_cons] at *; rw [tot_cons,tot_cons,ih]
theorem pre_dv (x:List Int) (b:List Pt):dv (pre x b)=dv b:=by
 induction b with
 | nil=>rfl
 | cons p b ih=>simp only [pre,List.map_cons,dv] at *; rw [ih]
theorem pre_dis {x:List Int} {b:List Pt} (h:Dis b) (ho:(pre x b).all okP=true):Dis (pre x b):=by
 refine ⟨?_,?_,by rw [pre_tot]; exact h.le,?_,ho,by simp [pre]; exact h.few,by rw [pre_dv]; exact h.one⟩
 ·unfold Rise pre
  rw [List.pairwise_map]
  exact h.rise.imp fun {p q} hpq=>by show cmpT (x ++ p.1) (x ++ q.1) < 0; rw [cmp_pre]; exact hpq
 ·intro p hp
  obtain ⟨q,hq,rfl⟩:=List.mem_map.1 hp
  exact h.pos q hq
 ·intro h0
  have:=h.ne
  simp [pre] at h0
  exact this h0
theorem beh_dis {x:List Int} {b:List Pt} (h:Dis b) (he:(behT x b).2=0):(behT x b).1=pre x b∧Dis (pre x b):=by
 unfold behT at *
 split at he
 ·rename_i ho
  rw [if_pos ho]
  exact ⟨rfl,pre_dis h ho⟩
 ·simp at he
def bothT (l m:List Pt):List Pt × Int:=if twoE l m=0 then chT (fun x=>behT x m) l else ([],twoE l m)
theorem both1_any (C D bx:Nat) (u v:Value) (xs:List Int) (ts:List Tr) (w:World) (hC:C≤w.heap.size) (hD:D≤w.heap.size) (hc:w.cell? ⟨bx,0,none⟩=some v) (hx:Ints w C C u xs) (hp:Parts w D v ts) (hxl:xs.length≤16) (hd:Dis (rd ts)) (l:List Pt) (er:Int) (hr:behT xs (rd ts)=(l,er)) :
  Calls Tryz.prog 99 #[u,.pointer (some ⟨bx,0,none⟩)] w fun e w'=>∃ v' us,e=.returned (.tuple #[v',.int .i64 er])∧rd us=l∧OwnN w' w.heap.size v' us∧Below w.heap.size w w'∧Frs w.heap.size us:=by
 have kc:=behind_any C D u v xs ts w hC hD hx hp hxl hd l er hr
 obtain ⟨a,c,rfl,_⟩:=hp
 obtain ⟨ua,uc,rfl,_⟩:=hx
 clear hr hd
 go_enter Tryz.func99,Tryz.ntmps99
 go_wp2_with fail
 refine kc.mono ?_
 rintro e w1 ⟨v1,us,rfl,h1,h2,h3,h4⟩
 obtain ⟨b1,d1,rfl⟩:=h2.slice
 clear kc
 go_wp2
 exact bodyPost_ret (v:=.tuple #[.slice b1 us.length d1,.int .i64 er]) (by simp [results,Tryz.results99,go_sem]) rfl ⟨_,us,rfl,h1,h2,h3,h4⟩
theorem parts_box {w:World} {B bx:Nat} {sl v p:Value} {ts:List Tr} (h:Parts w B v ts) (hc:w.cell? ⟨bx,0,none⟩=some sl) (hsl:∀ z,sl≠.int .i64 z) (hn:∀ j,0 < j→w.cell? ⟨bx,j,none⟩=none):Parts (w.setCell ⟨bx,0,none⟩ p) B v ts:=by
 obtain ⟨a,c,hv,hcc,hl,hi,hx⟩:=h
 refine ⟨a,c,hv,hcc,hl,fun t ht=>?_,fun hne=>?_⟩
 ·obtain ⟨a',c',hv',hc',hl',hy⟩:=hi t ht
  refine ⟨a',c',hv',hc',hl',fun hne=>?_⟩
  obtain ⟨b,o,ha,hb,hnb,hcell⟩:=hy hne
  have hbb:b≠bx:=by
   rintro rfl
   obtain ⟨x0,hx0⟩:=get_lt (l:=t.2.1) (i:=0) (List.length_pos_iff.2 hne)
   have h5:=hcell 0 x0 hx0
   rw [Nat.add_zero] at h5
   rcases Nat.eq_zero_or_pos o with e | e
   ·subst e; rw [hc] at h5; simp only [Option.some.injEq] at h5; exact hsl _ h5
   ·rw [hn o e] at h5; cases h5
  exact ⟨b,o,ha,hb,hnb,fun i x hx=>(sc_other (fun e=>hbb (by simp only [Addr.mk.injEq] at e; exact e.1.symm))).trans (hcell i x hx)⟩
 ·obtain ⟨b,o,ha,hb,hcell⟩:=hx hne
  have hbb:b≠bx:=by
   rintro rfl
   obtain ⟨t0,ht0⟩:=get_lt (l:=ts) (i:=0) (List.length_pos_iff.2 hne)
   have h5:=(hcell 0 t0 ht0).2
   rw [hn _ (by omega)] at h5
   cases h5
  exact ⟨b,o,ha,hb,fun i t ht=>⟨(sc_other (fun e=>hbb (by simp only [Addr.mk.injEq] at e; exact e.1.symm))).trans (hcell i t ht).1,(sc_other (fun e=>hbb (by simp only [Addr.mk.injEq] at e; exact e.1.symm))).trans (hcell i t ht).2⟩⟩
set_option maxHeartbeats 1000000 in
theorem dboth_any (B:Nat) (v u:Value) (ts us:List Tr) (w:World) (hB:B≤w.heap.size) (hp:Parts w B v ts) (hq:Parts w B u us) (l:List Pt) (er:Int) (hr:bothT (rd ts) (rd us)=(l,er)) :
  Calls Tryz.prog 46 #[v,u] w fun e w'=>∃ v' us,e=.returned (.tuple #[v',.int .i64 er])∧rd us=l∧OwnN w' w.heap.size v' us∧Below w.heap.size w w'∧Frs w.heap.size us:=by
 obtain ⟨e1,ho⟩:∃ x,twoE (rd ts) (rd us)=x:=⟨_,rfl⟩
 have HP:Hid (Parts w B v ts):=hp
 have HQ:Hid (Parts w B u us):=hq
 have HR:Hid (bothT (rd ts) (rd us)=(l,er)∧twoE (rd ts) (rd us)=e1):=⟨hr,ho⟩
 obtain ⟨a,c,rfl,_⟩:=hp
 obtain ⟨ua,uc,rfl,_⟩:=hq
 obtain ⟨W,hW⟩:∃ W,w.alloc (.cells #[.slice ua us.length uc] 44)=W:=⟨_,rfl⟩
 have HW:Hid (Below w.heap.size w W):=hW▸ba w _
 have hWs:W.heap.size=w.heap.size + 1:=by rw [← hW]; simp
 have cW:W.cell? ⟨w.heap.size,0,none⟩=some (.slice ua us.length uc):=by rw [← hW]; simp [go_sem]
 have fW:W.frozen? ⟨w.heap.size,0,none⟩=false:=by rw [← hW]; simp [go_sem]
 have HNW:Hid (∀ j,0 < j→W.cell? ⟨w.heap.size,j,none⟩=none):=by
  intro j hj
  rw [← hW]
  obtain ⟨m,rfl⟩:∃ m,j=m + 1:=⟨j - 1,by omega⟩
  have hh:=World.alloc_heap_new w (.cells #[.slice ua us.length uc] 44)
  unfold World.cell?
  simp only [hh]
  simp
 have kc:=ownTwo_any B (.slice a ts.length c) (.slice ua us.length uc) ts us W (by omega) (HP.out.at hB HW.out) (HQ.out.at hB HW.out) e1 ho
 clear hr ho
 go_enter Tryz.func46,Tryz.ntmps46
 go_wp2_with fail
 clear hW
 refine kc.mono ?_
 rintro e w1 ⟨a1,n1,c1,a2,n2,c2,rfl,hb1,hok⟩
 have hs1:=hb1.size
 have b1w:Below w.heap.size w w1:=bt HW.out hb1
 have c1':w1.cell? ⟨w.heap.size,0,none⟩=some (.slice ua us.length uc):=(hb1.cell (p:=⟨w.heap.size,0,none⟩) (by show w.heap.size < W.heap.size; omega)).trans cW
 have f1':w1.frozen? ⟨w.heap.size,0,none⟩=false:=(hb1.frozen (p:=⟨w.heap.size,0,none⟩) (by show w.heap.size < W.heap.size; omega)).trans fW
 clear kc cW fW
 by_cases h0:e1=0
 ·subst h0
  obtain ⟨x1,x2,hd1,hd2,hp1,hp2⟩:=hok rfl
  obtain ⟨hdi1,hdi2⟩:=twoE_ok HR.out.2
  have hch:=HR.out.1
  unfold bothT at hch
  rw [HR.out.2] at hch
  simp only [if_true] at hch
  have hnone:∀ j,0 < j→w1.cell? ⟨w.heap.size,j,none⟩=none:=fun j hj=>(hb1.cell (p:=⟨w.heap.size,j,none⟩) (by show w.heap.size < W.heap.size; omega)).trans (HNW.out j hj)
  obtain ⟨W2,hW2⟩:∃ W2,w1.setCell ⟨w.heap.size,0,none⟩ (.slice a2 n2 c2)=W2:=⟨_,rfl⟩
  have hW2s:W2.heap.size=w1.heap.size:=by rw [← hW2]; simp
  have c2':W2.cell? ⟨w.heap.size,0,none⟩=some (.slice a2 n2 c2):=by rw [← hW2]; exact sc_same c1'
  have b2w:Below w.heap.size w W2:=by rw [← hW2]; exact bs b1w (Nat.le_refl _) _
  have q1:Parts W2 W2.heap.size (.slice a1 n1 c1) x1:=by rw [hW2s,← hW2]; exact parts_box hp1 c1' (fun z=>by simp) hnone
  have q2:Parts W2 W2.heap.size (.slice a2 n2 c2) x2:=by rw [hW2s,← hW2]; exact parts_box hp2 c1' (fun z=>by simp) hnone
  have kch:=chain_any 99 (.pointer (some ⟨w.heap.size,0,none⟩)) (fun x=>behT x (rd us)) W2.heap.size (.slice a1 n1 c1) x1 W2 (Nat.le_refl _) q1 (by rw [hd1]; exact hdi1) (enters_of Tryz.func99 (by kernel_rfl) rfl)
   (fun W' u xs hbW hI hox=>both1_any W'.heap.size W2.heap.size w.heap.size u (.slice a2 n2 c2) xs x2 W' (Nat.le_refl _) hbW.size ((hbW.cell (p:=⟨w.heap.size,0,none⟩) (by show w.heap.size < W2.heap.size; omega)).trans c2') hI (q2.at (Nat.le_refl _) hbW) (by simp [okO] at hox; exact hox.1) (by rw [hd2]; exact hdi2) _ _ (by rw [hd2]))
   (fun p _ he=>by have:=beh_dis hdi2 he; rw [this.1]; exact this.2) l er (by rw [hd1]; exact hch)
  clear hok hp1 hp2 hdi1 hdi2 hch hd1 hd2 q1 q2 hnone
  go_wp2_with fail
  refine kch.mono ?_
  rintro e w2 ⟨v2,xs2,rfl,k1,k2,k3,k4⟩
  obtain ⟨a3,c3,rfl⟩:=k2.slice
  have H2:Hid (rd xs2=l∧OwnN w2 w.heap.size (.slice a3 xs2.length c3) xs2∧Frs w.heap.size xs2):=⟨k1,k2.mono (by omega),fun t ht hne b o sp n c e=>Nat.le_trans (by omega) (k4 t ht hne b o sp n c e)⟩
  clear k1 k2 k4 kch
  go_wp2
  exact bodyPost_ret (v:=.tuple #[.slice a3 xs2.length c3,.int .i64 er]) (by simp [results,Tryz.results46,go_sem]) rfl ⟨_,xs2,rfl,H2.out.1,H2.out.2.1,bt b2w k3,H2.out.2.2⟩
 ·have h0':(e1 == 0)=false:=by simpa using h0
  have hm:=HR.out.1
  unfold bothT at hm
  rw [HR.out.2] at hm
  simp only [h0,if_false,Prod.mk.injEq] at hm
  obtain ⟨rfl,rfl⟩:=hm
  clear hok
  go_wp2
  exact bodyPost_ret (v:=.tuple #[.slice none 0 0,.int .i64 e1]) (by simp [results,Tryz.results46,go_sem]) rfl ⟨_,[],rfl,rfl,.inl ⟨rfl,rfl⟩,bs b1w (Nat.le_refl _) _,Frs.nil _⟩
end Go.Proofs.YtlndlpjadajelaaGreat
namespace Go.Proofs
open Go.Shelf
def Tryz.keysI_ren:Go.Shelf.Ren:=⟨fun | 7=>197 | 10=>221 | n=>n,fun | 23=>181 | 26=>3 | 3=>23 | 28=>224 | 0=>0 | 27=>223 | 33=>229 | 4=>4 | n=>n,fun | n=>n⟩
theorem Tryz.keysI:Go.Proofs.SlLaysZI.n7 Tryz.prog Tryz.keysI_ren:={
 mixed:=by kernel_rfl
 f7:=⟨Tryz.f197.name,by decide,Tryz.func197.trans (congrArg some (by kernel_rfl))⟩
 f10:=⟨Tryz.f221.name,by decide,Tryz.func221.trans (congrArg some (by kernel_rfl))⟩
 t0:=Tryz.underlying0
 a0:=Tryz.isAgg0
 z0:=Tryz.sizeOf0
 v0:=Tryz.zeroValue0
 t4:=Tryz.underlying4
 a4:=Tryz.isAgg4
 z4:=Tryz.sizeOf4
 v4:=Tryz.zeroValue4
 t23:=Tryz.underlying181
 a23:=Tryz.isAgg181
 z23:=Tryz.sizeOf181
 v23:=Tryz.zeroValue181
 t26:=Tryz.underlying3
 a26:=Tryz.isAgg3
 z26:=Tryz.sizeOf3
 v26:=Tryz.zeroValue3
 t27:=Tryz.underlying223
 a27:=Tryz.isAgg223
 z27:=Tryz.sizeOf223
 v27:=Tryz.zeroValue223
 t28:=Tryz.underlying224
 a28:=Tryz.isAgg224
 z28:=Tryz.sizeOf224
 v28:=Tryz.zeroValue224
 t33:=Tryz.underlying229
 a33:=Tryz.isAgg229
 z33:=Tryz.sizeOf229
 v33:=Tryz.zeroValue229 }
def Tryz.sortedI_ren:Go.Shelf.Ren:=⟨fun | 6=>196 | 8=>219 | 9=>220 | 11=>246 | 13=>218 | 12=>247 | 23=>244 | 24=>245 | 14=>262 | 15=>263 | 16=>264 | 17=>265 | 18=>266 | 19=>267 | 20=>268 | 21=>269 | 22=>270 | 25=>275 | 26=>257 | 27=>258 | 28=>276 | 29=>277 | 30=>233 | 31=>279 | n=>n,fun | 26=>3 | 28=>224 | 24=>65 | 0=>0 | 3=>3 | 37=>177 | 48=>261 | 50=>133 | 4=>4 | 40=>253 | 39=>252 | 45=>258 | 5=>5 | 9=>9 | 51=>270 | 55=>274 | 57=>283 | 58=>210 | 33=>229 | n=>n,fun | n=>n⟩
theorem Tryz.sortedI:Go.Proofs.SlLaysZI.n6 Tryz.prog Tryz.sortedI_ren:={
 mixed:=by kernel_rfl
 f6:=⟨Tryz.f196.name,by decide,Tryz.func196.trans (congrArg some (by kernel_rfl))⟩
 f8:=⟨Tryz.f219.name,by decide,Tryz.func219.trans (congrArg some (by kernel_rfl))⟩
 f11:=⟨Tryz.f246.name,by decide,Tryz.func246.trans (congrArg some (by kernel_rfl))⟩
 t0:=Tryz.underlying0
 a0:=Tryz.isAgg0
 z0:=Tryz.sizeOf0
 v0:=Tryz.zeroValue0
 t24:=Tryz.underlying65
 a24:=Tryz.isAgg65
 z24:=Tryz.sizeOf65
 v24:=Tryz.zeroValue65
 t26:=Tryz.underlying3
 a26:=Tryz.isAgg3
 z26:=Tryz.sizeOf3
 v26:=Tryz.zeroValue3
 t28:=Tryz.underlying224
 a28:=Tryz.isAgg224
 z28:=Tryz.sizeOf224
 v28:=Tryz.zeroValue224
 i26:=by kernel_rfl }
def Tryz.sortI_ren:Go.Shelf.Ren:=⟨fun | 5=>220 | 8=>218 | 7=>247 | 19=>244 | 20=>245 | 10=>262 | 11=>263 | 12=>264 | 13=>265 | 14=>266 | 15=>267 | 16=>268 | 17=>269 | 18=>270 | 30=>275 | 31=>257 | 32=>258 | 33=>276 | 34=>277 | 35=>233 | 40=>279 | n=>n,fun | 23=>65 | 25=>3 | 3=>3 | 32=>177 | 22=>65 | 0=>0 | 44=>261 | 46=>133 | 4=>4 | 36=>253 | 35=>252 | 41=>258 | 5=>5 | 9=>9 | 53=>270 | 57=>274 | 63=>283 | 64=>210 | n=>n,fun | n=>n⟩
theorem Tryz.sortI:Go.Proofs.SlLaysM.n5 Tryz.prog Tryz.sortI_ren:={
 mixed:=by kernel_rfl
 f5:=⟨Tryz.f220.name,by decide,Tryz.func220.trans (congrArg some (by kernel_rfl))⟩
 f7:=⟨Tryz.f247.name,by decide,Tryz.func247.trans (congrArg some (by kernel_rfl))⟩
 f8:=Tryz.func218.trans (congrArg some (by kernel_rfl))
 f10:=⟨Tryz.f262.name,by decide,Tryz.func262.trans (congrArg some (by kernel_rfl))⟩
 f11:=⟨Tryz.f263.name,by decide,Tryz.func263.trans (congrArg some (by kernel_rfl))⟩
 f12:=⟨Tryz.f264.name,by decide,Tryz.func264.trans (congrArg some (by kernel_rfl))⟩
 f13:=⟨Tryz.f265.name,by decide,Tryz.func265.trans (congrArg some (by kernel_rfl))⟩
 f14:=⟨Tryz.f266.name,by decide,Tryz.func266.trans (congrArg some (by kernel_rfl))⟩
 f15:=⟨Tryz.f267.name,by decide,Tryz.func267.trans (congrArg some (by kernel_rfl))⟩
 f16:=⟨Tryz.f268.name,by decide,Tryz.func268.trans (congrArg some (by kernel_rfl))⟩
 f17:=⟨Tryz.f269.name,by decide,Tryz.func269.trans (congrArg some (by kernel_rfl))⟩
 f18:=⟨Tryz.f270.name,by decide,Tryz.func270.trans (congrArg some (by kernel_rfl))⟩
 f19:=Tryz.func244.trans (congrArg some (by kernel_rfl))
 f20:=Tryz.func245.trans (congrArg some (by kernel_rfl))
 f30:=⟨Tryz.f275.name,by decide,Tryz.func275.trans (congrArg some (by kernel_rfl))⟩
 f31:=Tryz.func257.trans (congrArg some (by kernel_rfl))
 f32:=Tryz.func258.trans (congrArg some (by kernel_rfl))
 f33:=⟨Tryz.f276.name,by decide,Tryz.func276.trans (congrArg some (by kernel_rfl))⟩
 f34:=⟨Tryz.f277.name,by decide,Tryz.func277.trans (congrArg some (by kernel_rfl))⟩
 f35:=⟨Tryz.f233.name,by decide,Tryz.func233.trans (congrArg some (by kernel_rfl))⟩
 f40:=⟨Tryz.f279.name,by decide,Tryz.func279.trans (congrArg some (by kernel_rfl))⟩
 t0:=Tryz.underlying0
 a0:=Tryz.isAgg0
 z0:=Tryz.sizeOf0
 v0:=Tryz.zeroValue0
 t3:=Tryz.underlying3
 a3:=Tryz.isAgg3
 z3:=Tryz.sizeOf3
 v3:=Tryz.zeroValue3
 t4:=Tryz.underlying4
 a4:=Tryz.isAgg4
 z4:=Tryz.sizeOf4
 v4:=Tryz.zeroValue4
 t5:=Tryz.underlying5
 a5:=Tryz.isAgg5
 z5:=Tryz.sizeOf5
 v5:=Tryz.zeroValue5
 t9:=Tryz.underlying9
 a9:=Tryz.isAgg9
 z9:=Tryz.sizeOf9
 v9:=Tryz.zeroValue9
 t22:=Tryz.underlying65
 a22:=Tryz.isAgg65
 z22:=Tryz.sizeOf65
 v22:=Tryz.zeroValue65
 t23:=Tryz.underlying65
 a23:=Tryz.isAgg65
 z23:=Tryz.sizeOf65
 v23:=Tryz.zeroValue65
 t25:=Tryz.underlying3
 a25:=Tryz.isAgg3
 z25:=Tryz.sizeOf3
 v25:=Tryz.zeroValue3
 t32:=Tryz.underlying177
 a32:=Tryz.isAgg177
 z32:=Tryz.sizeOf177
 v32:=Tryz.zeroValue177
 t35:=Tryz.underlying252
 a35:=Tryz.isAgg252
 z35:=Tryz.sizeOf252
 v35:=Tryz.zeroValue252
 t36:=Tryz.underlying253
 a36:=Tryz.isAgg253
 z36:=Tryz.sizeOf253
 v36:=Tryz.zeroValue253
 t41:=Tryz.underlying258
 a41:=Tryz.isAgg258
 z41:=Tryz.sizeOf258
 v41:=Tryz.zeroValue258
 t44:=Tryz.underlying261
 a44:=Tryz.isAgg261
 z44:=Tryz.sizeOf261
 v44:=Tryz.zeroValue261
 t46:=Tryz.underlying133
 a46:=Tryz.isAgg133
 z46:=Tryz.sizeOf133
 v46:=Tryz.zeroValue133
 t53:=Tryz.underlying270
 a53:=Tryz.isAgg270
 z53:=Tryz.sizeOf270
 v53:=Tryz.zeroValue270
 t57:=Tryz.underlying274
 a57:=Tryz.isAgg274
 z57:=Tryz.sizeOf274
 v57:=Tryz.zeroValue274
 t63:=Tryz.underlying283
 a63:=Tryz.isAgg283
 z63:=Tryz.sizeOf283
 v63:=Tryz.zeroValue283
 t64:=Tryz.underlying210
 a64:=Tryz.isAgg210
 z64:=Tryz.sizeOf210
 v64:=Tryz.zeroValue210 }
def Tryz.keysS_ren:Go.Shelf.Ren:=⟨fun | 7=>155 | 10=>194 | n=>n,fun | 23=>178 | 26=>9 | 3=>183 | 28=>188 | 0=>0 | 27=>140 | 33=>144 | 4=>4 | n=>n,fun | n=>n⟩
theorem Tryz.keysS:Go.Proofs.SlLaysZ.n7 Tryz.prog Tryz.keysS_ren:={
 mixed:=by kernel_rfl
 f7:=⟨Tryz.f155.name,by decide,Tryz.func155.trans (congrArg some (by kernel_rfl))⟩
 f10:=⟨Tryz.f194.name,by decide,Tryz.func194.trans (congrArg some (by kernel_rfl))⟩
 t0:=Tryz.underlying0
 a0:=Tryz.isAgg0
 z0:=Tryz.sizeOf0
 v0:=Tryz.zeroValue0
 t4:=Tryz.underlying4
 a4:=Tryz.isAgg4
 z4:=Tryz.sizeOf4
 v4:=Tryz.zeroValue4
 t23:=Tryz.underlying178
 a23:=Tryz.isAgg178
 z23:=Tryz.sizeOf178
 v23:=Tryz.zeroValue178
 t26:=Tryz.underlying9
 a26:=Tryz.isAgg9
 z26:=Tryz.sizeOf9
 v26:=Tryz.zeroValue9
 t27:=Tryz.underlying140
 a27:=Tryz.isAgg140
 z27:=Tryz.sizeOf140
 v27:=Tryz.zeroValue140
 t28:=Tryz.underlying188
 a28:=Tryz.isAgg188
 z28:=Tryz.sizeOf188
 v28:=Tryz.zeroValue188
 t33:=Tryz.underlying144
 a33:=Tryz.isAgg144
 z33:=Tryz.sizeOf144
 v33:=Tryz.zeroValue144 }
def Tryz.sortedS_ren:Go.Shelf.Ren:=⟨fun | 6=>154 | 8=>192 | 9=>193 | 11=>216 | 13=>218 | 12=>217 | 23=>244 | 24=>245 | 14=>235 | 15=>236 | 16=>237 | 17=>238 | 18=>239 | 19=>240 | 20=>241 | 21=>242 | 22=>243 | 25=>256 | 26=>257 | 27=>258 | 28=>259 | 29=>260 | 30=>261 | 31=>274 | n=>n,fun | 26=>9 | 28=>188 | 24=>89 | 0=>0 | 3=>3 | 37=>177 | 48=>261 | 50=>133 | 4=>4 | 40=>253 | 39=>252 | 45=>258 | 5=>5 | 9=>9 | 51=>270 | 55=>274 | 57=>283 | 58=>210 | 33=>144 | n=>n,fun | n=>n⟩
theorem Tryz.sortedS:Go.Proofs.SlLaysZ.n6 Tryz.prog Tryz.sortedS_ren:={
 mixed:=by kernel_rfl
 f6:=⟨Tryz.f154.name,by decide,Tryz.func154.trans (congrArg some (by kernel_rfl))⟩
 f8:=⟨Tryz.f192.name,by decide,Tryz.func192.trans (congrArg some (by kernel_rfl))⟩
 f11:=⟨Tryz.f216.name,by decide,Tryz.func216.trans (congrArg some (by kernel_rfl))⟩
 t0:=Tryz.underlying0
 a0:=Tryz.isAgg0
 z0:=Tryz.sizeOf0
 v0:=Tryz.zeroValue0
 t24:=Tryz.underlying89
 a24:=Tryz.isAgg89
 z24:=Tryz.sizeOf89
 v24:=Tryz.zeroValue89
 t26:=Tryz.underlying9
 a26:=Tryz.isAgg9
 z26:=Tryz.sizeOf9
 v26:=Tryz.zeroValue9
 t28:=Tryz.underlying188
 a28:=Tryz.isAgg188
 z28:=Tryz.sizeOf188
 v28:=Tryz.zeroValue188
 i26:=by kernel_rfl }
def Tryz.sortS_ren:Go.Shelf.Ren:=⟨fun | 6=>193 | 8=>218 | 9=>217 | 19=>244 | 20=>245 | 21=>235 | 22=>236 | 23=>237 | 24=>238 | 25=>239 | 26=>240 | 27=>241 | 28=>242 | 29=>243 | 36=>256 | 31=>257 | 32=>258 | 37=>259 | 38=>260 | 39=>261 | 41=>274 | n=>n,fun | 27=>89 | 29=>9 | 3=>3 | 32=>177 | 26=>89 | 0=>0 | 44=>261 | 46=>133 | 4=>4 | 36=>253 | 35=>252 | 41=>258 | 5=>5 | 9=>9 | 53=>270 | 57=>274 | 63=>283 | 64=>210 | n=>n,fun | n=>n⟩
theorem Tryz.sortS:Go.Proofs.SlLaysM.n6 Tryz.prog Tryz.sortS_ren:={
 mixed:=by kernel_rfl
 f6:=⟨Tryz.f193.name,by decide,Tryz.func193.trans (congrArg some (by kernel_rfl))⟩
 f8:=Tryz.func218.trans (congrArg some (by kernel_rfl))
 f9:=⟨Tryz.f217.name,by decide,Tryz.func217.trans (congrArg some (by kernel_rfl))⟩
 f19:=Tryz.func244.trans (congrArg some (by kernel_rfl))
 f20:=Tryz.func245.trans (congrArg some (by kernel_rfl))
 f21:=⟨Tryz.f235.name,by decide,Tryz.func235.trans (congrArg some (by kernel_rfl))⟩
 f22:=⟨Tryz.f236.name,by decide,Tryz.func236.trans (congrArg some (by kernel_rfl))⟩
 f23:=⟨Tryz.f237.name,by decide,Tryz.func237.trans (congrArg some (by kernel_rfl))⟩
 f24:=⟨Tryz.f238.name,by decide,Tryz.func238.trans (congrArg some (by kernel_rfl))⟩
 f25:=⟨Tryz.f239.name,by decide,Tryz.func239.trans (congrArg some (by kernel_rfl))⟩
 f26:=⟨Tryz.f240.name,by decide,Tryz.func240.trans (congrArg some (by kernel_rfl))⟩
 f27:=⟨Tryz.f241.name,by decide,Tryz.func241.trans (congrArg some (by kernel_rfl))⟩
 f28:=⟨Tryz.f242.name,by decide,Tryz.func242.trans (congrArg some (by kernel_rfl))⟩
 f29:=⟨Tryz.f243.name,by decide,Tryz.func243.trans (congrArg some (by kernel_rfl))⟩
 f31:=Tryz.func257.trans (congrArg some (by kernel_rfl))
 f32:=Tryz.func258.trans (congrArg some (by kernel_rfl))
 f36:=⟨Tryz.f256.name,by decide,Tryz.func256.trans (congrArg some (by kernel_rfl))⟩
 f37:=⟨Tryz.f259.name,by decide,Tryz.func259.trans (congrArg some (by kernel_rfl))⟩
 f38:=⟨Tryz.f260.name,by decide,Tryz.func260.trans (congrArg some (by kernel_rfl))⟩
 f39:=⟨Tryz.f261.name,by decide,Tryz.func261.trans (congrArg some (by kernel_rfl))⟩
 f41:=⟨Tryz.f274.name,by decide,Tryz.func274.trans (congrArg some (by kernel_rfl))⟩
 t0:=Tryz.underlying0
 a0:=Tryz.isAgg0
 z0:=Tryz.sizeOf0
 v0:=Tryz.zeroValue0
 t3:=Tryz.underlying3
 a3:=Tryz.isAgg3
 z3:=Tryz.sizeOf3
 v3:=Tryz.zeroValue3
 t4:=Tryz.underlying4
 a4:=Tryz.isAgg4
 z4:=Tryz.sizeOf4
 v4:=Tryz.zeroValue4
 t5:=Tryz.underlying5
 a5:=Tryz.isAgg5
 z5:=Tryz.sizeOf5
 v5:=Tryz.zeroValue5
 t9:=Tryz.underlying9
 a9:=Tryz.isAgg9
 z9:=Tryz.sizeOf9
 v9:=Tryz.zeroValue9
 t26:=Tryz.underlying89
 a26:=Tryz.isAgg89
 z26:=Tryz.sizeOf89
 v26:=Tryz.zeroValue89
 t27:=Tryz.underlying89
 a27:=Tryz.isAgg89
 z27:=Tryz.sizeOf89
 v27:=Tryz.zeroValue89
 t29:=Tryz.underlying9
 a29:=Tryz.isAgg9
 z29:=Tryz.sizeOf9
 v29:=Tryz.zeroValue9
 t32:=Tryz.underlying177
 a32:=Tryz.isAgg177
 z32:=Tryz.sizeOf177
 v32:=Tryz.zeroValue177
 t35:=Tryz.underlying252
 a35:=Tryz.isAgg252
 z35:=Tryz.sizeOf252
 v35:=Tryz.zeroValue252
 t36:=Tryz.underlying253
 a36:=Tryz.isAgg253
 z36:=Tryz.sizeOf253
 v36:=Tryz.zeroValue253
 t41:=Tryz.underlying258
 a41:=Tryz.isAgg258
 z41:=Tryz.sizeOf258
 v41:=Tryz.zeroValue258
 t44:=Tryz.underlying261
 a44:=Tryz.isAgg261
 z44:=Tryz.sizeOf261
 v44:=Tryz.zeroValue261
 t46:=Tryz.underlying133
 a46:=Tryz.isAgg133
 z46:=Tryz.sizeOf133
 v46:=Tryz.zeroValue133
 t53:=Tryz.underlying270
 a53:=Tryz.isAgg270
 z53:=Tryz.sizeOf270
 v53:=Tryz.zeroValue270
 t57:=Tryz.underlying274
 a57:=Tryz.isAgg274
 z57:=Tryz.sizeOf274
 v57:=Tryz.zeroValue274
 t63:=Tryz.underlying283
 a63:=Tryz.isAgg283
 z63:=Tryz.sizeOf283
 v63:=Tryz.zeroValue283
 t64:=Tryz.underlying210
 a64:=Tryz.isAgg210
 z64:=Tryz.sizeOf210
 v64:=Tryz.zeroValue210 }
def Tryz.cloneM_ren:Go.Shelf.Ren:=⟨fun | 5=>214 | 7=>234 | n=>n,fun | 23=>181 | 25=>3 | 3=>23 | 4=>4 | 20=>20 | n=>n,fun | n=>n⟩
theorem Tryz.cloneM:Go.Proofs.SlLaysW.n5 Tryz.prog Tryz.cloneM_ren:={
 mixed:=by kernel_rfl
 f5:=⟨Tryz.f214.name,by decide,Tryz.func214.trans (congrArg some (by kernel_rfl))⟩
 f7:=Tryz.func234.trans (congrArg some (by kernel_rfl))
 t4:=Tryz.underlying4
 a4:=Tryz.isAgg4
 z4:=Tryz.sizeOf4
 v4:=Tryz.zeroValue4
 t20:=Tryz.underlying20
 a20:=Tryz.isAgg20
 z20:=Tryz.sizeOf20
 v20:=Tryz.zeroValue20
 t23:=Tryz.underlying181
 a23:=Tryz.isAgg181
 z23:=Tryz.sizeOf181
 v23:=Tryz.zeroValue181 }
def Tryz.cloneT_ren:Go.Shelf.Ren:=⟨fun | 25=>215 | n=>n,fun | 9=>9 | 3=>3 | 4=>4 | 37=>249 | 0=>0 | 47=>250 | 5=>5 | n=>n,fun | n=>n⟩
theorem Tryz.cloneT:Go.Proofs.LaysPu.n25 Tryz.prog Tryz.cloneT_ren:={
 mixed:=by kernel_rfl
 f25:=Tryz.func215.trans (congrArg some (by kernel_rfl))
 t0:=Tryz.underlying0
 a0:=Tryz.isAgg0
 z0:=Tryz.sizeOf0
 v0:=Tryz.zeroValue0
 i0:=by kernel_rfl
 t3:=Tryz.underlying3
 a3:=Tryz.isAgg3
 z3:=Tryz.sizeOf3
 v3:=Tryz.zeroValue3
 i3:=by kernel_rfl
 t4:=Tryz.underlying4
 a4:=Tryz.isAgg4
 z4:=Tryz.sizeOf4
 v4:=Tryz.zeroValue4
 i4:=by kernel_rfl
 t5:=Tryz.underlying5
 a5:=Tryz.isAgg5
 z5:=Tryz.sizeOf5
 v5:=Tryz.zeroValue5
 i5:=by kernel_rfl
 t9:=Tryz.underlying9
 a9:=Tryz.isAgg9
 z9:=Tryz.sizeOf9
 v9:=Tryz.zeroValue9
 i9:=by kernel_rfl
 t37:=Tryz.underlying249
 a37:=Tryz.isAgg249
 z37:=Tryz.sizeOf249
 v37:=Tryz.zeroValue249
 i37:=by kernel_rfl
 t47:=Tryz.underlying250
 a47:=Tryz.isAgg250
 z47:=Tryz.sizeOf250
 v47:=Tryz.zeroValue250
 i47:=by kernel_rfl }
end Go.Proofs

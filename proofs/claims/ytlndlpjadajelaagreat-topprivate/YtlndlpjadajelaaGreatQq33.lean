import Derived.Test.YtlndlpjadajelaaGreatQq32
namespace Go.Proofs.YtlndlpjadajelaaGreat.K.P
open Go.RowKit Go.Proofs.YtlndlpjadajelaaGreat.K.Ds
theorem intKeys_len {w:World} {b n:Nat} {D:DataW Value} (h:w.ownsMap Tryz.prog 3 hR b n D):(intKeys D).length≤n:=by
 have h1:=h.size_le
 obtain ⟨es,rfl,_⟩:=h.keysOf
 simpa [intKeys,Maps.size] using h1
theorem top_step {f:Int→Rq} {xs:List Int} {i:Nat} {z:Int} {m:Rq} (h:Top f (fun q=>q∈xs.take i) m) (hz:xs[i]? = some z) (ho:OkR (f z)):Top f (fun q=>q∈xs.take (i + 1)) (if LeR (f z) m then m else f z):=by
 have h1:=h.more (p:=z) ho
 rw [pick_same h.ok ho] at h1
 refine h1.congr (fun q=>?_) (fun _ _=>rfl)
 rw [List.take_add_one,hz]
 simp
set_option maxHeartbeats 1000000 in
set_option maxRecDepth 100000 in
theorem spent_any (bud al:Rq) (bm n:Nat) (D:DataW Value) (P:Int→Prop) (f:Int→Rq) (w:World) (hp:Pts w bm n D P f) (hn:n≤1048576) (m:Rq) (ht:Top f P m) (r:Rq) (e:Int) (hr:mulT al m=(r,e)) :
  Calls Tryz.prog 157 #[pv bud al bm] w fun x w'=>x=.returned (.tuple #[rvq r,.int .i64 e])∧Below w.heap.size w w':=by
 have HP:Hid (Pts w bm n D P f):=hp
 have HT:Hid (Top f P m):=ht
 have HR:Hid (mulT al m=(r,e)):=hr
 have hbm:=hp.own.lt
 clear hp ht hr
 go_enter Tryz.func157,Tryz.ntmps157
 go_wp2_with fail
 refine (one_any _).mono ?_
 rintro e1 w1 ⟨rfl,hb1⟩
 have hz1:w.heap.size + 1 + 1≤w1.heap.size:=by have:=hb1.size; simpa using this
 have hz0:w.heap.size < w1.heap.size:=by omega
 have hz2:w.heap.size + 1 < w1.heap.size:=by omega
 have k0:w1.cell? ⟨w.heap.size,2,none⟩=some (.int .i64 al.1):=by rw [hb1.cell (p:=⟨w.heap.size,2,none⟩) (by simp <;> omega)]; simp [go_sem]
 have k1:w1.cell? ⟨w.heap.size,3,none⟩=some (.int .i64 al.2):=by rw [hb1.cell (p:=⟨w.heap.size,3,none⟩) (by simp <;> omega)]; simp [go_sem]
 have k4:w1.cell? ⟨w.heap.size,4,none⟩=some (.map (some bm)):=by rw [hb1.cell (p:=⟨w.heap.size,4,none⟩) (by simp <;> omega)]; simp [go_sem]
 have G1:=bt (bal (ba _ _) _) hb1
 go_wp2_with fail
 refine (keysI_any _ _).mono ?_
 rintro e2 w2 ⟨rfl,rfl⟩
 have HP2:Hid (Pts ((w1.alloc (.cells #[.int .i64 1,.int .i64 1] 23)).alloc (.cells #[.map (some bm)] 181)) bm n D P f):=(HP.out.keep (bal (bal G1 _) _))
 go_wp2_with fail
 refine (sortedI_any _ bm n D hR _ (by simp) (nc _ _ 0 _ (by simp) rfl) HP2.out.own hn).mono ?_
 rintro e3 w3 ⟨v,ss,rfl,hperm,hrow,hb3⟩
 obtain ⟨xs,hxs⟩:∃ xs,ss.mergeSort (fun x y=>decide (x≤y))=xs:=⟨_,rfl⟩
 have hlen:ss.length=xs.length:=by rw [← hxs,List.length_mergeSort]
 have hmem:∀ q,q∈xs↔P q:=fun q=>by
  rw [← hxs,List.mem_mergeSort,hperm.mem_iff,intKeys_has HP2.out.own,HP2.out.is]
 have hxl:xs.length≤1048576:=by rw [← hlen,hperm.length_eq]; exact Nat.le_trans (intKeys_len HP2.out.own) hn
 rw [hxs,hlen] at hrow
 have HI:Hid (Ints w3 w3.heap.size w1.heap.size v xs):=ints_of_owns rfl (by omega) hrow (by simp; omega)
 have HM:Hid (∀ q,q∈xs↔P q):=hmem
 have hz3:w1.heap.size + 1 + 1≤w3.heap.size:=by have:=hb3.size; simpa using this
 have HP3:Hid (Pts w3 bm n D P f):=HP2.out.keep hb3
 have T3:TwoB w3 w1.heap.size (.int .i64 1) (.int .i64 1):=(((TwoB.new w1 (.int .i64 1) (.int .i64 1) 23 _ rfl).below (ba _ _)).below hb3)
 have R3:TwoB w3 (w.heap.size + 1) (.int .i64 0) (.int .i64 0):=((((TwoB.new (w.alloc (.cells #[.int .i64 bud.1,.int .i64 bud.2,.int .i64 al.1,.int .i64 al.2,.map (some bm)] 183)) (.int .i64 0) (.int .i64 0) 23 _ (by simp)).below hb1).below (bal (ba _ _) _)).below hb3)
 have A0:w3.cell? ⟨w.heap.size,2,none⟩=some (.int .i64 al.1):=by rw [hb3.cell (p:=⟨w.heap.size,2,none⟩) (by simp <;> omega)]; simp [go_sem,hz0,k0]
 have A1:w3.cell? ⟨w.heap.size,3,none⟩=some (.int .i64 al.2):=by rw [hb3.cell (p:=⟨w.heap.size,3,none⟩) (by simp <;> omega)]; simp [go_sem,hz0,k1]
 have A4:w3.cell? ⟨w.heap.size,4,none⟩=some (.map (some bm)):=by rw [hb3.cell (p:=⟨w.heap.size,4,none⟩) (by simp <;> omega)]; simp [go_sem,hz0,k4]
 have B3:Below w.heap.size w w3:=bt (bal (bal G1 _) _) hb3
 have T0:Top f (fun q=>q∈xs.take 0) oneQ:=(top_none f).congr (fun q=>by simp) (fun _ _=>rfl)
 obtain ⟨a,c,rfl,hc,_⟩:=id HI.out
 clear hperm hrow hmem hxs hlen k0 k1 k4
 go_wp2_with fail
 go_loopw [14] (fun s wr=>∃ (i:Nat) (mi:Rq),s=.int .i64 (i:Int)∧i≤xs.length∧Hid (Top f (fun q=>q∈xs.take i) mi)∧Hid (w3.grownBy wr (some w1.heap.size))∧Hid (TwoB wr w1.heap.size (.int .i64 mi.1) (.int .i64 mi.2))) (fun s _=>xs.length - (intOf s).toNat)
 case atStart=>exact ⟨0,oneQ,rfl,Nat.zero_le _,T0,gb_refl _ _,T3⟩
 case round =>
  obtain ⟨i,mi,rfl,hi,HTi,HG,HB⟩:=hrel
  have a0:=HG.out.cell A0 (by simp; omega)
  have a1:=HG.out.cell A1 (by simp; omega)
  have a4:=HG.out.cell A4 (by simp; omega)
  have hzr:=HG.out.size
  obtain ⟨c0,c1,f0,f1,hlt⟩:=HB.out
  by_cases h1:i < xs.length
  ·obtain ⟨b,o,z,rfl,hb,hzi,hcz⟩:=ints_gep (ints_gbk HI.out HG.out) h1
   have HZ:Hid (xs[i]? = some z):=hzi
   have hPz:P z:=(HM.out z).1 (List.mem_of_getElem? hzi)
   have hok:OkR (f z):=HT.out.oks z hPz
   have hlk:=fun W (hW:Below wr.heap.size wr W)=>((HP3.out.gb HG.out (by simp; omega)).keep hW).look hPz
   have hlk0:=hlk wr (Below.refl _ _)
   clear hzi
   cases hle:decide (LeR (f z) mi) with
   | true =>
    have km:=more_any (f z) mi hok HTi.out.ok false hle
    have HL:Hid (LeR (f z) mi):=(of_decide_eq_true hle:LeR (f z) mi)
    clear hle
    go_wp2_with fail
    refine (km _).mono ?_
    rintro e4 w4 ⟨rfl,hb4⟩
    have hs4:=hb4.size
    go_wp2_with fail
    go_roundw
    case rel=>exact ⟨i + 1,mi,by go_num,by omega,by have:=top_step HTi.out HZ.out hok; rw [if_pos HL.out] at this; exact this,gb_trans HG.out (gb_below (bt (ba _ _) hb4)),(HB.out.below (ba _ _)).below hb4⟩
    case measure=>simp [intOf]; omega
   | false =>
    have km:=more_any (f z) mi hok HTi.out.ok true hle
    have HL:Hid (¬ LeR (f z) mi):=(of_decide_eq_false hle:¬ LeR (f z) mi)
    clear hle
    go_wp2_with fail
    refine (km _).mono ?_
    rintro e4 w4 ⟨rfl,hb4⟩
    have hs4:=hb4.size
    have HB4:Hid (TwoB w4 w1.heap.size (.int .i64 mi.1) (.int .i64 mi.2)):=(HB.out.below (ba _ _)).below hb4
    obtain ⟨d0,d1,g0,g1,hlt4⟩:=HB4.out
    have HN4:TwoB w4 wr.heap.size (.int .i64 (f z).1) (.int .i64 (f z).2):=(TwoB.new wr _ _ 23 _ rfl).below hb4
    obtain ⟨n0,n1,_,_,hltn⟩:=HN4
    go_wp2_with fail
    go_roundw
    case rel=>exact ⟨i + 1,f z,by go_num,by omega,by have:=top_step HTi.out HZ.out hok; rw [if_neg HL.out] at this; exact this,gb_set (gb_set (gb_trans HG.out (gb_below (bt (ba _ _) hb4))) _ _) _ _,HB4.out.put _ _⟩
    case measure=>simp [intOf]; omega
  ·have hi':i=xs.length:=by omega
   subst hi'
   have hmi:mi=m:=by
    have h2:=HTi.out
    rw [List.take_length] at h2
    exact (h2.congr HM.out (fun _ _=>rfl)).uniq HT.out
   subst hmi
   have kt:=times_any al.1 al.2 mi.1 mi.2 r.1 r.2 e (by rw [mulT_is,HR.out])
   have R4:=HB.out
   have HRr:Hid (TwoB wr (w.heap.size + 1) (.int .i64 0) (.int .i64 0)):=by
    have hk:wr.heap[w.heap.size + 1]? = w3.heap[w.heap.size + 1]?:=HG.out.block _ R3.lt (by simp; omega)
    exact ⟨(World.cell?_of_block (w:=w3) (a:=⟨w.heap.size + 1,0,none⟩) hk).trans R3.c0,(World.cell?_of_block (w:=w3) (a:=⟨w.heap.size + 1,1,none⟩) hk).trans R3.c1,(World.frozen?_of_block (w:=w3) (a:=⟨w.heap.size + 1,0,none⟩) hk).trans R3.f0,(World.frozen?_of_block (w:=w3) (a:=⟨w.heap.size + 1,1,none⟩) hk).trans R3.f1,by omega⟩
   go_wp2_with fail
   refine (kt _).mono ?_
   rintro e5 w5 ⟨rfl,hb5⟩
   obtain ⟨r0,r1,q0,q1,hlt5⟩:=HRr.out.below hb5
   have Bz:Below w.heap.size w w5:=bt (B3.trans (below_gb HG.out (by omega) (by omega))) hb5
   go_wp2_with fail
   exact bodyPost_ret (v:=.tuple #[rvq r,.int .i64 e]) (by simp [results,Tryz.results157,go_sem,r0,r1]) rfl ⟨rfl,bs (bs Bz (by simp) _) (by simp) _⟩
abbrev zp:Value:=.agg #[.int .i64 0,.int .i64 0,.int .i64 0,.int .i64 0,.map none]
def chkT (bud al m:Rq):Int:=if (mulT al m).2=0 then (if LeR (mulT al m).1 bud then 0 else 10) else (mulT al m).2
structure FivB (w:World) (R:Nat) (a b c d e:Value):Prop where
 c0:w.cell? ⟨R,0,none⟩=some a
 c1:w.cell? ⟨R,1,none⟩=some b
 c2:w.cell? ⟨R,2,none⟩=some c
 c3:w.cell? ⟨R,3,none⟩=some d
 c4:w.cell? ⟨R,4,none⟩=some e
 f0:w.frozen? ⟨R,0,none⟩=false
 f1:w.frozen? ⟨R,1,none⟩=false
 f2:w.frozen? ⟨R,2,none⟩=false
 f3:w.frozen? ⟨R,3,none⟩=false
 f4:w.frozen? ⟨R,4,none⟩=false
 lt:R < w.heap.size
theorem FivB.gb {w w':World} {R:Nat} {a b c d e:Value} {r:Option Nat} (h:FivB w R a b c d e) (hg:w.grownBy w' r) (hne:some R≠r):FivB w' R a b c d e:=by
 have hk:w'.heap[R]? = w.heap[R]?:=hg.block R h.lt hne
 have hc:=fun o=>World.cell?_of_block (w:=w) (w':=w') (a:=⟨R,o,none⟩) hk
 have hf:=fun o=>World.frozen?_of_block (w:=w) (w':=w') (a:=⟨R,o,none⟩) hk
 exact ⟨(hc 0).trans h.c0,(hc 1).trans h.c1,(hc 2).trans h.c2,(hc 3).trans h.c3,(hc 4).trans h.c4,(hf 0).trans h.f0,(hf 1).trans h.f1,(hf 2).trans h.f2,(hf 3).trans h.f3,(hf 4).trans h.f4,Nat.lt_of_lt_of_le h.lt hg.size⟩
theorem FivB.below {w w':World} {R:Nat} {a b c d e:Value} (h:FivB w R a b c d e) (hb:Below w.heap.size w w'):FivB w' R a b c d e:=h.gb (gb_none hb) (by simp)
theorem FivB.new (w:World) (a b c d e:Value) (t:TypeId) (N:Nat) (hN:N=w.heap.size):FivB (w.alloc (.cells #[a,b,c,d,e] t)) N a b c d e :=
 ⟨nc _ _ 0 _ hN rfl,nc _ _ 1 _ hN rfl,nc _ _ 2 _ hN rfl,nc _ _ 3 _ hN rfl,nc _ _ 4 _ hN rfl,nf _ _ 0 hN,nf _ _ 1 hN,nf _ _ 2 hN,nf _ _ 3 hN,nf _ _ 4 hN,by simp; omega⟩
theorem bs5 {w w1:World} {R:Nat} (h:Below w.heap.size w w1) (hR:w.heap.size≤R) (a b c d e:Value):Below w.heap.size w (((((w1.setCell ⟨R,0,none⟩ a).setCell ⟨R,1,none⟩ b).setCell ⟨R,2,none⟩ c).setCell ⟨R,3,none⟩ d).setCell ⟨R,4,none⟩ e) :=
 bs (bs (bs (bs (bs h hR _) hR _) hR _) hR _) hR _
set_option maxHeartbeats 1000000 in
set_option maxRecDepth 100000 in
theorem checked_any (bud al:Rq) (bm n:Nat) (D:DataW Value) (P:Int→Prop) (f:Int→Rq) (w:World) (hp:Pts w bm n D P f) (hn:n≤1048576) (m:Rq) (ht:Top f P m) (ha:OkR al) (hbu:OkR bud) (er:Int) (hr:chkT bud al m=er) :
  Calls Tryz.prog 213 #[pv bud al bm] w fun x w'=>x=.returned (.tuple #[if er=0 then pv bud al bm else zp,.int .i64 er])∧Below w.heap.size w w':=by
 obtain ⟨⟨r,e⟩,hm⟩:∃ y,mulT al m=y:=⟨_,rfl⟩
 have ks:=fun W (hW:Pts W bm n D P f)=>spent_any bud al bm n D P f W hW hn m ht r e hm
 have HP:Hid (Pts w bm n D P f):=hp
 have hcase:(e=4∧er=4)∨(e=0∧OkR r∧((LeR r bud∧er=0)∨(¬ LeR r bud∧er=10))):=by
  unfold chkT at hr
  rw [hm] at hr
  rcases mul_cases ha ht.ok with ⟨h1,h2,_⟩ | h1
  ·rw [hm] at h1 h2
   simp only at h1 h2
   right
   refine ⟨h1,h2,?_⟩
   rw [if_pos h1] at hr
   by_cases c:LeR r bud
   ·left; rw [if_pos c] at hr; exact ⟨c,hr.symm⟩
   ·right; rw [if_neg c] at hr; exact ⟨c,hr.symm⟩
  ·rw [hm] at h1
   simp only [Prod.mk.injEq] at h1
   obtain ⟨_,rfl⟩:=h1
   left
   simpa using hr.symm
 clear hp ht hr hm
 have P0:Hid (Pts ((w.alloc (.cells #[.int .i64 bud.1,.int .i64 bud.2,.int .i64 al.1,.int .i64 al.2,.map (some bm)] 183)).alloc (.cells #[.int .i64 0,.int .i64 0,.int .i64 0,.int .i64 0,.map none] 183)) bm n D P f):=HP.out.keep (bal (ba _ _) _)
 have V0:Hid (FivB ((w.alloc (.cells #[.int .i64 bud.1,.int .i64 bud.2,.int .i64 al.1,.int .i64 al.2,.map (some bm)] 183)).alloc (.cells #[.int .i64 0,.int .i64 0,.int .i64 0,.int .i64 0,.map none] 183)) w.heap.size (.int .i64 bud.1) (.int .i64 bud.2) (.int .i64 al.1) (.int .i64 al.2) (.map (some bm))):=(FivB.new _ _ _ _ _ _ 183 _ rfl).below (ba _ _)
 have V1:Hid (FivB ((w.alloc (.cells #[.int .i64 bud.1,.int .i64 bud.2,.int .i64 al.1,.int .i64 al.2,.map (some bm)] 183)).alloc (.cells #[.int .i64 0,.int .i64 0,.int .i64 0,.int .i64 0,.map none] 183)) (w.heap.size + 1) (.int .i64 0) (.int .i64 0) (.int .i64 0) (.int .i64 0) (.map none)):=FivB.new _ _ _ _ _ _ 183 _ (by simp)
 go_enter Tryz.func213,Tryz.ntmps213
 go_wp2_with fail
 refine (ks _ P0.out).mono ?_
 rintro e1 w1 ⟨rfl,hb1⟩
 have Bw:=bt (bal (ba _ _) _) hb1
 obtain ⟨c0,c1,c2,c3,c4,f0,f1,f2,f3,f4,hl0⟩:=V0.out.below hb1
 obtain ⟨d0,d1,d2,d3,d4,g0,g1,g2,g3,g4,hl1⟩:=V1.out.below hb1
 rcases hcase with ⟨rfl,rfl⟩ | ⟨rfl,hok,⟨hle,rfl⟩ | ⟨hle,rfl⟩⟩
 ·go_wp2_with fail
  exact bodyPost_ret (v:=.tuple #[zp,.int .i64 4]) (by simp [results,Tryz.results213,go_sem,d0,d1,d2,d3,d4,hl1]) rfl ⟨by simp,bal (bs5 Bw (by omega) _ _ _ _ _) _⟩
 ·have km:=more_any r bud hok hbu false (by simpa using hle)
  go_wp2_with fail
  refine (km _).mono ?_
  rintro e2 w2 ⟨rfl,hb2⟩
  obtain ⟨c0,c1,c2,c3,c4,f0,f1,f2,f3,f4,hl0⟩:=((V0.out.below hb1).below (ba _ _)).below hb2
  obtain ⟨d0,d1,d2,d3,d4,g0,g1,g2,g3,g4,hl1⟩:=((V1.out.below hb1).below (ba _ _)).below hb2
  go_wp2_with fail
  exact bodyPost_ret (v:=.tuple #[pv bud al bm,.int .i64 0]) (by simp [results,Tryz.results213,go_sem,d0,d1,d2,d3,d4]) rfl ⟨by simp,bs5 (bt (bal Bw _) hb2) (by omega) _ _ _ _ _⟩
 ·have km:=more_any r bud hok hbu true (by simpa using hle)
  go_wp2_with fail
  refine (km _).mono ?_
  rintro e2 w2 ⟨rfl,hb2⟩
  obtain ⟨d0,d1,d2,d3,d4,g0,g1,g2,g3,g4,hl1⟩:=((V1.out.below hb1).below (ba _ _)).below hb2
  go_wp2_with fail
  exact bodyPost_ret (v:=.tuple #[zp,.int .i64 10]) (by simp [results,Tryz.results213,go_sem,d0,d1,d2,d3,d4]) rfl ⟨by simp,bs5 (bt (bal Bw _) hb2) (by omega) _ _ _ _ _⟩
def onaT (bud al ls m:Rq):Int:=if (mulT al ls).2=0 then chkT bud (mulT al ls).1 m else (mulT al ls).2
set_option maxHeartbeats 1000000 in
set_option maxRecDepth 100000 in
theorem onAll_any (bud al ls:Rq) (bm n:Nat) (D:DataW Value) (P:Int→Prop) (f:Int→Rq) (w:World) (hp:Pts w bm n D P f) (hn:n≤1048576) (m:Rq) (ht:Top f P m) (ha:OkR al) (hbu:OkR bud) (hls:OkR ls) (er:Int) (hr:onaT bud al ls m=er) :
  Calls Tryz.prog 188 #[pv bud al bm,rvq ls] w fun x w'=>x=.returned (.tuple #[if er=0 then pv bud (mulT al ls).1 bm else zp,.int .i64 er])∧Below w.heap.size w w':=by
 obtain ⟨⟨q,e⟩,hm⟩:∃ y,mulT al ls=y:=⟨_,rfl⟩
 have kt:=times_any al.1 al.2 ls.1 ls.2 q.1 q.2 e (by rw [mulT_is,hm])
 have HP:Hid (Pts w bm n D P f):=hp
 have hcase:(e=4∧er=4)∨(e=0∧OkR q∧chkT bud q m=er):=by
  unfold onaT at hr
  rw [hm] at hr
  rcases mul_cases ha hls with ⟨h1,h2,_⟩ | h1
  ·rw [hm] at h1 h2
   simp only at h1 h2 hr
   rw [if_pos h1] at hr
   exact .inr ⟨h1,h2,hr⟩
  ·rw [hm] at h1
   simp only [Prod.mk.injEq] at h1
   obtain ⟨_,rfl⟩:=h1
   left
   simpa using hr.symm
 rw [hm]
 clear hp hr hm
 have V2:Hid (FivB (((w.alloc (.cells #[.int .i64 bud.1,.int .i64 bud.2,.int .i64 al.1,.int .i64 al.2,.map (some bm)] 183)).alloc (.cells #[.int .i64 ls.1,.int .i64 ls.2] 23)).alloc (.cells #[.int .i64 0,.int .i64 0,.int .i64 0,.int .i64 0,.map none] 183)) (w.heap.size + 1 + 1) (.int .i64 0) (.int .i64 0) (.int .i64 0) (.int .i64 0) (.map none)):=FivB.new _ _ _ _ _ _ 183 _ (by simp)
 have V0:Hid (FivB (((w.alloc (.cells #[.int .i64 bud.1,.int .i64 bud.2,.int .i64 al.1,.int .i64 al.2,.map (some bm)] 183)).alloc (.cells #[.int .i64 ls.1,.int .i64 ls.2] 23)).alloc (.cells #[.int .i64 0,.int .i64 0,.int .i64 0,.int .i64 0,.map none] 183)) w.heap.size (.int .i64 bud.1) (.int .i64 bud.2) (.int .i64 al.1) (.int .i64 al.2) (.map (some bm))):=((FivB.new _ _ _ _ _ _ 183 _ rfl).below (ba _ _)).below (ba _ _)
 go_enter Tryz.func188,Tryz.ntmps188
 go_wp2_with fail
 refine (kt _).mono ?_
 rintro e1 w1 ⟨rfl,hb1⟩
 have Bw:=bt (bal (bal (ba _ _) _) _) hb1
 obtain ⟨c0,c1,c2,c3,c4,f0,f1,f2,f3,f4,hl0⟩:=V0.out.below hb1
 obtain ⟨d0,d1,d2,d3,d4,g0,g1,g2,g3,g4,hl1⟩:=V2.out.below hb1
 rcases hcase with ⟨rfl,rfl⟩ | ⟨rfl,hok,hck⟩
 ·go_wp2_with fail
  exact bodyPost_ret (v:=.tuple #[zp,.int .i64 4]) (by simp [results,Tryz.results188,go_sem,d0,d1,d2,d3,d4,hl1]) rfl ⟨by simp,bal (bs5 Bw (by omega) _ _ _ _ _) _⟩
 ·have kc:=fun W (hW:Pts W bm n D P f)=>checked_any bud q bm n D P f W hW hn m ht hok hbu er hck
  clear hck
  have hbm:=HP.out.own.lt
  have P1:Hid (Pts w1 bm n D P f):=HP.out.keep Bw
  have hg:w1.grownBy (((w1.setCell ⟨w.heap.size,2,none⟩ (.int .i64 q.1)).setCell ⟨w.heap.size,3,none⟩ (.int .i64 q.2)).alloc (.cells #[.int .i64 q.1,.int .i64 q.2] 23)) (some w.heap.size):=gb_alloc (gb_set (gb_set (gb_refl _ _) _ _) _ _) _
  have HX:Hid (FivB (((w1.setCell ⟨w.heap.size,2,none⟩ (.int .i64 q.1)).setCell ⟨w.heap.size,3,none⟩ (.int .i64 q.2)).alloc (.cells #[.int .i64 q.1,.int .i64 q.2] 23)) (w.heap.size + 1 + 1) (.int .i64 0) (.int .i64 0) (.int .i64 0) (.int .i64 0) (.map none)):=(V2.out.below hb1).gb hg (by simp; omega)
  have P2:Hid (Pts (((w1.setCell ⟨w.heap.size,2,none⟩ (.int .i64 q.1)).setCell ⟨w.heap.size,3,none⟩ (.int .i64 q.2)).alloc (.cells #[.int .i64 q.1,.int .i64 q.2] 23)) bm n D P f):=P1.out.gb hg (by simp; omega)
  have BX:Below w.heap.size w (((w1.setCell ⟨w.heap.size,2,none⟩ (.int .i64 q.1)).setCell ⟨w.heap.size,3,none⟩ (.int .i64 q.2)).alloc (.cells #[.int .i64 q.1,.int .i64 q.2] 23)):=bal (bs (bs Bw (Nat.le_refl _) _) (Nat.le_refl _) _) _
  clear hg
  by_cases her:er=0
  ·subst her
   simp only [↓reduceIte] at kc
   go_wp2_with fail
   refine (kc _ P2.out).mono ?_
   rintro e2 w2 ⟨rfl,hb2⟩
   obtain ⟨x0,x1,x2,x3,x4,y0,y1,y2,y3,y4,hx⟩:=HX.out.below hb2
   go_wp2_with fail
   exact bodyPost_ret (v:=.tuple #[pv bud q bm,.int .i64 0]) (by simp [results,Tryz.results188,go_sem,x0,x1,x2,x3,x4]) rfl ⟨by simp,bs5 (bt BX hb2) (by omega) _ _ _ _ _⟩
  ·simp only [her,↓reduceIte] at kc
   go_wp2_with fail
   refine (kc _ P2.out).mono ?_
   rintro e2 w2 ⟨rfl,hb2⟩
   obtain ⟨x0,x1,x2,x3,x4,y0,y1,y2,y3,y4,hx⟩:=HX.out.below hb2
   go_wp2_with fail
   exact bodyPost_ret (v:=.tuple #[zp,.int .i64 er]) (by simp [results,Tryz.results188,go_sem,x0,x1,x2,x3,x4]) rfl ⟨by simp,bs5 (bt BX hb2) (by omega) _ _ _ _ _⟩
theorem Pts.put {w:World} {b n:Nat} {D:DataW Value} {P:Int→Prop} {f:Int→Rq} (h:Pts w b n D P f) (hn:n≤1048576) {z:Int} (hz:0≤z∧z≤1073741824) (q:Rq) :
  ∃ w',(Instr.mapUpdate 181 (.map (some b)) (.int .i64 z) (rvq q)).run Tryz.prog w=.ok () w'∧Pts w' b (n + 1) (D.put (.int .i64 z) (.held (rvq q))) (fun y=>P y∨y=z) (fun y=>if y=z then q else f y)∧w.grownBy w' (some b):=by
 have hwf:(Lit.int .i64 z).wf=true:=WalkArith.wf_i64 (by omega)
 obtain ⟨w',hrun,hown,hg⟩:=h.own.update law3 Tryz.underlying181 (by unfold maxLen; omega) (val:=rvq q) (d:=.held (rvq q)) (ps:=[]) (Go.Maps.keyOf_int_mk Tryz.underlying3 hwf) rfl
 refine ⟨w',hrun,⟨hown,fun y=>?_,fun y hy=>?_,fun y hy=>?_⟩,hg⟩
 ·by_cases hy:y=z
  ·subst hy; simp [Maps.has_put_same h.own.isMap (k:=.int .i64 y) True.intro]
  ·rw [Maps.has_put_other (by simpa using hy),h.is y]; simp [hy]
 ·by_cases hyz:y=z
  ·subst hyz; simp [Maps.atKey_put_same (k:=.int .i64 y) h.own.isMap True.intro]
  ·rw [Maps.atKey_put_other (by simpa using hyz),h.el y (by rcases hy with hy | hy; exact hy; exact absurd hy hyz)]; simp [hyz]
 ·rcases hy with hy | rfl
  ·exact h.rng y hy
  ·exact hz
theorem Pts.lookOk {w:World} {b n:Nat} {D:DataW Value} {P:Int→Prop} {f:Int→Rq} (h:Pts w b n D P f) {z:Int} (hr:0≤z∧z≤1073741824) :
  (P z∧(Instr.lookup 181 (.map (some b)) (.int .i64 z) true).run Tryz.prog w=.ok (.tuple #[rvq (f z),.bool true]) w)∨(¬ P z∧(Instr.lookup 181 (.map (some b)) (.int .i64 z) true).run Tryz.prog w=.ok (.tuple #[rv 0 0,.bool false]) w):=by
 have hwf:(Lit.int .i64 z).wf=true:=WalkArith.wf_i64 (by omega)
 obtain ⟨v',ps,hrun,hat⟩:=h.own.look_ok law3 Tryz.underlying181 (zero31 w) (zd:=.held (rv 0 0)) (zp:=[]) rfl (Go.Maps.keyOf_int_mk Tryz.underlying3 hwf)
 cases hh:Maps.has D (.int .i64 z) with
 | true =>
  left
  have hz:=(h.is z).1 hh
  rw [h.el z hz] at hat
  simp [hR] at hat
  exact ⟨hz,by rw [hrun,hat.1,hh]⟩
 | false =>
  right
  have hz:¬ P z:=fun c=>by rw [(h.is z).2 c] at hh; cases hh
  have h2:D.atKey (.int .i64 z) (.held (rv 0 0))=.held (rv 0 0):=Maps.atKey_of_not_has hh _
  rw [h2] at hat
  simp [hR] at hat
  exact ⟨hz,by rw [hrun,hat.1,hh]⟩
def onpT (bud al fp ls m:Rq) (there:Bool) (cnt:Nat) (part:Int):Int :=
 if part < 0∨1073741824 < part then 3 else if there=false∧64≤cnt then 5 else if (mulT fp ls).2=0 then chkT bud al m else (mulT fp ls).2
def PartP (w:World) (bud al:Rq) (n cnt:Nat) (there:Bool) (P:Int→Prop) (f:Int→Rq) (part:Int) (q:Rq) (er:Int):Ending→World→Prop:=fun x w' =>
 Below w.heap.size w w'∧((er≠0∧x=.returned (.tuple #[zp,.int .i64 er])) ∨
  (er=0∧∃ b D,x=.returned (.tuple #[pv bud al b,.int .i64 0])∧w.heap.size≤b∧Pts w' b (n + 1) D (fun y=>P y∨y=part) (fun y=>if y=part then q else f y)∧Maps.size D=if there then cnt else cnt + 1))
theorem Pts.new (w:World) (f:Int→Rq):Pts (w.alloc (.map #[] 0)) w.heap.size 0 (.map []) (fun _=>False) f :=
 ⟨World.ownsMap_made _ _ _ _,fun z=>by simp [Maps.has],fun _ h=>h.elim,fun _ h=>h.elim⟩
set_option maxHeartbeats 2000000 in
set_option maxRecDepth 100000 in
theorem onPartOld_any (bud al ls fp:Rq) (bm n cnt:Nat) (D:DataW Value) (P:Int→Prop) (f:Int→Rq) (part:Int) (w:World) (hp:Pts w bm n D P f) (hn:n + 1≤1048576) (hsz:Maps.size D=cnt) (hpr:0≤part∧part≤1073741824) (hth:P part) (hfp:f part=fp) (hof:OkR fp) (m:Rq)
  (ht:(mulT fp ls).2=0→Top (fun y=>if y=part then (mulT fp ls).1 else f y) (fun y=>P y∨y=part) m) (ha:OkR al) (hbu:OkR bud) (hls:OkR ls) (er:Int) (hr:onpT bud al fp ls m true cnt part=er) :
  Calls Tryz.prog 189 #[pv bud al bm,.int .i64 part,rvq ls] w (PartP w bud al n cnt true P f part (mulT fp ls).1 er):=by
 have hbm:=hp.own.lt
 have hr':(if true=false∧64≤cnt then 5 else if (mulT fp ls).2=0 then chkT bud al m else (mulT fp ls).2)=er:=by rw [← hr,onpT,if_neg (show ¬ (part < 0∨1073741824 < part) by omega)]
 clear hr
 obtain ⟨⟨q,e⟩,hm⟩:∃ y,mulT fp ls=y:=⟨_,rfl⟩
 have kt:=times_any fp.1 fp.2 ls.1 ls.2 q.1 q.2 e (by rw [mulT_is,hm])
 have HP:Hid (Pts w bm n D P f):=hp
 have hcase:(true=false∧64≤cnt∧er=5)∨(¬ (true=false∧64≤cnt)∧e=4∧er=4)∨(¬ (true=false∧64≤cnt)∧e=0∧OkR q∧chkT bud al m=er):=by
  rw [hm] at hr'
  by_cases c:true=false∧64≤cnt
  ·rw [if_pos c] at hr'; exact .inl ⟨c.1,c.2,hr'.symm⟩
  rw [if_neg c] at hr'
  rcases mul_cases hof hls with ⟨h1,h2,_⟩ | h1
  ·rw [hm] at h1 h2
   simp only at h1 h2 hr'
   rw [if_pos h1] at hr'
   exact .inr (.inr ⟨c,h1,h2,hr'⟩)
  ·rw [hm] at h1
   simp only [Prod.mk.injEq] at h1
   obtain ⟨_,rfl⟩:=h1
   right; left
   exact ⟨c,rfl,by simpa using hr'.symm⟩
 rw [hm] at ht
 rw [hm]
 simp only at ht
 clear hp hr' hm
 obtain ⟨w0,hw0⟩:∃ w0,((w.alloc (.cells #[.int .i64 bud.1,.int .i64 bud.2,.int .i64 al.1,.int .i64 al.2,.map (some bm)] 183)).alloc (.cells #[.int .i64 ls.1,.int .i64 ls.2] 23)).alloc (.cells #[.int .i64 0,.int .i64 0,.int .i64 0,.int .i64 0,.map none] 183)=w0:=⟨_,rfl⟩
 have hz0:w0.heap.size=w.heap.size + 1 + 1 + 1:=by rw [← hw0]; simp
 have B0:Below w.heap.size w w0:=by rw [← hw0]; exact bal (bal (ba _ _) _) _
 have V0:Hid (FivB w0 w.heap.size (.int .i64 bud.1) (.int .i64 bud.2) (.int .i64 al.1) (.int .i64 al.2) (.map (some bm))):=by rw [← hw0]; exact ((FivB.new _ _ _ _ _ _ 183 _ rfl).below (ba _ _)).below (ba _ _)
 have V1:Hid (TwoB w0 (w.heap.size + 1) (.int .i64 ls.1) (.int .i64 ls.2)):=by rw [← hw0]; exact (TwoB.new _ _ _ 23 _ (by simp)).below (ba _ _)
 have V2:Hid (FivB w0 (w.heap.size + 1 + 1) (.int .i64 0) (.int .i64 0) (.int .i64 0) (.int .i64 0) (.map none)):=by rw [← hw0]; exact FivB.new _ _ _ _ _ _ 183 _ (by simp)
 have P0:Hid (Pts w0 bm n D P f):=HP.out.keep B0
 have q1:¬ part < 0:=by omega
 have q2:¬ 1073741824 < part:=by omega
 have hlk:(Instr.lookup 181 (.map (some bm)) (.int .i64 part) true).run Tryz.prog w0=.ok (.tuple #[rvq fp,.bool true]) w0:=by
  rcases P0.out.lookOk hpr with ⟨h1,h2⟩ | ⟨h1,h2⟩
  ·rw [h2,hfp]
  ·exact absurd hth h1
 obtain ⟨c0,c1,c2,c3,c4,f0,f1,f2,f3,f4,hl0⟩:=V0.out
 obtain ⟨l0,l1,lf0,lf1,hl1⟩:=V1.out
 obtain ⟨d0,d1,d2,d3,d4,g0,g1,g2,g3,g4,hl2⟩:=V2.out
 go_enter Tryz.func189,Tryz.ntmps189
 obtain ⟨X,hX⟩:∃ X,w0.alloc (.cells #[.int .i64 fp.1,.int .i64 fp.2] 23)=X:=⟨_,rfl⟩
 have BX:Below w0.heap.size w0 X:=by rw [← hX]; exact ba _ _
 have VX0:Hid (FivB X w.heap.size (.int .i64 bud.1) (.int .i64 bud.2) (.int .i64 al.1) (.int .i64 al.2) (.map (some bm))):=V0.out.below BX
 have VX1:Hid (TwoB X (w.heap.size + 1) (.int .i64 ls.1) (.int .i64 ls.2)):=V1.out.below BX
 have VX2:Hid (FivB X (w.heap.size + 1 + 1) (.int .i64 0) (.int .i64 0) (.int .i64 0) (.int .i64 0) (.map none)):=V2.out.below BX
 have VX3:Hid (TwoB X (w.heap.size + 1 + 1 + 1) (.int .i64 fp.1) (.int .i64 fp.2)):=by rw [← hX]; exact TwoB.new _ _ _ 23 _ hz0.symm
 have PX:Hid (Pts X bm n D P f):=P0.out.keep BX
 have BwX:Below w.heap.size w X:=bt B0 BX
 clear c0 c1 c2 c3 l0 l1 d0 d1 d2 d3 d4 lf0 lf1 f0 f1 f2 f3 f4 g0 g1 g2 g3 g4
 obtain ⟨x0,x1,x2,x3,x4,xf0,xf1,xf2,xf3,xf4,hlx0⟩:=VX0.out
 obtain ⟨l0,l1,lf0,lf1,hlx1⟩:=VX1.out
 obtain ⟨d0,d1,d2,d3,d4,g0,g1,g2,g3,g4,hlx2⟩:=VX2.out
 obtain ⟨t0,t1,tf0,tf1,hlx3⟩:=VX3.out
 rcases hcase with ⟨hca,hcb,rfl⟩ | ⟨hca,rfl,rfl⟩ | ⟨hca,rfl,hok,hck⟩
 ·cases hca
 ·go_wp2_with fail
  refine (kt _).mono ?_
  rintro e2 w2 ⟨rfl,hb2⟩
  have Bw2:=bt BwX hb2
  obtain ⟨m0,m1,m2,m3,m4,h0,h1,h2,h3,h4,hl5⟩:=VX2.out.below hb2
  go_wp2_with fail
  exact bodyPost_ret (v:=.tuple #[zp,.int .i64 4]) (by simp [results,Tryz.results189,go_sem,m0,m1,m2,m3,m4,hl5]) rfl ⟨bal (bs5 Bw2 (by omega) _ _ _ _ _) _,.inl ⟨by decide,rfl⟩⟩
 ·go_wp2_with fail
  refine (kt _).mono ?_
  rintro e2 w2 ⟨rfl,hb2⟩
  obtain ⟨W3,hW3⟩:∃ W3,w2.alloc (.cells #[.int .i64 q.1,.int .i64 q.2] 23)=W3:=⟨_,rfl⟩
  have B3:Below X.heap.size X W3:=by rw [← hW3]; exact bal hb2 _
  have T3:Hid (TwoB W3 w2.heap.size (.int .i64 q.1) (.int .i64 q.2)):=by rw [← hW3]; exact TwoB.new _ _ _ 23 _ rfl
  have P3:Hid (Pts W3 bm n D P f):=PX.out.keep B3
  obtain ⟨n0,n1,n2,n3,n4,nf0,nf1,nf2,nf3,nf4,hn0⟩:=VX0.out.below B3
  go_wp2_with fail
  refine (cloneM_any hR bm n D _ P3.out.own).mono ?_
  rintro e4 w4 ⟨rfl,hcl,hb4,hlt4⟩
  have P4:Hid (Pts w4 W3.heap.size n D P f):=⟨hcl,P3.out.is,P3.out.el,P3.out.rng⟩
  have V40:Hid (FivB w4 w.heap.size (.int .i64 bud.1) (.int .i64 bud.2) (.int .i64 al.1) (.int .i64 al.2) (.map (some bm))):=(VX0.out.below B3).below hb4
  have hs3:=B3.size
  have hs4:=hb4.size
  have hsx:=BwX.size
  obtain ⟨Y,hY⟩:∃ Y,w4.setCell ⟨w.heap.size,4,none⟩ (.map (some W3.heap.size))=Y:=⟨_,rfl⟩
  have gY:w4.grownBy Y (some w.heap.size):=by rw [← hY]; exact gb_set (gb_refl _ _) _ _
  have PY:Hid (Pts Y W3.heap.size n D P f):=P4.out.gb gY (by simp; omega)
  obtain ⟨w5,hup,P5,g5⟩:=PY.out.put (by omega) hpr q
  have T5:TwoB Y w2.heap.size (.int .i64 q.1) (.int .i64 q.2):=by
   obtain ⟨a1,a2,a3,a4,a5⟩:=T3.out.below hb4
   have hk:Y.heap[w2.heap.size]? = w4.heap[w2.heap.size]?:=gY.block _ a5 (by have:=hb2.size; simp; omega)
   exact ⟨(World.cell?_of_block (w:=w4) (a:=⟨w2.heap.size,0,none⟩) hk).trans a1,(World.cell?_of_block (w:=w4) (a:=⟨w2.heap.size,1,none⟩) hk).trans a2,(World.frozen?_of_block (w:=w4) (a:=⟨w2.heap.size,0,none⟩) hk).trans a3,(World.frozen?_of_block (w:=w4) (a:=⟨w2.heap.size,1,none⟩) hk).trans a4,Nat.lt_of_lt_of_le a5 gY.size⟩
  have VY:Hid (FivB Y w.heap.size (.int .i64 bud.1) (.int .i64 bud.2) (.int .i64 al.1) (.int .i64 al.2) (.map (some W3.heap.size))):=by
   rw [← hY]
   obtain ⟨a0,a1,a2,a3,a4,b0,b1,b2,b3,b4,b5⟩:=V40.out
   exact ⟨(sc_other (by simp)).trans a0,(sc_other (by simp)).trans a1,(sc_other (by simp)).trans a2,(sc_other (by simp)).trans a3,sc_same a4,sc_frozen.trans b0,sc_frozen.trans b1,sc_frozen.trans b2,sc_frozen.trans b3,sc_frozen.trans b4,by simpa using b5⟩
  have V5:Hid (FivB w5 w.heap.size (.int .i64 bud.1) (.int .i64 bud.2) (.int .i64 al.1) (.int .i64 al.2) (.map (some W3.heap.size))):=VY.out.gb g5 (by simp; omega)
  have R5:Hid (FivB w5 (w.heap.size + 1 + 1) (.int .i64 0) (.int .i64 0) (.int .i64 0) (.int .i64 0) (.map none)):=((((VX2.out.below B3).below hb4).gb gY (by simp; omega)).gb g5 (by have:=hlx2; simp; omega))
  have B5:Below w.heap.size w w5:=((bt BwX (bt B3 hb4)).trans (below_gb gY (Nat.le_refl _) (by omega))).trans (below_gb g5 (by omega) (by have:=gY.size; omega))
  obtain ⟨tq0,tq1,_,_,tql⟩:=T5
  obtain ⟨z0,z1,z2,z3,z4,zf0,zf1,zf2,zf3,zf4,hz⟩:=V40.out
  obtain ⟨u0,u1,u2,u3,u4,uf0,uf1,uf2,uf3,uf4,hu⟩:=VY.out
  obtain ⟨v0,v1,v2,v3,v4,vf0,vf1,vf2,vf3,vf4,hv⟩:=V5.out
  have kc:=fun W (hW:Pts W W3.heap.size (n + 1) _ (fun y=>P y∨y=part) (fun y=>if y=part then q else f y))=>checked_any bud al W3.heap.size (n + 1) (D.put (.int .i64 part) (.held (rvq q))) _ _ W hW (by omega) m (ht (by simp)) ha hbu er hck
  have HP5:=P5
  have HSZ:Hid (Maps.size (D.put (.int .i64 part) (.held (rvq q)))=if true then cnt else cnt + 1):=by
   rw [Hid,Maps.size_put (HP.out.own.tidy law3),hsz]
   rw [(HP.out.is part).2 hth]
  clear hck ht gY g5 hcl P5
  by_cases her:er=0
  ·subst her
   simp only [↓reduceIte] at kc
   go_wp2_with fail
   refine (kc _ HP5).mono ?_
   rintro e6 w6 ⟨rfl,hb6⟩
   obtain ⟨s0,s1,s2,s3,s4,sf0,sf1,sf2,sf3,sf4,hs⟩:=R5.out.below hb6
   go_wp2_with fail
   exact bodyPost_ret (v:=.tuple #[pv bud al W3.heap.size,.int .i64 0]) (by simp [results,Tryz.results189,go_sem,s0,s1,s2,s3,s4]) rfl ⟨bs5 (bt B5 hb6) (by omega) _ _ _ _ _,.inr ⟨rfl,W3.heap.size,_,rfl,by omega,(HP5.keep hb6).gb (gb_set (gb_set (gb_set (gb_set (gb_set (gb_refl _ _) _ _) _ _) _ _) _ _) _ _) (by have:=hlx2; simp; omega),HSZ.out⟩⟩
  ·simp only [her,↓reduceIte] at kc
   go_wp2_with fail
   refine (kc _ HP5).mono ?_
   rintro e6 w6 ⟨rfl,hb6⟩
   obtain ⟨s0,s1,s2,s3,s4,sf0,sf1,sf2,sf3,sf4,hs⟩:=R5.out.below hb6
   go_wp2_with fail
   exact bodyPost_ret (v:=.tuple #[zp,.int .i64 er]) (by simp [results,Tryz.results189,go_sem,s0,s1,s2,s3,s4]) rfl ⟨bs5 (bt B5 hb6) (by omega) _ _ _ _ _,.inl ⟨her,rfl⟩⟩
end Go.Proofs.YtlndlpjadajelaaGreat.K.P

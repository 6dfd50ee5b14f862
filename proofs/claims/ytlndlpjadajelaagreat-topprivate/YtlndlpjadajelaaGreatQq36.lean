import Derived.Test.YtlndlpjadajelaaGreatQq35
import Derived.Deep.RegionLaw
import Derived.Laws.CopyOwn
namespace Go.Proofs.YtlndlpjadajelaaGreat.K.P
open Go.RowKit Go.Proofs.YtlndlpjadajelaaGreat.K.Ds
theorem five_cells (w:World) (a b c d e:Value) (t:TypeId) (N:Nat) (hN:N=w.heap.size):∀ j u,[a,b,c,d,e][j]? = some u→(w.alloc (.cells #[a,b,c,d,e] t)).cell? ((⟨N,0,none⟩:Addr).add j)=some u:=by
 subst hN
 exact fun j u hu=>World.news_of_block (w:=w.alloc (.cells #[a,b,c,d,e] t)) (B:=w.heap.size) (cs:=#[a,b,c,d,e]) (t:=t) (fr:=(0,0)) (heap_alloc_new w _) j u (by simpa using hu)
theorem kN_ne {x y:ByteArray} (h:x≠y):kN x≠kN y:=by
 intro e
 simp only [Lit.string.injEq] at e
 apply h
 apply ByteArray.ext
 exact Array.toList_inj.1 e
theorem TwoB.gb {w w':World} {R:Nat} {x y:Value} {r:Option Nat} (h:TwoB w R x y) (hg:w.grownBy w' r) (hne:some R≠r):TwoB w' R x y:=by
 have hk:w'.heap[R]? = w.heap[R]?:=hg.block R h.lt hne
 exact ⟨(World.cell?_of_block (w:=w) (a:=⟨R,0,none⟩) hk).trans h.c0,(World.cell?_of_block (w:=w) (a:=⟨R,1,none⟩) hk).trans h.c1,(World.frozen?_of_block (w:=w) (a:=⟨R,0,none⟩) hk).trans h.f0,(World.frozen?_of_block (w:=w) (a:=⟨R,1,none⟩) hk).trans h.f1,Nat.lt_of_lt_of_le h.lt hg.size⟩
theorem TwoB.set1 {w:World} {R:Nat} {x y:Value} (h:TwoB w R x y) (u:Value):TwoB (w.setCell ⟨R,1,none⟩ u) R x u :=
 ⟨(sc_other (by simp)).trans h.c0,sc_same h.c1,sc_frozen.trans h.f0,sc_frozen.trans h.f1,by simpa using h.lt⟩
theorem bud_other {done:List En} {e:En} {x:ByteArray} (h:x≠e.2.1):budT (done ++ [e]) x=budT done x:=by
 rw [bud_snoc,if_neg (fun c=>h c.2.symm)]; cases budT done x <;> rfl
theorem bookM_next {X w5 w6:World} {N:Nat→Prop} {bk bm n:Nat} {v:Value} {D:DataW Value} {done:List En} {e:En} {b:Rq} {bp np:Nat} {Dp:DataW Value} {g cap:Nat}
  (hX:BookM X N bk bm n v D done) (hN:∀ k,w5.heap.size≤k→N k) (hd:doT done e=0) (hn:nrm e=e)
  (hbud:budT (done ++ [e]) e.2.1=some b) (hP:Pts X bp np Dp (fun p=>p∈prs (done ++ [e]) e.2.1) (fun p=>(prtP (done ++ [e]) e.2.1 p).1)) (hnp:np≤done.length + 1) (hszp:Maps.size Dp=(parT (done ++ [e]) e.2.1).length) (hNp:N bp) (hpk:bp≠bk) (hpm:bp≠bm)
  (own5:w5.ownsMap Tryz.prog 9 hR bm (n + 1) (D.put (kN e.2.1) (.held (pv b (allP (done ++ [e]) e.2.1).1 bp)))) (g5:X.grownBy w5 (some bm))
  (row6:w6.ownsRow 0 87 5 (.slice (some ⟨g,0,none⟩) (done.length + 1) cap) (done.length + 1) (enc done ++ encE e)) (g6:w5.grownBy w6 v.ownBlock) (hg6:v.ownBlock=some g∨w5.heap.size≤g) :
  BookM (w6.setCell ⟨bk,1,none⟩ (.slice (some ⟨g,0,none⟩) (done.length + 1) cap)) N bk bm (n + 1) (.slice (some ⟨g,0,none⟩) (done.length + 1) cap) (D.put (kN e.2.1) (.held (pv b (allP (done ++ [e]) e.2.1).1 bp))) (done ++ [e]):=by
 obtain ⟨hl1,hl2,hl3,hl4⟩:=hX.lob
 have hbk5:bk < w5.heap.size:=Nat.lt_of_lt_of_le hX.two.lt g5.size
 have hbm5:bm < w5.heap.size:=own5.lt
 have hgk:N g∧g≠bk∧g≠bm:=by
  rcases hg6 with h | h
  ·exact hl4 g h
  ·exact ⟨hN g h,by omega,by omega⟩
 have g7:w6.grownBy (w6.setCell ⟨bk,1,none⟩ (.slice (some ⟨g,0,none⟩) (done.length + 1) cap)) (some bk):=gb_set (gb_refl _ _) _ _
 have ob:∀ k,v.ownBlock=some k→k≠bk∧k≠bm:=fun k hk=>(hl4 k hk).2
 have keepP:∀ {bq nq:Nat} {Dq:DataW Value} {P:Int→Prop} {f:Int→Rq},Pts X bq nq Dq P f→bq≠bk→bq≠bm→Pts (w6.setCell ⟨bk,1,none⟩ (.slice (some ⟨g,0,none⟩) (done.length + 1) cap)) bq nq Dq P f:=fun {bq} {_} {_} {_} {_} h h1 h2=>by
  refine ((h.gb g5 (by simpa using h2)).gb g6 (fun e'=>?_)).gb g7 (by simpa using h1)
  rcases hX.row.2 with ⟨rfl,_⟩ | ⟨g',c',cur,rfl,_,hc,_⟩
  ·cases e'
  ·simp only [Value.ownBlock,Option.some.injEq] at e'
   subst e'
   obtain ⟨es,clock,hb,_⟩:=h.own
   rw [hc] at hb
   cases hb
 obtain ⟨k1,k2,k3⟩:=doT_ok hd
 refine ⟨inv_snoc hX.inv hd hn,?_,?_,?_,?_,fun x=>?_,fun x b' hx=>?_,?_,hl1,hl2,hl3,fun g' hg'=>?_⟩
 ·exact ((hX.two.gb g5 (by simpa using hl3)).gb g6 (fun e'=>(ob bk e'.symm).1 rfl)).set1 _
 ·exact (own5.kept g6 (fun e'=>(ob bm e'.symm).2 rfl)).kept g7 (by simpa using fun h=>hl3 h.symm)
 ·have:=row6.kept g7 (.inr (by simpa [Value.ownBlock] using hgk.2.1))
  rw [enc_snoc]; simpa using this
 ·simp; have:=hX.cnt; omega
 ·by_cases hxe:x=e.2.1
  ·subst hxe
   rw [Maps.has_put_same hX.own.isMap (k:=kN e.2.1) True.intro]
   simp [hbud]
  ·rw [Maps.has_put_other (kN_ne hxe),hX.is x,bud_other hxe]
 ·by_cases hxe:x=e.2.1
  ·subst hxe
   rw [hbud] at hx
   simp only [Option.some.injEq] at hx
   subst hx
   exact ⟨bp,np,Dp,Maps.atKey_put_same (k:=kN e.2.1) hX.own.isMap True.intro _ _,keepP hP hpk hpm,by simpa using hnp,hszp,hNp,hpk,hpm⟩
  ·rw [bud_other hxe] at hx
   obtain ⟨bq,nq,Dq,j1,j2,j3,j4,j5,j6,j7⟩:=(hX.el x b' hx).ex
   have hne:∀ q,¬ (e.2.1=x∧q):=fun q c=>hxe c.1.symm
   have e1:allP (done ++ [e]) x=allP done x:=all_other (hne _)
   have e2:prs (done ++ [e]) x=prs done x:=prs_other (hne _)
   have e3:prtP (done ++ [e]) x=prtP done x:=funext fun y=>prt_other (hne _)
   exact ⟨bq,nq,Dq,by rw [Maps.atKey_put_other (kN_ne hxe),e1]; exact j1,by simp only [e2,e3]; exact keepP j2 j6 j7,by simp; omega,by unfold parT; rw [e2]; exact j4,j5,j6,j7⟩
 ·rw [Maps.size_put (hX.own.tidy law9),hX.sz,ops_snoc]
  rcases k3 with ⟨c1,c2,_⟩ | ⟨c1,b0,c2,_⟩
  ·rw [if_pos c1,(hX.has_no c2).1]; simp
  ·rw [if_neg c1,(hX.is e.2.1).2 ⟨b0,c2⟩]; simp
 ·simp only [Value.ownBlock,Option.some.injEq] at hg'
  subst hg'
  exact hgk
set_option maxHeartbeats 2000000 in
set_option maxRecDepth 100000 in
theorem doYes_any (N:Nat→Prop) (bk bm n:Nat) (v:Value) (D:DataW Value) (done:List En) (e:En) (w:World) (hB:BookM w N bk bm n v D done) (hs:e.2.1.size≤4294967296) (hN:∀ k,w.heap.size≤k→N k) (hbad:badT e=0) (hl:done.length < 4096) (hpI:-9223372036854775808≤e.2.2.1∧e.2.2.1≤9223372036854775807) (her:doT done (nrm e)=0) :
  Calls Tryz.prog 92 #[.pointer (some ⟨bk,0,none⟩),ev e] w (DoP w N bk bm done e):=by
 have kw:=fun W=>wrong_any e (by omega) W 0 hbad
 have ka:=fun W (hW:BookM W N bk bm n v D done) (hNW:∀ k,W.heap.size≤k→N k)=>after_any N bk bm n v D done e W hW hs hNW hbad hl hpI 0 her
 have kr:=fun W=>written_any e (by omega) W
 have HB:Hid (BookM w N bk bm n v D done):=hB
 have hbk:=hB.two.lt
 obtain ⟨va,vc,rfl⟩:=hB.slice
 have hq:decide ((4096:Int)≤(done.length:Int))=false:=decide_eq_false (by omega)
 obtain ⟨e',he'⟩:∃ e',nrm e=e':=⟨_,rfl⟩
 have HE:Hid (nrm e=e'):=he'
 have HD:Hid (doT done e' = 0):=by rw [← he']; exact her
 simp only [he'] at ka kr
 have hnm:e'.2.1=e.2.1:=by rw [← he']; exact nrm_n e
 obtain ⟨d,nm,p,u,v'⟩:=e
 obtain ⟨d',nm',p',u',v''⟩:=e'
 simp only at hnm hs
 subst hnm
 obtain ⟨i0,hi0,hz0,hz1,hz2⟩:=info_parts info33
 have V0:Hid (FivB (w.alloc (.cells #[.int .i64 d,.string nm',.int .i64 p,.int .i64 u,.int .i64 v'] 87)) w.heap.size (.int .i64 d) (.string nm') (.int .i64 p) (.int .i64 u) (.int .i64 v')):=FivB.new _ _ _ _ _ _ 87 _ rfl
 clear hbad her hB he'
 go_enter Tryz.func92,Tryz.ntmps92
 go_wp2_with fail
 refine (kw _).mono ?_
 rintro e1 w1 ⟨rfl,hb1⟩
 have B1:=bt (ba _ _) hb1
 have BK1:=HB.out.keep B1
 obtain ⟨t0,t1,tf0,tf1,htl⟩:=BK1.two
 obtain ⟨c0,c1,c2,c3,c4,f0,f1,f2,f3,f4,hl0⟩:=V0.out.below hb1
 go_wp2_with fail
 refine (ka _ BK1 (fun k hk=>hN k (Nat.le_trans B1.size hk))).mono ?_
 rintro e2 w2 ⟨hb2,⟨hz,_⟩ | ⟨_,b,bp,np,Dp,rfl,hbud,hPt,hnp,hszp,hNp,hpk,hpm⟩⟩
 ·exact absurd rfl hz
 obtain ⟨al,hal⟩:∃ al,(allP (done ++ [(d',nm',p',u',v'')]) nm').1=al:=⟨_,rfl⟩
 have HAL:Hid ((allP (done ++ [(d',nm',p',u',v'')]) nm').1=al):=hal
 simp only [hal]
 have HPT:Hid (Pts w2 bp np Dp (fun p=>p∈prs (done ++ [(d',nm',p',u',v'')]) nm') (fun y=>(prtP (done ++ [(d',nm',p',u',v'')]) nm' y).1)∧np≤done.length + 1∧Maps.size Dp=(parT (done ++ [(d',nm',p',u',v'')]) nm').length∧N bp∧bp≠bk∧bp≠bm∧budT (done ++ [(d',nm',p',u',v'')]) nm' = some b):=⟨hPt,hnp,hszp,hNp,hpk,hpm,hbud⟩
 have hbp2:bp < w2.heap.size:=hPt.own.lt
 clear hPt hnp hszp hNp hpk hpm hbud hal
 obtain ⟨c0,c1,c2,c3,c4,f0,f1,f2,f3,f4,hl0⟩:=(V0.out.below hb1).below hb2
 go_wp2_with fail
 refine (kr _).mono ?_
 rintro e3 w3 ⟨rfl,hb3⟩
 have hs1:w.heap.size < w1.heap.size:=by have:=hb1.size; simp at this; omega
 have hs2:=hb2.size
 have hs3:w2.heap.size < w3.heap.size:=by have:=hb3.size; simp at this; omega
 obtain ⟨c0,c1,c2,c3,c4,f0,f1,f2,f3,f4,hl0⟩:=(((V0.out.below hb1).below hb2).below (ba _ (.cells #[.int .i64 b.1,.int .i64 b.2,.int .i64 al.1,.int .i64 al.2,.map (some bp)] 183))).below hb3
 obtain ⟨X,hX⟩:∃ X,((((w3.setCell ⟨w.heap.size,0,none⟩ (.int .i64 d')).setCell ⟨w.heap.size,1,none⟩ (.string nm')).setCell ⟨w.heap.size,2,none⟩ (.int .i64 p')).setCell ⟨w.heap.size,3,none⟩ (.int .i64 u')).setCell ⟨w.heap.size,4,none⟩ (.int .i64 v'')=X:=⟨_,rfl⟩
 have gX:w3.grownBy X (some w.heap.size):=by rw [← hX]; exact gb_set (gb_set (gb_set (gb_set (gb_set (gb_refl _ _) _ _) _ _) _ _) _ _) _ _
 have B3:Below w.heap.size w X:=by
  rw [← hX]; exact bs5 (bt (bal (bt B1 hb2) _) hb3) (Nat.le_refl _) _ _ _ _ _
 have VX0:Hid (FivB X w.heap.size (.int .i64 d') (.string nm') (.int .i64 p') (.int .i64 u') (.int .i64 v'')):=by
  rw [← hX]; constructor <;> simp [World.cell?_setCell_other,World.frozen?_setCell,sc_same,c0,c1,c2,c3,c4,f0,f1,f2,f3,f4,hl0,go_sem]
 have VXp:Hid (FivB X w2.heap.size (.int .i64 b.1) (.int .i64 b.2) (.int .i64 al.1) (.int .i64 al.2) (.map (some bp))):=((FivB.new w2 _ _ _ _ _ 183 _ rfl).below hb3).gb gX (by simp; omega)
 have BKX:Hid (BookM X N bk bm n (.slice va done.length vc) D done):=HB.out.keep B3
 have PX:Hid (Pts X bp np Dp (fun p=>p∈prs (done ++ [(d',nm',p',u',v'')]) nm') (fun y=>(prtP (done ++ [(d',nm',p',u',v'')]) nm' y).1)):=(HPT.out.1.keep (bt (ba _ _) hb3)).gb gX (fun e'=>by
  simp only [Option.some.injEq] at e'
  obtain ⟨es,clock,hb,_⟩:=HPT.out.1.own
  have h1:=f0
  have h2:=((V0.out.below hb1).below hb2).c0
  rw [← e'] at h2
  simp [World.cell?,hb] at h2)
 have hln:=HB.out.cnt
 obtain ⟨w5,hup,own5,gU⟩:=(BKX.out.own.drew).update law9 Tryz.underlying178 (by unfold maxLen; omega) (val:=pv b al bp) (d:=.held (pv b al bp)) (ps:=[]) (Go.WideMaps.keyOf_string_mk Tryz.underlying9 (s:=nm') (by unfold maxLen; omega)) rfl
 have g5:X.grownBy w5 (some bm):=gb_trans (gb_drew (gb_refl X (some bm))) gU
 obtain ⟨x0,x1,x2,x3,x4,y0,y1,y2,y3,y4,hlx⟩:=VX0.out
 obtain ⟨q0,q1,q2,q3,q4,r0,r1,r2,r3,r4,hlq⟩:=VXp.out
 obtain ⟨t0,t1,tf0,tf1,htl⟩:=BKX.out.two
 go_wp2_with fail
 go_region
 obtain ⟨hl1,hl2,hl3,hl4⟩:=BKX.out.lob
 have T5:Hid (TwoB w5 bk (.map (some bm)) (.slice va done.length vc)):=BKX.out.two.gb g5 (by simpa using hl3)
 have V5:Hid (FivB w5 w.heap.size (.int .i64 d') (.string nm') (.int .i64 p') (.int .i64 u') (.int .i64 v'')):=VX0.out.gb g5 (by have:=HB.out.own.lt; simp; omega)
 have HRW:Hid (w5.ownsRow 0 87 5 (.slice va done.length vc) done.length (enc done)):=BKX.out.row.kept g5 (by
  cases hv:(Value.slice va done.length vc).ownBlock with
  | none=>exact .inl rfl
  | some g=>right; intro e'; exact (hl4 g hv).2.2 (by simpa using e'))
 have HO:Hid (∀ g,(Value.slice va done.length vc).ownBlock=some g→g≠bk∧g≠w.heap.size):=fun g hg=>⟨(hl4 g hg).2.1,fun c=>by
  have h1:=HB.out.row
  rcases h1.2 with ⟨h2,_⟩ | ⟨g',c',cur,h2,_,hc,_⟩
  ·rw [h2] at hg; cases hg
  ·rw [h2] at hg
   simp only [Value.ownBlock,Option.some.injEq] at hg
   have:=(Array.getElem?_eq_some_iff.1 hc).1
   omega⟩
 obtain ⟨k0,k1,kf0,kf1,hk5⟩:=T5.out
 obtain ⟨m0,m1,m2,m3,m4,mf0,mf1,mf2,mf3,mf4,hm5⟩:=V5.out
 go_wp2_with fail
 go_region_law (refine step_append_lies _ rfl _ _ 49 rfl 0 87 i0 (.agg #[.int .i64 0,.string ⟨#[]⟩,.int .i64 0,.int .i64 0,.int .i64 0]) 5 48 Tryz.underlying49 hi0 hz0 hz1 hz2 rfl (by decide) (.slice va done.length vc) done.length (enc done) rfl ?_ ⟨w5.heap.size,0,none⟩ 1 1 [.int .i64 d',.string nm',.int .i64 p',.int .i64 u',.int .i64 v''] rfl rfl ?_ ?_ (by decide) ?_ ?_ ?_ (w5.heap.size + 1) ?_ ?_; (exact HRW.out.kept (gb_alloc (gb_drew (gb_refl w5 none)) _) (by simp [Classical.em])); (exact five_cells w5.drew _ _ _ _ _ 87 _ rfl); (intro z hz; simp at hz; rcases hz with rfl | rfl | rfl | rfl | rfl <;> rfl); (unfold maxLen; omega); (omega); (simp); (simp); intro g cap w6 hown hgrow hat hlt; have z0:w6.cell? ⟨bk,1,none⟩=some (.slice va done.length vc):=(hgrow.cell_far ⟨bk,1,none⟩ (by simp; omega) (fun e'=>(HO.out bk e'.symm).1 rfl)).trans (((ba w5.drew _).cell (p:=⟨bk,1,none⟩) hk5).trans k1); have z1:w6.frozen? ⟨bk,1,none⟩=false:=(hgrow.frozen_far ⟨bk,1,none⟩ (by simp; omega) (fun e'=>(HO.out bk e'.symm).1 rfl)).trans (((ba w5.drew _).frozen (p:=⟨bk,1,none⟩) hk5).trans kf1); have z2:w6.cell? ⟨w.heap.size,0,none⟩=some (.int .i64 d'):=(hgrow.cell_far ⟨w.heap.size,0,none⟩ (by simp; omega) (fun e'=>(HO.out w.heap.size e'.symm).2 rfl)).trans (((ba w5.drew _).cell (p:=⟨w.heap.size,0,none⟩) hm5).trans m0); have z3:w6.cell? ⟨w.heap.size,1,none⟩=some (.string nm'):=(hgrow.cell_far ⟨w.heap.size,1,none⟩ (by simp; omega) (fun e'=>(HO.out w.heap.size e'.symm).2 rfl)).trans (((ba w5.drew _).cell (p:=⟨w.heap.size,1,none⟩) hm5).trans m1); have z4:w6.cell? ⟨w.heap.size,2,none⟩=some (.int .i64 p'):=(hgrow.cell_far ⟨w.heap.size,2,none⟩ (by simp; omega) (fun e'=>(HO.out w.heap.size e'.symm).2 rfl)).trans (((ba w5.drew _).cell (p:=⟨w.heap.size,2,none⟩) hm5).trans m2); have z5:w6.cell? ⟨w.heap.size,3,none⟩=some (.int .i64 u'):=(hgrow.cell_far ⟨w.heap.size,3,none⟩ (by simp; omega) (fun e'=>(HO.out w.heap.size e'.symm).2 rfl)).trans (((ba w5.drew _).cell (p:=⟨w.heap.size,3,none⟩) hm5).trans m3); have z6:w6.cell? ⟨w.heap.size,4,none⟩=some (.int .i64 v''):=(hgrow.cell_far ⟨w.heap.size,4,none⟩ (by simp; omega) (fun e'=>(HO.out w.heap.size e'.symm).2 rfl)).trans (((ba w5.drew _).cell (p:=⟨w.heap.size,4,none⟩) hm5).trans m4))
 all_goals go_wp2_with fail
 all_goals
  go_ret
  have hgb:w5.grownBy w6 (Value.slice va done.length vc).ownBlock:=gb_trans (gb_drew (gb_alloc (gb_refl _ _) _)) hgrow
  have hN5:∀ k,w5.heap.size≤k→N k:=fun k hk=>hN k (by have:=B3.size; have:=g5.size; omega)
  have hal2:=HAL.out
  have hst:stepD done (d,nm',p,u,v')=done ++ [(d',nm',p',u',v'')]:=by unfold stepD; rw [HE.out,if_pos HD.out]
  have hnn:nrm (d',nm',p',u',v'')=(d',nm',p',u',v''):=by rw [← HE.out,nrm_nrm]
  refine ⟨by rw [HE.out,HD.out]; rfl,?_,n + 1,.slice (some ⟨g,0,none⟩) (done.length + 1) cap,D.put (kN nm') (.held (pv b (allP (done ++ [(d',nm',p',u',v'')]) nm').1 bp)),?_⟩
  ·exact keeps_after (keeps_after (keeps_after (keeps_below B3) g5 (fun k hk=>by simp only [Option.some.injEq] at hk; exact .inl (hk▸hl2))) hgb (fun k hk=>.inl (hl4 k hk).1)) (gb_set (gb_refl _ (some bk)) _ _) (fun k hk=>by simp only [Option.some.injEq] at hk; exact .inl (hk▸hl1))
  ·rw [hst]
   rw [← hal2] at own5
   have:=bookM_next (e:=(d',nm',p',u',v'')) BKX.out hN5 HD.out hnn HPT.out.2.2.2.2.2.2 PX.out HPT.out.2.1 HPT.out.2.2.1 HPT.out.2.2.2.1 HPT.out.2.2.2.2.1 HPT.out.2.2.2.2.2.1 own5 g5 hown hgb (hat.imp id (fun h=>by omega))
   exact this
theorem do_any (N:Nat→Prop) (bk bm n:Nat) (v:Value) (D:DataW Value) (done:List En) (e:En) (w:World) (hB:BookM w N bk bm n v D done) (hs:e.2.1.size≤9223372036854775807) (hN:∀ k,w.heap.size≤k→N k) (hpI:-9223372036854775808≤e.2.2.1∧e.2.2.1≤9223372036854775807) :
  Calls Tryz.prog 92 #[.pointer (some ⟨bk,0,none⟩),ev e] w (DoP w N bk bm done e):=by
 by_cases hb:badT e≠0∨4096≤done.length
 ·refine (doBad_any N bk bm n v D done e w hB hs hb).mono ?_
  rintro x w' ⟨h1,h2⟩
  have hst:stepD done e=done:=by
   unfold stepD
   rw [if_neg]
   intro h0
   obtain ⟨h3,h4⟩:=doT_bad h0
   rw [bad_nrm] at h3
   omega
  exact ⟨h1,keeps_below h2,n,v,D,by rw [hst]; exact hB.keep h2⟩
 ·have hbad:badT e=0:=by omega
  have hs:e.2.1.size≤4294967296:=by
   have h1:=(bad_ok hbad).2.2.1
   unfold namB at h1
   simp only [Bool.and_eq_true,decide_eq_true_eq] at h1
   have h2:=h1.1.2
   rw [Array.length_toList] at h2
   show e.2.1.data.size≤_
   omega
  have hl:done.length < 4096:=by omega
  by_cases h0:doT done (nrm e)=0
  ·exact doYes_any N bk bm n v D done e w hB hs hN hbad hl hpI h0
  ·refine (doNo_any N bk bm n v D done e w hB hs hN hbad hl hpI _ rfl h0).mono ?_
   rintro x w' ⟨h1,h2⟩
   exact ⟨h1,keeps_below h2,n,v,D,by unfold stepD; rw [if_neg h0]; exact hB.keep h2⟩
set_option maxHeartbeats 1000000 in
theorem new_any (N:Nat→Prop) (w:World) (hN:∀ k,w.heap.size≤k→N k):Calls Tryz.prog 91 #[] w fun x w'=>x=.returned (.pointer (some ⟨w.heap.size + 1,0,none⟩))∧Below w.heap.size w w'∧w'.heap.size=w.heap.size + 1 + 1∧BookM w' N (w.heap.size + 1) w.heap.size 0 (.slice none 0 0) (.map []) []:=by
 have hmm:=@run_makeMap Tryz.prog
 go_enter Tryz.func91,Tryz.ntmps91
 go_wp2
 go_ret
 refine ⟨rfl,bal (ba _ _) _,by simp,⟨inv_nil,?_,?_,?_,Nat.le_refl _,fun x=>?_,fun x b hx=>?_,?_,hN _ (by omega),hN _ (by omega),by omega,fun g hg=>by cases hg⟩⟩
 ·exact TwoB.new _ _ _ _ _ (by simp)
 ·exact (World.ownsMap_made w Tryz.prog 9 hR).alloc _
 ·exact ⟨rfl,.inl ⟨rfl,rfl⟩⟩
 ·simp [Maps.has,budT]
 ·simp [budT] at hx
 ·simp [Maps.size,opsT]
theorem run_copy5 (w:World) (ty:TypeId) (g n:Nat) (a:Addr) (sCap:Nat) (cur:Array Value) (cs:List Value) (hg:w.heap[g]? = some (.cells cur 87 (0,0))) (hn:cs.length=n * 5)
  (hsrc:∀ j v,cs[j]? = some v→w.cell? (a.add j)=some v) (hfit:cs.length≤cur.size) (h1:∀ v∈cs,v.oneCell' = true) :
  (Builtin.copy_ #[49,49] ty #[.slice (some ⟨g,0,none⟩) n n,.slice (some a) n sCap]).run Tryz.prog w=.ok (goInt n) (w.setRow g (cs ++ cur.toList.drop cs.length).toArray):=by
 have hl:=run_loadCells_list (P:=Tryz.prog) w a cs hsrc
 have hst:=run_storeCells_at Tryz.prog g 0 87 cs 0 cur w hg (by simpa using hfit) h1
 obtain ⟨i0,hi,_,hz1,_⟩:=info_parts info33
 have hm:Nat.min n n=n:=Nat.min_self n
 simp only [Nat.zero_add,Nat.add_zero,List.take_zero,List.nil_append] at hst
 simp [Builtin.copy_,run_underlying Tryz.underlying49,Builtin.lenOf,Builtin.firstCells,sizeOf,typeInfo,hi,hz1,← hn,hl,hst]
theorem run_copy5' (w:World) (ty:TypeId) (g n:Nat) (ad:Option Addr) (sCap:Nat) (cur:Array Value) (hg:w.heap[g]? = some (.cells cur 87 (0,0))) (cs:List Value) (hn:cs.length=n * 5) (hsrc:(ad=none∧n=0∧sCap=0)∨∃ b,ad=some b∧∀ j v,cs[j]? = some v→w.cell? (b.add j)=some v) (hfit:cs.length=cur.size) (h1:∀ v∈cs,v.oneCell' = true) :
  (Builtin.copy_ #[49,49] ty #[.slice (some ⟨g,0,none⟩) n n,.slice ad n sCap]).run Tryz.prog w=.ok (goInt n) (w.setRow g cs.toArray):=by
 rcases hsrc with ⟨rfl,rfl,rfl⟩ | ⟨b,rfl,hsrc⟩
 ·have hrun:=run_copy_nil (P:=Tryz.prog) w 49 49 ty 87 ⟨g,0,none⟩ 0 0 Tryz.underlying49 (by obtain ⟨i0,hi,_⟩:=info_parts info33; rw [hi]; rfl)
  have hcs:cs=[]:=List.eq_nil_of_length_eq_zero (by omega)
  subst hcs
  have hcur:cur = #[]:=Array.eq_empty_of_size_eq_zero (by simpa using hfit.symm)
  subst hcur
  rw [show ([]:List Value).toArray = #[] from rfl,setRow_self w g #[] 87 (0,0) hg]
  exact hrun
 ·have hrun:=run_copy5 w ty g n b sCap cur cs hg hn hsrc (by omega) h1
  rw [List.drop_of_length_le (by rw [Array.length_toList]; omega),List.append_nil] at hrun
  exact hrun
theorem enc_one (l:List En):∀ v∈enc l,v.oneCell' = true:=by
 intro v hv
 simp only [enc,List.mem_flatMap] at hv
 obtain ⟨e,_,he⟩:=hv
 simp [encE] at he
 rcases he with rfl | rfl | rfl | rfl | rfl <;> rfl
theorem row_src {w:World} {v:Value} {n:Nat} {xs:List Value} {base:Nat} (h:w.ownsRow base 87 5 v n xs):∃ ad c,v=.slice ad n c∧((ad=none∧n=0∧c=0)∨∃ b,ad=some b∧∀ j u,xs[j]? = some u→w.cell? (b.add j)=some u):=by
 rcases h.2 with ⟨rfl,rfl⟩ | ⟨g,cap,cur,rfl,_,hc,_,_,_,hx⟩
 ·exact ⟨none,0,rfl,.inl ⟨rfl,rfl,rfl⟩⟩
 ·refine ⟨_,_,rfl,.inr ⟨_,rfl,fun j u hj=>?_⟩⟩
  refine World.news_of_block hc j u ?_
  rw [← hx] at hj
  rw [List.getElem?_take] at hj
  split at hj
  ·exact hj
  ·cases hj
set_option maxHeartbeats 1000000 in
set_option maxRecDepth 100000 in
theorem entries_any (N:Nat→Prop) (bk bm n:Nat) (v:Value) (D:DataW Value) (done:List En) (w:World) (hB:BookM w N bk bm n v D done) :
  Calls Tryz.prog 93 #[.pointer (some ⟨bk,0,none⟩)] w fun x w'=>∃ r,x=.returned r∧w'.ownsRow w.heap.size 87 5 r done.length (enc done)∧Below w.heap.size w w':=by
 obtain ⟨t0,t1,tf0,tf1,htl⟩:=hB.two
 have hrow:=hB.row
 have hlen:=hB.inv.len
 clear hB
 obtain ⟨ad,c,rfl,hsrc⟩:=row_src hrow
 obtain ⟨i0,hi,hz0,hz1,hz2⟩:=info_parts info33
 have hmk:∀ u:World,(Instr.makeSlice 49 (.int .i64 (done.length:Int)) (.int .i64 (done.length:Int))).run Tryz.prog u =
   .ok (.slice (some ⟨u.heap.size,0,none⟩) done.length done.length) (u.alloc (.cells (madeCells #[.int .i64 0,.string ⟨#[]⟩,.int .i64 0,.int .i64 0,.int .i64 0] (done.length * 5)) 87)):=fun u=>by
  have h:=run_make (P:=Tryz.prog) u 49 87 i0 (.agg #[.int .i64 0,.string ⟨#[]⟩,.int .i64 0,.int .i64 0,.int .i64 0]) Tryz.underlying49 hi hz0 .i64 .i64 (done.length:Int) (done.length:Int) (by omega) (Int.le_refl _) (by rw [hz2]; omega) (by omega)
  rw [Int.toNat_natCast] at h
  simpa [hz1,Value.cells] using h
 have HS:Hid ((ad=none∧done.length=0∧c=0)∨∃ b,ad=some b∧∀ j u,(enc done)[j]? = some u→(w.alloc (.cells (madeCells #[.int .i64 0,.string ⟨#[]⟩,.int .i64 0,.int .i64 0,.int .i64 0] (done.length * 5)) 87)).cell? (b.add j)=some u):=by
  rcases hsrc with h | ⟨b,h1,h2⟩
  ·exact .inl h
  ·exact .inr ⟨b,h1,fun j u hj=>(World.grownBy_alloc w _ none).cell (h2 j u hj) (by simp)⟩
 have hcp:=run_copy5' (w.alloc (.cells (madeCells #[.int .i64 0,.string ⟨#[]⟩,.int .i64 0,.int .i64 0,.int .i64 0] (done.length * 5)) 87)) 3 w.heap.size done.length ad c _ (heap_alloc_new w _) (enc done) (enc_len done) HS.out (by simp [enc_len,size_madeCells]) (enc_one done)
 obtain ⟨W,hW⟩:∃ W,(w.alloc (.cells (madeCells #[.int .i64 0,.string ⟨#[]⟩,.int .i64 0,.int .i64 0,.int .i64 0] (done.length * 5)) 87)).setRow w.heap.size (enc done).toArray=W:=⟨_,rfl⟩
 have HWB:Hid (Below w.heap.size w W):=by rw [← hW]; exact below_setRow (ba _ _) (Nat.le_refl _) _
 have HWR:Hid (W.heap[w.heap.size]? = some (.cells (enc done).toArray 87 (0,0))):=by
  show _=_
  rw [← hW]; exact setRow_heap _ _ _ _ 87 (0,0) (heap_alloc_new w _)
 rw [hW] at hcp
 clear hsrc hrow hW
 go_enter Tryz.func93,Tryz.ntmps93
 go_wp2
 go_ret
 refine ⟨_,rfl,⟨by rw [enc_len],.inr ⟨w.heap.size,done.length,_,rfl,Nat.le_refl _,HWR.out,Nat.le_refl _,by unfold maxLen; omega,by simp [enc_len],?_⟩⟩,HWB.out⟩
 rw [List.toList_toArray,List.take_of_length_le (by rw [enc_len]; exact Nat.le_refl _)]
set_option maxHeartbeats 1000000 in
set_option maxRecDepth 100000 in
theorem bspentNo_any (N:Nat→Prop) (bk bm n:Nat) (v:Value) (D:DataW Value) (done:List En) (nm:ByteArray) (w:World) (hB:BookM w N bk bm n v D done) (hs:nm.size≤4294967296) (hbud:budT done nm=none) :
  Calls Tryz.prog 95 #[.pointer (some ⟨bk,0,none⟩),.string nm] w fun x w'=>x=.returned (.tuple #[rv 0 0,rv 0 0,.int .i64 7])∧Below w.heap.size w w':=by
 obtain ⟨hhas,hat⟩:=hB.has_no hbud
 obtain ⟨w0,hw0⟩:∃ w0,(w.alloc (.cells #[.int .i64 0,.int .i64 0] 23)).alloc (.cells #[.int .i64 0,.int .i64 0] 23)=w0:=⟨_,rfl⟩
 have B0:Below w.heap.size w w0:=by rw [← hw0]; exact bal (ba _ _) _
 have hz0:w0.heap.size=w.heap.size + 1 + 1:=by rw [← hw0]; simp
 have V0:TwoB w0 w.heap.size (.int .i64 0) (.int .i64 0):=by rw [← hw0]; exact (TwoB.new _ _ _ 23 _ rfl).below (ba _ _)
 have V1:TwoB w0 (w.heap.size + 1) (.int .i64 0) (.int .i64 0):=by rw [← hw0]; exact TwoB.new _ _ _ 23 _ (by simp)
 have hlk:=hB.lookAt hs hat hhas (gb_none B0)
 obtain ⟨t0,t1,tf0,tf1,htl⟩:=(hB.keep B0).two
 obtain ⟨c0,c1,f0,f1,hl0⟩:=V0
 obtain ⟨d0,d1,g0,g1,hl1⟩:=V1
 have hbk:bk < w.heap.size:=hB.two.lt
 have hbk2:bk < w.heap.size + 1 + 1:=by omega
 clear hB hat hhas hbud
 go_enter Tryz.func95,Tryz.ntmps95
 go_wp2
 exact bodyPost_ret (v:=.tuple #[rv 0 0,rv 0 0,.int .i64 7]) (by simp [results,Tryz.results95,go_sem,c0,c1,d0,d1,hz0]) rfl ⟨rfl,bal (bs (bs (bs (bs B0 (by simp) _) (by simp) _) (by simp) _) (by simp) _) _⟩
set_option maxHeartbeats 1000000 in
set_option maxRecDepth 100000 in
theorem bspent_any (N:Nat→Prop) (bk bm n:Nat) (v:Value) (D:DataW Value) (done:List En) (nm:ByteArray) (w:World) (hB:BookM w N bk bm n v D done) (hs:nm.size≤4294967296) (b:Rq) (hbud:budT done nm=some b) (sp:Rq) (hsp:(spentT done nm).1=sp) :
  Calls Tryz.prog 95 #[.pointer (some ⟨bk,0,none⟩),.string nm] w fun x w'=>x=.returned (.tuple #[rvq sp,rvq b,.int .i64 0])∧Below w.heap.size w w':=by
 obtain ⟨bp,np,Dp,hat,hPp,hnp,_⟩:=(hB.el nm b hbud).ex
 have hhas:Maps.has D (kN nm)=true:=(hB.is nm).2 ⟨b,hbud⟩
 have hinv:=hB.inv
 have hln:=hinv.len
 obtain ⟨al,hal⟩:∃ al,(allP done nm).1=al:=⟨_,rfl⟩
 rw [hal] at hat
 have hmu:mulT al (mostT (prtP done nm) oneQ (prs done nm)).1=(sp,0):=by
  have h1:=hinv.spent nm
  rw [hal] at h1
  rw [← h1,← hsp]
  exact Prod.ext rfl (hinv.ok nm)
 have ks:=fun W (hW:Pts W bp np Dp (fun p=>p∈prs done nm) (fun p=>(prtP done nm p).1))=>spent_any b al bp np Dp _ _ W hW (by omega) _ (hinv.top nm).2 sp 0 hmu
 obtain ⟨w0,hw0⟩:∃ w0,(w.alloc (.cells #[.int .i64 0,.int .i64 0] 23)).alloc (.cells #[.int .i64 0,.int .i64 0] 23)=w0:=⟨_,rfl⟩
 have B0:Below w.heap.size w w0:=by rw [← hw0]; exact bal (ba _ _) _
 have hz0:w0.heap.size=w.heap.size + 1 + 1:=by rw [← hw0]; simp
 have V0:Hid (TwoB w0 w.heap.size (.int .i64 0) (.int .i64 0)):=by rw [← hw0]; exact (TwoB.new _ _ _ 23 _ rfl).below (ba _ _)
 have V1:Hid (TwoB w0 (w.heap.size + 1) (.int .i64 0) (.int .i64 0)):=by rw [← hw0]; exact TwoB.new _ _ _ 23 _ (by simp)
 have hlk:=hB.lookAt hs hat hhas (gb_none B0)
 have P1:Hid (Pts (w0.alloc (.cells #[.int .i64 b.1,.int .i64 b.2,.int .i64 al.1,.int .i64 al.2,.map (some bp)] 183)) bp np Dp (fun p=>p∈prs done nm) (fun p=>(prtP done nm p).1)):=hPp.keep (bal B0 _)
 obtain ⟨t0,t1,tf0,tf1,htl⟩:=(hB.keep B0).two
 have hbk:bk < w.heap.size:=hB.two.lt
 have hbk2:bk < w.heap.size + 1 + 1:=by omega
 clear hB hat hhas hbud hPp hinv hal hsp hmu
 go_enter Tryz.func95,Tryz.ntmps95
 go_wp2_with fail
 refine (ks _ P1.out).mono ?_
 rintro e1 w1 ⟨rfl,hb1⟩
 have V3:FivB w1 (w.heap.size + 1 + 1) (.int .i64 b.1) (.int .i64 b.2) (.int .i64 al.1) (.int .i64 al.2) (.map (some bp)):=(FivB.new w0 _ _ _ _ _ 183 _ hz0.symm).below hb1
 obtain ⟨c0,c1,f0,f1,hl0⟩:=(V0.out.below (ba _ _)).below hb1
 obtain ⟨d0,d1,g0,g1,hl1⟩:=(V1.out.below (ba _ _)).below hb1
 obtain ⟨x0,x1,x2,x3,x4,_,_,_,_,_,hx⟩:=V3
 have B1:Below w.heap.size w w1:=bt (bal B0 _) hb1
 obtain ⟨y0,y1,_,_,_⟩:=((((V0.out.below (ba _ _)).below hb1).put (.int .i64 sp.1) (.int .i64 sp.2)).put (.int .i64 sp.1) (.int .i64 sp.2))
 go_wp2_with fail
 go_region
 all_goals go_wp2_with fail
 all_goals exact bodyPost_ret (v:=.tuple #[rvq sp,rvq b,.int .i64 0]) (by simp [results,Tryz.results95,go_sem,y0,y1,d0,d1]) rfl ⟨rfl,Below.drew (bs (bs (bs (bs (bs (bs B1 (by simp) _) (by simp) _) (by simp) _) (by simp) _) (by simp) _) (by simp) _)⟩
open Go.Maps Go.Sort
def nLs (done:List En):List (List UInt8):=((opsT done).map (fun x=>x.data.toList)).mergeSort (fun x y=>decide (x≤y))
theorem nLs_len (done:List En):(nLs done).length=(opsT done).length:=by simp [nLs]
theorem nLs_mem (done:List En) (x:List UInt8):x∈nLs done↔∃ y∈opsT done,y.data.toList=x:=by simp [nLs]
theorem nLs_of {w:World} {N:Nat→Prop} {bk bm n:Nat} {v:Value} {D:DataW Value} {done:List En} (h:BookM w N bk bm n v D done) {ss:List (List UInt8)} (hs:ss.Perm (strKeys D)):ss.mergeSort (fun x y=>decide (x≤y))=nLs done:=by
 have hp:((opsT done).map (fun x=>x.data.toList)).Perm (strKeys D):=by
  obtain ⟨es,rfl,hko⟩:=h.own.keysOf
  obtain ⟨es',hD',hpw,_⟩:=h.own.entries law9
  obtain rfl:es=es':=by simpa using hD'
  refine perm_strKeys hpw (fun p hp=>by obtain ⟨v,hv⟩:=hko p hp; obtain ⟨y,_,hy,_⟩:=Maps.keyOf_str Tryz.underlying9 hv; exact ⟨y,hy⟩) ?_ (fun x=>?_)
  ·refine List.pairwise_map.2 (h.inv.nod.imp fun {a b} hab e=>hab ?_)
   apply ByteArray.ext
   exact Array.toList_inj.1 e
  ·constructor
   ·intro hx
    obtain ⟨y,hy,rfl⟩:=List.mem_map.1 hx
    refine (h.is y).2 ?_
    cases hb:budT done y with
    | some b=>exact ⟨b,rfl⟩
    | none=>exact absurd hy ((bud_ops done y).1 hb)
   ·intro hx
    have h1:Maps.has (DataW.map es) (kN ⟨x.toArray⟩)=true:=by simpa [kN] using hx
    obtain ⟨b,hb⟩:=(h.is ⟨x.toArray⟩).1 h1
    have:(⟨x.toArray⟩:ByteArray)∈opsT done:=by
     refine Classical.byContradiction fun hn=>?_
     rw [(bud_ops done _).2 hn] at hb
     cases hb
    exact List.mem_map.2 ⟨_,this,by simp⟩
 exact mergeSort_of_perm (hs.trans hp.symm)
set_option maxHeartbeats 1000000 in
theorem names_any (N:Nat→Prop) (bk bm n:Nat) (v:Value) (D:DataW Value) (done:List En) (w:World) (hB:BookM w N bk bm n v D done) :
  Calls Tryz.prog 94 #[.pointer (some ⟨bk,0,none⟩)] w fun x w'=>∃ g r,x=.returned (.func (.func 156) #[] #[.pointer (some ⟨g,0,none⟩)])∧Below w.heap.size w w'∧w.heap.size≤g∧g < w'.heap.size∧w'.cell? ⟨g,0,none⟩=some r∧w'.ownsRow w.heap.size 9 1 r (nLs done).length ((nLs done).map encStr):=by
 have HB:Hid (BookM w N bk bm n v D done):=hB
 have hln:=hB.inv.len
 have hcn:=hB.cnt
 obtain ⟨t0,t1,tf0,tf1,htl⟩:=hB.two
 clear hB
 go_enter Tryz.func94,Tryz.ntmps94
 go_wp2_with fail
 refine (keysS_any _ _).mono ?_
 rintro e1 w1 ⟨rfl,rfl⟩
 go_wp2_with fail
 refine (sortedS_any _ bm n D hR _ (by simp) (nc _ _ 0 _ rfl rfl) (HB.out.own.alloc _) (by omega)).mono ?_
 rintro e2 w2 ⟨r,ss,rfl,hp,hrow,hb2⟩
 have hss:=nLs_of HB.out hp
 have hsl:ss.length=(nLs done).length:=by rw [← hss,List.length_mergeSort]
 rw [hss,hsl] at hrow
 have HR:Hid (w2.ownsRow (w.alloc (.cells #[.map (some bm)] 178)).heap.size 9 1 r (nLs done).length ((nLs done).map encStr)):=hrow
 obtain ⟨ra,rc,rfl⟩:∃ a c,r=.slice a (nLs done).length c:=by
  rcases hrow.2 with ⟨h1,h2⟩ | ⟨g,cap,cur,h1,_⟩
  ·exact ⟨none,0,by rw [h1,h2]⟩
  ·exact ⟨_,_,h1⟩
 clear hp hss hsl hrow
 go_wp2
 go_ret
 refine ⟨_,_,rfl,bal (bt (ba _ _) hb2) _,?_,by simp,nc _ _ 0 _ rfl rfl,?_⟩
 ·have:=hb2.size; simp at this; omega
 ·exact ownsRow_base_a ((HR.out).kept (World.grownBy_alloc w2 _ none) (by cases h:(Value.slice ra (nLs done).length rc).ownBlock <;> simp)) (by simp)
end Go.Proofs.YtlndlpjadajelaaGreat.K.P

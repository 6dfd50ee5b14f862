import Derived.Test.YtlndlpjadajelaaGreatQq10
namespace Go.Proofs.YtlndlpjadajelaaGreat
open Go.RowKit Go.Shelf Go.Proofs.YtlndlpjadajelaaGreat.Ds
attribute [local go_sem] Oper.semAt_some
def farStep (Ta Tb:Int) (q:Int × Int) (p:Pt × Pt):Int × Int :=
 if p.1.2 * Tb < p.2.2 * Ta then (if q.1 * (p.1.2 * Tb) < p.2.2 * Ta * q.2 then (p.2.2 * Ta,p.1.2 * Tb) else q)
 else if q.1 * (p.2.2 * Ta) < p.1.2 * Tb * q.2 then (p.1.2 * Tb,p.2.2 * Ta) else q
def farF (Ta Tb:Int) (l:List (Pt × Pt)):Int × Int:=l.foldl (farStep Ta Tb) (1,1)
def lone (p:Pt × Pt):Bool:=p.1.2 == 0 || p.2.2 == 0
def farT (l m:List Pt):Int × Int × Int :=
 if twoE l m=0 then if (mrgP l m).any lone then (0,0,6) else Rt.mkT (farF (tot l) (tot m) (mrgP l m)).1 (farF (tot l) (tot m) (mrgP l m)).2 else (0,0,twoE l m)
def seenPP {w:World} {B:Nat} {M:Int} (pre:List (PP w B M)):List (Pt × Pt):=pre.map fun x=>bare x.1
theorem seen_snoc {w:World} {B:Nat} {M:Int} (pre:List (PP w B M)) (x:PP w B M):seenPP (pre ++ [x])=seenPP pre ++ [bare x.1]:=by simp [seenPP]
theorem farF_snoc (Ta Tb:Int) (l:List (Pt × Pt)) (p:Pt × Pt):farF Ta Tb (l ++ [p])=farStep Ta Tb (farF Ta Tb l) p:=by simp [farF]
def Inr (l:List (Pt × Pt)):Prop:=∀ p∈l,(0 < p.1.2∧p.1.2≤1073741824)∧(0 < p.2.2∧p.2.2≤1073741824)
def Lon (l:List (Pt × Pt)):Prop:=l.any lone=true
theorem farF_bd {Ta Tb:Int} (ha:0 < Ta∧Ta≤1073741824) (hb:0 < Tb∧Tb≤1073741824) (l:List (Pt × Pt)) (h:∀ p∈l,(0 < p.1.2∧p.1.2≤1073741824)∧(0 < p.2.2∧p.2.2≤1073741824)) :
  (1≤(farF Ta Tb l).1∧(farF Ta Tb l).1≤1152921504606846976)∧(1≤(farF Ta Tb l).2∧(farF Ta Tb l).2≤1152921504606846976):=by
 have key:∀ (l:List (Pt × Pt)) (q:Int × Int),(∀ p∈l,(0 < p.1.2∧p.1.2≤1073741824)∧(0 < p.2.2∧p.2.2≤1073741824))→((1≤q.1∧q.1≤1152921504606846976)∧(1≤q.2∧q.2≤1152921504606846976)) →
   (1≤(l.foldl (farStep Ta Tb) q).1∧(l.foldl (farStep Ta Tb) q).1≤1152921504606846976)∧(1≤(l.foldl (farStep Ta Tb) q).2∧(l.foldl (farStep Ta Tb) q).2≤1152921504606846976):=by
  intro l
  induction l with
  | nil=>intro q _ hq; exact hq
  | cons p l ih =>
   intro q h hq
   refine ih _ (fun r hr=>h r (by simp [hr])) ?_
   obtain ⟨⟨h1,h2⟩,⟨h3,h4⟩⟩:=h p (by simp)
   have b1:=Rt.mul_bd (a:=p.1.2) (b:=Tb) (by omega) h2 (by omega) hb.2
   have b2:=Rt.mul_bd (a:=p.2.2) (b:=Ta) (by omega) h4 (by omega) ha.2
   have c1:0 < p.1.2 * Tb:=Int.mul_pos h1 hb.1
   have c2:0 < p.2.2 * Ta:=Int.mul_pos h3 ha.1
   unfold farStep
   split
   ·split
    ·exact ⟨⟨by show 1≤p.2.2 * Ta; omega,b2.2⟩,⟨by show 1≤p.1.2 * Tb; omega,b1.2⟩⟩
    ·exact hq
   ·split
    ·exact ⟨⟨by show 1≤p.1.2 * Tb; omega,b1.2⟩,⟨by show 1≤p.2.2 * Ta; omega,b2.2⟩⟩
    ·exact hq
 exact key l (1,1) h ⟨⟨by decide,by decide⟩,⟨by decide,by decide⟩⟩
theorem kdr (W:World) (q:Nat):KeepsOthers W (W.drewN q):=⟨Nat.le_refl _,fun _ _ h _=>h⟩
theorem bdn (W:World) (q B:Nat):Below B W (W.drewN q):=below_drewN (Below.refl _ _) q
set_option maxHeartbeats 4000000 in
set_option maxRecDepth 100000 in
theorem far_any (B:Nat) (u v:Value) (ts us:List Tr) (w:World) (hB:B≤w.heap.size) (hp:Parts w B u ts) (hq:Parts w B v us) (n m er:Int) (hr:farT (rd ts) (rd us)=(n,m,er)) :
  Calls Tryz.prog 13 #[u,v] w fun e w'=>e=.returned (.tuple #[rv n m,.int .i64 er])∧Below w.heap.size w w':=by
 have HP:Hid (Parts w B u ts):=hp
 have HQ:Hid (Parts w B v us):=hq
 obtain ⟨a,c,rfl,_⟩:=hp
 obtain ⟨a',c',rfl,_⟩:=hq
 obtain ⟨e0,HE⟩:∃ e0,Hid (twoE (rd ts) (rd us)=e0):=⟨_,rfl⟩
 rw [farT,HE.out] at hr
 have HR:Hid ((if e0=0 then if (mrgP (rd ts) (rd us)).any lone then (0,0,6) else Rt.mkT (farF (tot (rd ts)) (tot (rd us)) (mrgP (rd ts) (rd us))).1 (farF (tot (rd ts)) (tot (rd us)) (mrgP (rd ts) (rd us))).2 else (0,0,e0))=(n,m,er)):=hr
 clear hr
 obtain ⟨W,hW⟩:∃ W,(w.alloc (.cells #[.int .i64 0,.int .i64 0] 23)).alloc (.cells #[.int .i64 0] 33)=W:=⟨_,rfl⟩
 have HW:Hid (Below w.heap.size w W):=hW▸bal (ba w _) _
 have hWs:W.heap.size=w.heap.size + 2:=by rw [← hW]; simp
 have p1:W.cell? ⟨w.heap.size,0,none⟩=some (.int .i64 0):=by rw [← hW]; simp [go_sem]
 have p2:W.cell? ⟨w.heap.size,1,none⟩=some (.int .i64 0):=by rw [← hW]; simp [go_sem]
 have p3:W.frozen? ⟨w.heap.size,0,none⟩=false:=by rw [← hW]; simp [go_sem]
 have p4:W.frozen? ⟨w.heap.size,1,none⟩=false:=by rw [← hW]; simp [go_sem]
 have p5:W.cell? ⟨w.heap.size + 1,0,none⟩=some (.int .i64 0):=by rw [← hW]; simp [go_sem]
 have p6:W.frozen? ⟨w.heap.size + 1,0,none⟩=false:=by rw [← hW]; simp [go_sem]
 refine (callsIn_wide (n:=5)).1 ?_
 refine callsIn_of_wp_marks Tryz.func13 rfl trivial ?_ rfl
 simp only [Tryz.ntmps13,List.size_toArray,List.length_cons,List.length_nil,Nat.reduceAdd,Nat.reduceSub,Array.replicate_succ,Array.replicate_zero,List.push_toArray,List.append_toArray,List.nil_append,List.cons_append]
 gi_wp2_with fail
 clear hW
 refine ⟨trivial,?_⟩
 refine (callsIn_wide.2 (ownTwo_any B _ _ ts us W (by omega) (HP.out.at hB HW.out) (HQ.out.at hB HW.out) e0 HE.out)).mono ?_
 rintro e w1 ⟨a1,n1,c1,a2,n2,c2,rfl,hb1,hok⟩
 have lw:w.heap.size < W.heap.size:=by omega
 have lv:w.heap.size + 1 < W.heap.size:=by omega
 obtain ⟨hc1,hf1⟩:=bcell hb1
 have q1:=(hc1 _ 0 lw).trans p1
 have q2:=(hc1 _ 1 lw).trans p2
 have q3:=(hf1 _ 0 lw).trans p3
 have q4:=(hf1 _ 1 lw).trans p4
 have q5:=(hc1 _ 0 lv).trans p5
 have q6:=(hf1 _ 0 lv).trans p6
 have hbw:Below w.heap.size w w1:=bt HW.out hb1
 have hs1:=hb1.size
 clear p1 p2 p3 p4 p5 p6 hc1 hf1 hb1
 by_cases h0:e0=0
 ·subst h0
  obtain ⟨x1,x2,hd1,hd2,hp1,hp2⟩:=hok rfl
  obtain ⟨hdi1,hdi2⟩:=twoE_ok HE.out
  have hmk:=HR.out
  rw [if_pos rfl] at hmk
  obtain ⟨Ta,hTa⟩:∃ T,tot (rd ts)=T:=⟨_,rfl⟩
  obtain ⟨Tb,hTb⟩:∃ T,tot (rd us)=T:=⟨_,rfl⟩
  rw [hTa,hTb] at hmk
  have hTa1:Ta≤1073741824:=by rw [← hTa]; exact hdi1.le
  have hTb1:Tb≤1073741824:=by rw [← hTb]; exact hdi2.le
  have hTa0:0 < Ta:=by rw [← hTa]; exact tot_pos2 hdi1.pos hdi1.ne
  have hTb0:0 < Tb:=by rw [← hTb]; exact tot_pos2 hdi2.pos hdi2.ne
  have HX1:Hid (Parts w1 w1.heap.size (.slice a1 n1 c1) x1):=hp1
  have HX2:Hid (Parts w1 w1.heap.size (.slice a2 n2 c2) x2):=hp2
  have HM:Hid ((if (mrgP (rd ts) (rd us)).any lone then (0,0,6) else Rt.mkT (farF Ta Tb (mrgP (rd ts) (rd us))).1 (farF Ta Tb (mrgP (rd ts) (rd us))).2)=(n,m,er)∧rd x1=rd ts∧rd x2=rd us∧Dis (rd ts)∧Dis (rd us)∧tot (rd ts)=Ta∧tot (rd us)=Tb):=⟨hmk,hd1,hd2,hdi1,hdi2,hTa,hTb⟩
  clear hok hp1 hp2 hdi1 hdi2 hmk hd1 hd2 hTa hTb HR HE
  gi_wp2_with fail
  refine ⟨trivial,?_⟩
  refine (callsIn_wide.2 (total_any w1.heap.size _ x1 w1 (Nat.le_refl _) HX1.out (by rw [HM.out.2.1]; exact Nn.of_pos HM.out.2.2.2.1.pos) (by rw [HM.out.2.1,HM.out.2.2.2.2.2.1]; omega) Ta (by rw [HM.out.2.1,HM.out.2.2.2.2.2.1]))).mono ?_
  rintro e w2 ⟨rfl,hb2⟩
  gi_wp2_with fail
  refine ⟨trivial,?_⟩
  refine (callsIn_wide.2 (total_any w1.heap.size _ x2 w2 hb2.size (HX2.out.at (Nat.le_refl _) hb2) (by rw [HM.out.2.2.1]; exact Nn.of_pos HM.out.2.2.2.2.1.pos) (by rw [HM.out.2.2.1,HM.out.2.2.2.2.2.2]; omega) Tb (by rw [HM.out.2.2.1,HM.out.2.2.2.2.2.2]))).mono ?_
  rintro e w3 ⟨rfl,hb3⟩
  have hb13:Below w1.heap.size w1 w3:=bt hb2 hb3
  clear hb2 hb3
  gi_wp2_with fail
  refine ⟨trivial,?_⟩
  refine (pairs_in _ _ _ _ _ _ _ _).mono ?_
  rintro e w4 ⟨rfl,hw4⟩
  gi_wp2_with fail
  clear hw4
  obtain ⟨W0,hW0⟩:∃ W0,(((((w3.alloc (Obj.cells #[Value.int IntKind.i64 Ta] 3)).alloc (Obj.cells #[Value.int IntKind.i64 Tb] 3)).alloc (Obj.cells #[Value.int IntKind.i64 1] 3)).alloc (Obj.cells #[Value.int IntKind.i64 1] 3)).alloc (Obj.cells #[Value.slice a1 n1 c1] 44)).alloc (Obj.cells #[Value.slice a2 n2 c2] 44)=W0:=⟨_,rfl⟩
  have hsz:W0.heap.size=w3.heap.size + 6:=by rw [← hW0]; simp
  have g1:W0.cell? ⟨w3.heap.size,0,none⟩=some (.int .i64 Ta):=by rw [← hW0]; simp [go_sem]
  have g2:W0.cell? ⟨w3.heap.size + 1,0,none⟩=some (.int .i64 Tb):=by rw [← hW0]; simp [go_sem]
  have g3:Boxed W0 (w3.heap.size + 1 + 1) 3 (.int .i64 1):=by
   have:=(((Boxed.new ((w3.alloc (Obj.cells #[Value.int IntKind.i64 Ta] 3)).alloc (Obj.cells #[Value.int IntKind.i64 Tb] 3)) 3 (.int .i64 1)).alloc (Obj.cells #[Value.int IntKind.i64 1] 3)).alloc (Obj.cells #[Value.slice a1 n1 c1] 44)).alloc (Obj.cells #[Value.slice a2 n2 c2] 44)
   rw [hW0] at this
   simpa using this
  have g6:Boxed W0 (w3.heap.size + 1 + 1 + 1) 3 (.int .i64 1):=by
   have:=((Boxed.new (((w3.alloc (Obj.cells #[Value.int IntKind.i64 Ta] 3)).alloc (Obj.cells #[Value.int IntKind.i64 Tb] 3)).alloc (Obj.cells #[Value.int IntKind.i64 1] 3)) 3 (.int .i64 1)).alloc (Obj.cells #[Value.slice a1 n1 c1] 44)).alloc (Obj.cells #[Value.slice a2 n2 c2] 44)
   rw [hW0] at this
   simpa using this
  have g4:W0.cell? ⟨w3.heap.size + 1 + 1 + 1 + 1,0,none⟩=some (.slice a1 n1 c1):=by rw [← hW0]; simp [go_sem]
  have g5:W0.cell? ⟨w3.heap.size + 1 + 1 + 1 + 1 + 1,0,none⟩=some (.slice a2 n2 c2):=by rw [← hW0]; simp [go_sem]
  have hb30:Below w3.heap.size w3 W0:=by rw [← hW0]; exact bal (bal (bal (bal (bal (ba _ _) _) _) _) _) _
  have hb10:Below w1.heap.size w1 W0:=bt hb13 hb30
  have hs13:=hb13.size
  have hX1:Parts W0 (w3.heap.size + 1 + 1) (.slice a1 n1 c1) x1:=(HX1.out.at (Nat.le_refl _) hb10).mono (by omega)
  have hX2:Parts W0 (w3.heap.size + 1 + 1) (.slice a2 n2 c2) x2:=(HX2.out.at (Nat.le_refl _) hb10).mono (by omega)
  have hm1:∀ t∈x1,0≤t.2.2∧t.2.2≤(1073741824:Int):=by
   intro t ht
   have hmem:t.2∈rd ts:=by rw [← HM.out.2.1]; exact List.mem_map_of_mem (f:=fun t:Tr=>t.2) ht
   have h1:=HM.out.2.2.2.1.pos _ hmem
   have h2:=Pos.le_tot (Nn.of_pos HM.out.2.2.2.1.pos) hmem
   have h3:=HM.out.2.2.2.1.le
   omega
  have hm2:∀ t∈x2,0≤t.2.2∧t.2.2≤(1073741824:Int):=by
   intro t ht
   have hmem:t.2∈rd us:=by rw [← HM.out.2.2.1]; exact List.mem_map_of_mem (f:=fun t:Tr=>t.2) ht
   have h1:=HM.out.2.2.2.2.1.pos _ hmem
   have h2:=Pos.le_tot (Nn.of_pos HM.out.2.2.2.2.1.pos) hmem
   have h3:=HM.out.2.2.2.2.1.le
   omega
  rw [hW0]
  clear hW0
  refine wpIn_rangeFunc_ownH rfl (by decide) (gf:=87) (lb:=#[.pointer (some ⟨w3.heap.size + 1 + 1 + 1 + 1,0,none⟩),.pointer (some ⟨w3.heap.size + 1 + 1 + 1 + 1 + 1,0,none⟩)]) rfl trivial (enters_of Tryz.func87 (by kernel_rfl) rfl)
   (pairs_stops 4 (by decide) (w3.heap.size + 1 + 1 + 1 + 1) (w3.heap.size + 1 + 1 + 1 + 1 + 1) (w3.heap.size + 1 + 1) 1073741824 (by decide) (.slice a1 n1 c1) (.slice a2 n2 c2) x1 x2 W0 (by omega) (by omega) (by omega) g4 g5 hX1 hX2 hm1 hm2) belowK_t (belowK_b (by omega)) (Below.refl _ _) (fun _=>rfl)
   (fun pre W=>((Boxed W (w3.heap.size + 1 + 1) 3 (.int .i64 (farF Ta Tb (seenPP pre)).1)∧Boxed W (w3.heap.size + 1 + 1 + 1) 3 (.int .i64 (farF Ta Tb (seenPP pre)).2))∧Below (w3.heap.size + 1 + 1) W0 W)∧Inr (seenPP pre))
   (fun c pre W=>(c=.ret∧Lon (seenPP pre))∧(W.cell? ⟨w.heap.size,0,none⟩=some (.int .i64 0)∧W.cell? ⟨w.heap.size,1,none⟩=some (.int .i64 0)∧W.cell? ⟨w.heap.size + 1,0,none⟩=some (.int .i64 6))∧Below w.heap.size w W)
   (OwnFrom.and (OwnFrom.and (OwnFrom.and (Own.from (boxed_own _ _ _) _) (Own.from (boxed_own _ _ _) _)) (ownFrom_below (by omega) (by omega))) (ownFrom_pure _ _))
   (fun c=>OwnFrom.and (ownFrom_pure _ _) (OwnFrom.and (Own.from (fun s A B row hs hg hr=>⟨cell_kept hs.1 hg hr,cell_kept hs.2.1 hg hr,cell_kept hs.2.2 hg hr⟩) _) (ownFrom_below (Nat.le_refl _) (by omega))))
   ⟨⟨⟨g3,g6⟩,Below.refl _ _⟩,by intro p h; simp [seenPP] at h⟩
   (fun x act W=>∃ Bx,W0.heap.size≤Bx∧Two2 W Bx x∧act={ tmps:=#[.slice a1 n1 c1,.slice a2 n2 c2,undef,undef,.pointer (some ⟨w.heap.size,0,none⟩),.pointer (some ⟨w.heap.size + 1,0,none⟩),.int .i64 0,.pointer (some ⟨w3.heap.size,0,none⟩),.pointer (some ⟨w3.heap.size + 1,0,none⟩),.pointer (some ⟨w3.heap.size + 1 + 1,0,none⟩),.pointer (some ⟨w3.heap.size + 1 + 1 + 1,0,none⟩),.pointer (some ⟨Bx,0,none⟩),.pointer (some ⟨Bx + 1,0,none⟩),undef,undef,.tuple #[.slice a1 n1 c1,.slice a2 n2 c2,.int .i64 0],.slice a ts.length c,.slice a' us.length c',.tuple #[.slice a1 n1 c1,.slice a2 n2 c2,.int .i64 0],.slice a1 n1 c1,.slice a2 n2 c2,.int .i64 0,.int .i64 0,.bool false,undef,undef,.slice a1 n1 c1,.int .i64 Ta,.slice a2 n2 c2,.int .i64 Tb,.slice a1 n1 c1,.slice a2 n2 c2,.func (.func 87) #[] #[.pointer (some ⟨w3.heap.size + 1 + 1 + 1 + 1,0,none⟩),.pointer (some ⟨w3.heap.size + 1 + 1 + 1 + 1 + 1,0,none⟩)],.agg #[x.1.1.1,.int .i64 x.1.1.2.2],.agg #[x.1.2.1,.int .i64 x.1.2.2.2],undef,undef,undef,undef,undef,undef,undef,undef,undef,undef,undef,undef,undef,undef,undef,undef,undef,undef,undef,undef,undef,undef,undef,undef,undef,undef,undef,undef,undef,undef,undef,undef,undef,undef],defers:=[] })
   (fun x act _ X Y row hs hg hr=>by obtain ⟨Bx,h1,h2,h3⟩:=hs; exact ⟨Bx,h1,h2.own hg (fun r e=>(hr r e).2),h3⟩)
   ?assign ?body ?done ?stop
  case assign =>
   rintro l pre x W K ⟨⟨⟨bU,bV⟩,hB1⟩,hall⟩ hK
   have hs:=hB1.size
   obtain ⟨⟨⟨xv,xo,xk⟩,⟨yv,yo,yk⟩⟩,hx⟩:=x
   obtain ⟨sa,sc,e1,_⟩:=hx.1
   obtain ⟨sa',sc',e2,_⟩:=hx.2.1
   simp only at e1 e2
   subst e1 e2
   simp only [encPP]
   have HA:Hid (Inr (seenPP pre)):=hall
   clear hall
   gi_wp2
   exact hK _ _ (((KeepsOthers.alloc _ _).trans (KeepsOthers.alloc _ _)).from _) (((Below.refl _ W).alloc (by omega) _).alloc (by simp; omega) _) ⟨⟨⟨(bU.alloc _).alloc _,(bV.alloc _).alloc _⟩,(hB1.alloc (by omega) _).alloc (by simp; omega) _⟩,HA.out⟩ ⟨W.heap.size,hs,two2_new W ⟨((.slice sa xo.length sc,xo,xk),(.slice sa' yo.length sc',yo,yk)),hx⟩,rfl⟩
  case body =>
   rintro l pre x act W hl ⟨r,hr⟩ ⟨⟨⟨bU,bV⟩,hB1⟩,hall⟩ ⟨Bx,hBx,bX,rfl⟩ hlt
   obtain ⟨k1,k2,k3,k4⟩:=bX.cells
   have hs:=hB1.size
   obtain ⟨⟨F1,F2⟩,hF⟩:∃ q,farF Ta Tb (seenPP pre)=q:=⟨_,rfl⟩
   have hFb:=farF_bd ⟨hTa0,hTa1⟩ ⟨hTb0,hTb1⟩ (seenPP pre) hall
   rw [hF] at bU bV hFb
   simp only at bU bV hFb
   have HF:Hid (farF Ta Tb (seenPP pre)=(F1,F2)∧Inr (seenPP pre)):=⟨hF,hall⟩
   have cU:=bU.cell
   have fU:=bU.frozen
   have cV:=bV.cell
   have fV:=bV.frozen
   have h1:=(hB1.cell (p:=⟨w3.heap.size,0,none⟩) (by show w3.heap.size < w3.heap.size + 1 + 1; omega)).trans g1
   have h2:=(hB1.cell (p:=⟨w3.heap.size + 1,0,none⟩) (by show w3.heap.size + 1 < w3.heap.size + 1 + 1; omega)).trans g2
   have hbW:Below w1.heap.size w1 W:=hb10.trans (hB1.mono (by omega))
   have lw1:w.heap.size < w1.heap.size:=by omega
   have lw2:w.heap.size + 1 < w1.heap.size:=by omega
   obtain ⟨hc5,hf5⟩:=bcell hbW
   have r1:=(hc5 _ 0 lw1).trans q1
   have r2:=(hc5 _ 1 lw1).trans q2
   have r3:=(hf5 _ 0 lw1).trans q3
   have r4:=(hf5 _ 1 lw1).trans q4
   have r5:=(hc5 _ 0 lw2).trans q5
   have r6:=(hf5 _ 0 lw2).trans q6
   have hbb:Below w.heap.size w W:=hbw.trans (hbW.mono (by omega))
   obtain ⟨⟨⟨xv,xo,xk⟩,⟨yv,yo,yk⟩⟩,hx⟩:=x
   have hx':=hx
   obtain ⟨_,_,⟨hx1,hx2⟩,⟨hy1,hy2⟩⟩:=hx'
   simp only at hx1 hx2 hy1 hy2 k2 k4
   clear hF hall hc5 hf5 k1 k3
   by_cases hz1:xk=0
   ·subst hz1
    have HS:Hid (Lon (seenPP (pre ++ [⟨((xv,xo,0),(yv,yo,yk)),hx⟩]))):=by
     rw [Hid,Lon,seen_snoc,List.any_append]; simp [lone,bare]
    gi_wp2
    have hbz:Below w.heap.size w (((W.setCell ⟨w.heap.size,0,none⟩ (.int .i64 0)).setCell ⟨w.heap.size,1,none⟩ (.int .i64 0)).setCell ⟨w.heap.size + 1,0,none⟩ (.int .i64 6)):=bs (bs (bs hbb (Nat.le_refl _) _) (Nat.le_refl _) _) (by simp) _
    exact ⟨(((KeepsOthers.setCell _ _ _).trans (KeepsOthers.setCell _ _ _)).trans (KeepsOthers.setCell _ _ _)).from _,⟨rfl,HS.out⟩,⟨(sc_other (by simp)).trans ((sc_other (by simp)).trans (sc_same r1)),(sc_other (by simp)).trans (sc_same (u:=.int .i64 0) ((sc_other (by simp)).trans r2)),sc_same (u:=.int .i64 0) ((sc_other (by simp)).trans ((sc_other (by simp)).trans r5))⟩,hbz⟩
   ·by_cases hz2:yk=0
    ·subst hz2
     have hz1':(xk == 0)=false:=by simpa using hz1
     have HS:Hid (Lon (seenPP (pre ++ [⟨((xv,xo,xk),(yv,yo,0)),hx⟩]))):=by
      rw [Hid,Lon,seen_snoc,List.any_append]; simp [lone,bare]
     gi_wp2
     have hbz:Below w.heap.size w (((W.setCell ⟨w.heap.size,0,none⟩ (.int .i64 0)).setCell ⟨w.heap.size,1,none⟩ (.int .i64 0)).setCell ⟨w.heap.size + 1,0,none⟩ (.int .i64 6)):=bs (bs (bs hbb (Nat.le_refl _) _) (Nat.le_refl _) _) (by simp) _
     exact ⟨(((KeepsOthers.setCell _ _ _).trans (KeepsOthers.setCell _ _ _)).trans (KeepsOthers.setCell _ _ _)).from _,⟨rfl,HS.out⟩,⟨(sc_other (by simp)).trans ((sc_other (by simp)).trans (sc_same r1)),(sc_other (by simp)).trans (sc_same (u:=.int .i64 0) ((sc_other (by simp)).trans r2)),sc_same (u:=.int .i64 0) ((sc_other (by simp)).trans ((sc_other (by simp)).trans r5))⟩,hbz⟩
    ·have hz1':(xk == 0)=false:=by simpa using hz1
     have hz2':(yk == 0)=false:=by simpa using hz2
     have HIn:Hid (Inr (seenPP (pre ++ [⟨((xv,xo,xk),(yv,yo,yk)),hx⟩]))):=by
      intro p hp
      rw [seen_snoc] at hp
      rcases List.mem_append.1 hp with h | h
      ·exact HF.out.2 p h
      ·simp [bare] at h; subst h; exact ⟨⟨by show 0 < xk; omega,hx2⟩,⟨by show 0 < yk; omega,hy2⟩⟩
     have b1:=Rt.mul_bd hx1 hx2 (Int.le_of_lt hTb0) hTb1
     have b2:=Rt.mul_bd hy1 hy2 (Int.le_of_lt hTa0) hTa1
     obtain ⟨P1,hP1⟩:=Int.eq_ofNat_of_zero_le b1.1
     obtain ⟨P2,hP2⟩:=Int.eq_ofNat_of_zero_le b2.1
     rw [hP1] at b1
     rw [hP2] at b2
     obtain ⟨f1,rfl⟩:=Int.eq_ofNat_of_zero_le (show 0≤F1 by omega)
     obtain ⟨f2,rfl⟩:=Int.eq_ofNat_of_zero_le (show 0≤F2 by omega)
     by_cases hlt2:P1 < P2
     ·have hltI:(P1:Int) < (P2:Int):=by omega
      have ka:=fun r h W=>above_any P2 P1 f1 f2 (by omega) (by omega) (by omega) (by omega) r h W
      by_cases hab:f1 * P1 < P2 * f2
      ·have HN:Hid (farF Ta Tb (seenPP (pre ++ [⟨((xv,xo,xk),(yv,yo,yk)),hx⟩]))=((P2:Int),(P1:Int))∧Inr (seenPP (pre ++ [⟨((xv,xo,xk),(yv,yo,yk)),hx⟩]))):=by
        refine ⟨?_,HIn.out⟩
        rw [seen_snoc,farF_snoc,HF.out.1]
        simp only [farStep,bare,hP1,hP2]
        rw [if_pos hltI]
        rw [if_pos (by exact_mod_cast hab)]
       have kb:=ka true (by simpa using hab)
       clear ka hab
       gi_wp2_with fail
       refine quiet_region (by kernel_rfl) (by kernel_rfl) (by kernel_rfl) ?_
       repeat (gi_big_quiet_step (fail))
       refine wpQuietIn_nil ?_
       rintro _ ⟨nq,rfl⟩
       gi_wp2_with fail
       refine ⟨trivial,?_⟩
       refine (CallsIn.inRound l (callsIn_wide.2 (kb _))).mono ?_
       rintro e w' ⟨rfl,rfl⟩
       gi_wp2
       refine ⟨((kdr W nq).trans ((KeepsOthers.setCell _ _ _).trans (KeepsOthers.setCell _ _ _))).from _,((bdn W nq _).setCell (p:=⟨w3.heap.size + 1 + 1,0,none⟩) (Nat.le_refl _) _).setCell (p:=⟨w3.heap.size + 1 + 1 + 1,0,none⟩) (by show w3.heap.size + 1 + 1≤w3.heap.size + 1 + 1 + 1; omega) _,⟨⟨?_,?_⟩,((hB1.trans (bdn W nq _)).setCell (p:=⟨w3.heap.size + 1 + 1,0,none⟩) (Nat.le_refl _) _).setCell (p:=⟨w3.heap.size + 1 + 1 + 1,0,none⟩) (by show w3.heap.size + 1 + 1≤w3.heap.size + 1 + 1 + 1; omega) _⟩,HIn.out⟩
       ·rw [HN.out.1]; exact (Boxed.set (W:=W.drewN nq) _ bU).other (by omega) _
       ·rw [HN.out.1]; exact Boxed.set _ (Boxed.other (W:=W.drewN nq) bV (by omega) _)
      ·have HN:Hid (farF Ta Tb (seenPP (pre ++ [⟨((xv,xo,xk),(yv,yo,yk)),hx⟩]))=((f1:Int),(f2:Int))∧Inr (seenPP (pre ++ [⟨((xv,xo,xk),(yv,yo,yk)),hx⟩]))):=by
        refine ⟨?_,HIn.out⟩
        rw [seen_snoc,farF_snoc,HF.out.1]
        simp only [farStep,bare,hP1,hP2]
        rw [if_pos hltI]
        rw [if_neg (by exact_mod_cast hab)]
       have kb:=ka false (by simpa using hab)
       clear ka hab
       gi_wp2_with fail
       refine quiet_region (by kernel_rfl) (by kernel_rfl) (by kernel_rfl) ?_
       repeat (gi_big_quiet_step (fail))
       refine wpQuietIn_nil ?_
       rintro _ ⟨nq,rfl⟩
       gi_wp2_with fail
       refine ⟨trivial,?_⟩
       refine (CallsIn.inRound l (callsIn_wide.2 (kb _))).mono ?_
       rintro e w' ⟨rfl,rfl⟩
       gi_wp2
       refine ⟨(kdr W nq).from _,bdn W nq _,⟨⟨?_,?_⟩,hB1.trans (bdn W nq _)⟩,HIn.out⟩
       ·rw [HN.out.1]; exact bU
       ·rw [HN.out.1]; exact bV
     ·have hltI:¬ (P1:Int) < (P2:Int):=by omega
      have ka:=fun r h W=>above_any P1 P2 f1 f2 (by omega) (by omega) (by omega) (by omega) r h W
      by_cases hab:f1 * P2 < P1 * f2
      ·have HN:Hid (farF Ta Tb (seenPP (pre ++ [⟨((xv,xo,xk),(yv,yo,yk)),hx⟩]))=((P1:Int),(P2:Int))∧Inr (seenPP (pre ++ [⟨((xv,xo,xk),(yv,yo,yk)),hx⟩]))):=by
        refine ⟨?_,HIn.out⟩
        rw [seen_snoc,farF_snoc,HF.out.1]
        simp only [farStep,bare,hP1,hP2]
        rw [if_neg hltI]
        rw [if_pos (by exact_mod_cast hab)]
       have kb:=ka true (by simpa using hab)
       clear ka hab
       gi_wp2_with fail
       refine quiet_region (by kernel_rfl) (by kernel_rfl) (by kernel_rfl) ?_
       repeat (gi_big_quiet_step (fail))
       refine wpQuietIn_nil ?_
       rintro _ ⟨nq,rfl⟩
       gi_wp2_with fail
       refine ⟨trivial,?_⟩
       refine (CallsIn.inRound l (callsIn_wide.2 (kb _))).mono ?_
       rintro e w' ⟨rfl,rfl⟩
       gi_wp2
       refine ⟨((kdr W nq).trans ((KeepsOthers.setCell _ _ _).trans (KeepsOthers.setCell _ _ _))).from _,((bdn W nq _).setCell (p:=⟨w3.heap.size + 1 + 1,0,none⟩) (Nat.le_refl _) _).setCell (p:=⟨w3.heap.size + 1 + 1 + 1,0,none⟩) (by show w3.heap.size + 1 + 1≤w3.heap.size + 1 + 1 + 1; omega) _,⟨⟨?_,?_⟩,((hB1.trans (bdn W nq _)).setCell (p:=⟨w3.heap.size + 1 + 1,0,none⟩) (Nat.le_refl _) _).setCell (p:=⟨w3.heap.size + 1 + 1 + 1,0,none⟩) (by show w3.heap.size + 1 + 1≤w3.heap.size + 1 + 1 + 1; omega) _⟩,HIn.out⟩
       ·rw [HN.out.1]; exact (Boxed.set (W:=W.drewN nq) _ bU).other (by omega) _
       ·rw [HN.out.1]; exact Boxed.set _ (Boxed.other (W:=W.drewN nq) bV (by omega) _)
      ·have HN:Hid (farF Ta Tb (seenPP (pre ++ [⟨((xv,xo,xk),(yv,yo,yk)),hx⟩]))=((f1:Int),(f2:Int))∧Inr (seenPP (pre ++ [⟨((xv,xo,xk),(yv,yo,yk)),hx⟩]))):=by
        refine ⟨?_,HIn.out⟩
        rw [seen_snoc,farF_snoc,HF.out.1]
        simp only [farStep,bare,hP1,hP2]
        rw [if_neg hltI]
        rw [if_neg (by exact_mod_cast hab)]
       have kb:=ka false (by simpa using hab)
       clear ka hab
       gi_wp2_with fail
       refine quiet_region (by kernel_rfl) (by kernel_rfl) (by kernel_rfl) ?_
       repeat (gi_big_quiet_step (fail))
       refine wpQuietIn_nil ?_
       rintro _ ⟨nq,rfl⟩
       gi_wp2_with fail
       refine ⟨trivial,?_⟩
       refine (CallsIn.inRound l (callsIn_wide.2 (kb _))).mono ?_
       rintro e w' ⟨rfl,rfl⟩
       gi_wp2
       refine ⟨(kdr W nq).from _,bdn W nq _,⟨⟨?_,?_⟩,hB1.trans (bdn W nq _)⟩,HIn.out⟩
       ·rw [HN.out.1]; exact bU
       ·rw [HN.out.1]; exact bV
  case done =>
   rintro D ys W hD hS ⟨⟨⟨bU,bV⟩,hB1⟩,hall⟩ hK
   have hup:seenPP ys=mrgP (rd ts) (rd us):=by
    rw [← HM.out.2.1,← HM.out.2.2.1,← mrg_rd,← hS,seenPP,List.map_map]; rfl
   rw [hup] at bU bV hall
   have hlo:(mrgP (rd ts) (rd us)).any lone=false:=by
    rw [List.any_eq_false]
    intro p hp
    obtain ⟨h1,h2⟩:=hall p hp
    simp only [lone,Bool.or_eq_true,beq_iff_eq]
    omega
   obtain ⟨⟨F1,F2⟩,hF⟩:∃ q,farF Ta Tb (mrgP (rd ts) (rd us))=q:=⟨_,rfl⟩
   have hFb:=farF_bd ⟨hTa0,hTa1⟩ ⟨hTb0,hTb1⟩ (mrgP (rd ts) (rd us)) hall
   have hmk:=HM.out.1
   rw [hlo,hF] at hmk
   rw [hF] at bU bV hFb
   simp only [Bool.false_eq_true,if_false] at bU bV hFb hmk
   have cU:=bU.cell
   have cV:=bV.cell
   have hbW:Below w1.heap.size w1 W:=hb10.trans (hB1.mono (by omega))
   have lw1:w.heap.size < w1.heap.size:=by omega
   have lw2:w.heap.size + 1 < w1.heap.size:=by omega
   obtain ⟨hc5,hf5⟩:=bcell hbW
   have r1:=(hc5 _ 0 lw1).trans q1
   have r2:=(hc5 _ 1 lw1).trans q2
   have r3:=(hf5 _ 0 lw1).trans q3
   have r4:=(hf5 _ 1 lw1).trans q4
   have r5:=(hc5 _ 0 lw2).trans q5
   have r6:=(hf5 _ 0 lw2).trans q6
   have km:=fun W=>rmake_any F1 F2 n m er (by omega) (by omega) hmk W
   have hbb:Below w.heap.size w W:=hbw.trans (hbW.mono (by omega))
   have HK:Hid (W.heap[D]? = some (.deferred (some []))):=hK
   clear hc5 hf5 hmk hup hS hK hall hlo hF
   gi_wp2_with fail
   refine ⟨trivial,?_⟩
   refine (callsIn_wide.2 (km _)).mono ?_
   rintro e w5 ⟨rfl,hb5⟩
   obtain ⟨hc6,hf6⟩:=bcell hb5
   have lw6:w.heap.size < W.heap.size:=by have:=hbb.size; have:=hbW.size; omega
   have lw7:w.heap.size + 1 < W.heap.size:=by have:=hbb.size; have:=hbW.size; omega
   have t1:=(hc6 _ 0 lw6).trans r1
   have t2:=(hc6 _ 1 lw6).trans r2
   have t3:=(hf6 _ 0 lw6).trans r3
   have t4:=(hf6 _ 1 lw6).trans r4
   have t5:=(hc6 _ 0 lw7).trans r5
   have t6:=(hf6 _ 0 lw7).trans r6
   have HK5:Hid (w5.heap[D]? = some (.deferred (some []))):=by rw [Hid,hb5.block D (Array.getElem?_eq_some_iff.1 HK.out).1]; exact HK.out
   clear hc6 hf6 r1 r2 r3 r4 r5 r6 km
   gi_wp2
   obtain ⟨W7,hW7⟩:∃ W7,((w5.setCell ⟨w.heap.size,0,none⟩ (.int .i64 n)).setCell ⟨w.heap.size,1,none⟩ (.int .i64 m)).setCell ⟨w.heap.size + 1,0,none⟩ (.int .i64 er)=W7:=⟨_,rfl⟩
   have HK7:W7.heap[D]? = some (.deferred (some [])):=by
    rw [← hW7]
    exact (KeepsOthers.setCell _ _ _).same D _ ((KeepsOthers.setCell _ _ _).same D _ ((KeepsOthers.setCell _ _ _).same D _ HK5.out rfl) rfl) rfl
   have u1:W7.cell? ⟨w.heap.size,0,none⟩=some (.int .i64 n):=by rw [← hW7]; exact (sc_other (by simp)).trans ((sc_other (by simp)).trans (sc_same t1))
   have u2:W7.cell? ⟨w.heap.size,1,none⟩=some (.int .i64 m):=by rw [← hW7]; exact (sc_other (by simp)).trans (sc_same (u:=.int .i64 0) ((sc_other (by simp)).trans t2))
   have u3:W7.cell? ⟨w.heap.size + 1,0,none⟩=some (.int .i64 er):=by rw [← hW7]; exact sc_same (u:=.int .i64 0) ((sc_other (by simp)).trans ((sc_other (by simp)).trans t5))
   have hb7:Below w.heap.size w W7:=by rw [← hW7]; exact bs (bs (bs (bt hbb hb5) (Nat.le_refl _) _) (Nat.le_refl _) _) (by simp) _
   rw [hW7]
   refine ⟨by simp,.inl ⟨_,_,rfl,run_takeDeferred HK7,?_⟩⟩
   have v1:=cell_kept u1 (grownBy_putObj' _ D (.deferred none)) (fun r e=>by cases e; exact ⟨_,HK7,rfl⟩)
   have v2:=cell_kept u2 (grownBy_putObj' _ D (.deferred none)) (fun r e=>by cases e; exact ⟨_,HK7,rfl⟩)
   have v3:=cell_kept u3 (grownBy_putObj' _ D (.deferred none)) (fun r e=>by cases e; exact ⟨_,HK7,rfl⟩)
   exact ⟨.tuple #[rv n m,.int .i64 er],by simp [results,Tryz.results13,go_sem,v1,v2,v3],rfl,hb7.trans (belowK_b (w:=w) (Nat.le_refl _) W7 D _ _ (by omega) HK7 rfl rfl)⟩
  case stop =>
   rintro D c pre W hD hS ⟨⟨rfl,hl⟩,⟨u1,u2,u3⟩,hb7⟩ hK
   have hup:(mrgP (rd ts) (rd us)).any lone=true:=by
    rw [← HM.out.2.1,← HM.out.2.2.1,← mrg_rd]
    obtain ⟨rest,hrest⟩:=hS
    have e1:(pre.map (·.1)).map bare=seenPP pre:=by rw [seenPP,List.map_map]; rfl
    rw [← hrest,List.map_append,List.any_append,e1,show (seenPP pre).any lone=true from hl,Bool.true_or]
   have hmk:=HM.out.1
   rw [if_pos hup] at hmk
   simp only [Prod.mk.injEq] at hmk
   obtain ⟨rfl,rfl,rfl⟩:=hmk
   have HK7:Hid (W.heap[D]? = some (.deferred (some []))):=hK
   clear hK hl hup hS
   gi_wp2
   refine ⟨by simp,.inl ⟨_,_,rfl,run_takeDeferred HK7.out,?_⟩⟩
   have v1:=cell_kept u1 (grownBy_putObj' _ D (.deferred none)) (fun r e=>by cases e; exact ⟨_,HK7.out,rfl⟩)
   have v2:=cell_kept u2 (grownBy_putObj' _ D (.deferred none)) (fun r e=>by cases e; exact ⟨_,HK7.out,rfl⟩)
   have v3:=cell_kept u3 (grownBy_putObj' _ D (.deferred none)) (fun r e=>by cases e; exact ⟨_,HK7.out,rfl⟩)
   exact ⟨.tuple #[rv 0 0,.int .i64 6],by simp [results,Tryz.results13,go_sem,v1,v2,v3],rfl,hb7.trans (belowK_b (w:=w) (Nat.le_refl _) W D _ _ (by omega) HK7.out rfl rfl)⟩
 ·have h3:=HR.out
  rw [if_neg h0] at h3
  simp only [Prod.mk.injEq] at h3
  obtain ⟨rfl,rfl,rfl⟩:=h3
  have h0':(e0 == 0)=false:=by simpa using h0
  have h0'':(e0 != 0)=true:=by simpa using h0
  gi_wp2
  exact ⟨.tuple #[rv 0 0,.int .i64 e0],by simp [results,Tryz.results13,go_sem,q1,q2,q5],rfl,bs (bs (bs hbw (Nat.le_refl _) _) (Nat.le_refl _) _) (by simp) _⟩
end Go.Proofs.YtlndlpjadajelaaGreat

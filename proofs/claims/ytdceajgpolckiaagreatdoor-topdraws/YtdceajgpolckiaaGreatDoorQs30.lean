import Derived.Test.YtdceajgpolckiaaGreatDoorQs29
import Derived.RangeFuncNested
import Derived.RangeFuncBound
import Derived.RangeFuncCalls
import Derived.RangeFuncLeaves
import Derived.Shelf.Abstract
import Derived.Shelf.RegionOpen
import Derived.OwnWalkIn
import Derived.TacticsInMore
import Derived.LoopNIn
import Derived.LoopIn
import Derived.OrdersHeld
import Derived.OrdersIn
import Derived.Laws.StructEq
import Derived.RangeFuncBox
import Derived.Laws.IdiomStrings
open Go.Proofs.Tryz
set_option linter.unusedSimpArgs false
set_option maxHeartbeats 16000000
set_option maxRecDepth 100000
namespace Go.Proofs.YtdceajgpolckiaaGreatDoor
namespace K.P
open Go.RowKit K.Ds
theorem c4Q (w:World)(a b c d e:Value)(t:TypeId)(N:Nat)(hN:N=w.heap.size):∀ j u,[a,b,c,d,e][j]? = some u->(w.alloc (.cells #[a,b,c,d,e] t)).cell? ((⟨N,0,none⟩:Addr).add j)=some u:=by
 subst hN;exact fun j u hu=>World.news_of_block (w:=w.alloc (.cells #[a,b,c,d,e] t)) (B:=w.heap.size) (cs:=#[a,b,c,d,e]) (t:=t) (fr:=(0,0)) (zR w _) j u (by simpa using hu)
theorem alZ {x y:ByteArray}(h:x≠y):kN x≠kN y:=by
 intro e;simp only[Lit.string.injEq] at e;apply h;apply ByteArray.ext;exact Array.toList_inj.1 e
theorem TwoB.gb {w w':World}{R:Nat}{x y:Value}{r:Option Nat}(h:TwoB w R x y)(hg:w.grownBy w' r)(hne:some R≠r):TwoB w' R x y:=by
 have hk:w'.heap[R]? = w.heap[R]?:=hg.block R h.lt hne;exact⟨(dZ (w:=w) (a:=⟨R,0,none⟩) hk).trans h.c0,(dZ (w:=w) (a:=⟨R,1,none⟩) hk).trans h.c1,(uJ (w:=w) (a:=⟨R,0,none⟩) hk).trans h.f0,(uJ (w:=w) (a:=⟨R,1,none⟩) hk).trans h.f1,zX h.lt hg.size⟩
theorem TwoB.set1 {w:World}{R:Nat}{x y:Value}(h:TwoB w R x y)(u:Value):TwoB (w.setCell ⟨R,1,none⟩ u) R x u :=
 ⟨(rQ (by simp)).trans h.c0,gV h.c1,cZ.trans h.f0,cZ.trans h.f1,by simpa using h.lt⟩
theorem alJ {done:List En}{e:En}{x:ByteArray}(h:x≠e.2.1):yX (done++[e]) x=yX done x:=by
 rw[qK,qQ (fun c=>h c.2.symm)];cases yX done x <;> rfl
theorem c4X {X w5 w6:World}{N:Nat->Prop}{bk bm n:Nat}{v:Value}{D:DataW Value}{done:List En}{e:En}{b:Rq}{bp np:Nat}{Dp:DataW Value}{g cap:Nat}
  (hX:BookM X N bk bm n v D done) (hN:∀ k,w5.heap.size<=k->N k) (hd:qZ done e=0) (hn:nrm e=e)
  (hbud:yX (done++[e]) e.2.1=some b) (hP:Pts X bp np Dp (fun p=>p∈prs (done++[e]) e.2.1) (fun p=>(lQ (done++[e]) e.2.1 p).1)) (hnp:np<=done.length+1) (hszp:Maps.size Dp=(bZ (done++[e]) e.2.1).length) (hNp:N bp) (hpk:bp≠bk) (hpm:bp≠bm)
  (own5:w5.ownsMap prog 9 hR bm (n+1) (D.put (kN e.2.1) (.held (pv b (jX (done++[e]) e.2.1).1 bp)))) (g5:X.grownBy w5 (some bm))
  (row6:w6.ownsRow 0 53 5 (.slice (some ⟨g,0,none⟩) (done.length+1) cap) (done.length+1) (enc done++nM e)) (g6:w5.grownBy w6 v.ownBlock) (hg6:v.ownBlock=some g\/w5.heap.size<=g) :
  BookM (w6.setCell ⟨bk,1,none⟩ (.slice (some ⟨g,0,none⟩) (done.length+1) cap)) N bk bm (n+1) (.slice (some ⟨g,0,none⟩) (done.length+1) cap) (D.put (kN e.2.1) (.held (pv b (jX (done++[e]) e.2.1).1 bp))) (done++[e]):=by
 obtain⟨hl1,hl2,hl3,hl4⟩:=hX.lob;have hbk5:bk<w5.heap.size:=zX hX.two.lt g5.size;have hbm5:bm<w5.heap.size:=own5.lt
 have hgk:N g/\g≠bk/\g≠bm:=by
  rcases hg6 with h|h
  ·exact hl4 g h
  ·exact⟨hN g h,by omega,by omega⟩
 have g7:w6.grownBy (w6.setCell ⟨bk,1,none⟩ (.slice (some ⟨g,0,none⟩) (done.length+1) cap)) (some bk):=sQ (cX _ _) _ _;have ob:∀ k,v.ownBlock=some k->k≠bk/\k≠bm:=fun k hk=>(hl4 k hk).2
 have keepP:∀ {bq nq:Nat} {Dq:DataW Value} {P:Int->Prop} {f:Int->Rq},Pts X bq nq Dq P f->bq≠bk->bq≠bm->Pts (w6.setCell ⟨bk,1,none⟩ (.slice (some ⟨g,0,none⟩) (done.length+1) cap)) bq nq Dq P f:=fun {bq} {_} {_} {_} {_} h h1 h2=>by
  refine((h.gb g5 (by simpa using h2)).gb g6 (fun e'=>?_)).gb g7 (by simpa using h1);rcases hX.row.2 with⟨rfl,_⟩|⟨g',c',cur,rfl,_,hc,_⟩
  ·cases e'
  ·simp only[Value.ownBlock,sX] at e'
   subst e';obtain⟨es,clock,hb,_⟩:=h.own;rw[hc] at hb;cases hb
 obtain⟨k1,k2,k3⟩:=aeJ hd;refine⟨afQ hX.inv hd hn,?_,?_,?_,?_,fun x=>?_,fun x b' hx=>?_,?_,hl1,hl2,hl3,fun g' hg'=>?_⟩
 ·exact((hX.two.gb g5 (by simpa using hl3)).gb g6 (fun e'=>(ob bk e'.symm).1 rfl)).set1 _
 ·exact(own5.kept g6 (fun e'=>(ob bm e'.symm).2 rfl)).kept g7 (by simpa using fun h=>hl3 h.symm)
 ·have:=row6.kept g7 (.inr (by simpa [Value.ownBlock] using hgk.2.1))
  rw[cwZ];simpa using this
 ·simp;have:=hX.cnt;omega
 ·by_cases hxe:x=e.2.1
  ·subst hxe
   rw[Maps.has_put_same hX.own.isMap (k:=kN e.2.1) True.intro];simp[hbud]
  ·rw[Maps.has_put_other (alZ hxe),hX.is x,alJ hxe]
 ·by_cases hxe:x=e.2.1
  ·subst hxe
   rw[hbud] at hx;simp only[sX] at hx;subst hx;exact⟨bp,np,Dp,Maps.atKey_put_same (k:=kN e.2.1) hX.own.isMap True.intro _ _,keepP hP hpk hpm,by simpa using hnp,hszp,hNp,hpk,hpm⟩
  ·rw[alJ hxe] at hx
   obtain⟨bq,nq,Dq,j1,j2,j3,j4,j5,j6,j7⟩:=(hX.el x b' hx).ex;have hne:∀ q,¬ (e.2.1=x/\q):=fun q c=>hxe c.1.symm;have e1:jX (done++[e]) x=jX done x:=dL (hne _);have e2:prs (done++[e]) x=prs done x:=iM (hne _);have e3:lQ (done++[e]) x=lQ done x:=funext fun y=>xK (hne _);exact⟨bq,nq,Dq,by rw[Maps.atKey_put_other (alZ hxe),e1];exact j1,by simp only[e2,e3];exact keepP j2 j6 j7,by simp;omega,by unfold bZ;rw[e2];exact j4,j5,j6,j7⟩
 ·rw[Maps.size_put (hX.own.tidy uB),hX.sz,qB]
  rcases k3 with⟨c1,c2,_⟩|⟨c1,b0,c2,_⟩
  ·rw[zQ c1,(hX.has_no c2).1];simp
  ·rw[qQ c1,(hX.is e.2.1).2 ⟨b0,c2⟩];simp
 ·simp only[Value.ownBlock,sX] at hg'
  subst hg';exact hgk
theorem c4Z (N:Nat->Prop)(bk bm n:Nat)(v:Value)(D:DataW Value)(done:List En)(e:En)(w:World)(hB:BookM w N bk bm n v D done)(hs:e.2.1.size<=4294967296)(hN:∀ k,w.heap.size<=k->N k)(hbad:eZ e=0)(hl:done.length<4096)(hpI:-9223372036854775808<=e.2.2.1/\e.2.2.1<=9223372036854775807)(her:qZ done (nrm e)=0) :
  Calls prog 60 #[.pointer (some ⟨bk,0,none⟩),ev e] w (DoP w N bk bm done e):=by
 have kw:=fun W=>wH e (by omega) W 0 hbad;have ka:=fun W (hW:BookM W N bk bm n v D done) (hNW:∀ k,W.heap.size<=k->N k)=>ajJ N bk bm n v D done e W hW hs hNW hbad hl hpI 0 her;have kr:=fun W=>cvX e (by omega) W;have HB:Hid (BookM w N bk bm n v D done):=hB;have hbk:=hB.two.lt;obtain⟨va,vc,rfl⟩:=hB.slice;have hq:decide ((4096:Int)<=(done.length:Int))=false:=dV (by omega);obtain⟨e',he'⟩:∃ e',nrm e=e':=⟨_,rfl⟩;have HE:Hid (nrm e=e'):=he';have HD:Hid (qZ done e' = 0):=by rw[<-he'];exact her
 simp only[he'] at ka kr;have hnm:e'.2.1=e.2.1:=by rw[<-he'];exact jP e
 obtain⟨d,nm,p,u,v'⟩:=e;obtain⟨d',nm',p',u',v''⟩:=e';simp only at hnm hs;subst hnm;obtain⟨i0,hi0,hz0,hz1,hz2⟩:=nY oP;have V0:Hid (FivB (w.alloc (.cells #[.int .i64 d,.string nm',.int .i64 p,.int .i64 u,.int .i64 v'] 53)) w.heap.size (.int .i64 d) (.string nm') (.int .i64 p) (.int .i64 u) (.int .i64 v')):=FivB.new _ _ _ _ _ _ 53 _ rfl;clear hbad her hB he';go_enter func60,ntmps60;go_wp2_with fail;refine(kw _).mono ?_;rintro e1 w1 ⟨rfl,hb1⟩;have B1:=bt (ba _ _) hb1;have BK1:=HB.out.keep B1;obtain⟨t0,t1,tf0,tf1,htl⟩:=BK1.two;obtain⟨c0,c1,c2,c3,c4,f0,f1,f2,f3,f4,hl0⟩:=V0.out.below hb1;go_wp2_with fail;refine(ka _ BK1 (fun k hk=>hN k (aQ B1.size hk))).mono ?_;rintro e2 w2 ⟨hb2,⟨hz,_⟩|⟨_,b,bp,np,Dp,rfl,hbud,hPt,hnp,hszp,hNp,hpk,hpm⟩⟩
 ·exact absurd rfl hz
 obtain⟨al,hal⟩:∃ al,(jX (done++[(d',nm',p',u',v'')]) nm').1=al:=⟨_,rfl⟩;have HAL:Hid ((jX (done++[(d',nm',p',u',v'')]) nm').1=al):=hal;simp only[hal];have HPT:Hid (Pts w2 bp np Dp (fun p=>p∈prs (done++[(d',nm',p',u',v'')]) nm') (fun y=>(lQ (done++[(d',nm',p',u',v'')]) nm' y).1)/\np<=done.length+1/\Maps.size Dp=(bZ (done++[(d',nm',p',u',v'')]) nm').length/\N bp/\bp≠bk/\bp≠bm/\yX (done++[(d',nm',p',u',v'')]) nm' = some b):=⟨hPt,hnp,hszp,hNp,hpk,hpm,hbud⟩;have hbp2:bp<w2.heap.size:=hPt.own.lt;clear hPt hnp hszp hNp hpk hpm hbud hal;obtain⟨c0,c1,c2,c3,c4,f0,f1,f2,f3,f4,hl0⟩:=(V0.out.below hb1).below hb2;go_wp2_with fail;refine(kr _).mono ?_;rintro e3 w3 ⟨rfl,hb3⟩;have hs1:w.heap.size<w1.heap.size:=by have:=hb1.size;simp at this;omega
 have hs2:=hb2.size;have hs3:w2.heap.size<w3.heap.size:=by have:=hb3.size;simp at this;omega
 obtain⟨c0,c1,c2,c3,c4,f0,f1,f2,f3,f4,hl0⟩:=(((V0.out.below hb1).below hb2).below (ba _ (.cells #[.int .i64 b.1,.int .i64 b.2,.int .i64 al.1,.int .i64 al.2,.map (some bp)] 207))).below hb3;obtain⟨X,hX⟩:∃ X,((((w3.setCell ⟨w.heap.size,0,none⟩ (.int .i64 d')).setCell ⟨w.heap.size,1,none⟩ (.string nm')).setCell ⟨w.heap.size,2,none⟩ (.int .i64 p')).setCell ⟨w.heap.size,3,none⟩ (.int .i64 u')).setCell ⟨w.heap.size,4,none⟩ (.int .i64 v'')=X:=⟨_,rfl⟩;have gX:w3.grownBy X (some w.heap.size):=by rw[<-hX];exact sQ (sQ (sQ (sQ (sQ (cX _ _) _ _) _ _) _ _) _ _) _ _
 have B3:Below w.heap.size w X:=by
  rw[<-hX];exact nJ (bt (bal (bt B1 hb2) _) hb3) (jQ _) _ _ _ _ _
 have VX0:Hid (FivB X w.heap.size (.int .i64 d') (.string nm') (.int .i64 p') (.int .i64 u') (.int .i64 v'')):=by
  rw[<-hX];constructor <;> simp[vN,yN,gV,c0,c1,c2,c3,c4,f0,f1,f2,f3,f4,hl0,go_sem]
 have VXp:Hid (FivB X w2.heap.size (.int .i64 b.1) (.int .i64 b.2) (.int .i64 al.1) (.int .i64 al.2) (.map (some bp))):=((FivB.new w2 _ _ _ _ _ 207 _ rfl).below hb3).gb gX (by simp;omega);have BKX:Hid (BookM X N bk bm n (.slice va done.length vc) D done):=HB.out.keep B3
 have PX:Hid (Pts X bp np Dp (fun p=>p∈prs (done++[(d',nm',p',u',v'')]) nm') (fun y=>(lQ (done++[(d',nm',p',u',v'')]) nm' y).1)):=(HPT.out.1.keep (bt (ba _ _) hb3)).gb gX (fun e'=>by
  simp only[sX] at e';obtain⟨es,clock,hb,_⟩:=HPT.out.1.own;have h1:=f0;have h2:=((V0.out.below hb1).below hb2).c0;rw[<-e'] at h2;simp[World.cell?,hb] at h2)
 have hln:=HB.out.cnt;obtain⟨w5,hup,own5,gU⟩:=(BKX.out.own.drew).update uB underlying182 (by unfold maxLen;omega) (val:=pv b al bp) (d:=.held (pv b al bp)) (ps:=[]) (Go.WideMaps.keyOf_string_mk underlying9 (s:=nm') (by unfold maxLen;omega)) rfl;have g5:X.grownBy w5 (some bm):=xY (xJ (cX X (some bm))) gU;obtain⟨x0,x1,x2,x3,x4,y0,y1,y2,y3,y4,hlx⟩:=VX0.out;obtain⟨q0,q1,q2,q3,q4,r0,r1,r2,r3,r4,hlq⟩:=VXp.out;obtain⟨t0,t1,tf0,tf1,htl⟩:=BKX.out.two;go_wp2_with fail
 go_region
 obtain⟨hl1,hl2,hl3,hl4⟩:=BKX.out.lob;have T5:Hid (TwoB w5 bk (.map (some bm)) (.slice va done.length vc)):=BKX.out.two.gb g5 (by simpa using hl3);have V5:Hid (FivB w5 w.heap.size (.int .i64 d') (.string nm') (.int .i64 p') (.int .i64 u') (.int .i64 v'')):=VX0.out.gb g5 (by have:=HB.out.own.lt;simp;omega)
 have HRW:Hid (w5.ownsRow 0 53 5 (.slice va done.length vc) done.length (enc done)):=BKX.out.row.kept g5 (by
  cases hv:(Value.slice va done.length vc).ownBlock with
  | none=>exact .inl rfl
  | some g=>right;intro e';exact(hl4 g hv).2.2 (by simpa using e'))
 have HO:Hid (∀ g,(Value.slice va done.length vc).ownBlock=some g->g≠bk/\g≠w.heap.size):=fun g hg=>⟨(hl4 g hg).2.1,fun c=>by
  have h1:=HB.out.row;rcases h1.2 with⟨h2,_⟩|⟨g',c',cur,h2,_,hc,_⟩
  ·rw[h2] at hg;cases hg
  ·rw[h2] at hg
   simp only[Value.ownBlock,sX] at hg;have:=(mY.1 hc).1;omega⟩
 obtain⟨k0,k1,kf0,kf1,hk5⟩:=T5.out;obtain⟨m0,m1,m2,m3,m4,mf0,mf1,mf2,mf3,mf4,hm5⟩:=V5.out;go_wp2_with fail
 go_region_law (refine step_append_lies _ rfl _ _ 47 rfl 0 53 i0 (.agg #[.int .i64 0,.string ⟨#[]⟩,.int .i64 0,.int .i64 0,.int .i64 0]) 5 48 underlying47 hi0 hz0 hz1 hz2 rfl (by decide) (.slice va done.length vc) done.length (enc done) rfl ?_ ⟨w5.heap.size,0,none⟩ 1 1 [.int .i64 d',.string nm',.int .i64 p',.int .i64 u',.int .i64 v''] rfl rfl ?_ ?_ (by decide) ?_ ?_ ?_ (w5.heap.size+1) ?_ ?_;(exact HRW.out.kept (eU (xJ (cX w5 none)) _) (by simp[Classical.em]));(exact c4Q w5.drew _ _ _ _ _ 53 _ rfl);(intro z hz;simp at hz;rcases hz with rfl|rfl|rfl|rfl|rfl <;> rfl);(unfold maxLen;omega);(omega);(simp);(simp);intro g cap w6 hown hgrow hat hlt;have z0:w6.cell? ⟨bk,1,none⟩=some (.slice va done.length vc):=(hgrow.cell_far ⟨bk,1,none⟩ (by simp;omega) (fun e'=>(HO.out bk e'.symm).1 rfl)).trans (((ba w5.drew _).cell (p:=⟨bk,1,none⟩) hk5).trans k1);have z1:w6.frozen? ⟨bk,1,none⟩=false:=(hgrow.frozen_far ⟨bk,1,none⟩ (by simp;omega) (fun e'=>(HO.out bk e'.symm).1 rfl)).trans (((ba w5.drew _).frozen (p:=⟨bk,1,none⟩) hk5).trans kf1);have z2:w6.cell? ⟨w.heap.size,0,none⟩=some (.int .i64 d'):=(hgrow.cell_far ⟨w.heap.size,0,none⟩ (by simp;omega) (fun e'=>(HO.out w.heap.size e'.symm).2 rfl)).trans (((ba w5.drew _).cell (p:=⟨w.heap.size,0,none⟩) hm5).trans m0);have z3:w6.cell? ⟨w.heap.size,1,none⟩=some (.string nm'):=(hgrow.cell_far ⟨w.heap.size,1,none⟩ (by simp;omega) (fun e'=>(HO.out w.heap.size e'.symm).2 rfl)).trans (((ba w5.drew _).cell (p:=⟨w.heap.size,1,none⟩) hm5).trans m1);have z4:w6.cell? ⟨w.heap.size,2,none⟩=some (.int .i64 p'):=(hgrow.cell_far ⟨w.heap.size,2,none⟩ (by simp;omega) (fun e'=>(HO.out w.heap.size e'.symm).2 rfl)).trans (((ba w5.drew _).cell (p:=⟨w.heap.size,2,none⟩) hm5).trans m2);have z5:w6.cell? ⟨w.heap.size,3,none⟩=some (.int .i64 u'):=(hgrow.cell_far ⟨w.heap.size,3,none⟩ (by simp;omega) (fun e'=>(HO.out w.heap.size e'.symm).2 rfl)).trans (((ba w5.drew _).cell (p:=⟨w.heap.size,3,none⟩) hm5).trans m3);have z6:w6.cell? ⟨w.heap.size,4,none⟩=some (.int .i64 v''):=(hgrow.cell_far ⟨w.heap.size,4,none⟩ (by simp;omega) (fun e'=>(HO.out w.heap.size e'.symm).2 rfl)).trans (((ba w5.drew _).cell (p:=⟨w.heap.size,4,none⟩) hm5).trans m4))
 all_goals go_wp2_with fail
 all_goals
  go_ret;have hgb:w5.grownBy w6 (Value.slice va done.length vc).ownBlock:=xY (xJ (eU (cX _ _) _)) hgrow;have hN5:∀ k,w5.heap.size<=k->N k:=fun k hk=>hN k (by have:=B3.size;have:=g5.size;omega);have hal2:=HAL.out;have hst:rY done (d,nm',p,u,v')=done++[(d',nm',p',u',v'')]:=by unfold rY;rw[HE.out,zQ HD.out]
  have hnn:nrm (d',nm',p',u',v'')=(d',nm',p',u',v''):=by rw[<-HE.out,tT]
  refine⟨by rw[HE.out,HD.out];rfl,?_,n+1,.slice (some ⟨g,0,none⟩) (done.length+1) cap,D.put (kN nm') (.held (pv b (jX (done++[(d',nm',p',u',v'')]) nm').1 bp)),?_⟩
  ·exact dB (dB (dB (nQ B3) g5 (fun k hk=>by simp only[sX] at hk;exact .inl (hk▸hl2))) hgb (fun k hk=>.inl (hl4 k hk).1)) (sQ (cX _ (some bk)) _ _) (fun k hk=>by simp only[sX] at hk;exact .inl (hk▸hl1))
  ·rw[hst]
   rw[<-hal2] at own5;have:=c4X (e:=(d',nm',p',u',v'')) BKX.out hN5 HD.out hnn HPT.out.2.2.2.2.2.2 PX.out HPT.out.2.1 HPT.out.2.2.1 HPT.out.2.2.2.1 HPT.out.2.2.2.2.1 HPT.out.2.2.2.2.2.1 own5 g5 hown hgb (hat.imp id (fun h=>by omega));exact this
theorem amQ (N:Nat->Prop)(bk bm n:Nat)(v:Value)(D:DataW Value)(done:List En)(e:En)(w:World)(hB:BookM w N bk bm n v D done)(hs:e.2.1.size<=9223372036854775807)(hN:∀ k,w.heap.size<=k->N k)(hpI:-9223372036854775808<=e.2.2.1/\e.2.2.1<=9223372036854775807) :
  Calls prog 60 #[.pointer (some ⟨bk,0,none⟩),ev e] w (DoP w N bk bm done e):=by
 by_cases hb:eZ e≠0\/4096<=done.length
 ·refine(czZ N bk bm n v D done e w hB hs hb).mono ?_
  rintro x w' ⟨h1,h2⟩
  have hst:rY done e=done:=by
   unfold rY;rw[qQ];intro h0;obtain⟨h3,h4⟩:=kM h0;rw[cB] at h3;omega
  exact⟨h1,nQ h2,n,v,D,by rw[hst];exact hB.keep h2⟩
 ·have hbad:eZ e=0:=by omega
  have hs:e.2.1.size<=4294967296:=by
   have h1:=(gD hbad).2.2.1;unfold fJ at h1;simp only[cN,oJ] at h1;have h2:=h1.1.2;rw[tL] at h2
   show e.2.1.data.size<=_
   omega
  have hl:done.length<4096:=by omega
  by_cases h0:qZ done (nrm e)=0
  ·exact c4Z N bk bm n v D done e w hB hs hN hbad hl hpI h0
  ·refine(czJ N bk bm n v D done e w hB hs hN hbad hl hpI _ rfl h0).mono ?_
   rintro x w' ⟨h1,h2⟩;exact⟨h1,nQ h2,n,v,D,by unfold rY;rw[qQ h0];exact hB.keep h2⟩
theorem fO (N:Nat->Prop)(w:World)(hN:∀ k,w.heap.size<=k->N k):Calls prog 46 #[] w fun x w'=>x=.returned (.pointer (some ⟨w.heap.size+1,0,none⟩))/\Below w.heap.size w w'/\w'.heap.size=w.heap.size+1+1/\BookM w' N (w.heap.size+1) w.heap.size 0 (.slice none 0 0) (.map []) []:=by
 have hmm:=@run_makeMap prog;go_enter func46,ntmps46;go_wp2;go_ret;refine⟨rfl,bal (ba _ _) _,by simp,⟨aeQ,?_,?_,?_,jQ _,fun x=>?_,fun x b hx=>?_,?_,hN _ (by omega),hN _ (by omega),by omega,fun g hg=>by cases hg⟩⟩
 ·exact TwoB.new _ _ _ _ _ (by simp)
 ·exact(World.ownsMap_made w prog 9 hR).alloc _
 ·exact⟨rfl,.inl ⟨rfl,rfl⟩⟩
 ·simp[Maps.has,yX]
 ·simp[yX] at hx
 ·simp[Maps.size,mU]
theorem c4J (w:World)(ty:TypeId)(g n:Nat)(a:Addr)(sCap:Nat)(cur:Array Value)(cs:List Value)(hg:w.heap[g]? = some (.cells cur 53 (0,0)))(hn:cs.length=n*5)
  (hsrc:∀ j v,cs[j]? = some v->w.cell? (a.add j)=some v) (hfit:cs.length<=cur.size) (h1:∀ v∈cs,v.oneCell' = true) :
  (Builtin.copy_ #[47,47] ty #[.slice (some ⟨g,0,none⟩) n n,.slice (some a) n sCap]).run prog w=.ok (goInt n) (w.setRow g (cs++cur.toList.drop cs.length).toArray):=by
 have hl:=run_loadCells_list (P:=prog) w a cs hsrc;have hst:=run_storeCells_at prog g 0 53 cs 0 cur w hg (by simpa using hfit) h1;obtain⟨i0,hi,_,hz1,_⟩:=nY oP;have hm:Nat.min n n=n:=Nat.min_self n;simp only[oX,eK,List.take_zero,List.nil_append] at hst;simp[Builtin.copy_,run_underlying underlying47,Builtin.lenOf,Builtin.firstCells,sizeOf,typeInfo,hi,hz1,<-hn,hl,hst]
theorem c5Q (w:World)(ty:TypeId)(g n:Nat)(ad:Option Addr)(sCap:Nat)(cur:Array Value)(hg:w.heap[g]? = some (.cells cur 53 (0,0)))(cs:List Value)(hn:cs.length=n*5)(hsrc:(ad=none/\n=0/\sCap=0)\/∃ b,ad=some b/\∀ j v,cs[j]? = some v->w.cell? (b.add j)=some v)(hfit:cs.length=cur.size)(h1:∀ v∈cs,v.oneCell' = true) :
  (Builtin.copy_ #[47,47] ty #[.slice (some ⟨g,0,none⟩) n n,.slice ad n sCap]).run prog w=.ok (goInt n) (w.setRow g cs.toArray):=by
 rcases hsrc with⟨rfl,rfl,rfl⟩|⟨b,rfl,hsrc⟩
 ·have hrun:=run_copy_nil (P:=prog) w 47 47 ty 53 ⟨g,0,none⟩ 0 0 underlying47 (by obtain⟨i0,hi,_⟩:=nY oP;rw[hi];rfl)
  have hcs:cs=[]:=List.eq_nil_of_length_eq_zero (by omega);subst hcs;have hcur:cur = #[]:=Array.eq_empty_of_size_eq_zero (by simpa using hfit.symm);subst hcur;rw[show([]:List Value).toArray = #[] from rfl,setRow_self w g #[] 53 (0,0) hg];exact hrun
 ·have hrun:=c4J w ty g n b sCap cur cs hg hn hsrc (by omega) h1
  rw[gF (by rw[tL];omega),yG] at hrun;exact hrun
theorem c5X (l:List En):∀ v∈enc l,v.oneCell' = true:=by
 intro v hv;simp only[enc,vR] at hv;obtain⟨e,_,he⟩:=hv;simp[nM] at he;rcases he with rfl|rfl|rfl|rfl|rfl <;> rfl
theorem c5Z {w:World}{v:Value}{n:Nat}{xs:List Value}{base:Nat}(h:w.ownsRow base 53 5 v n xs):∃ ad c,v=.slice ad n c/\((ad=none/\n=0/\c=0)\/∃ b,ad=some b/\∀ j u,xs[j]? = some u->w.cell? (b.add j)=some u):=by
 rcases h.2 with⟨rfl,rfl⟩|⟨g,cap,cur,rfl,_,hc,_,_,_,hx⟩
 ·exact⟨none,0,rfl,.inl ⟨rfl,rfl,rfl⟩⟩
 ·refine⟨_,_,rfl,.inr ⟨_,rfl,fun j u hj=>?_⟩⟩
  refine World.news_of_block hc j u ?_;rw[<-hx] at hj;rw[iH] at hj;split at hj
  ·exact hj
  ·cases hj
theorem c5J (N:Nat->Prop)(bk bm n:Nat)(v:Value)(D:DataW Value)(done:List En)(w:World)(hB:BookM w N bk bm n v D done) :
  Calls prog 52 #[.pointer (some ⟨bk,0,none⟩)] w fun x w'=>∃ r,x=.returned r/\w'.ownsRow w.heap.size 53 5 r done.length (enc done)/\Below w.heap.size w w':=by
 obtain⟨t0,t1,tf0,tf1,htl⟩:=hB.two;have hrow:=hB.row;have hlen:=hB.inv.len;clear hB;obtain⟨ad,c,rfl,hsrc⟩:=c5Z hrow;obtain⟨i0,hi,hz0,hz1,hz2⟩:=nY oP
 have hmk:∀ u:World,(Instr.makeSlice 47 (.int .i64 (done.length:Int)) (.int .i64 (done.length:Int))).run prog u =
   .ok (.slice (some ⟨u.heap.size,0,none⟩) done.length done.length) (u.alloc (.cells (madeCells #[.int .i64 0,.string ⟨#[]⟩,.int .i64 0,.int .i64 0,.int .i64 0] (done.length*5)) 53)):=fun u=>by
  have h:=run_make (P:=prog) u 47 53 i0 (.agg #[.int .i64 0,.string ⟨#[]⟩,.int .i64 0,.int .i64 0,.int .i64 0]) underlying47 hi hz0 .i64 .i64 (done.length:Int) (done.length:Int) (by omega) (oD _) (by rw[hz2];omega) (by omega);rw[dK] at h;simpa [hz1,Value.cells] using h
 have HS:Hid ((ad=none/\done.length=0/\c=0)\/∃ b,ad=some b/\∀ j u,(enc done)[j]? = some u->(w.alloc (.cells (madeCells #[.int .i64 0,.string ⟨#[]⟩,.int .i64 0,.int .i64 0,.int .i64 0] (done.length*5)) 53)).cell? (b.add j)=some u):=by
  rcases hsrc with h|⟨b,h1,h2⟩
  ·exact .inl h
  ·exact .inr ⟨b,h1,fun j u hj=>(World.grownBy_alloc w _ none).cell (h2 j u hj) (by simp)⟩
 have hcp:=c5Q (w.alloc (.cells (madeCells #[.int .i64 0,.string ⟨#[]⟩,.int .i64 0,.int .i64 0,.int .i64 0] (done.length*5)) 53)) 3 w.heap.size done.length ad c _ (zR w _) (enc done) (oM done) HS.out (by simp[oM,size_madeCells]) (c5X done);obtain⟨W,hW⟩:∃ W,(w.alloc (.cells (madeCells #[.int .i64 0,.string ⟨#[]⟩,.int .i64 0,.int .i64 0,.int .i64 0] (done.length*5)) 53)).setRow w.heap.size (enc done).toArray=W:=⟨_,rfl⟩;have HWB:Hid (Below w.heap.size w W):=by rw[<-hW];exact below_setRow (ba _ _) (jQ _) _
 have HWR:Hid (W.heap[w.heap.size]? = some (.cells (enc done).toArray 53 (0,0))):=by
  show _=_
  rw[<-hW];exact setRow_heap _ _ _ _ 53 (0,0) (zR w _)
 rw[hW] at hcp;clear hsrc hrow hW;go_enter func52,ntmps52;go_wp2;go_ret;refine⟨_,rfl,⟨by rw[oM],.inr ⟨w.heap.size,done.length,_,rfl,jQ _,HWR.out,jQ _,by unfold maxLen;omega,by simp[oM],?_⟩⟩,HWB.out⟩;rw[List.toList_toArray,eV (by rw[oM];exact jQ _)]
open Go.Maps Go.Sort
end K.P
namespace K.P
open Go.RowKit Go.Shelf K.Ds
attribute [local go_sem] Oper.semAt_some
end K.P
namespace K.P
open Go.RowKit
section
variable {P:Program} {ops:Array Oper} {Q:Exit->Act->World->Prop} {md:Region.Mode} {S:World->Prop} {J:Nat->Bool}
def aF (P:Program) (md:Region.Mode) (ops:Array Oper) (Q:Exit->Act->World->Prop) (S:World->Prop) (J:Nat->Bool):Nat->Array Bool->Act->World->Prop
 | 0,listed,a,w=>Region.ready md ops listed=[]/\Q .normal a w
 | fuel+1,listed,a,w=>(Region.ready md ops listed=[]->Q .normal a w) /\
  ∀ i∈Region.ready md ops listed,wpOp P ops Q i (fun a' w'=>(J i=true->S w')/\aF P md ops Q S J fuel (listed.setIfInBounds i true) a' w') a w
theorem fB:∀ (fuel:Nat) (listed:Array Bool) (a:Act) (w:World),aF P md ops Q S J fuel listed a w->wpAny P md ops Q fuel listed a w
 | 0,_,_,_,h=>h
 | fuel+1,_,_,_,h=>⟨h.1,fun i hi=>wpOp_mono (fun a' w' h'=>fB fuel _ a' w' h'.2) (h.2 i hi)⟩
def gB (md:Region.Mode) (ops:Array Oper) (J:Nat->Bool) (i:Nat):Prop:=∀ j oj,ops[j]? = some oj->J j=false->∃ e∈oj.after,Region.binds md e=true/\e.on=i
theorem c6Q {i:Nat}{oi:Oper}{v:Value}(hi:ops[i]? = some oi)(hJi:J i=true)(hW:gB md ops J i)(hsel:∀ (j:Nat) (o:Oper) cs b,ops[j]? = some o->o.op≠.select cs b)
  (hQ:∀ c a w,Q (.panic c) (a.put oi.dst v) w->Q (.panic c) a w) :
  ∀ (fuel:Nat) (listed:Array Bool) (a:Act) (w:World),
   (∀ j oj,ops[j]? = some oj->j≠i->listed.getD j true=false->(∀ e∈oj.after,Region.binds md e=true->e.on≠i)->oi.apart ops oj=true) ->
   i∈Region.ready md ops listed->YieldsIf P ops S oi v a->S w ->
   aF P md ops Q S J fuel (listed.setIfInBounds i true) (a.put oi.dst v) w->aF P md ops Q S J (fuel+1) listed a w:=by
 intro fuel
 induction fuel with
 | zero =>
  intro listed a w _ hr hy hS H;refine⟨fun h=>(by rw[h] at hr;cases hr),fun j hj=>?_⟩;by_cases hji:j=i
  ·subst hji;exact hy.wpOp hi hS ⟨fun _=>hS,H⟩
  ·have h0:=ready_mono hj hji
   rw[H.1] at h0;cases h0
 | succ fuel ih =>
  intro listed a w hfree hr hy hS H;refine⟨fun h=>(by rw[h] at hr;cases hr),fun j hj=>?_⟩;by_cases hji:j=i
  ·subst hji;exact hy.wpOp hi hS ⟨fun _=>hS,H⟩
  ·obtain⟨hjun,oj,hoj,hall⟩:=mem_ready.1 hj
   have hun:=(mem_ready.1 hr).1
   have hnot:∀ e∈oj.after,Region.binds md e=true->e.on≠i:=fun e he hb heq=>by
    have h1:=hall e he hb;rw[heq] at h1;rcases Nat.lt_or_ge i listed.size with h' | h'
    ·simp[h'] at hun h1;rw[hun] at h1;cases h1
    ·simp[Array.getElem?_eq_none h'] at h1
   have hJj:J j=true:=by
    cases hc:J j with
    | true=>rfl
    | false=>obtain⟨e,he,hb,heq⟩:=hW j oj hoj hc;exact absurd heq (hnot e he hb)
   have h2:=wpOp_putIf hoj (hfree j oj hoj hji hjun hnot) (fun cs b=>hsel i oi cs b hi) (fun cs b=>hsel j oj cs b hoj) hQ hy (H.2 j (ready_mono hj hji))
   have hfree':∀ k ok,ops[k]? = some ok->k≠i->(listed.setIfInBounds j true).getD k true=false ->
     (∀ e∈ok.after,Region.binds md e=true->e.on≠i)->oi.apart ops ok=true:=fun k ok hk hki hun' hno=>by
    refine hfree k ok hk hki ?_ hno;by_cases hjk:j=k
    ·subst hjk;exact hjun
    ·rwa [getD_set_ne true hjk] at hun'
   refine wpOp_mono (fun a' w' h3=>⟨fun _=>h3.2.1 hJj,ih (listed.setIfInBounds j true) a' w' hfree' (ready_mono hr (Ne.symm hji)) h3.1 (h3.2.1 hJj) ?_⟩) h2;rw[Array.setIfInBounds_comm _ _ hji];exact h3.2.2
theorem sV {i:Nat}{oi:Oper}{v:Value}{fuel:Nat}{listed:Array Bool}{a:Act}{w:World}(hi:ops[i]? = some oi)(hJi:J i=true)(hW:gB md ops J i)
  (hs:Region.noSelect ops=true) (hf:Region.free md ops listed i=true) (hr:(Region.ready md ops listed).contains i=true)
  (hQ:∀ c a w,Q (.panic c) (a.put oi.dst v) w->Q (.panic c) a w) (hy:YieldsIf P ops S oi v a) (hS:S w)
  (h:aF P md ops Q S J fuel (listed.setIfInBounds i true) (a.put oi.dst v) w):aF P md ops Q S J (fuel+1) listed a w :=
 c6Q hi hJi hW (Region.noSelect_spec hs) hQ fuel listed a w (Region.free_spec hi hf) (by simpa using hr) hy hS h
theorem iB {listed:Array Bool}{a:Act}{w:World}(hr:Region.ready md ops listed=[])(h:Q .normal a w):∀ fuel,aF P md ops Q S J fuel listed a w
 | 0=>⟨hr,h⟩
 | _+1=>⟨fun _=>h,by rw[hr];simp⟩
def tV (P:Program) (md:Region.Mode) (ops:Array Oper) (Q:Exit->Act->World->Prop) (S:World->Prop) (J:Nat->Bool) (fuel:Nat) (listed:Array Bool) (a:Act) (w:World) (rs:List Nat):Prop :=
 ∀ i∈rs,wpOp P ops Q i (fun a' w'=>(J i=true->S w')/\aF P md ops Q S J fuel (listed.setIfInBounds i true) a' w') a w
theorem tV.nil {fuel:Nat}{listed:Array Bool}{a:Act}{w:World}:tV P md ops Q S J fuel listed a w []:=fun _ h=>by cases h
theorem tV.cons {fuel:Nat}{listed:Array Bool}{a:Act}{w:World}{i:Nat}{o:Oper}{rs:List Nat}(ho:ops[i]? = some o)
  (h:∀ K':Act->World->Prop,Shut (∀ a w,(J i=true->S w)->aF P md ops Q S J fuel (listed.setIfInBounds i true) a w->K' a w)->if Region.wanted o (yielded ops a.tmps)=true then Oper.wp P o a w K' Q else K' (a.put o.dst undef) w)
  (hs:tV P md ops Q S J fuel listed a w rs):tV P md ops Q S J fuel listed a w (i::rs):=fun j hj=>by
 rcases kX.1 hj with rfl|hj
 ·exact wpOp_step ho (fun K' hK=>h K' (fun a w hS hW=>hK a w ⟨hS,hW⟩))
 ·exact hs j hj
theorem jK {rs:List Nat}{fuel:Nat}{listed:Array Bool}{a:Act}{w:World}(hr:Region.ready md ops listed=rs)(hne:rs≠[])(h:tV P md ops Q S J fuel listed a w rs):aF P md ops Q S J (fuel+1) listed a w :=
 ⟨fun h0=>absurd (hr▸h0) hne,hr▸h⟩
end
theorem zA:type_of% @List.setIfInBounds_toArray:=@List.setIfInBounds_toArray
theorem zB:type_of% @List.set_cons_zero:=@List.set_cons_zero
theorem zC:type_of% @List.set_cons_succ:=@List.set_cons_succ
end K.P
namespace K.P
open Go.RowKit K.Ds
end K.P
namespace K.P
open Go.RowKit Go.Shelf K.Ds
theorem yH {w w':World}{base:Nat}{t:TypeId}{sz:Nat}{v:Value}{n:Nat}{xs:List Value}(h:w.ownsRow base t sz v n xs)(hk:∀ g,v.ownBlock=some g->w'.heap[g]? = w.heap[g]?):w'.ownsRow base t sz v n xs:=by
 refine⟨h.1,?_⟩;rcases h.2 with h0|⟨g,cap,cur,hv,hb,hc,h1,h2,h3,h4⟩
 ·exact .inl h0
 ·exact .inr ⟨g,cap,cur,hv,hb,(hk g (by rw[hv];rfl)).trans hc,h1,h2,h3,h4⟩
theorem rZ {w:World}{base:Nat}{t:TypeId}{sz:Nat}{v:Value}{n:Nat}{xs:List Value}(h:w.ownsRow base t sz v n xs){g:Nat}(hg:v.ownBlock=some g):base<=g/\g<w.heap.size:=by
 rcases h.2 with⟨rfl,_⟩|⟨g',cap,cur,rfl,hb,hc,_⟩
 ·cases hg
 ·simp only[Value.ownBlock,sX] at hg
  subst hg;exact⟨hb,(mY.1 hc).1⟩
theorem uH {w:World}{base:Nat}{t:TypeId}{sz:Nat}{v:Value}{n:Nat}{xs:List Value}(h:w.ownsRow base t sz v n xs):∃ a c,v=.slice a n c:=by
 rcases h.2 with⟨rfl,rfl⟩|⟨g',cap,cur,rfl,_⟩
 ·exact⟨_,_,rfl⟩
 ·exact⟨_,_,rfl⟩
theorem kY {W W':World}{m:Nat}{t:TypeId}{z:Nat}{v:Value}{n:Nat}{xs:List Value}{r:Option Nat}(h:W.ownsRow m t z v n xs)(hg:W.grownBy W' r)(hr:∀ g,v.ownBlock=some g->r≠some g):W'.ownsRow m t z v n xs :=
 yH h fun g hg2=>hg.block g (rZ h hg2).2 (fun e=>hr g hg2 e.symm)
def c6X (md:Region.Mode) (ops:Array Oper) (J:Nat->Bool) (i:Nat):Bool:=(List.range ops.size).all fun j=>J j || match ops[j]? with|some oj=>oj.after.any (fun e=>Region.binds md e && e.on == i)|none=>true
theorem wV {md:Region.Mode}{ops:Array Oper}{J:Nat->Bool}{i:Nat}(h:c6X md ops J i=true):gB md ops J i:=by
 intro j oj hj hJ;have hlt:j<ops.size:=(mY.1 hj).1;have h1:=mN.1 h j (aN.2 hlt);simp only[hJ,Bool.false_or,hj] at h1;obtain⟨k,hk,he⟩:=Array.any_eq_true.1 h1;simp only[cN,beq_iff_eq] at he;exact⟨_,Array.getElem_mem hk,he.1,he.2⟩
end K.P
namespace K.P
open Go.RowKit K.Ds
def wby (l:List Int):List Nat:=(l.drop 5).flatMap fun x=>vY 8 (sA x)
theorem amX {α:Type}(f:α->List Nat)(h8:∀ x,(f x).length=8):∀ (ls:List α) (q r:Nat),r<8->(ls.flatMap f)[8*q+r]? = (ls[q]?).bind fun x=>(f x)[r]?
 | [],q,r,_=>by simp
 | x::ls,0,r,hr=>by
  rw[oL,uN (by rw[h8];omega)];simp
 | x::ls,q+1,r,hr=>by
  rw[oL,fH (by rw[h8];omega),h8,show 8*(q+1)+r - 8=8*q+r by omega,amX f h8 ls q r hr];simp
theorem c6Z {l:List Int}{i:Nat}{x:Int}(hx:l[5+i / 8]? = some x):(wby l)[i]? = some ((vY 8 (sA x)).getD (i % 8) 0):=by
 have h:=amX (fun x=>vY 8 (sA x)) (fun x=>dP _ _) (l.drop 5) (i / 8) (i % 8) (by omega);rw[show 8*(i / 8)+i % 8=i by omega,iF,hx] at h;rw[wby,h];simp only[Option.bind_some];rw[List.getD,fZ (by rw[dP];omega)];rfl
theorem amZ {l:List Int}(h:l.length=9):(wby l).length=32:=by
 obtain⟨x0,x1,x2,x3,x4,x5,x6,x7,x8,rfl⟩:=pM h;simp[wby,dP]
theorem amJ (l:List Int):∀ b∈wby l,b<256:=by
 intro b hb;obtain⟨x,_,hx⟩:=vR.1 hb;exact coX _ _ b hx
theorem c6J (l:List Int):nU (l.drop 5)=(wby l).filter (·≠0):=by
 unfold nU wby;rw[List.filter_flatMap]
theorem c7Q:(prog.info? 5).map (fun i=>(i.zero,i.size,i.bytes))=some (some (.int .u8 0),1,1):=by kernel_rfl
def BB (w:World) (b:Nat) (l:List Nat):Prop:=∀ k x,l[k]? = some x->Cl w b k (.int .u8 ((x:Nat):Int))
theorem BB.set {w:World}{b:Nat}{l:List Nat}(h:BB w b l){i:Nat}(hi:i<l.length)(x:Nat):BB (w.setCell ⟨b,i,none⟩ (.int .u8 (x:Int))) b (l.set i x):=by
 intro k y hy;by_cases c:i=k
 ·subst c
  rw[cU hi] at hy;cases hy;obtain⟨z,hz⟩:∃ z,l[i]? = some z:=⟨_,fZ hi⟩;exact(h i z hz).set _
 ·rw[oU c] at hy
  exact(h k y hy).oth (.inr c) _
theorem BB.drew {w:World}{b:Nat}{l:List Nat}(h:BB w b l):BB w.drew b l:=fun k x hx=>Cl.drew' (h k x hx)
theorem c7X {bs:List Nat}{i b n:Nat}(h:bs[i]? = some b)(hn:bs.length=n):bs.take (i+1)++List.replicate (n - (i+1)) 0=(bs.take i++List.replicate (n - i) 0).set i b:=by
 have hi:i<bs.length:=(gQ.1 h).1;rw[nN _ _ (by rw[dU];omega),dU,Nat.min_eq_left (by omega),iI];obtain⟨k,hk⟩:∃ k,n - i=k+1:=⟨n - i - 1,by omega⟩;rw[hk,show n - (i+1)=k by omega,List.replicate_succ,List.set_cons_zero,nZ,h];simp
theorem c7Z (l:List Int)(B:Nat)(w:World)(hl:l.length=9)(hB:∀ k x,l[k]? = some x->Cl w B k (.int .i64 x)) :
  Calls prog 187 #[.slice (some ⟨B,5,none⟩) 4 4] w fun e w'=>e=.returned (.string (iY (wby l)))/\Below w.heap.size w w':=by
 have H32:Hid ((wby l).length=32/\l.length=9):=⟨amZ hl,hl⟩;have HBX:Hid (xX w B l):=⟨hl,hB⟩;have hBl:B<w.heap.size:=(hB 0 (l[0]'(by omega)) (fZ (by omega))).lt;clear hl hB;have hmk:∀ u:World,(Instr.makeSlice 279 (.int .i64 32) (.int .i64 32)).run prog u=.ok (.slice (some ⟨u.heap.size,0,none⟩) 32 32) (u.alloc (.cells (madeCells #[.int .u8 0] 32) 5)):=run_make_row' (P:=prog) 279 5 (.int .u8 0) 1 underlying279 c7Q rfl .i64 .i64 32 (by decide) (by decide)
 have HA:Hid (BB (w.alloc (.cells (madeCells #[.int .u8 0] 32) 5)) w.heap.size ((wby l).take 0++List.replicate (32 - 0) 0)):=by
  intro k x hx;have hk:k<32:=by have:=(gQ.1 hx).1;simpa using this
  obtain rfl:x=0:=by
   rw[List.take_zero,List.nil_append,bN,zQ hk] at hx;cases hx;rfl
  refine Cl.new _ 5 k _ rfl ?_;rw[<-Array.getElem?_toList,toList_madeCells_one,bN,zQ hk];rfl
 go_enter func187,ntmps187;go_wp2;clear hmk
 go_loopw [11] (fun t wr=>∃ (i:Nat),t=.int .i64 (i:Int)/\i<=32/\Hid (BB wr w.heap.size ((wby l).take i++List.replicate (32 - i) 0))/\Hid (Below w.heap.size w wr)) (fun t _=>32 - (intOf t).toNat)
 case atStart=>exact⟨0,rfl,mQ _,HA,ba _ _⟩
 case round =>
  obtain⟨i,rfl,hi,HN,HW⟩:=hrel;by_cases h1:i<32
  ·obtain⟨q,hq⟩:∃ q,i / 8=q:=⟨_,rfl⟩
   obtain⟨k,hk⟩:∃ k,k=8*(7 - i % 8):=⟨_,rfl⟩;have kf:=fun W=>alQ i k h1 hk W;have hq4:q<4:=by omega
   have hqi:(i:Int) / 8=(q:Int):=by omega
   have hq4i:(q:Int)<4:=by omega
   have hw1:IntKind.i64.wrap (q:Int)=(q:Int):=by rw[sY];omega
   obtain⟨x,hx⟩:∃ x,l[5+q]? = some x:=⟨_,fZ (by have:=H32.out.2;omega)⟩;have m1:=((HBX.out.2 (5+q) x hx).at HW.out).c;have hk56:k<=56:=by omega
   obtain⟨b,hbd⟩:∃ b,(vY 8 (sA x)).getD (i % 8) 0=b:=⟨_,rfl⟩;have hb:IntKind.u8.wrap (x / 2 ^ k)=(b:Int):=by rw[hk,c2J x (i % 8) (by omega),hbd]
   have hgb:(wby l)[i]? = some b:=by rw[c6Z (x:=x) (by rw[hq];exact hx),hbd]
   obtain⟨z,hz⟩:∃ z,((wby l).take i++List.replicate (32 - i) 0)[i]? = some z:=⟨_,fZ (by have:=H32.out.1;simp;omega)⟩;have hc:=HN.out i z hz;have m2:=hc.c;have m3:=hc.f;have hst:=c7X hgb H32.out.1
   have FN:Hid (BB (wr.setCell ⟨w.heap.size,i,none⟩ (.int .u8 (b:Int))).drew w.heap.size ((wby l).take (i+1)++List.replicate (32 - (i+1)) 0)):=by
    rw[hst];exact(HN.out.set (gQ.1 hz).1 _).drew
   have FW:Hid (Below w.heap.size w (wr.setCell ⟨w.heap.size,i,none⟩ (.int .u8 (b:Int))).drew):=(bs HW.out (by simp) _).drew;clear hx hq hk hst hc hz hgb hbd;go_wp2_with fail
   go_region_law (go_simp;go_at_call 189;refine(kf _).mono ?_;rintro e w' ⟨rfl,rfl⟩;go_wp2_with fail)
   all_goals
    go_wp2
    go_roundw
    ·exact⟨i+1,by go_num,h1,FN,FW⟩
    ·simp[intOf];omega
  ·obtain rfl:i=32:=by omega
   have HN2:Hid (BB wr w.heap.size (wby l)):=by
    have h:=HN.out;rw[eV (by rw[H32.out.1];exact jQ _)] at h;rw[Hid];simpa using h
   have hcv:(convert 279 9 (.slice (some ⟨w.heap.size,0,none⟩) 32 32)).run prog wr=.ok (.string (iY (wby l))) wr:=by
    obtain⟨fs,hfs⟩:∃ fs,wby l=fs:=⟨_,rfl⟩;have hlt:∀ b∈fs,b<256:=fun b hb=>amJ l b (by rw[hfs];exact hb);have hO:=HN2.out;have hC:=H32.out.1;rw[hfs] at hO hC ⊢;have hn:32=(fs.map UInt8.ofNat).length:=by rw[bU,hC]
    show(convert 279 9 (.slice (some ⟨w.heap.size,0,none⟩) 32 32)).run prog wr=.ok (.string ⟨(fs.map UInt8.ofNat).toArray⟩) wr
    have key:=run_convert_bytes_back wr 279 9 5 ⟨w.heap.size,0,none⟩ 32 (fs.map UInt8.ofNat) underlying279 underlying5 underlying9 fun j hj=>by
     have hj2:j<fs.length:=by simpa using hj
     have e:(UInt8.ofNat fs[j]).toNat=fs[j]:=UInt8.toNat_ofNat_of_lt' (hlt _ (List.getElem_mem hj2));rw[List.getElem_map,e,aA,oX];exact(hO j _ (fZ hj2)).c
    rw[<-hn] at key;exact key
   go_wp2;go_ret;exact⟨rfl,HW.out⟩

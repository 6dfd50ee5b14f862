import Derived.Test.YtdceajgpolckiaaGreatDoorQr35
import Derived.RangeFuncNested
import Derived.RangeFuncBound
import Derived.RangeFuncCalls
import Derived.RangeFuncLeaves
import Derived.Shelf.Abstract
import Derived.Shelf.RegionOpen
import Derived.OwnWalkIn
import Derived.TacticsInMore
import Derived.LoopNIn
import Derived.LoopIn
open Go.Proofs.Tryz
set_option linter.unusedSimpArgs false
set_option maxHeartbeats 16000000
set_option maxRecDepth 100000
namespace Go.Proofs.YtdceajgpolckiaaGreatDoor
variable {x:ByteArray} {v y:Value} {A B w w':World} {R base bk bm bp cap gf n np n₀:Nat} {r row:Option Nat} {K K' N:Nat->Prop} {g:Operand} {xs:List Value} {ss:List (List UInt8)} {assign body:Code} {Q:Exit->Act->World->Prop} {a:Act} {lb:Array Value}
namespace K.P
open Go.RowKit K.Ds
theorem ebJ (w:World)(a b c d e:Value)(t:TypeId)(N:Nat)(hN:N=w.heap.size):∀ j u,[a,b,c,d,e][j]? = some u->(w.alloc (.cells #[a,b,c,d,e] t)).cell? ((⟨N,0,none⟩:Addr).add j)=some u:=by
 subst hN;exact fun j u hu=>World.news_of_block (w:=w.alloc (.cells #[a,b,c,d,e] t)) (B:=w.heap.size) (cs:=#[a,b,c,d,e]) (t:=t) (fr:=(0,0)) (dP w _) j u (by simpa using hu)
theorem bkZ {y:ByteArray}(h:x≠y):kN x≠kN y:=by
 intro e;simp only[Lit.string.injEq] at e;apply h;apply ByteArray.ext;exact Array.toList_inj.1 e
theorem TwoB.gb {x:Value}(h:TwoB w R x y)(hg:w.grownBy w' r)(hne:some R≠r):TwoB w' R x y:=by
 have hk:w'.heap[R]? = w.heap[R]?:=hg.block R h.lt hne;exact⟨(rZ (w:=w) (a:=⟨R,0,none⟩) hk).trans h.c0,(rZ (w:=w) (a:=⟨R,1,none⟩) hk).trans h.c1,(jV (w:=w) (a:=⟨R,0,none⟩) hk).trans h.f0,(jV (w:=w) (a:=⟨R,1,none⟩) hk).trans h.f1,uX h.lt hg.size⟩
theorem TwoB.set1 {x:Value}(h:TwoB w R x y)(u:Value):TwoB (w.setCell ⟨R,1,none⟩ u) R x u :=
 ⟨(gQ (by simp)).trans h.c0,tZ h.c1,zZ.trans h.f0,zZ.trans h.f1,by simpa using h.lt⟩
theorem bkJ {done:List En}{e:En}(h:x≠e.2.1):sX (done++[e]) x=sX done x:=by
 rw[jN,xQ (fun c=>h c.2.symm)];cases sX done x <;> rfl
theorem ecQ {X w5 w6:World}{D:DataW Value}{done:List En}{e:En}{b:Rq}{Dp:DataW Value}{g:Nat}
  (hX:BookM X N bk bm n v D done) (hN:∀ k,w5.heap.size<=k->N k) (hd:eX done e=0) (hn:nrm e=e)
  (hbud:sX (done++[e]) e.2.1=some b) (hP:Pts X bp np Dp (fun p=>p∈prs (done++[e]) e.2.1) (fun p=>(oQ (done++[e]) e.2.1 p).1)) (hnp:np<=done.length+1) (hszp:Maps.size Dp=(aJ (done++[e]) e.2.1).length) (hNp:N bp) (hpk:bp≠bk) (hpm:bp≠bm)
  (own5:w5.ownsMap prog 9 hR bm (n+1) (D.put (kN e.2.1) (.held (pv b (lX (done++[e]) e.2.1).1 bp)))) (g5:X.grownBy w5 (some bm))
  (row6:w6.ownsRow 0 53 5 (.slice (some ⟨g,0,none⟩) (done.length+1) cap) (done.length+1) (enc done++xL e)) (g6:w5.grownBy w6 v.ownBlock) (hg6:v.ownBlock=some g\/w5.heap.size<=g) :
  BookM (w6.setCell ⟨bk,1,none⟩ (.slice (some ⟨g,0,none⟩) (done.length+1) cap)) N bk bm (n+1) (.slice (some ⟨g,0,none⟩) (done.length+1) cap) (D.put (kN e.2.1) (.held (pv b (lX (done++[e]) e.2.1).1 bp))) (done++[e]):=by
 obtain⟨hl1,hl2,hl3,hl4⟩:=hX.lob;have hbk5:bk<w5.heap.size:=uX hX.two.lt g5.size;have hbm5:bm<w5.heap.size:=own5.lt
 have hgk:N g/\g≠bk/\g≠bm:=by
  rcases hg6 with h|h
  ·exact hl4 g h
  ·exact⟨hN g h,by omega,by omega⟩
 have g7:w6.grownBy (w6.setCell ⟨bk,1,none⟩ (.slice (some ⟨g,0,none⟩) (done.length+1) cap)) (some bk):=nQ (jX _ _) _ _;have ob:∀ k,v.ownBlock=some k->k≠bk/\k≠bm:=fun k hk=>(hl4 k hk).2
 have keepP:∀ {bq nq:Nat} {Dq:DataW Value} {P:Int->Prop} {f:Int->Rq},Pts X bq nq Dq P f->bq≠bk->bq≠bm->Pts (w6.setCell ⟨bk,1,none⟩ (.slice (some ⟨g,0,none⟩) (done.length+1) cap)) bq nq Dq P f:=fun {bq} {_} {_} {_} {_} h h1 h2=>by
  refine((h.gb g5 (by simpa using h2)).gb g6 (fun e'=>?_)).gb g7 (by simpa using h1);rcases hX.row.2 with⟨rfl,_⟩|⟨g',c',cur,rfl,_,hc,_⟩
  ·cases e'
  ·simp only[Value.ownBlock,zX] at e'
   subst e';obtain⟨es,clock,hb,_⟩:=h.own;rw[hc] at hb;cases hb
 obtain⟨k1,k2,k3⟩:=bdJ hd;refine⟨dvX hX.inv hd hn,?_,?_,?_,?_,fun x=>?_,fun x b' hx=>?_,?_,hl1,hl2,hl3,fun g' hg'=>?_⟩
 ·exact((hX.two.gb g5 (by simpa using hl3)).gb g6 (fun e'=>(ob bk e'.symm).1 rfl)).set1 _
 ·exact(own5.kept g6 (fun e'=>(ob bm e'.symm).2 rfl)).kept g7 (by simpa using fun h=>hl3 h.symm)
 ·have:=row6.kept g7 (.inr (by simpa [Value.ownBlock] using hgk.2.1))
  rw[biX];simpa using this
 ·simp;have:=hX.cnt;omega
 ·by_cases hxe:x=e.2.1
  ·subst hxe
   rw[Maps.has_put_same hX.own.isMap (k:=kN e.2.1) True.intro];simp[hbud]
  ·rw[Maps.has_put_other (bkZ hxe),hX.is x,bkJ hxe]
 ·by_cases hxe:x=e.2.1
  ·subst hxe
   rw[hbud] at hx;simp only[zX] at hx;subst hx;exact⟨bp,np,Dp,Maps.atKey_put_same (k:=kN e.2.1) hX.own.isMap True.intro _ _,keepP hP hpk hpm,by simpa using hnp,hszp,hNp,hpk,hpm⟩
  ·rw[bkJ hxe] at hx
   obtain⟨bq,nq,Dq,j1,j2,j3,j4,j5,j6,j7⟩:=(hX.el x b' hx).ex;have hne:∀ q,¬ (e.2.1=x/\q):=fun q c=>hxe c.1.symm;have e1:lX (done++[e]) x=lX done x:=qP (hne _);have e2:prs (done++[e]) x=prs done x:=qS (hne _);have e3:oQ (done++[e]) x=oQ done x:=funext fun y=>vN (hne _);exact⟨bq,nq,Dq,by rw[Maps.atKey_put_other (bkZ hxe),e1];exact j1,by simp only[e2,e3];exact keepP j2 j6 j7,by simp;omega,by unfold aJ;rw[e2];exact j4,j5,j6,j7⟩
 ·rw[Maps.size_put (hX.own.tidy bC),hX.sz,abZ]
  rcases k3 with⟨c1,c2,_⟩|⟨c1,b0,c2,_⟩
  ·rw[zQ c1,(hX.has_no c2).1];simp
  ·rw[xQ c1,(hX.is e.2.1).2 ⟨b0,c2⟩];simp
 ·simp only[Value.ownBlock,zX] at hg'
  subst hg';exact hgk
theorem ecX (N:Nat->Prop)(bk bm n:Nat)(v:Value)(D:DataW Value)(done:List En)(e:En)(w:World)(hB:BookM w N bk bm n v D done)(hs:e.2.1.size<=4294967296)(hN:∀ k,w.heap.size<=k->N k)(hbad:nJ e=0)(hl:done.length<4096)(hpI:-9223372036854775808<=e.2.2.1/\e.2.2.1<=9223372036854775807)(her:eX done (nrm e)=0) :
  Calls prog 60 #[.pointer (some ⟨bk,0,none⟩),ev e] w (DoP w N bk bm done e):=by
 have kw:=fun W=>nL e (by omega) W 0 hbad;have ka:=fun W (hW:BookM W N bk bm n v D done) (hNW:∀ k,W.heap.size<=k->N k)=>biZ N bk bm n v D done e W hW hs hNW hbad hl hpI 0 her;have kr:=fun W=>d3X e (by omega) W;have HB:=qQ hB;have hbk:=hB.two.lt;obtain⟨va,vc,rfl⟩:=hB.slice;have hq:decide ((4096:Int)<=(done.length:Int))=false:=rV (by omega);obtain⟨e',he'⟩:∃ e',nrm e=e':=⟨_,rfl⟩;have HE:=qQ he';have HD:Hid (eX done e' = 0):=by rw[<-he'];exact her
 simp only[he'] at ka kr;have hnm:e'.2.1=e.2.1:=by rw[<-he'];exact aaJ e
 obtain⟨d,nm,p,u,v'⟩:=e;obtain⟨d',nm',p',u',v''⟩:=e';simp only at hnm hs;subst hnm;obtain⟨i0,hi0,hz0,hz1,hz2⟩:=zV jS;have V0:Hid (FivB (w.alloc (.cells #[.int .i64 d,.string nm',.int .i64 p,.int .i64 u,.int .i64 v'] 53)) w.heap.size (.int .i64 d) (.string nm') (.int .i64 p) (.int .i64 u) (.int .i64 v')):=FivB.new _ _ _ _ _ _ 53 _ rfl;clear hbad her hB he';go_enter func60,ntmps60;go_wp2_with fail;refine(kw _).mono ?_;rintro e1 w1 ⟨rfl,hb1⟩;have B1:=bt (ba _ _) hb1;have BK1:=HB.out.keep B1;obtain⟨t0,t1,tf0,tf1,htl⟩:=BK1.two;obtain⟨c0,c1,c2,c3,c4,f0,f1,f2,f3,f4,hl0⟩:=V0.out.below hb1;go_wp2_with fail;refine(ka _ BK1 (fun k hk=>hN k (bQ B1.size hk))).mono ?_;rintro e2 w2 ⟨hb2,⟨hz,_⟩|⟨_,b,bp,np,Dp,rfl,hbud,hPt,hnp,hszp,hNp,hpk,hpm⟩⟩
 ·exact absurd rfl hz
 obtain⟨al,hal⟩:∃ al,(lX (done++[(d',nm',p',u',v'')]) nm').1=al:=⟨_,rfl⟩;have HAL:=qQ hal;simp only[hal];have HPT:Hid (Pts w2 bp np Dp (fun p=>p∈prs (done++[(d',nm',p',u',v'')]) nm') (fun y=>(oQ (done++[(d',nm',p',u',v'')]) nm' y).1)/\np<=done.length+1/\Maps.size Dp=(aJ (done++[(d',nm',p',u',v'')]) nm').length/\N bp/\bp≠bk/\bp≠bm/\sX (done++[(d',nm',p',u',v'')]) nm' = some b):=⟨hPt,hnp,hszp,hNp,hpk,hpm,hbud⟩;have hbp2:bp<w2.heap.size:=hPt.own.lt;clear hPt hnp hszp hNp hpk hpm hbud hal;obtain⟨c0,c1,c2,c3,c4,f0,f1,f2,f3,f4,hl0⟩:=(V0.out.below hb1).below hb2;go_wp2_with fail;refine(kr _).mono ?_;rintro e3 w3 ⟨rfl,hb3⟩;have hs1:w.heap.size<w1.heap.size:=by have:=hb1.size;simp at this;omega
 have hs2:=hb2.size;have hs3:w2.heap.size<w3.heap.size:=by have:=hb3.size;simp at this;omega
 obtain⟨c0,c1,c2,c3,c4,f0,f1,f2,f3,f4,hl0⟩:=(((V0.out.below hb1).below hb2).below (ba _ (.cells #[.int .i64 b.1,.int .i64 b.2,.int .i64 al.1,.int .i64 al.2,.map (some bp)] 207))).below hb3;obtain⟨X,hX⟩:∃ X,((((w3.setCell ⟨w.heap.size,0,none⟩ (.int .i64 d')).setCell ⟨w.heap.size,1,none⟩ (.string nm')).setCell ⟨w.heap.size,2,none⟩ (.int .i64 p')).setCell ⟨w.heap.size,3,none⟩ (.int .i64 u')).setCell ⟨w.heap.size,4,none⟩ (.int .i64 v'')=X:=⟨_,rfl⟩;have gX:w3.grownBy X (some w.heap.size):=by rw[<-hX];exact nQ (nQ (nQ (nQ (nQ (jX _ _) _ _) _ _) _ _) _ _) _ _
 have B3:Below w.heap.size w X:=by
  rw[<-hX];exact vY (bt (bal (bt B1 hb2) _) hb3) (vQ _) _ _ _ _ _
 have VX0:Hid (FivB X w.heap.size (.int .i64 d') (.string nm') (.int .i64 p') (.int .i64 u') (.int .i64 v'')):=by
  rw[<-hX];constructor <;> simp[tS,wS,tZ,c0,c1,c2,c3,c4,f0,f1,f2,f3,f4,hl0,go_sem]
 have VXp:Hid (FivB X w2.heap.size (.int .i64 b.1) (.int .i64 b.2) (.int .i64 al.1) (.int .i64 al.2) (.map (some bp))):=((FivB.new w2 _ _ _ _ _ 207 _ rfl).below hb3).gb gX (by simp;omega);have BKX:=qQ (HB.out.keep B3)
 have PX:Hid (Pts X bp np Dp (fun p=>p∈prs (done++[(d',nm',p',u',v'')]) nm') (fun y=>(oQ (done++[(d',nm',p',u',v'')]) nm' y).1)):=(HPT.out.1.keep (bt (ba _ _) hb3)).gb gX (fun e'=>by
  simp only[zX] at e';obtain⟨es,clock,hb,_⟩:=HPT.out.1.own;have h1:=f0;have h2:=((V0.out.below hb1).below hb2).c0;rw[<-e'] at h2;simp[World.cell?,hb] at h2)
 have hln:=HB.out.cnt;obtain⟨w5,hup,own5,gU⟩:=(BKX.out.own.drew).update bC underlying182 (by unfold maxLen;omega) (val:=pv b al bp) (d:=.held (pv b al bp)) (ps:=[]) (Go.WideMaps.keyOf_string_mk underlying9 (s:=nm') (by unfold maxLen;omega)) rfl;have g5:X.grownBy w5 (some bm):=bY (gJ (jX X (some bm))) gU;obtain⟨x0,x1,x2,x3,x4,y0,y1,y2,y3,y4,hlx⟩:=VX0.out;obtain⟨q0,q1,q2,q3,q4,r0,r1,r2,r3,r4,hlq⟩:=VXp.out;obtain⟨t0,t1,tf0,tf1,htl⟩:=BKX.out.two;go_wp2_with fail
 go_region
 obtain⟨hl1,hl2,hl3,hl4⟩:=BKX.out.lob;have T5:=qQ (BKX.out.two.gb g5 (by simpa using hl3));have V5:=qQ (VX0.out.gb g5 (by have:=HB.out.own.lt;simp;omega))
 have HRW:Hid (w5.ownsRow 0 53 5 (.slice va done.length vc) done.length (enc done)):=BKX.out.row.kept g5 (by
  cases hv:(Value.slice va done.length vc).ownBlock with
  | none=>exact .inl rfl
  | some g=>right;intro e';exact(hl4 g hv).2.2 (by simpa using e'))
 have HO:Hid (∀ g,(Value.slice va done.length vc).ownBlock=some g->g≠bk/\g≠w.heap.size):=fun g hg=>⟨(hl4 g hg).2.1,fun c=>by
  have h1:=HB.out.row;rcases h1.2 with⟨h2,_⟩|⟨g',c',cur,h2,_,hc,_⟩
  ·rw[h2] at hg;cases hg
  ·rw[h2] at hg
   simp only[Value.ownBlock,zX] at hg;have:=(yJ.1 hc).1;omega⟩
 obtain⟨k0,k1,kf0,kf1,hk5⟩:=T5.out;obtain⟨m0,m1,m2,m3,m4,mf0,mf1,mf2,mf3,mf4,hm5⟩:=V5.out;go_wp2_with fail
 go_region_law (refine step_append_lies _ rfl _ _ 47 rfl 0 53 i0 (.agg #[.int .i64 0,.string ⟨#[]⟩,.int .i64 0,.int .i64 0,.int .i64 0]) 5 48 underlying47 hi0 hz0 hz1 hz2 rfl (by decide) (.slice va done.length vc) done.length (enc done) rfl ?_ ⟨w5.heap.size,0,none⟩ 1 1 [.int .i64 d',.string nm',.int .i64 p',.int .i64 u',.int .i64 v''] rfl rfl ?_ ?_ (by decide) ?_ ?_ ?_ (w5.heap.size+1) ?_ ?_;(exact HRW.out.kept (zG (gJ (jX w5 none)) _) (by simp[Classical.em]));(exact ebJ w5.drew _ _ _ _ _ 53 _ rfl);(intro z hz;simp at hz;rcases hz with rfl|rfl|rfl|rfl|rfl <;> rfl);(unfold maxLen;omega);(omega);(simp);(simp);intro g cap w6 hown hgrow hat hlt;have z0:w6.cell? ⟨bk,1,none⟩=some (.slice va done.length vc):=(hgrow.cell_far ⟨bk,1,none⟩ (by simp;omega) (fun e'=>(HO.out bk e'.symm).1 rfl)).trans (((ba w5.drew _).cell (p:=⟨bk,1,none⟩) hk5).trans k1);have z1:w6.frozen? ⟨bk,1,none⟩=false:=(hgrow.frozen_far ⟨bk,1,none⟩ (by simp;omega) (fun e'=>(HO.out bk e'.symm).1 rfl)).trans (((ba w5.drew _).frozen (p:=⟨bk,1,none⟩) hk5).trans kf1);have z2:w6.cell? ⟨w.heap.size,0,none⟩=some (.int .i64 d'):=(hgrow.cell_far ⟨w.heap.size,0,none⟩ (by simp;omega) (fun e'=>(HO.out w.heap.size e'.symm).2 rfl)).trans (((ba w5.drew _).cell (p:=⟨w.heap.size,0,none⟩) hm5).trans m0);have z3:w6.cell? ⟨w.heap.size,1,none⟩=some (.string nm'):=(hgrow.cell_far ⟨w.heap.size,1,none⟩ (by simp;omega) (fun e'=>(HO.out w.heap.size e'.symm).2 rfl)).trans (((ba w5.drew _).cell (p:=⟨w.heap.size,1,none⟩) hm5).trans m1);have z4:w6.cell? ⟨w.heap.size,2,none⟩=some (.int .i64 p'):=(hgrow.cell_far ⟨w.heap.size,2,none⟩ (by simp;omega) (fun e'=>(HO.out w.heap.size e'.symm).2 rfl)).trans (((ba w5.drew _).cell (p:=⟨w.heap.size,2,none⟩) hm5).trans m2);have z5:w6.cell? ⟨w.heap.size,3,none⟩=some (.int .i64 u'):=(hgrow.cell_far ⟨w.heap.size,3,none⟩ (by simp;omega) (fun e'=>(HO.out w.heap.size e'.symm).2 rfl)).trans (((ba w5.drew _).cell (p:=⟨w.heap.size,3,none⟩) hm5).trans m3);have z6:w6.cell? ⟨w.heap.size,4,none⟩=some (.int .i64 v''):=(hgrow.cell_far ⟨w.heap.size,4,none⟩ (by simp;omega) (fun e'=>(HO.out w.heap.size e'.symm).2 rfl)).trans (((ba w5.drew _).cell (p:=⟨w.heap.size,4,none⟩) hm5).trans m4))
 all_goals go_wp2_with fail
 all_goals
  go_ret;have hgb:w5.grownBy w6 (Value.slice va done.length vc).ownBlock:=bY (gJ (zG (jX _ _) _)) hgrow;have hN5:∀ k,w5.heap.size<=k->N k:=fun k hk=>hN k (by have:=B3.size;have:=g5.size;omega);have hal2:=HAL.out;have hst:sY done (d,nm',p,u,v')=done++[(d',nm',p',u',v'')]:=by unfold sY;rw[HE.out,zQ HD.out]
  have hnn:nrm (d',nm',p',u',v'')=(d',nm',p',u',v''):=by rw[<-HE.out,abQ]
  refine⟨by rw[HE.out,HD.out];rfl,?_,n+1,.slice (some ⟨g,0,none⟩) (done.length+1) cap,D.put (kN nm') (.held (pv b (lX (done++[(d',nm',p',u',v'')]) nm').1 bp)),?_⟩
  ·exact aN (aN (aN (xX B3) g5 (fun k hk=>by simp only[zX] at hk;exact .inl (hk▸hl2))) hgb (fun k hk=>.inl (hl4 k hk).1)) (nQ (jX _ (some bk)) _ _) (fun k hk=>by simp only[zX] at hk;exact .inl (hk▸hl1))
  ·rw[hst]
   rw[<-hal2] at own5;have:=ecQ (e:=(d',nm',p',u',v'')) BKX.out hN5 HD.out hnn HPT.out.2.2.2.2.2.2 PX.out HPT.out.2.1 HPT.out.2.2.1 HPT.out.2.2.2.1 HPT.out.2.2.2.2.1 HPT.out.2.2.2.2.2.1 own5 g5 hown hgb (hat.imp id (fun h=>by omega));exact this
theorem aeJ (N:Nat->Prop)(bk bm n:Nat)(v:Value)(D:DataW Value)(done:List En)(e:En)(w:World)(hB:BookM w N bk bm n v D done)(hs:e.2.1.size<=9223372036854775807)(hN:∀ k,w.heap.size<=k->N k)(hpI:-9223372036854775808<=e.2.2.1/\e.2.2.1<=9223372036854775807) :
  Calls prog 60 #[.pointer (some ⟨bk,0,none⟩),ev e] w (DoP w N bk bm done e):=by
 by_cases hb:nJ e≠0\/4096<=done.length
 ·refine(d7X N bk bm n v D done e w hB hs hb).mono ?_
  rintro x w' ⟨h1,h2⟩
  have hst:sY done e=done:=by
   unfold sY;rw[xQ];intro h0;obtain⟨h3,h4⟩:=wB h0;rw[aeX] at h3;omega
  exact⟨h1,xX h2,n,v,D,by rw[hst];exact hB.keep h2⟩
 ·have hbad:nJ e=0:=by omega
  have hs:e.2.1.size<=4294967296:=by
   have h1:=(pH hbad).2.2.1;unfold aV at h1;simp only[uK,qY] at h1;have h2:=h1.1.2;rw[oP] at h2
   show e.2.1.data.size<=_
   omega
  have hl:done.length<4096:=by omega
  by_cases h0:eX done (nrm e)=0
  ·exact ecX N bk bm n v D done e w hB hs hN hbad hl hpI h0
  ·refine(d7Z N bk bm n v D done e w hB hs hN hbad hl hpI _ rfl h0).mono ?_
   rintro x w' ⟨h1,h2⟩;exact⟨h1,xX h2,n,v,D,by unfold sY;rw[xQ h0];exact hB.keep h2⟩
theorem eR (N:Nat->Prop)(w:World)(hN:∀ k,w.heap.size<=k->N k):Calls prog 46 #[] w fun x w'=>x=.returned (.pointer (some ⟨w.heap.size+1,0,none⟩))/\Below w.heap.size w w'/\w'.heap.size=w.heap.size+1+1/\BookM w' N (w.heap.size+1) w.heap.size 0 (.slice none 0 0) (.map []) []:=by
 have hmm:=@run_makeMap prog;go_enter func46,ntmps46;go_wp2;go_ret;refine⟨rfl,bal (ba _ _) _,by simp,⟨duZ,?_,?_,?_,vQ _,fun x=>?_,fun x b hx=>?_,?_,hN _ (by omega),hN _ (by omega),by omega,fun g hg=>by cases hg⟩⟩
 ·exact TwoB.new _ _ _ _ _ (by simp)
 ·exact(World.ownsMap_made w prog 9 hR).alloc _
 ·exact⟨rfl,.inl ⟨rfl,rfl⟩⟩
 ·simp[Maps.has,sX]
 ·simp[sX] at hx
 ·simp[Maps.size,dY]
theorem ecZ (w:World)(ty:TypeId)(g n:Nat)(a:Addr)(sCap:Nat)(cur:Array Value)(cs:List Value)(hg:w.heap[g]? = some (.cells cur 53 (0,0)))(hn:cs.length=n*5)
  (hsrc:∀ j v,cs[j]? = some v->w.cell? (a.add j)=some v) (hfit:cs.length<=cur.size) (h1:∀ v∈cs,v.oneCell' = true) :
  (Builtin.copy_ #[47,47] ty #[.slice (some ⟨g,0,none⟩) n n,.slice (some a) n sCap]).run prog w=.ok (goInt n) (w.setRow g (cs++cur.toList.drop cs.length).toArray):=by
 have hl:=run_loadCells_list (P:=prog) w a cs hsrc;have hst:=run_storeCells_at prog g 0 53 cs 0 cur w hg (by simpa using hfit) h1;obtain⟨i0,hi,_,hz1,_⟩:=zV jS;have hm:Nat.min n n=n:=Nat.min_self n;simp only[xZ,wA,List.take_zero,tN] at hst;simp[Builtin.copy_,aE underlying47,Builtin.lenOf,Builtin.firstCells,sizeOf,typeInfo,hi,hz1,<-hn,hl,hst]
theorem ecJ (w:World)(ty:TypeId)(g n:Nat)(ad:Option Addr)(sCap:Nat)(cur:Array Value)(hg:w.heap[g]? = some (.cells cur 53 (0,0)))(cs:List Value)(hn:cs.length=n*5)(hsrc:(ad=none/\n=0/\sCap=0)\/∃ b,ad=some b/\∀ j v,cs[j]? = some v->w.cell? (b.add j)=some v)(hfit:cs.length=cur.size)(h1:∀ v∈cs,v.oneCell' = true) :
  (Builtin.copy_ #[47,47] ty #[.slice (some ⟨g,0,none⟩) n n,.slice ad n sCap]).run prog w=.ok (goInt n) (w.setRow g cs.toArray):=by
 rcases hsrc with⟨rfl,rfl,rfl⟩|⟨b,rfl,hsrc⟩
 ·have hrun:=run_copy_nil (P:=prog) w 47 47 ty 53 ⟨g,0,none⟩ 0 0 underlying47 (by obtain⟨i0,hi,_⟩:=zV jS;rw[hi];rfl)
  have hcs:cs=[]:=aoZ (by omega);subst hcs;have hcur:cur = #[]:=Array.eq_empty_of_size_eq_zero (by simpa using hfit.symm);subst hcur;rw[show([]:List Value).toArray = #[] from rfl,setRow_self w g #[] 53 (0,0) hg];exact hrun
 ·have hrun:=ecZ w ty g n b sCap cur cs hg hn hsrc (by omega) h1
  rw[zK (by rw[oP];omega),fU] at hrun;exact hrun
theorem blQ (l:List En):∀ v∈enc l,v.oneCell' = true:=by
 intro v hv;simp only[enc,nN] at hv;obtain⟨e,_,he⟩:=hv;simp[xL] at he;rcases he with rfl|rfl|rfl|rfl|rfl <;> rfl
theorem edQ (h:w.ownsRow base 53 5 v n xs):∃ ad c,v=.slice ad n c/\((ad=none/\n=0/\c=0)\/∃ b,ad=some b/\∀ j u,xs[j]? = some u->w.cell? (b.add j)=some u):=by
 rcases h.2 with⟨rfl,rfl⟩|⟨g,cap,cur,rfl,_,hc,_,_,_,hx⟩
 ·exact⟨none,0,rfl,.inl ⟨rfl,rfl,rfl⟩⟩
 ·refine⟨_,_,rfl,.inr ⟨_,rfl,fun j u hj=>?_⟩⟩
  refine World.news_of_block hc j u ?_;rw[<-hx] at hj;rw[aL] at hj;split at hj
  ·exact hj
  ·cases hj
theorem edX (N:Nat->Prop)(bk bm n:Nat)(v:Value)(D:DataW Value)(done:List En)(w:World)(hB:BookM w N bk bm n v D done) :
  Calls prog 52 #[.pointer (some ⟨bk,0,none⟩)] w fun x w'=>∃ r,x=.returned r/\w'.ownsRow w.heap.size 53 5 r done.length (enc done)/\Below w.heap.size w w':=by
 obtain⟨t0,t1,tf0,tf1,htl⟩:=hB.two;have hrow:=hB.row;have hlen:=hB.inv.len;clear hB;obtain⟨ad,c,rfl,hsrc⟩:=edQ hrow;obtain⟨i0,hi,hz0,hz1,hz2⟩:=zV jS
 have hmk:∀ u:World,(Instr.makeSlice 47 (.int .i64 (done.length:Int)) (.int .i64 (done.length:Int))).run prog u =
   .ok (.slice (some ⟨u.heap.size,0,none⟩) done.length done.length) (u.alloc (.cells (madeCells #[.int .i64 0,.string ⟨#[]⟩,.int .i64 0,.int .i64 0,.int .i64 0] (done.length*5)) 53)):=fun u=>by
  have h:=run_make (P:=prog) u 47 53 i0 (.agg #[.int .i64 0,.string ⟨#[]⟩,.int .i64 0,.int .i64 0,.int .i64 0]) underlying47 hi hz0 .i64 .i64 (done.length:Int) (done.length:Int) (by omega) (aG _) (by rw[hz2];omega) (by omega);rw[aK] at h;simpa [hz1,Value.cells] using h
 have HS:Hid ((ad=none/\done.length=0/\c=0)\/∃ b,ad=some b/\∀ j u,(enc done)[j]? = some u->(w.alloc (.cells (madeCells #[.int .i64 0,.string ⟨#[]⟩,.int .i64 0,.int .i64 0,.int .i64 0] (done.length*5)) 53)).cell? (b.add j)=some u):=by
  rcases hsrc with h|⟨b,h1,h2⟩
  ·exact .inl h
  ·exact .inr ⟨b,h1,fun j u hj=>(eN w _ none).cell (h2 j u hj) (by simp)⟩
 have hcp:=ecJ (w.alloc (.cells (madeCells #[.int .i64 0,.string ⟨#[]⟩,.int .i64 0,.int .i64 0,.int .i64 0] (done.length*5)) 53)) 3 w.heap.size done.length ad c _ (dP w _) (enc done) (uN done) HS.out (by simp[uN,size_madeCells]) (blQ done);obtain⟨W,hW⟩:∃ W,(w.alloc (.cells (madeCells #[.int .i64 0,.string ⟨#[]⟩,.int .i64 0,.int .i64 0,.int .i64 0] (done.length*5)) 53)).setRow w.heap.size (enc done).toArray=W:=⟨_,rfl⟩;have HWB:Hid (Below w.heap.size w W):=by rw[<-hW];exact below_setRow (ba _ _) (vQ _) _
 have HWR:Hid (W.heap[w.heap.size]? = some (.cells (enc done).toArray 53 (0,0))):=by
  show _=_
  rw[<-hW];exact setRow_heap _ _ _ _ 53 (0,0) (dP w _)
 rw[hW] at hcp;clear hsrc hrow hW;go_enter func52,ntmps52;go_wp2;go_ret;refine⟨_,rfl,⟨by rw[uN],.inr ⟨w.heap.size,done.length,_,rfl,vQ _,HWR.out,vQ _,by unfold maxLen;omega,by simp[uN],?_⟩⟩,HWB.out⟩;rw[List.toList_toArray,rJ (by rw[uN];exact vQ _)]
theorem edZ (N:Nat->Prop)(bk bm n:Nat)(v:Value)(D:DataW Value)(done:List En)(nm:ByteArray)(w:World)(hB:BookM w N bk bm n v D done)(hs:nm.size<=4294967296)(hbud:sX done nm=none) :
  Calls prog 62 #[.pointer (some ⟨bk,0,none⟩),.string nm] w fun x w'=>x=.returned (.tuple #[rv 0 0,rv 0 0,.int .i64 7])/\Below w.heap.size w w':=by
 obtain⟨hhas,hat⟩:=hB.has_no hbud;obtain⟨w0,hw0⟩:∃ w0,(w.alloc (.cells #[.int .i64 0,.int .i64 0] 32)).alloc (.cells #[.int .i64 0,.int .i64 0] 32)=w0:=⟨_,rfl⟩;have B0:Below w.heap.size w w0:=by rw[<-hw0];exact bal (ba _ _) _
 have hz0:w0.heap.size=w.heap.size+1+1:=by rw[<-hw0];simp
 have V0:TwoB w0 w.heap.size (.int .i64 0) (.int .i64 0):=by rw[<-hw0];exact(TwoB.new _ _ _ 32 _ rfl).below (ba _ _)
 have V1:TwoB w0 (w.heap.size+1) (.int .i64 0) (.int .i64 0):=by rw[<-hw0];exact TwoB.new _ _ _ 32 _ (by simp)
 have hlk:=hB.lookAt hs hat hhas (wX B0);obtain⟨t0,t1,tf0,tf1,htl⟩:=(hB.keep B0).two;obtain⟨c0,c1,f0,f1,hl0⟩:=V0;obtain⟨d0,d1,g0,g1,hl1⟩:=V1;have hbk:bk<w.heap.size:=hB.two.lt;have hbk2:bk<w.heap.size+1+1:=by omega
 clear hB hat hhas hbud;go_enter func62,ntmps62;go_wp2;exact uQ (v:=.tuple #[rv 0 0,rv 0 0,.int .i64 7]) (by simp[results,results62,go_sem,c0,c1,d0,d1,hz0]) rfl ⟨rfl,bal (bs (bs (bs (bs B0 (by simp) _) (by simp) _) (by simp) _) (by simp) _) _⟩
theorem edJ (N:Nat->Prop)(bk bm n:Nat)(v:Value)(D:DataW Value)(done:List En)(nm:ByteArray)(w:World)(hB:BookM w N bk bm n v D done)(hs:nm.size<=4294967296)(b:Rq)(hbud:sX done nm=some b)(sp:Rq)(hsp:(mJ done nm).1=sp) :
  Calls prog 62 #[.pointer (some ⟨bk,0,none⟩),.string nm] w fun x w'=>x=.returned (.tuple #[rvq sp,rvq b,.int .i64 0])/\Below w.heap.size w w':=by
 obtain⟨bp,np,Dp,hat,hPp,hnp,_⟩:=(hB.el nm b hbud).ex;have hhas:Maps.has D (kN nm)=true:=(hB.is nm).2 ⟨b,hbud⟩;have hinv:=hB.inv;have hln:=hinv.len;obtain⟨al,hal⟩:∃ al,(lX done nm).1=al:=⟨_,rfl⟩;rw[hal] at hat
 have hmu:iQ al (xU (oQ done nm) mZ (prs done nm)).1=(sp,0):=by
  have h1:=hinv.spent nm;rw[hal] at h1;rw[<-h1,<-hsp];exact vI rfl (hinv.ok nm)
 have ks:=fun W (hW:Pts W bp np Dp (fun p=>p∈prs done nm) (fun p=>(oQ done nm p).1))=>bhJ b al bp np Dp _ _ W hW (by omega) _ (hinv.top nm).2 sp 0 hmu;obtain⟨w0,hw0⟩:∃ w0,(w.alloc (.cells #[.int .i64 0,.int .i64 0] 32)).alloc (.cells #[.int .i64 0,.int .i64 0] 32)=w0:=⟨_,rfl⟩;have B0:Below w.heap.size w w0:=by rw[<-hw0];exact bal (ba _ _) _
 have hz0:w0.heap.size=w.heap.size+1+1:=by rw[<-hw0];simp
 have V0:Hid (TwoB w0 w.heap.size (.int .i64 0) (.int .i64 0)):=by rw[<-hw0];exact(TwoB.new _ _ _ 32 _ rfl).below (ba _ _)
 have V1:Hid (TwoB w0 (w.heap.size+1) (.int .i64 0) (.int .i64 0)):=by rw[<-hw0];exact TwoB.new _ _ _ 32 _ (by simp)
 have hlk:=hB.lookAt hs hat hhas (wX B0);have P1:Hid (Pts (w0.alloc (.cells #[.int .i64 b.1,.int .i64 b.2,.int .i64 al.1,.int .i64 al.2,.map (some bp)] 207)) bp np Dp (fun p=>p∈prs done nm) (fun p=>(oQ done nm p).1)):=hPp.keep (bal B0 _);obtain⟨t0,t1,tf0,tf1,htl⟩:=(hB.keep B0).two;have hbk:bk<w.heap.size:=hB.two.lt;have hbk2:bk<w.heap.size+1+1:=by omega
 clear hB hat hhas hbud hPp hinv hal hsp hmu;go_enter func62,ntmps62;go_wp2_with fail;refine(ks _ P1.out).mono ?_;rintro e1 w1 ⟨rfl,hb1⟩;have V3:FivB w1 (w.heap.size+1+1) (.int .i64 b.1) (.int .i64 b.2) (.int .i64 al.1) (.int .i64 al.2) (.map (some bp)):=(FivB.new w0 _ _ _ _ _ 207 _ hz0.symm).below hb1;obtain⟨c0,c1,f0,f1,hl0⟩:=(V0.out.below (ba _ _)).below hb1;obtain⟨d0,d1,g0,g1,hl1⟩:=(V1.out.below (ba _ _)).below hb1;obtain⟨x0,x1,x2,x3,x4,_,_,_,_,_,hx⟩:=V3;have B1:Below w.heap.size w w1:=bt (bal B0 _) hb1;obtain⟨y0,y1,_,_,_⟩:=((((V0.out.below (ba _ _)).below hb1).put (.int .i64 sp.1) (.int .i64 sp.2)).put (.int .i64 sp.1) (.int .i64 sp.2));go_wp2_with fail
 go_region
 all_goals go_wp2_with fail
 all_goals exact uQ (v:=.tuple #[rvq sp,rvq b,.int .i64 0]) (by simp[results,results62,go_sem,y0,y1,d0,d1]) rfl ⟨rfl,Below.drew (bs (bs (bs (bs (bs (bs B1 (by simp) _) (by simp) _) (by simp) _) (by simp) _) (by simp) _) (by simp) _)⟩
open Go.Maps Go.Sort
def dX (done:List En):List (List UInt8):=((dY done).map (fun x=>x.data.toList)).mergeSort (fun x y=>decide (x<=y))
theorem eeQ (done:List En):(dX done).length=(dY done).length:=by simp[dX]
theorem eeX (done:List En)(x:List UInt8):x∈dX done↔∃ y∈dY done,y.data.toList=x:=by simp[dX]
theorem eeZ {D:DataW Value}{done:List En}(h:BookM w N bk bm n v D done)(hs:ss.Perm (strKeys D)):ss.mergeSort (fun x y=>decide (x<=y))=dX done:=by
 have hp:((dY done).map (fun x=>x.data.toList)).Perm (strKeys D):=by
  obtain⟨es,rfl,hko⟩:=h.own.keysOf;obtain⟨es',hD',hpw,_⟩:=h.own.entries bC;obtain rfl:es=es':=by simpa using hD'
  refine perm_strKeys hpw (fun p hp=>by obtain⟨v,hv⟩:=hko p hp;obtain⟨y,_,hy,_⟩:=Maps.keyOf_str underlying9 hv;exact⟨y,hy⟩) ?_ (fun x=>?_)
  ·refine qE.2 (h.inv.nod.imp fun {a b} hab e=>hab ?_)
   apply ByteArray.ext;exact Array.toList_inj.1 e
  ·constructor
   ·intro hx
    obtain⟨y,hy,rfl⟩:=tX.1 hx;refine(h.is y).2 ?_;cases hb:sX done y with
    | some b=>exact⟨b,rfl⟩
    | none=>exact absurd hy ((tR done y).1 hb)
   ·intro hx
    have h1:Maps.has (DataW.map es) (kN ⟨x.toArray⟩)=true:=by simpa [kN] using hx
    obtain⟨b,hb⟩:=(h.is ⟨x.toArray⟩).1 h1
    have:(⟨x.toArray⟩:ByteArray)∈dY done:=by
     refine apZ fun hn=>?_;rw[(tR done _).2 hn] at hb;cases hb
    exact tX.2 ⟨_,this,by simp⟩
 exact mergeSort_of_perm (hs.trans hp.symm)
theorem eeJ (N:Nat->Prop)(bk bm n:Nat)(v:Value)(D:DataW Value)(done:List En)(w:World)(hB:BookM w N bk bm n v D done) :
  Calls prog 61 #[.pointer (some ⟨bk,0,none⟩)] w fun x w'=>∃ g r,x=.returned (.func (.func 110) #[] #[.pointer (some ⟨g,0,none⟩)])/\Below w.heap.size w w'/\w.heap.size<=g/\g<w'.heap.size/\w'.cell? ⟨g,0,none⟩=some r/\w'.ownsRow w.heap.size 9 1 r (dX done).length ((dX done).map encStr):=by
 have HB:=qQ hB;have hln:=hB.inv.len;have hcn:=hB.cnt;obtain⟨t0,t1,tf0,tf1,htl⟩:=hB.two;clear hB;go_enter func61,ntmps61;go_wp2_with fail;refine(d0Q _ _).mono ?_;rintro e1 w1 ⟨rfl,rfl⟩;go_wp2_with fail;refine(d0Z _ bm n D hR _ (by simp) (nc _ _ 0 _ rfl rfl) (HB.out.own.alloc _) (by omega)).mono ?_;rintro e2 w2 ⟨r,ss,rfl,hp,hrow,hb2⟩;have hss:=eeZ HB.out hp;have hsl:ss.length=(dX done).length:=by rw[<-hss,List.length_mergeSort]
 rw[hss,hsl] at hrow;have HR:=qQ hrow
 obtain⟨ra,rc,rfl⟩:∃ a c,r=.slice a (dX done).length c:=by
  rcases hrow.2 with⟨h1,h2⟩|⟨g,cap,cur,h1,_⟩
  ·exact⟨none,0,by rw[h1,h2]⟩
  ·exact⟨_,_,h1⟩
 clear hp hss hsl hrow;go_wp2;go_ret;refine⟨_,_,rfl,bal (bt (ba _ _) hb2) _,?_,by simp,nc _ _ 0 _ rfl rfl,?_⟩
 ·have:=hb2.size;simp at this;omega
 ·exact ownsRow_base_a ((HR.out).kept (eN w2 _ none) (by cases h:(Value.slice ra (dX done).length rc).ownBlock <;> simp)) (by simp)
end K.P
namespace K.P
open Go.RowKit Go.Shelf K.Ds
structure Kpt (K:Nat->Prop) (W W':World):Prop where
 size:W.heap.size<=W'.heap.size
 same:∀ b,K b->W'.heap[b]? = W.heap[b]?
theorem Kpt.trans {C:World}(h:Kpt K A B)(k:Kpt K B C):Kpt K A C:=⟨bQ h.size k.size,fun b hb=>(k.same b hb).trans (h.same b hb)⟩
theorem Kpt.imp (h:Kpt K A B)(hk:∀ b,K' b->K b):Kpt K' A B:=⟨h.size,fun b hb=>h.same b (hk b hb)⟩
theorem Kpt.put (W:World)(l:Nat)(o:Obj)(h:¬ K l):Kpt K W (W.putObj l o):=⟨by simp,fun b hb=>eL (fun e=>h (by rw[<-e];exact hb))⟩
theorem Kpt.of_below (h:Below n₀ A B)(hK:∀ b,K b->b<n₀):Kpt K A B:=⟨h.size,fun b hb=>h.block b (hK b hb)⟩
theorem Kpt.of_gb (h:A.grownBy B row)(hK:∀ b,K b->b<A.heap.size/\row≠some b):Kpt K A B:=⟨h.size,fun b hb=>h.block b (hK b hb).1 (fun e=>(hK b hb).2 e.symm)⟩
def bN {β:Type} (lo:Nat) (J:Nat->List β->World->Prop):Prop :=
 ∀ m pre A B row,lo<=m->J m pre A->A.grownBy B row->(∀ r,row=some r->lo<=r/\r<m)->J m pre B
theorem bN.put {β:Type}{lo m l:Nat}{J:Nat->List β->World->Prop}{pre:List β}(h:bN lo J)(hJ:J m pre A)(hlo:lo<=l)(hl:l<m)(o:Obj):J m pre (A.putObj l o) :=
 h m pre A _ _ (by omega) hJ (grownBy_putObj' A l o) (fun r e=>by cases e;exact⟨hlo,hl⟩)
def blX (n fid:Nat) (lb:Array Value) {β:Type} (Hd:β->World->World->Array Value->Prop) (K:Nat->Prop) (S:List β) (W0:World):Prop :=
 ∀ (y:Nat) (J Jx:Nat->List β->World->Prop),bN W0.heap.size J->bN W0.heap.size Jx ->
  (∀ W',W0.grownBy W' none->J W'.heap.size [] W') ->
  (∀ m pre x Wc W1 args,W0.heap.size<=m->m<=Wc.heap.size->pre++[x] <+: S->J m pre Wc->Below Wc.heap.size Wc W1->Hd x Wc W1 args ->
   YieldAt Fence.wide (n - 1) prog y args W1 fun e W' =>
    (e=.returned (.bool true)/\J m (pre++[x]) W'/\Kpt (fun b=>K b\/(W0.heap.size<=b/\b<m)) W1 W') \/
    (e=.returned (.bool false)/\Jx m (pre++[x]) W'/\Kpt (fun b=>K b\/(W0.heap.size<=b/\b<m)) W1 W')) ->
  CallsIn Fence.wide n prog fid (#[.func (.yield y) #[] #[]]++lb) W0 fun e W'=>(∃ v,e=.returned v)/\∃ m,W0.heap.size<=m/\(J m S W'\/∃ pre,Jx m pre W')
def efQ {β:Type} (K:Nat->Prop) (I Ix:Nat->List β->World->Prop) (m:Nat) (xs:List β) (W:World):Exit->Act->World->Prop
 | .normal,_,W'=>I m xs W'/\Kpt K W W'
 | .ret,_,W'=>Ix m xs W'/\Kpt K W W'
 | _,_,_=>False
theorem efX {β:Type}{ps:Array Tmp}(h1:1<=n)
  (hg:a.eval g=.func (.func gf) #[] lb) (eg:∀ args w,(callFunc gf args).run prog w=.ok (.enter gf args) w)
  {Hd:β->World->World->Array Value->Prop} {K:Nat->Prop} {S:List β}
  (hseq:∀ W0,w.grownBy W0 none->W0.heap.size=w.heap.size+2->blX (n - 1) gf lb Hd K S W0)
  (hK:∀ b,K b->b<w.heap.size) (hps:∀ x Wc W1 args,Hd x Wc W1 args->args.size=ps.size)
  (I Ix:Nat->List β->World->Prop) (hI:bN w.heap.size I) (hIx:bN w.heap.size Ix) (h0:∀ W',w.grownBy W' none->I W'.heap.size [] W')
  (Ax:Nat->List β->β->Act->World->World->Prop)
  (hAx:∀ m pre x a' Wc W o,w.heap.size+2<=m->m<=Wc.heap.size->Below Wc.heap.size Wc W->Ax m pre x a' Wc W->Ax m pre x a' (Wc.putObj (w.heap.size+1) o) (W.putObj (w.heap.size+1) o))
  (hassign:∀ (l m:Nat) (pre:List β) (x:β) (Wc W1:World) (args:Array Value),w.heap.size+2<=m->m<=Wc.heap.size->pre++[x] <+: S->I m pre Wc->Below Wc.heap.size Wc W1->Hd x Wc W1 args ->
   assign.wpIn (Fence.wide.inRound l) (n - 1 - 1) prog (Exit.then (fun a' W2=>Below W1.heap.size W1 W2/\Ax m pre x a' Wc W2) (fun _ _ _=>False)) { tmps:=(ps.zip args).foldl (fun t (p,v)=>t.setIfInBounds p v) a.tmps,defers:=[] } W1)
  (hbody:∀ (l m:Nat) (pre:List β) (x:β) (a':Act) (Wc W2:World),w.heap.size+2<=m->m<=Wc.heap.size->pre++[x] <+: S->Below Wc.heap.size Wc W2->Ax m pre x a' Wc W2 ->
   body.wpIn (Fence.wide.inRound l) (n - 1 - 1) prog (efQ (fun b=>K b\/(w.heap.size<=b/\b<m)) I Ix m (pre++[x]) W2) a' W2)
  (hdone:∀ (D m:Nat) (W:World),w.heap.size<=D->D<m->I m S W->W.heap[D]? = some (.deferred (some []))->Q .normal { a with defers:={ target:=.collected D,args:=#[] }::a.defers } W)
  (hstop:∀ (D m:Nat) (pre:List β) (W:World),w.heap.size<=D->D<m->Ix m pre W->W.heap[D]? = some (.deferred (some []))->Code.ret.wpIn Fence.wide n prog Q { a with defers:={ target:=.collected D,args:=#[] }::a.defers } W) :
  (Code.rangeFunc g ps assign body).wpIn Fence.wide n prog Q a w:=by
 refine wpIn_rangeFunc fun fn hfn=>?_;obtain⟨W0,hW0⟩:∃ W0,(w.alloc (.deferred (some []))).alloc (.loop { state:=.ready,pending:=none,fn:=fn,tmps:=a.tmps,params:=ps,assign:=assign,body:=body,defers:=w.heap.size })=W0:=⟨_,rfl⟩;have hz:W0.heap.size=w.heap.size+2:=by rw[<-hW0];simp
 have hgr:w.grownBy W0 none:=by rw[<-hW0];exact zG (eN w _ none) _
 have hL0:W0.heap[w.heap.size+1]? = some (.loop { state:=.ready,pending:=none,fn:=fn,tmps:=a.tmps,params:=ps,assign:=assign,body:=body,defers:=w.heap.size }):=by
  have h:=uM (w.alloc (.deferred (some []))) (.loop { state:=.ready,pending:=none,fn:=fn,tmps:=a.tmps,params:=ps,assign:=assign,body:=body,defers:=w.heap.size });rw[cP] at h;rw[<-hW0];exact h
 have hD0:W0.heap[w.heap.size]? = some (.deferred (some [])):=by
  rw[<-hW0];exact(vM _ _ _ (by simp)).trans (uM w _)
 refine⟨w.heap.size+1,[{ target:=.collected w.heap.size,args:=#[] }],W0,{ target:=.fn (.func gf) lb,args:=#[.func (.yield (w.heap.size+1)) #[] #[]] },W0,gf,#[.func (.yield (w.heap.size+1)) #[] #[]]++lb,W0,by rw[<-hW0];exact run_enterLoop_outer _ _ _ _ _,by simp only[resolve,hg];simp[go_sem],fun _ _=>trivial,by simp[invoke,go_sem,eg],fun _=>h1,?_⟩
 refine(hseq W0 hgr hz (w.heap.size+1)
  (fun m pre W=>I m pre W/\W.heap[w.heap.size+1]? = some (.loop { state:=.ready,pending:=none,fn:=fn,tmps:=a.tmps,params:=ps,assign:=assign,body:=body,defers:=w.heap.size })/\W.heap[w.heap.size]? = some (.deferred (some [])))
  (fun m pre W=>Ix m pre W/\W.heap[w.heap.size+1]? = some (.loop { state:=.done,pending:=some .ret,fn:=fn,tmps:=a.tmps,params:=ps,assign:=assign,body:=body,defers:=w.heap.size })/\W.heap[w.heap.size]? = some (.deferred (some [])))
  ?cl ?clx ?st ?yi).mono ?_
 case cl =>
  intro m pre A B row hm hJ hg2 hr;refine⟨hI m pre A B row (by omega) hJ.1 hg2 (fun r e=>by have:=hr r e;omega),(hg2.block _ (yJ.1 hJ.2.1).1 (fun e=>by have:=hr _ e.symm;omega)).trans hJ.2.1,(hg2.block _ (yJ.1 hJ.2.2).1 (fun e=>by have:=hr _ e.symm;omega)).trans hJ.2.2⟩
 case clx =>
  intro m pre A B row hm hJ hg2 hr;refine⟨hIx m pre A B row (by omega) hJ.1 hg2 (fun r e=>by have:=hr r e;omega),(hg2.block _ (yJ.1 hJ.2.1).1 (fun e=>by have:=hr _ e.symm;omega)).trans hJ.2.1,(hg2.block _ (yJ.1 hJ.2.2).1 (fun e=>by have:=hr _ e.symm;omega)).trans hJ.2.2⟩
 case st =>
  intro W' hg2;exact⟨h0 W' (bY hgr hg2),(hg2.block _ (by omega) (by simp)).trans hL0,(hg2.block _ (by omega) (by simp)).trans hD0⟩
 case yi =>
  rintro m pre x Wc W1 args hm hmc hpx ⟨hi,hl,hd⟩ hb hH;have hlc:w.heap.size+1<Wc.heap.size:=by omega
  have hl1:=(hb.block _ hlc).trans hl;have hy:=run_yield (P:=prog) (args:=args) hl1 (hps x Wc W1 args hH);refine⟨fn,_,assign,body,hy,roundIn_of_wpIn hfn ?_⟩;refine wpIn_mono (hassign (w.heap.size+1) m pre x Wc W1 args (by omega) hmc hpx hi hb hH) ?_;rintro e a' W2 he;cases e with
  | normal =>
   obtain⟨hb2,hax⟩:=he;have hlw1:w.heap.size+1<W1.heap.size:=by have:=hb.size;omega
   have hl2:=(hb2.block _ hlw1).trans hl1;have hd2:W2.heap[w.heap.size]? = some (.deferred (some [])):=(hb2.block _ (by omega)).trans ((hb.block _ (by omega)).trans hd);refine⟨_,run_beginRound hl2 rfl,?_⟩;obtain⟨Wb,hWb⟩:∃ Wb,W2.putObj (w.heap.size+1) (.loop { state:=.busy,pending:=none,fn:=fn,tmps:=a.tmps,params:=ps,assign:=assign,body:=body,defers:=w.heap.size })=Wb:=⟨_,rfl⟩;obtain⟨Wd,hWd⟩:∃ Wd,Wc.putObj (w.heap.size+1) (.loop { state:=.busy,pending:=none,fn:=fn,tmps:=a.tmps,params:=ps,assign:=assign,body:=body,defers:=w.heap.size })=Wd:=⟨_,rfl⟩;have hs2:w.heap.size+1<W2.heap.size:=by have:=hb2.size;omega
   have hlb:Wb.heap[w.heap.size+1]? = some (.loop { state:=.busy,pending:=none,fn:=fn,tmps:=a.tmps,params:=ps,assign:=assign,body:=body,defers:=w.heap.size }):=by rw[<-hWb];exact rE hs2
   have hdb:Wb.heap[w.heap.size]? = some (.deferred (some [])):=by rw[<-hWb];exact(eL (by omega)).trans hd2
   have hzd:Wd.heap.size=Wc.heap.size:=by rw[<-hWd];simp
   have hbc2:Below Wc.heap.size Wc W2:=bt hb hb2
   have hbd:Below Wd.heap.size Wd Wb:=by
    rw[hzd,<-hWb,<-hWd];refine⟨hbc2.os,hbc2.tape,hbc2.output,by simpa using hbc2.size,fun k hk=>?_⟩;by_cases e:k=w.heap.size+1
    ·subst e
     rw[rE hs2,rE hlc]
    ·rw[eL e,eL e]
     exact hbc2.block k hk
   have hax2:Ax m pre x a' Wd Wb:=by rw[<-hWb,<-hWd];exact hAx m pre x a' Wc W2 _ (by omega) hmc hbc2 hax
   show body.wpIn (Fence.wide.inRound (w.heap.size+1)) _ _ _ a' (W2.putObj (w.heap.size+1) (.loop { state:=.busy,pending:=none,fn:=fn,tmps:=a.tmps,params:=ps,assign:=assign,body:=body,defers:=w.heap.size }))
   rw[hWb];refine wpIn_mono (hbody (w.heap.size+1) m pre x a' Wd Wb (by omega) (by omega) hpx hbd hax2) ?_
   have hKw1:∀ b,(K b\/(W0.heap.size<=b/\b<m))->b<W1.heap.size:=by
    intro b h;have:=hb.size;rcases h with h|h
    ·have:=hK b h;omega
    ·omega
   have hKl:¬ (K (w.heap.size+1)\/(W0.heap.size<=w.heap.size+1/\w.heap.size+1<m)):=by
    rintro(h|h)
    ·have:=hK _ h;omega
    ·omega
   have kin:Kpt (fun b=>K b\/(W0.heap.size<=b/\b<m)) W1 Wb:=by
    have k1:Kpt (fun b=>K b\/(W0.heap.size<=b/\b<m)) W1 W2:=Kpt.of_below hb2 hKw1;rw[<-hWb];exact k1.trans (Kpt.put _ _ _ hKl)
   have kout:∀ (W3:World) (o:Obj),Kpt (fun b=>K b\/(w.heap.size<=b/\b<m)) Wb W3->Kpt (fun b=>K b\/(W0.heap.size<=b/\b<m)) W1 (W3.putObj (w.heap.size+1) o):=fun W3 o k =>
    (kin.trans (k.imp fun b h=>h.imp id (fun h=>by omega))).trans (Kpt.put _ _ _ hKl)
   rintro e a3 W3 hp;cases e with
   | normal =>
    obtain⟨hi3,hk3⟩:=hp;have hl3:=(hk3.same (w.heap.size+1) (.inr (by omega))).trans hlb;have hd3:=(hk3.same w.heap.size (.inr (by omega))).trans hdb;refine⟨_,_,run_endRound none hl3,.inl ⟨rfl,⟨hI.put hi3 (by omega) (by omega) _,rE (yJ.1 hl3).1,(eL (by omega)).trans hd3⟩,kout W3 _ hk3⟩⟩
   | ret =>
    obtain⟨hi3,hk3⟩:=hp;have hl3:=(hk3.same (w.heap.size+1) (.inr (by omega))).trans hlb;have hd3:=(hk3.same w.heap.size (.inr (by omega))).trans hdb;refine⟨_,_,run_endRound (some .ret) hl3,.inr ⟨rfl,⟨hIx.put hi3 (by omega) (by omega) _,rE (yJ.1 hl3).1,(eL (by omega)).trans hd3⟩,kout W3 _ hk3⟩⟩
   | exit id=>exact hp.elim
   | goto t=>exact hp.elim
   | panic ch=>exact hp.elim
   | outgrown=>exact hp.elim
  | exit id=>exact he.elim
  | goto t=>exact he.elim
  | ret=>exact he.elim
  | panic ch=>exact he.elim
  | outgrown=>exact he.elim
 ·rintro e W2 ⟨⟨v,rfl⟩,m,hm,⟨hi,hl,hd⟩|⟨pre,hi,hl,hd⟩⟩
  ·exact⟨none,_,run_endLoop (P:=prog) hl (by simp),hdone _ m _ (vQ _) (by omega) (hI.put hi (by omega) (by omega) _) ((eL (by omega)).trans hd)⟩
  ·exact⟨some .ret,_,run_endLoop (P:=prog) hl (by simp),hstop _ m pre _ (vQ _) (by omega) (hIx.put hi (by omega) (by omega) _) ((eL (by omega)).trans hd)⟩

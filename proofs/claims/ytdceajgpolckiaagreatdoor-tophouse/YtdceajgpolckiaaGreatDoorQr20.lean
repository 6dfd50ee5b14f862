import Derived.Test.YtdceajgpolckiaaGreatDoorQr19
import Derived.Test.YtdceajgpolckiaaGreatDoorQr14
open Go.Proofs.Tryz
set_option linter.unusedSimpArgs false
set_option maxHeartbeats 16000000
set_option maxRecDepth 100000
namespace Go.Proofs.YtdceajgpolckiaaGreatDoor
variable {x y:List Int} {B bx i m:Nat} {A A' k:Int} {s v v':Value} {W w w':World}
section
open Go.RowKit Go.Shelf Ds
def pre (x:List Int) (b:List Pt):List Pt:=b.map fun q=>(x++q.1,q.2)
def xH (x:List Int) (b:List Pt):List Pt × Int:=if (pre x b).all tJ then (pre x b,0) else ([],3)
theorem fjQ (w:World)(C:Nat)(u v:Value)(xs ys:List Int)(hC:C<=w.heap.size)(hu:jQ w C C u xs)(hv:jQ w C C v ys) :
  vL (w.alloc (.cells #[u,v] 37)) (w.heap.size+1) (.slice (some ⟨w.heap.size,0,none⟩) 2 2) [(u,xs),(v,ys)]:=by
 refine⟨_,2,rfl,by simp,by simp,fun z hz=>?_,fun _=>⟨w.heap.size,0,rfl,by omega,fun i z hi=>?_⟩⟩
 ·simp at hz
  rcases hz with rfl|rfl
  ·exact(hu.at hC (ba _ _)).mono (by omega) (.inr (by omega))
  ·exact(hv.at hC (ba _ _)).mono (by omega) (.inr (by omega))
 ·match i,hi with
  | 0,hi=>simp at hi;subst hi;simp[go_sem]
  | 1,hi=>simp at hi;subst hi;simp[go_sem]
def mS (x:List Int) (b:List Pt) (us:List Tr) (i:Nat):Prop:=us.length=b.length/\(rd us).take i=(pre x b).take i/\((pre x b).take i).all tJ=true
theorem mS.step {b:List Pt}{us:List Tr}(h:mS x b us i)(hp:b[i]? = some (y,k))(hk:tJ (x++y,k)=true):mS x b (us.set i (s,x++y,k)) (i+1):=by
 obtain⟨h1,h2,h3⟩:=h;have hi:=(cQ.1 hp).1;have hg:(pre x b)[i]? = some (x++y,k):=by simp[pre,hp]
 refine⟨by simp[h1],?_,?_⟩
 ·rw[oT,pM _ (by rw[tV];omega),h2,fZ,hg];rfl
 ·rw[fZ,hg,List.all_append,h3];simp[hk]
theorem fjX (C D:Nat)(u v:Value)(xs:List Int)(ts:List Tr)(w:World)(hC:C<=w.heap.size)(hD:D<=w.heap.size)(hx:jQ w C C u xs)(hp:dQ w D v ts)(hxl:xs.length<=16)(hd:Dis (rd ts))(l:List Pt)(er:Int)(hr:xH xs (rd ts)=(l,er)) :
  Calls prog 67 #[u,v] w fun e w'=>∃ v' us,e=.returned (.tuple #[v',.int .i64 er])/\rd us=l/\oX w' w.heap.size v' us/\Below w.heap.size w w'/\sQ w.heap.size us:=by
 have HP:=qQ hp;have HX:=qQ hx;have HR:Hid (xH xs (rd ts)=(l,er)/\Dis (rd ts)):=⟨hr,hd⟩;obtain⟨a,c,rfl,hc,hl,_⟩:=hp;obtain⟨xa,xc,rfl,_⟩:=hx;obtain⟨i0,hi,hz0,hz1,hz2⟩:=zV oM
 have hmk:∀ u:World,(Instr.makeSlice 61 (.int .i64 (ts.length:Int)) (.int .i64 (ts.length:Int))).run prog u =
   .ok (.slice (some ⟨u.heap.size,0,none⟩) ts.length ts.length) (u.alloc (.cells (madeCells #[.slice none 0 0,.int .i64 0] (ts.length*2)) 77)):=fun u=>by
  have h:=run_make (P:=prog) u 61 77 i0 (.agg #[.slice none 0 0,.int .i64 0]) underlying61 hi hz0 .i64 .i64 (ts.length:Int) (ts.length:Int) (by omega) (aG _) (by rw[hz2];omega) (by omega);rw[aK] at h;simpa [hz1,Value.cells] using h
 clear hr hd;go_enter func67,ntmps67;go_wp2
 go_loopw [14] (fun s wr=>∃ (i:Nat) (us:List Tr),s=.int .i64 (i:Int)/\i<=ts.length/\Hid (mS xs (rd ts) us i)/\Row wr w.heap.size 0 us/\(∀ t∈us,jQ wr wr.heap.size w.heap.size t.1 t.2.1)/\Below w.heap.size w wr/\Hid (sQ w.heap.size us)) (fun s _=>ts.length - (intOf s).toNat)
 case atStart =>
  refine⟨0,List.replicate ts.length no,rfl,kQ _,⟨by simp[rd],by simp,by simp⟩,asX _ _,fun t ht=>?_,ba _ _,fun t ht hne=>?_⟩
  ·rw[jT ht]
   exact dI _ _ _
  ·rw[jT ht] at hne
   exact absurd rfl hne
 case round =>
  obtain⟨i,us,rfl,hit,HT,hrow,hI,hbl,HFR⟩:=hrel;have hul:us.length=ts.length:=by have:=HT.out.1;rw[tV] at this;exact this
  by_cases h1:i<ts.length
  ·obtain⟨b,o,sa,sc,ys,k,rfl,hb,hs,c1,c2,hIx⟩:=HP.out.get hD hbl h1
   have HS:=qQ (sV hs)
   have hyl:ys.length<=16:=by
    have h5:=b1Q HR.out.2 (qX HS.out);simp[okO] at h5;exact h5.1
   obtain⟨t0,ht0⟩:=cX (l:=us) (i:=i) (by omega);have r1:=hrow.cells i t0 ht0;have r2:=hrow.thaw (i*2) (by omega);have r3:=hrow.thaw (i*2+1) (by omega);have HRo:Hid (Row wr w.heap.size 0 us/\us.length=ts.length):=⟨hrow,hul⟩;have HI:=qQ hI;have HIx:=qQ hIx;have hs1:=hbl.size;have hlt:=hrow.lt;obtain⟨r4,r5⟩:=r1;simp only[xZ] at r2 r3 r4 r5;obtain⟨v0,hv0⟩:∃ v0,t0.1=v0:=⟨_,rfl⟩;rw[hv0] at r4;clear hs hrow hI hIx ht0 hv0 hul;have r6:∀ o,(wr.alloc o).cell? ⟨w.heap.size,i*2,none⟩=some v0:=fun o=>by rw[cH _ _ _ hlt];exact r4
   have r7:∀ o,(wr.alloc o).cell? ⟨w.heap.size,i*2+1,none⟩=some (.int .i64 t0.2.2):=fun o=>by rw[cH _ _ _ hlt];exact r5
   have r8:∀ o,(wr.alloc o).frozen? ⟨w.heap.size,i*2,none⟩=false:=fun o=>by rw[(ba wr o).frozen hlt];exact r2
   have r9:∀ o,(wr.alloc o).frozen? ⟨w.heap.size,i*2+1,none⟩=false:=fun o=>by rw[(ba wr o).frozen hlt];exact r3
   go_wp2_with fail;generalize hO:Obj.cells #[Value.slice sa ys.length sc,Value.int IntKind.i64 k] 77=O;have g1:(wr.alloc O).cell? ⟨wr.heap.size,0,none⟩=some (.slice sa ys.length sc):=by rw[<-hO];simp[go_sem]
   have g2:(wr.alloc O).cell? ⟨wr.heap.size,1,none⟩=some (.int .i64 k):=by rw[<-hO];simp[go_sem]
   have g3:=r6 O;have g4:=r7 O;have g5:=r8 O;have g6:=r9 O;have g7:(wr.alloc O).heap.size=wr.heap.size+1:=by simp
   obtain⟨W,hW⟩:∃ W,wr.alloc O=W:=⟨_,rfl⟩;have HW:Hid (Below wr.heap.size wr W):=hW▸ba wr O;rw[hW] at g1 g2 g3 g4 g5 g6 g7 ⊢;clear r2 r3 r4 r5 r6 r7 r8 r9 hO hW;have HB:Below w.heap.size w W:=bt hbl HW.out;have ne1:¬ w.heap.size=wr.heap.size:=by omega
   have ne2:¬ wr.heap.size=w.heap.size:=by omega
   have lw1:w.heap.size<W.heap.size:=by omega
   have lw2:wr.heap.size<W.heap.size:=by omega
   have z1:(0:Int)<=(i:Int):=by omega
   have z2:(i:Int)<(ts.length:Int):=by omega
   obtain⟨WA,hWA0⟩:∃ WA,(W.alloc (.cells #[.slice xa xs.length xc,.slice sa ys.length sc] 37)).drew=WA:=⟨_,rfl⟩;have hWA:Below W.heap.size W WA:=by rw[<-hWA0];exact(bal (aQ _ _) _).drew
   have hWAs:WA.heap.size=wr.heap.size+2:=by rw[<-hWA0];show(W.alloc _).heap.size=_;simp;omega
   have HL2:Hid (vL WA (W.heap.size+1) (.slice (some ⟨wr.heap.size+1,0,none⟩) 2 2) [(.slice xa xs.length xc,xs),(.slice sa ys.length sc,ys)]):=by
    rw[Hid,<-hWA0,<-g7];exact(fjQ W W.heap.size _ _ xs ys (vQ _) ((HX.out.at hC HB).mono (by omega) (.inr (by omega))) ((HIx.out.at (by omega) HW.out).mono (by omega) (.inr (by omega)))).keep (aQ _ _).drew
   have kcat:=fiJ (W.heap.size+1) (.slice (some ⟨wr.heap.size+1,0,none⟩) 2 2) [(.slice xa xs.length xc,xs),(.slice sa ys.length sc,ys)] WA (by omega) HL2.out (by simp) (by simp[cat];omega);have ecat:cat [((.slice xa xs.length xc,xs):Vl),(.slice sa ys.length sc,ys)]=xs++ys:=by simp[cat]
   obtain⟨zs,hzs⟩:∃ zs,xs++ys=zs:=⟨_,rfl⟩;rw[ecat,hzs] at kcat;have HZ:=qQ hzs;clear hzs;have HKC:=qQ kcat;have kA1:WA.cell? ⟨wr.heap.size,0,none⟩=some (.slice sa ys.length sc):=(hWA.cell (p:=⟨wr.heap.size,0,none⟩) lw2).trans g1;have kA2:WA.cell? ⟨wr.heap.size,1,none⟩=some (.int .i64 k):=(hWA.cell (p:=⟨wr.heap.size,1,none⟩) lw2).trans g2;have kB1:(W.alloc (.cells #[.slice xa xs.length xc,.slice sa ys.length sc] 37)).cell? ⟨wr.heap.size,0,none⟩=some (.slice sa ys.length sc):=((ba W _).cell (p:=⟨wr.heap.size,0,none⟩) lw2).trans g1;have kB2:(W.alloc (.cells #[.slice xa xs.length xc,.slice sa ys.length sc] 37)).cell? ⟨wr.heap.size,1,none⟩=some (.int .i64 k):=((ba W _).cell (p:=⟨wr.heap.size,1,none⟩) lw2).trans g2;have hza:0<WA.heap.size:=by omega
   clear kcat ecat HL2
   go_region_held3 (fun w'=>w'.cell? ⟨wr.heap.size,0,none⟩=some (.slice sa ys.length sc)/\w'.cell? ⟨wr.heap.size,1,none⟩=some (.int .i64 k))
    ((go_split_ands;refine⟨?_,?_⟩ <;> first|assumption|(simp[go_sem, *];done)))
    ((go_at_call 115;refine HKC.out.mono ?_;rintro x1 w1 ⟨v',rfl,hI1,hb1⟩;obtain⟨av,cv,hv1,_⟩:=hI1 0 hza;subst hv1;have hb2:Below W.heap.size W w1:=(bt hWA hb1);obtain⟨hc1,hf1⟩:=bcell hb2;have hs1':=hb2.size;have k1:w1.cell? ⟨w.heap.size,i*2,none⟩=some v0:=(hc1 _ _ lw1).trans g3;have k2:w1.cell? ⟨w.heap.size,i*2+1,none⟩=some (.int .i64 t0.2.2):=(hc1 _ _ lw1).trans g4;have k3:w1.frozen? ⟨w.heap.size,i*2,none⟩=false:=(hf1 _ _ lw1).trans g5;have k4:w1.frozen? ⟨w.heap.size,i*2+1,none⟩=false:=(hf1 _ _ lw1).trans g6;have k5:w1.cell? ⟨wr.heap.size,0,none⟩=some (.slice sa ys.length sc):=(hc1 _ _ lw2).trans g1;have k6:w1.cell? ⟨wr.heap.size,1,none⟩=some (.int .i64 k):=(hc1 _ _ lw2).trans g2;clear hc1 hf1))
   have HB1:Below wr.heap.size wr w1:=bt HW.out hb2;obtain⟨W2,hW2⟩:∃ W2,(w1.setCell ⟨w.heap.size,i*2,none⟩ (.slice av zs.length cv)).setCell ⟨w.heap.size,i*2+1,none⟩ (.int .i64 k)=W2:=⟨_,rfl⟩;have hmW:w.heap.size<WA.heap.size:=by omega
   have HRn:Hid (Row W2 w.heap.size 0 (us.set i (.slice av zs.length cv,zs,k))):=hW2▸(HRo.out.1.keep HB1).set0 (by rw[HRo.out.2];exact h1) _ zs k
   have hIs:∀ t∈us.set i (.slice av zs.length cv,zs,k),jQ W2 W2.heap.size w.heap.size t.1 t.2.1:=by
    intro t ht
    have hI2:jQ w1 w1.heap.size w.heap.size t.1 t.2.1:=by
     rcases cK ht with h|rfl
     ·exact(HI.out t h).at2 HB1
     ·exact hI1 _ hmW
    have:=(hI2.set (p:=⟨w.heap.size,i*2,none⟩) rfl (.slice av zs.length cv)).set (p:=⟨w.heap.size,i*2+1,none⟩) rfl (.int .i64 k);rw[<-hW2];simpa using this
   have HIn:=qQ hIs
   have HFn:Hid (sQ w.heap.size (us.set i (.slice av zs.length cv,zs,k))):=by
    intro t ht;rcases cK ht with h|rfl
    ·exact HFR.out t h
    ·exact lT (w:=w1) (B:=w1.heap.size) fun m hm=>hI1 m (by omega)
   have B2:Below w.heap.size w W2:=by rw[<-hW2];exact bs (bs (bt hbl HB1) (vQ _) _) (vQ _) _
   have e1:W2.cell? ⟨w.heap.size,i*2,none⟩=some (.slice av zs.length cv):=by rw[<-hW2];exact(gQ (by simp)).trans (tZ k1)
   have e2:W2.cell? ⟨w.heap.size,i*2+1,none⟩=some (.int .i64 k):=by rw[<-hW2];exact tZ (u:=.int .i64 t0.2.2) ((gQ (by simp)).trans k2)
   have hmem:((.slice av zs.length cv,zs,k):Tr)∈us.set i (.slice av zs.length cv,zs,k):=by
    refine qX (i:=i) ?_;rw[sA (by rw[HRo.out.2];exact h1)]
   obtain⟨r,HOK⟩:∃ r,Hid (tJ (zs,k)=r):=⟨_,rfl⟩;have kb:=uW W2.heap.size w.heap.size (.slice av zs.length cv) k zs W2 (vQ _) (hIs _ hmem) r HOK.out;clear hI1 hb1 hb2 HB1 k1 k2 k3 k4 k5 k6 g1 g2 g3 g4 g5 g6 hIs hmem kA1 kA2 kB1 kB2 HKC hWA0 hWA;go_wp2_with fail;refine kb.mono ?_;rintro e w3 ⟨rfl,hb3⟩;clear kb;cases r with
   | true =>
    have HTn:Hid (mS xs (rd ts) (us.set i (.slice av zs.length cv,zs,k)) (i+1)):=by
     have h5:=HT.out.step (s:=.slice av zs.length cv) HS.out (by rw[HZ.out];exact HOK.out);rwa [HZ.out] at h5
    have HRn3:=qQ (HRn.out.keep hb3);go_wp2
    go_roundw
    case rel=>exact⟨i+1,us.set i (.slice av zs.length cv,zs,k),by go_num,h1,HTn,HRn3.out,fun t ht=>(HIn.out t ht).at2 hb3,bt B2 hb3,HFn⟩
    case measure=>simp[intOf];omega
   | false =>
    have hbeh:=HR.out.1
    have hno:¬ (pre xs (rd ts)).all tJ=true:=by
     rw[dL];intro h5;have h6:=h5 (zs,k) (tX.2 ⟨(ys,k),qX HS.out,by simp only[HZ.out]⟩);rw[HOK.out] at h6;cases h6
    unfold xH at hbeh;rw[xQ hno] at hbeh;simp only[fQ] at hbeh;obtain⟨rfl,rfl⟩:=hbeh;clear hno;go_wp2;exact uQ (v:=.tuple #[.slice none 0 0,.int .i64 3]) (by simp[results,results67,go_sem]) rfl ⟨_,[],rfl,rfl,.inl ⟨rfl,rfl⟩,bt B2 hb3,sQ.nil _⟩
  ·have hlen2:(pre xs (rd ts)).length=ts.length:=by simp[pre,tV]
   have htk:(pre xs (rd ts)).take i=pre xs (rd ts):=rJ (by omega)
   have hrd:rd us=pre xs (rd ts):=by
    have h5:=HT.out.2.1;rw[htk,rJ (by rw[tV];omega)] at h5;exact h5
   have hbeh:=HR.out.1;unfold xH at hbeh;have hall:=HT.out.2.2;rw[htk] at hall;rw[zQ hall] at hbeh;simp only[fQ] at hbeh;obtain⟨hbl1,rfl⟩:=hbeh;have HD2:Hid (rd us=l/\us.length=ts.length):=⟨hrd.trans hbl1,hul⟩;have HRo:=qQ hrow;have HI:=qQ hI;clear hrow hI hrd htk hall hlen2 hul hbl1;go_wp2;exact uQ (v:=.tuple #[.slice (some ⟨w.heap.size,0,none⟩) ts.length ts.length,.int .i64 0]) (by simp[results,results67,go_sem]) rfl ⟨_,us,rfl,HD2.out.1,.inr ⟨w.heap.size,0,ts.length,by rw[HD2.out.2],by rw[HD2.out.2];exact vQ _,by rw[HD2.out.2];exact hl,vQ _,HRo.out,HI.out⟩,hbl,HFR.out⟩
theorem fjZ (x a b:List Int):nX (x++a) (x++b)=nX a b:=by
 induction x with
 | nil=>rfl
 | cons c x ih=>simp only[qG,nX];rw[xQ (by omega),xQ (by omega)];exact ih
theorem fjJ (x:List Int)(b:List Pt):tot (pre x b)=tot b:=by
 induction b with
 | nil=>rfl
 | cons p b ih=>simp only[pre,xV] at *;rw[iZ,iZ,ih]
theorem fkQ (x:List Int)(b:List Pt):dv (pre x b)=dv b:=by
 induction b with
 | nil=>rfl
 | cons p b ih=>simp only[pre,xV,dv] at *;rw[ih]
theorem fkX {b:List Pt}(h:Dis b)(ho:(pre x b).all tJ=true):Dis (pre x b):=by
 refine⟨?_,?_,by rw[fjJ];exact h.le,?_,ho,by simp[pre];exact h.few,by rw[fkQ];exact h.one⟩
 ·unfold cZ pre
  rw[qE];exact h.rise.imp fun {p q} hpq=>by show nX (x++p.1) (x++q.1)<0;rw[fjZ];exact hpq
 ·intro p hp
  obtain⟨q,hq,rfl⟩:=tX.1 hp;exact h.pos q hq
 ·intro h0
  have:=h.ne;simp[pre] at h0;exact this h0
theorem tC {b:List Pt}(h:Dis b)(he:(xH x b).2=0):(xH x b).1=pre x b/\Dis (pre x b):=by
 unfold xH at *
 split at he
 ·rename_i ho
  rw[zQ ho];exact⟨rfl,fkX h ho⟩
 ·simp at he
def pV (l m:List Pt):List Pt × Int:=if gI l m=0 then tF (fun x=>xH x m) l else ([],gI l m)
theorem fkZ (C D bx:Nat)(u v:Value)(xs:List Int)(ts:List Tr)(w:World)(hC:C<=w.heap.size)(hD:D<=w.heap.size)(hc:w.cell? ⟨bx,0,none⟩=some v)(hx:jQ w C C u xs)(hp:dQ w D v ts)(hxl:xs.length<=16)(hd:Dis (rd ts))(l:List Pt)(er:Int)(hr:xH xs (rd ts)=(l,er)) :
  Calls prog 66 #[u,.pointer (some ⟨bx,0,none⟩)] w fun e w'=>∃ v' us,e=.returned (.tuple #[v',.int .i64 er])/\rd us=l/\oX w' w.heap.size v' us/\Below w.heap.size w w'/\sQ w.heap.size us:=by
 have kc:=fjX C D u v xs ts w hC hD hx hp hxl hd l er hr;obtain⟨a,c,rfl,_⟩:=hp;obtain⟨ua,uc,rfl,_⟩:=hx;clear hr hd;go_enter func66,ntmps66;go_wp2_with fail;refine kc.mono ?_;rintro e w1 ⟨v1,us,rfl,h1,h2,h3,h4⟩;obtain⟨b1,d1,rfl⟩:=h2.slice;clear kc;go_wp2;exact uQ (v:=.tuple #[.slice b1 us.length d1,.int .i64 er]) (by simp[results,results66,go_sem]) rfl ⟨_,us,rfl,h1,h2,h3,h4⟩
theorem b2Q {sl p:Value}{ts:List Tr}(h:dQ w B v ts)(hc:w.cell? ⟨bx,0,none⟩=some sl)(hsl:∀ z,sl≠.int .i64 z)(hn:∀ j,0<j->w.cell? ⟨bx,j,none⟩=none):dQ (w.setCell ⟨bx,0,none⟩ p) B v ts:=by
 obtain⟨a,c,hv,hcc,hl,hi,hx⟩:=h;refine⟨a,c,hv,hcc,hl,fun t ht=>?_,fun hne=>?_⟩
 ·obtain⟨a',c',hv',hc',hl',hy⟩:=hi t ht
  refine⟨a',c',hv',hc',hl',fun hne=>?_⟩;obtain⟨b,o,ha,hb,hnb,hcell⟩:=hy hne
  have hbb:b≠bx:=by
   rintro rfl;obtain⟨x0,hx0⟩:=cX (l:=t.2.1) (i:=0) (dE.2 hne);have h5:=hcell 0 x0 hx0;rw[wA] at h5;rcases aM o with e|e
   ·subst e;rw[hc] at h5;simp only[zX] at h5;exact hsl _ h5
   ·rw[hn o e] at h5;cases h5
  exact⟨b,o,ha,hb,hnb,fun i x hx=>(gQ (fun e=>hbb (by simp only[bG] at e;exact e.1.symm))).trans (hcell i x hx)⟩
 ·obtain⟨b,o,ha,hb,hcell⟩:=hx hne
  have hbb:b≠bx:=by
   rintro rfl;obtain⟨t0,ht0⟩:=cX (l:=ts) (i:=0) (dE.2 hne);have h5:=(hcell 0 t0 ht0).2;rw[hn _ (by omega)] at h5;cases h5
  exact⟨b,o,ha,hb,fun i t ht=>⟨(gQ (fun e=>hbb (by simp only[bG] at e;exact e.1.symm))).trans (hcell i t ht).1,(gQ (fun e=>hbb (by simp only[bG] at e;exact e.1.symm))).trans (hcell i t ht).2⟩⟩
theorem b2X (B:Nat)(v u:Value)(ts us:List Tr)(w:World)(hB:B<=w.heap.size)(hp:dQ w B v ts)(hq:dQ w B u us)(l:List Pt)(er:Int)(hr:pV (rd ts) (rd us)=(l,er)) :
  Calls prog 33 #[v,u] w fun e w'=>∃ v' us,e=.returned (.tuple #[v',.int .i64 er])/\rd us=l/\oX w' w.heap.size v' us/\Below w.heap.size w w'/\sQ w.heap.size us:=by
 obtain⟨e1,ho⟩:∃ x,gI (rd ts) (rd us)=x:=⟨_,rfl⟩;have HP:=qQ hp;have HQ:=qQ hq;have HR:Hid (pV (rd ts) (rd us)=(l,er)/\gI (rd ts) (rd us)=e1):=⟨hr,ho⟩;obtain⟨a,c,rfl,_⟩:=hp;obtain⟨ua,uc,rfl,_⟩:=hq;obtain⟨W,hW⟩:∃ W,w.alloc (.cells #[.slice ua us.length uc] 61)=W:=⟨_,rfl⟩;have HW:Hid (Below w.heap.size w W):=hW▸ba w _;have hWs:W.heap.size=w.heap.size+1:=by rw[<-hW];simp
 have cW:W.cell? ⟨w.heap.size,0,none⟩=some (.slice ua us.length uc):=by rw[<-hW];simp[go_sem]
 have fW:W.frozen? ⟨w.heap.size,0,none⟩=false:=by rw[<-hW];simp[go_sem]
 have HNW:Hid (∀ j,0<j->W.cell? ⟨w.heap.size,j,none⟩=none):=by
  intro j hj;rw[<-hW];obtain⟨m,rfl⟩:∃ m,j=m+1:=⟨j - 1,by omega⟩;have hh:=uM w (.cells #[.slice ua us.length uc] 61);unfold World.cell?;simp only[hh];simp
 have kc:=crJ B (.slice a ts.length c) (.slice ua us.length uc) ts us W (by omega) (HP.out.at hB HW.out) (HQ.out.at hB HW.out) e1 ho;clear hr ho;go_enter func33,ntmps33;go_wp2_with fail;clear hW;refine kc.mono ?_;rintro e w1 ⟨a1,n1,c1,a2,n2,c2,rfl,hb1,hok⟩;have hs1:=hb1.size;have b1w:Below w.heap.size w w1:=bt HW.out hb1;have c1':w1.cell? ⟨w.heap.size,0,none⟩=some (.slice ua us.length uc):=(hb1.cell (p:=⟨w.heap.size,0,none⟩) (by show w.heap.size<W.heap.size;omega)).trans cW;have f1':w1.frozen? ⟨w.heap.size,0,none⟩=false:=(hb1.frozen (p:=⟨w.heap.size,0,none⟩) (by show w.heap.size<W.heap.size;omega)).trans fW;clear kc cW fW;by_cases h0:e1=0
 ·subst h0
  obtain⟨x1,x2,hd1,hd2,hp1,hp2⟩:=hok rfl;obtain⟨hdi1,hdi2⟩:=csQ HR.out.2;have hch:=HR.out.1;unfold pV at hch;rw[HR.out.2] at hch;simp only[aU] at hch;have hnone:∀ j,0<j->w1.cell? ⟨w.heap.size,j,none⟩=none:=fun j hj=>(hb1.cell (p:=⟨w.heap.size,j,none⟩) (by show w.heap.size<W.heap.size;omega)).trans (HNW.out j hj);obtain⟨W2,hW2⟩:∃ W2,w1.setCell ⟨w.heap.size,0,none⟩ (.slice a2 n2 c2)=W2:=⟨_,rfl⟩;have hW2s:W2.heap.size=w1.heap.size:=by rw[<-hW2];simp
  have c2':W2.cell? ⟨w.heap.size,0,none⟩=some (.slice a2 n2 c2):=by rw[<-hW2];exact tZ c1'
  have b2w:Below w.heap.size w W2:=by rw[<-hW2];exact bs b1w (vQ _) _
  have q1:dQ W2 W2.heap.size (.slice a1 n1 c1) x1:=by rw[hW2s,<-hW2];exact b2Q hp1 c1' (fun z=>by simp) hnone
  have q2:dQ W2 W2.heap.size (.slice a2 n2 c2) x2:=by rw[hW2s,<-hW2];exact b2Q hp2 c1' (fun z=>by simp) hnone
  have kch:=b1Z 66 (.pointer (some ⟨w.heap.size,0,none⟩)) (fun x=>xH x (rd us)) W2.heap.size (.slice a1 n1 c1) x1 W2 (vQ _) q1 (by rw[hd1];exact hdi1) (enters_of func66 (by kernel_rfl) rfl)
   (fun W' u xs hbW hI hox=>fkZ W'.heap.size W2.heap.size w.heap.size u (.slice a2 n2 c2) xs x2 W' (vQ _) hbW.size ((hbW.cell (p:=⟨w.heap.size,0,none⟩) (by show w.heap.size<W2.heap.size;omega)).trans c2') hI (q2.at (vQ _) hbW) (by simp[okO] at hox;exact hox.1) (by rw[hd2];exact hdi2) _ _ (by rw[hd2]))
   (fun p _ he=>by have:=tC hdi2 he;rw[this.1];exact this.2) l er (by rw[hd1];exact hch)
  clear hok hp1 hp2 hdi1 hdi2 hch hd1 hd2 q1 q2 hnone;go_wp2_with fail;refine kch.mono ?_;rintro e w2 ⟨v2,xs2,rfl,k1,k2,k3,k4⟩;obtain⟨a3,c3,rfl⟩:=k2.slice;have H2:Hid (rd xs2=l/\oX w2 w.heap.size (.slice a3 xs2.length c3) xs2/\sQ w.heap.size xs2):=⟨k1,k2.mono (by omega),fun t ht hne b o sp n c e=>bQ (by omega) (k4 t ht hne b o sp n c e)⟩;clear k1 k2 k4 kch;go_wp2;exact uQ (v:=.tuple #[.slice a3 xs2.length c3,.int .i64 er]) (by simp[results,results33,go_sem]) rfl ⟨_,xs2,rfl,H2.out.1,H2.out.2.1,bt b2w k3,H2.out.2.2⟩
 ·have h0':(e1 == 0)=false:=by simpa using h0
  have hm:=HR.out.1;unfold pV at hm;rw[HR.out.2] at hm;simp only[h0,jK,fQ] at hm;obtain⟨rfl,rfl⟩:=hm;clear hok;go_wp2;exact uQ (v:=.tuple #[.slice none 0 0,.int .i64 e1]) (by simp[results,results33,go_sem]) rfl ⟨_,[],rfl,rfl,.inl ⟨rfl,rfl⟩,bs b1w (vQ _) _,sQ.nil _⟩
end
section
open Go.RowKit Ds
def xM (f:List Int->Int):List Pt->Int
 | []=>0
 | p::l=>p.2*f p.1+xM f l
theorem fkJ (N:List Int->List Pt)(A:Int)(l:List Pt)(o:List Int):wt (spr N A l) o=xM (fun x=>A / tot (N x)*wt (N x) o) l:=by
 induction l with
 | nil=>rfl
 | cons p l ih =>
  rw[ajX,fL,rC,ih,xM]
  have:wt (N p.1) o*(p.2*(A / tot (N p.1)))=p.2*(A / tot (N p.1)*wt (N p.1) o):=by ac_rfl
  rw[this]
theorem flQ {thn:List Int->List Pt × Int}{l:List Pt}(h:rU thn A l=(A',0))(hA:1<=A)(hd:∀ p∈l,(thn p.1).2=0->Dis (thn p.1).1):A ∣ A'/\1<=A'/\∀ p∈l,(thn p.1).2=0/\tot (thn p.1).1 ∣ A':=by
 induction l generalizing A with
 | nil=>simp[rU] at h;subst h;exact⟨Int.dvd_refl _,hA,fun p hp=>by cases hp⟩
 | cons p l ih =>
  rw[rU] at h;split at h
  ·rename_i h0
   split at h
   ·simp at h
   ·have hn:=hd p (by simp) h0
    have tn:=uO hn.pos hn.ne;obtain⟨n,hnn⟩:∃ n,(thn p.1).1=n:=⟨_,rfl⟩;rw[hnn] at h hn tn;have hgd:(Int.gcd A (tot n):Int) ∣ tot n:=Int.gcd_dvd_right _ _;have hgA:(Int.gcd A (tot n):Int) ∣ A:=Int.gcd_dvd_left _ _
    have hgp:0<(Int.gcd A (tot n):Int):=by
     have:0<Int.gcd A (tot n):=Int.gcd_pos_of_ne_zero_left _ (by omega);omega
    have hg0:0<tot n / (Int.gcd A (tot n):Int):=jE tn (by omega) hgd;obtain⟨i1,i2,i3⟩:=ih h (uL (by omega) hg0) fun q hq=>hd q (by simp[hq])
    have hdn:tot n ∣ A*(tot n / (Int.gcd A (tot n):Int)):=by
     obtain⟨c,hc⟩:=hgA;refine⟨c,?_⟩;have e2:(Int.gcd A (tot n):Int)*(tot n / (Int.gcd A (tot n):Int))=tot n:=anQ hgd;have e3:A*(tot n / (Int.gcd A (tot n):Int))=(Int.gcd A (tot n):Int)*c*(tot n / (Int.gcd A (tot n):Int)):=congrArg (· * (tot n / (Int.gcd A (tot n):Int))) hc;rw[e3,Int.mul_right_comm,e2]
    refine⟨Int.dvd_trans (Int.dvd_mul_right _ _) i1,i2,fun q hq=>?_⟩;rcases fX.1 hq with rfl|hq
    ·exact⟨h0,by rw[hnn];exact Int.dvd_trans hdn i1⟩
    ·exact i3 q hq
  ·rename_i h0
   simp only[fQ] at h;exact absurd h.2 h0
theorem flX {k l':List Pt}(hn:Nn k)(hok:∀ o,0<wt k o->okO o=true)(h:bU (gath k)=(l',0)):Dis l'/\∃ g:Int,0<g/\(∀ o,wt k o=g*wt l' o)/\tot k=g*tot l':=by
 have hp:=yR hn;obtain⟨a,b,c,d,e,f⟩:=rW hp (vR k) h;have hne:gath k≠[]:=by intro h0;rw[h0] at h;simp[bU] at h
 have hl:l' = cut (dv (gath k)) (gath k):=by
  unfold bU at h;rw[xQ hne] at h;split at h
  ·simp at h
  ·simp at h;exact h.symm
 have hg:grow (dv (gath k)) l' = gath k:=by rw[hl];exact pW fun p hp=>fT hp
 have hd:=eT hp hne;have hw:∀ o,wt k o=(dv (gath k):Int)*wt l' o:=fun o=>by rw[<-ayJ,hg,dT]
 refine⟨⟨a,b,c,d,?_,e,f⟩,dv (gath k),by omega,hw,by rw[<-azQ,hg,qW]⟩;rw[dL];intro p hpm;have h1:0<wt k p.1:=by rw[hw];exact uL (by omega) (lR a b hpm)
 have h3:=jZ.le_tot (Nn.of_pos b) hpm;have h4:=b p hpm;unfold tJ;rw[uK];exact⟨by simp;omega,hok _ h1⟩
theorem Dis.okO {l:List Pt}(h:Dis l){p:Pt}(hp:p∈l):okO p.1=true:=by
 have:=dL.1 h.ok p hp;unfold tJ at this;rw[uK] at this;exact this.2
theorem fH.down {l:List Pt}{j h:Nat}{p:Pt}(c:fH l y i j)(hr:cZ l)(hp:l[h]? = some p)(hge:¬ sJ p.1 y):fH l y i h:=by
 refine⟨c.1,fun q r hq hr2 hlt=>?_⟩;by_cases hqh:q=h
 ·subst hqh;rw[hp] at hr2;simp at hr2;subst hr2;exact hge hlt
 ·exact hge (cF (oW hr (by omega) hp hr2) hlt)
theorem fmQ (B nb:Nat)(v u:Value)(k0:Int)(ts:List Tr)(y:List Int)(w:World)(hB:B<=w.heap.size)(hp:dQ w B v ts)(hu:jQ w B nb u y)(hrise:cZ (rd ts)) :
  Calls prog 36 #[v,.agg #[u,.int .i64 k0],.func (.func 37) #[] #[]] w fun e w'=>∃ (i:Nat) (f:Bool),e=.returned (.tuple #[.int .i64 (i:Int),.bool f])/\i<=ts.length /\
   (f=true->∃ t,ts[i]? = some t/\t.2.1=y)/\(f=false->∀ p∈rd ts,p.1≠y)/\Below w.heap.size w w':=by
 have HP:=qQ hp;have HU:=qQ hu;have HR:=qQ hrise;obtain⟨a,c,rfl,hc,hl,_⟩:=hp;obtain⟨ua,uc,rfl,_⟩:=hu;clear hrise;obtain⟨W,hW⟩:∃ W,w.alloc (.cells #[.slice ua y.length uc,.int .i64 k0] 77)=W:=⟨_,rfl⟩;have HW:Hid (Below w.heap.size w W):=hW▸ba w _;have hWs:W.heap.size=w.heap.size+1:=by rw[<-hW];simp
 have p1:W.cell? ⟨w.heap.size,0,none⟩=some (.slice ua y.length uc):=by rw[<-hW];simp[go_sem]
 have p2:W.cell? ⟨w.heap.size,1,none⟩=some (.int .i64 k0):=by rw[<-hW];simp[go_sem]
 go_enter func36,ntmps36;go_wp2;clear hW
 go_loopw [9,10] (fun s t wr=>∃ i j:Nat,s=.int .i64 (i:Int)/\t=.int .i64 (j:Int)/\i<=j/\j<=ts.length/\fH (rd ts) y i j/\Below W.heap.size W wr) (fun s t _=>(intOf t).toNat - (intOf s).toNat)
 case atStart=>exact⟨0,ts.length,rfl,rfl,kQ _,vQ _,⟨fun q p h=>absurd h (by omega),fun q p h hq=>absurd (cQ.1 hq).1 (by rw[tV];omega)⟩,aQ _ _⟩
 case round =>
  obtain⟨i,j,rfl,rfl,hij,hjt,hcut,hbl⟩:=hrel;have HL:=qQ hcut;have hbw:Below w.heap.size w wr:=bt HW.out hbl;have q1:wr.cell? ⟨w.heap.size,0,none⟩=some (.slice ua y.length uc):=(hbl.cell (p:=⟨w.heap.size,0,none⟩) (by show w.heap.size<W.heap.size;omega)).trans p1;have q2:wr.cell? ⟨w.heap.size,1,none⟩=some (.int .i64 k0):=(hbl.cell (p:=⟨w.heap.size,1,none⟩) (by show w.heap.size<W.heap.size;omega)).trans p2;have hws:=hbl.size;have lw:w.heap.size<wr.heap.size:=by omega
  have HUr:=qQ (HU.out.at hB hbw);clear hcut;by_cases h1:i<j
  ·obtain⟨h,hh⟩:∃ h:Nat,((i:Int)+(j:Int)) / 2=(h:Int):=⟨(i+j) / 2,by omega⟩
   have hh1:i<=h:=by omega
   have hh2:h<j:=by omega
   obtain⟨b,o,sa,sc,xs,kx,rfl,hb,hs,c1,c2,hIx⟩:=HP.out.get hB hbw (i:=h) (by omega);have HIx:=qQ hIx;have HS:=qQ (sV hs);obtain⟨r1,HC⟩:∃ r1,Hid (nX xs y=r1):=⟨_,rfl⟩;have lb:b<wr.heap.size:=by omega
   have z1:(0:Int)<=(h:Int):=by omega
   have z2:(h:Int)<(ts.length:Int):=by omega
   clear hIx hs;go_wp2_with fail
   go_region_held3 (fun w'=>Below wr.heap.size wr w'/\w'.cell? ⟨w.heap.size,0,none⟩=some (.slice ua y.length uc)/\w'.cell? ⟨w.heap.size,1,none⟩=some (.int .i64 k0)/\w'.cell? ⟨b,o+h*2,none⟩=some (.slice sa xs.length sc)/\w'.cell? ⟨b,o+h*2+1,none⟩=some (.int .i64 kx))
    ((go_split_ands;refine⟨?_,?_,?_,?_,?_⟩ <;> first|(simp[go_sem, *];done)|(exact(aQ _ _).drew)|(exact bt (aQ _ _).drew hb1)))
    ((go_at_call 37;refine(pT B B nb _ _ _ _ xs y _ ?_ ?_ ?_ r1 HC.out).mono ?_;(show B<=wr.heap.size;omega);(exact HIx.out.keep (aQ _ _).drew);(exact HUr.out.keep (aQ _ _).drew);rintro x1 w1 ⟨rfl,hb1⟩;obtain⟨hc1,hf1⟩:=bcell hb1;have hs1':=hb1.size;have k1:w1.cell? ⟨w.heap.size,0,none⟩=some (.slice ua y.length uc):=(hc1 _ _ lw).trans q1;have k2:w1.cell? ⟨w.heap.size,1,none⟩=some (.int .i64 k0):=(hc1 _ _ lw).trans q2;have k3:w1.cell? ⟨b,o+h*2,none⟩=some (.slice sa xs.length sc):=(hc1 _ _ lb).trans c1;have k4:w1.cell? ⟨b,o+h*2+1,none⟩=some (.int .i64 kx):=(hc1 _ _ lb).trans c2;clear hc1 hf1))
   rename_i hHeld;clear hHeld k1 k2 k3 k4 c1 c2 q1 q2;by_cases hr:r1<0
   ·have hup:Hid (fH (rd ts) y (h+1) j):=HL.out.up HR.out HS.out (by show nX xs y<0;rw[HC.out];exact hr)
    go_wp2
    go_roundw
    case rel=>exact⟨h+1,j,by go_num,rfl,hh2,hjt,hup.out,bt hbl.drew hb1⟩
    case measure=>simp[intOf];omega
   ·have hdn:Hid (fH (rd ts) y i h):=HL.out.down HR.out HS.out (by show ¬ nX xs y<0;rw[HC.out];exact hr)
    go_wp2
    go_roundw
    case rel=>exact⟨i,h,rfl,by go_num,hh1,by omega,hdn.out,bt hbl.drew hb1⟩
    case measure=>simp[intOf];omega
  ·have hji:j=i:=by omega
   subst hji;by_cases h2:j<ts.length
   ·obtain⟨b,o,sa,sc,xs,kx,rfl,hb,hs,c1,c2,hIx⟩:=HP.out.get hB hbw h2
    have HIx:=qQ hIx;have HS:=qQ hs;obtain⟨r1,HC⟩:∃ r1,Hid (nX xs y=r1):=⟨_,rfl⟩;have lb:b<wr.heap.size:=by omega
    have z1:(0:Int)<=(j:Int):=by omega
    have z2:(j:Int)<(ts.length:Int):=by omega
    clear hIx hs;go_wp2_with fail
    go_region_held3 (fun w'=>Below wr.heap.size wr w'/\w'.cell? ⟨w.heap.size,0,none⟩=some (.slice ua y.length uc)/\w'.cell? ⟨w.heap.size,1,none⟩=some (.int .i64 k0)/\w'.cell? ⟨b,o+j*2,none⟩=some (.slice sa xs.length sc)/\w'.cell? ⟨b,o+j*2+1,none⟩=some (.int .i64 kx))
     ((go_split_ands;refine⟨?_,?_,?_,?_,?_⟩ <;> first|(simp[go_sem, *];done)|(exact(aQ _ _).drew)|(exact bt (aQ _ _).drew hb1)))
     ((go_at_call 37;refine(pT B B nb _ _ _ _ xs y _ ?_ ?_ ?_ r1 HC.out).mono ?_;(show B<=wr.heap.size;omega);(exact HIx.out.keep (aQ _ _).drew);(exact HUr.out.keep (aQ _ _).drew);rintro x1 w1 ⟨rfl,hb1⟩;obtain⟨hc1,hf1⟩:=bcell hb1;have hs1':=hb1.size;have k1:w1.cell? ⟨w.heap.size,0,none⟩=some (.slice ua y.length uc):=(hc1 _ _ lw).trans q1;have k2:w1.cell? ⟨w.heap.size,1,none⟩=some (.int .i64 k0):=(hc1 _ _ lw).trans q2;have k3:w1.cell? ⟨b,o+j*2,none⟩=some (.slice sa xs.length sc):=(hc1 _ _ lb).trans c1;have k4:w1.cell? ⟨b,o+j*2+1,none⟩=some (.int .i64 kx):=(hc1 _ _ lb).trans c2;clear hc1 hf1))
    rename_i hHeld;clear hHeld k1 k2 k3 k4 c1 c2 q1 q2;by_cases hr:r1=0
    ·have hxy:Hid (xs=y):=(dH _ _).1 (HC.out.trans hr)
     subst hr;go_wp2;exact uQ (v:=.tuple #[.int .i64 (j:Int),.bool true]) (by simp[results,results36,go_sem]) rfl ⟨j,true,rfl,by omega,fun _=>⟨_,HS.out,hxy.out⟩,fun h=>by simp at h,bt hbw.drew hb1⟩
    ·have hr':(r1 == 0)=false:=by simpa using hr
     have hno:Hid (∀ p∈rd ts,p.1≠y):=HL.out.none HR.out (by
      intro p hp he;rw[sV HS.out] at hp;simp at hp;subst hp;exact hr (by rw[<-HC.out];exact(dH _ _).2 he))
     go_wp2;exact uQ (v:=.tuple #[.int .i64 (j:Int),.bool false]) (by simp[results,results36,go_sem,hr']) rfl ⟨j,false,rfl,by omega,fun h=>by simp at h,fun _=>hno.out,bt hbw.drew hb1⟩
   ·have hno:Hid (∀ p∈rd ts,p.1≠y):=HL.out.none HR.out (by
     intro p hp;have:=(cQ.1 hp).1;rw[tV] at this;omega)
    go_wp2_with fail;go_quiet (fail);go_wp2;exact uQ (v:=.tuple #[.int .i64 (j:Int),.bool false]) (by simp[results,results36,go_sem]) rfl ⟨j,false,rfl,by omega,fun h=>by simp at h,fun _=>hno.out,below_drewN hbw _⟩
def wC (l:List Pt) (y:List Int):Int × Int × Int:=if (pX l).2=0 then Rt.kY (wt l y) (tot l) else (0,0,(pX l).2)
theorem nS (B nb:Nat)(v u:Value)(ts:List Tr)(y:List Int)(w:World)(hB:B<=w.heap.size)(hp:dQ w B v ts)(hu:jQ w B nb u y)(n m er:Int)(hr:wC (rd ts) y=(n,m,er)) :
  Calls prog 18 #[v,u] w fun e w'=>e=.returned (.tuple #[rv n m,.int .i64 er])/\Below w.heap.size w w':=by
 have HP:=qQ hp;have HU:=qQ hu;obtain⟨a,c,rfl,hc,hl,_⟩:=hp;obtain⟨ua,uc,rfl,_⟩:=hu;obtain⟨⟨l,e1⟩,ho⟩:∃ x,pX (rd ts)=x:=⟨_,rfl⟩;rw[wC,ho] at hr;simp only at hr;have HR:Hid ((if e1=0 then Rt.kY (wt (rd ts) y) (tot (rd ts)) else (0,0,e1))=(n,m,er)/\pX (rd ts)=(l,e1)):=⟨hr,ho⟩;clear hr ho;obtain⟨W,hW⟩:∃ W,w.alloc (.cells #[.int .i64 0,.int .i64 0] 32)=W:=⟨_,rfl⟩;have HW:Hid (Below w.heap.size w W):=hW▸ba w _;have hWs:W.heap.size=w.heap.size+1:=by rw[<-hW];simp
 have p1:W.cell? ⟨w.heap.size,0,none⟩=some (.int .i64 0):=by rw[<-hW];simp[go_sem]
 have p2:W.cell? ⟨w.heap.size,1,none⟩=some (.int .i64 0):=by rw[<-hW];simp[go_sem]
 have p3:W.frozen? ⟨w.heap.size,0,none⟩=false:=by rw[<-hW];simp[go_sem]
 have p4:W.frozen? ⟨w.heap.size,1,none⟩=false:=by rw[<-hW];simp[go_sem]
 have kc:=cR B _ ts W (by omega) (HP.out.at hB HW.out) l e1 HR.out.2;go_enter func18,ntmps18;go_wp2_with fail;clear hW;refine kc.mono ?_;rintro e w1 ⟨v1,us,rfl,hrd,ho,hb1⟩;have HO:=qQ ho;have HD:=qQ hrd;obtain⟨a1,c1,rfl⟩:=ho.slice;have lw:w.heap.size<W.heap.size:=by omega
 obtain⟨hc1,hf1⟩:=bcell hb1;have q1:=(hc1 _ 0 lw).trans p1;have q2:=(hc1 _ 1 lw).trans p2;have q3:=(hf1 _ 0 lw).trans p3;have q4:=(hf1 _ 1 lw).trans p4;have hbw:Below w.heap.size w w1:=bt HW.out hb1;have hs1:=hb1.size;clear ho hrd kc p1 p2 p3 p4 hc1 hf1 hb1;by_cases h0:e1=0
 ·subst h0
  obtain⟨hle,hdis⟩:=mD HR.out.2;have HL:Hid (rd us=rd ts/\Dis (rd ts)):=⟨HD.out.trans hle,hdis⟩;have hmk:=HR.out.1;rw[zQ rfl] at hmk;have HM:=qQ hmk;have kb:=fmQ w1.heap.size nb (.slice a1 us.length c1) (.slice ua y.length uc) 0 us y w1 (vQ _) HO.out.parts ((HU.out.at hB hbw).mono (bQ hB hbw.size) (.inl rfl)) (by rw[HL.out.1];exact hdis.rise);clear hle hdis hmk HR HD;go_wp2_with fail;refine kb.mono ?_;rintro e w2 ⟨i,f,rfl,hil,hyes,hno,hb2⟩;clear kb;have lw1:w.heap.size<w1.heap.size:=by omega
  obtain⟨T,HT⟩:∃ T,Hid (tot (rd ts)=T):=⟨_,rfl⟩;have hT1:T<=1073741824:=by rw[<-HT.out];exact HL.out.2.le
  cases f with
  | false =>
   have hw0:wt (rd ts) y=0:=by rw[<-HL.out.1];exact jR (hno rfl)
   have HM2:Hid (Rt.kY 0 T=(n,m,er)):=by have:=HM.out;rw[hw0,HT.out] at this;exact this
   clear hyes hno hw0 HM;have kt:=nM w2.heap.size (.slice a1 us.length c1) us w2 (vQ _) (HO.out.keep hb2).parts (by rw[HL.out.1];exact Nn.of_pos HL.out.2.pos) (by rw[HL.out.1];have:=HL.out.2.le;omega) T (by rw[HL.out.1];exact HT.out);have km:=fun W=>nW 0 T n m er (by omega) (by omega) HM2.out W;go_wp2_with fail;refine kt.mono ?_;rintro e w3 ⟨rfl,hb3⟩;obtain⟨hc3,hf3⟩:=bcell (bt hb2 hb3);have s1:=(hc3 _ 0 lw1).trans q1;have s2:=(hc3 _ 1 lw1).trans q2;have s3:=(hf3 _ 0 lw1).trans q3;have s4:=(hf3 _ 1 lw1).trans q4;have hb23:Below w1.heap.size w1 w3:=bt hb2 hb3;clear kt hc3 hf3 q1 q2 q3 q4;go_wp2_with fail;refine(km _).mono ?_;rintro e w4 ⟨rfl,hb4⟩;obtain⟨hc4,hf4⟩:=bcell hb4;have lw3:w.heap.size<w3.heap.size:=by have:=hb23.size;omega
   have t1:=(hc4 _ 0 lw3).trans s1;have t2:=(hc4 _ 1 lw3).trans s2;have t3:=(hf4 _ 0 lw3).trans s3;have t4:=(hf4 _ 1 lw3).trans s4;clear hc4 hf4 s1 s2 s3 s4 km;go_wp2;exact uQ (v:=.tuple #[rv n m,.int .i64 er]) (by simp[results,results18,go_sem,t1,t2]) rfl ⟨rfl,bs (bs (bt (bt hbw hb23) hb4) (vQ _) _) (vQ _) _⟩
  | true =>
   obtain⟨⟨s,xs,k⟩,hs,hxs⟩:=hyes rfl;simp only at hxs;subst hxs;have hilt:=(cQ.1 hs).1;have hw0:wt (rd ts) xs=k:=by rw[<-HL.out.1];exact auX (by rw[HL.out.1];exact HL.out.2.rise) (sV hs)
   have HM2:Hid (Rt.kY k T=(n,m,er)):=by have:=HM.out;rw[hw0,HT.out] at this;exact this
   have hk1:k<=1073741824:=by
    have:=jZ.le_tot (Nn.of_pos HL.out.2.pos) (p:=(xs,k)) (by rw[<-HL.out.1];exact qX (sV hs));have:=HL.out.2.le;simp only at *
    omega
   obtain⟨b,o,sa,sc,xs',k',ha1,hb,hs',d1,d2,_⟩:=(HO.out.keep hb2).parts.get (vQ _) (aQ _ w2) hilt;subst ha1
   have hk':k' = k:=by
    rw[hs] at hs';simp only[zX,fQ] at hs';exact hs'.2.2.symm
   subst hk';have z1:(0:Int)<=(i:Int):=by omega
   have z2:(i:Int)<(us.length:Int):=by omega
   clear hyes hno hw0 HM hs hs';have kt:=nM w2.heap.size (.slice (some ⟨b,o,none⟩) us.length c1) us w2 (vQ _) (HO.out.keep hb2).parts (by rw[HL.out.1];exact Nn.of_pos HL.out.2.pos) (by rw[HL.out.1];have:=HL.out.2.le;omega) T (by rw[HL.out.1];exact HT.out);have km:=fun W=>nW k' T n m er (by omega) (by omega) HM2.out W;go_wp2_with fail;refine kt.mono ?_;rintro e w3 ⟨rfl,hb3⟩;obtain⟨hc3,hf3⟩:=bcell (bt hb2 hb3);have s1:=(hc3 _ 0 lw1).trans q1;have s2:=(hc3 _ 1 lw1).trans q2;have s3:=(hf3 _ 0 lw1).trans q3;have s4:=(hf3 _ 1 lw1).trans q4;have hb23:Below w1.heap.size w1 w3:=bt hb2 hb3;clear kt hc3 hf3 q1 q2 q3 q4;go_wp2_with fail;refine(km _).mono ?_;rintro e w4 ⟨rfl,hb4⟩;obtain⟨hc4,hf4⟩:=bcell hb4;have lw3:w.heap.size<w3.heap.size:=by have:=hb23.size;omega
   have t1:=(hc4 _ 0 lw3).trans s1;have t2:=(hc4 _ 1 lw3).trans s2;have t3:=(hf4 _ 0 lw3).trans s3;have t4:=(hf4 _ 1 lw3).trans s4;clear hc4 hf4 s1 s2 s3 s4 km;go_wp2;exact uQ (v:=.tuple #[rv n m,.int .i64 er]) (by simp[results,results18,go_sem,t1,t2]) rfl ⟨rfl,bs (bs (bt (bt hbw hb23) hb4) (vQ _) _) (vQ _) _⟩
 ·have h3:=HR.out.1
  rw[xQ h0] at h3;simp only[fQ] at h3;obtain⟨rfl,rfl,rfl⟩:=h3;have h0':(e1 == 0)=false:=by simpa using h0
  have h0'':(e1 != 0)=true:=by simpa using h0
  go_wp2;exact uQ (v:=.tuple #[rv 0 0,.int .i64 e1]) (by simp[results,results18,go_sem,q1,q2]) rfl ⟨rfl,bs (bs hbw (vQ _) _) (vQ _) _⟩
def dD (fs:List Fl):List Value:=fs.flatMap fun f=>[f.1.1,f.2.1]
theorem fsJ (fs:List Fl):(dD fs).length=fs.length*2:=by
 induction fs with
 | nil=>rfl
 | cons t ts ih=>simp[dD] at *;omega
theorem ftQ (fs:List Fl)(i:Nat):(dD fs)[i*2]? = fs[i]?.map (·.1.1)/\(dD fs)[i*2+1]? = fs[i]?.map (·.2.1):=by
 induction fs generalizing i with
 | nil=>simp[dD]
 | cons t ts ih =>
  cases i with
  | zero=>simp[dD]
  | succ i =>
   have h:=ih i;have e:dD (t::ts)=t.1.1::t.2.1::dD ts:=rfl;rw[e,show(i+1)*2=i*2+1+1 by omega,show i*2+1+1+1=(i*2+1)+1+1 by omega];simpa using h
theorem ftX (fs:List Fl)(f:Fl):dD (fs++[f])=dD fs++[f.1.1,f.2.1]:=by simp[dD]
def fA (w:World) (lo:Nat) (v:Value) (fs:List Fl):Prop :=
 w.ownsRow lo 110 2 v fs.length (dD fs)/\∀ f∈fs,∃ m,jQ w w.heap.size m f.1.1 f.1.2/\kU w w.heap.size m f.2.1 f.2.2/\∀ g,v.ownBlock=some g->m=g
theorem fA.nil (w:World)(lo:Nat):fA w lo (.slice none 0 0) []:=⟨⟨rfl,.inl ⟨rfl,rfl⟩⟩,fun t ht=>by cases ht⟩
theorem fA.keep {lo:Nat}{fs:List Fl}(h:fA w lo v fs)(hb:Below w.heap.size w w'):fA w' lo v fs :=
 ⟨mL h.1 hb,fun t ht=>let ⟨m,h1,h2,h3⟩:=h.2 t ht;⟨m,h1.at2 hb,h2.at2 hb,h3⟩⟩
theorem fA.slice {lo:Nat}{fs:List Fl}(h:fA w lo v fs):∃ a c,v=.slice a fs.length c:=eF h.1
theorem fA.lt {lo:Nat}{fs:List Fl}(h:fA w lo v fs):∀ g,v.ownBlock=some g->lo<=g/\g<w.heap.size:=h.1.lt
theorem fA.app {lo:Nat}{fs:List Fl}{f:Fl}(h:fA W lo v fs)(hown:w'.ownsRow lo 110 2 v' (fs.length+1) (dD fs++[f.1.1,f.2.1]))(hg:W.grownBy w' v.ownBlock)
  (hat:v'.ownBlock=v.ownBlock\/v'.ownBlock=some W.heap.size) (hi:jQ W W.heap.size m f.1.1 f.1.2) (hp:kU W W.heap.size m f.2.1 f.2.2) (hm:∀ g,v.ownBlock=some g->m=g):fA w' lo v' (fs++[f]):=by
 refine⟨by rw[ftX];simpa using hown,fun t ht=>?_⟩
 have key:∀ (m:Nat) (t:Fl),jQ W W.heap.size m t.1.1 t.1.2->kU W W.heap.size m t.2.1 t.2.2->(∀ g,v.ownBlock=some g->m=g)->∃ m',jQ w' w'.heap.size m' t.1.1 t.1.2/\kU w' w'.heap.size m' t.2.1 t.2.2/\∀ g,v'.ownBlock=some g->m' = g:=by
  intro m t h1 h3 h2;rcases hat with hat|hat
  ·exact⟨m,h1.grow hg (vQ _) h2 (.inl rfl),h3.grow hg h2 (.inl rfl),by rw[hat];exact h2⟩
  ·exact⟨W.heap.size,h1.grow hg (vQ _) h2 (.inr (vQ _)),h3.grow hg h2 (.inr (vQ _)),by rw[hat];intro g e;simpa using e⟩
 rcases kV.1 ht with ht|ht
 ·obtain⟨m,h1,h2,h3⟩:=h.2 t ht
  exact key m t h1 h2 h3
 ·obtain rfl:t=f:=by simpa using ht
  exact key m t hi hp hm
theorem fA.fws {lo:Nat}{fs:List Fl}(h:fA w lo v fs)(hl:fs.length<=1073741824):cD w w.heap.size v fs:=by
 have hi:∀ t∈fs,jQ w w.heap.size w.heap.size t.1.1 t.1.2/\dQ w w.heap.size t.2.1 t.2.2:=fun t ht=>let ⟨m,h1,h2,_⟩:=h.2 t ht;⟨h1.mono (vQ _) (.inr (vQ _)),h2.parts⟩;obtain⟨hlen,⟨hv,h0⟩|⟨g,cap,cur,hv,hb,hcur,hc,_,hsz,hx⟩⟩:=h.1
 ·obtain rfl:fs=[]:=jI.1 h0
  exact⟨none,0,hv,vQ _,hl,hi,fun h=>absurd rfl h⟩
 ·have hget:∀ j u,(dD fs)[j]? = some u->w.cell? ⟨g,0+j,none⟩=some u:=by
   intro j u hj;have hj2:j<fs.length*2:=by rw[<-fsJ];exact(cQ.1 hj).1
   have:cur[j]? = some u:=by
    rw[<-hx,vF hj2] at hj;simpa using hj
   simp[World.cell?,hcur,this]
  refine⟨_,cap,hv,hc,hl,hi,fun _=>⟨g,0,rfl,(yJ.1 hcur).1,fun i t ht=>?_⟩⟩;have hg:=ftQ fs i;exact⟨hget _ _ (by rw[hg.1,ht];rfl),by rw[vV];exact hget _ _ (by rw[hg.2,ht];rfl)⟩

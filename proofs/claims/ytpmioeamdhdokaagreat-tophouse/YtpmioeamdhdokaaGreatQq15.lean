import Derived.Test.YtpmioeamdhdokaaGreatQq14
open Go.Proofs.Tryz
set_option linter.unusedSimpArgs false
set_option maxHeartbeats 16000000
set_option maxRecDepth 100000
namespace Go.Proofs.YtpmioeamdhdokaaGreat
variable {W w w' wr:World} {B c h h' i m m' m0 n nb:Nat} {a:Option Addr} {xs:List Int} {s v x:Value} {row:Option Nat}
section
open Go.RowKit Ds
open Go.Maps (Keyed int_keyed keyOf_int_mk)
theorem c1J:(prog.info? 66).map (fun i=>(i.zero,i.size,i.bytes))=some (some (.slice none 0 0),1,24):=by kernel_rfl
def yX (z:Int):Prop:=-9223372036854775808<=z/\z<=9223372036854775807
theorem jQ.get' (hp:jQ w B nb (.slice a n c) xs)(hB:B<=w.heap.size)(hbl:Below w.heap.size w wr)(h:i<xs.length) :
  ∃ b o x,a=some ⟨b,o,none⟩/\b<w.heap.size/\xs[i]? = some x/\wr.cell? ⟨b,o+i,none⟩=some (.int .i64 x):=by
 obtain⟨a',c',hv,hc,hl,hx⟩:=hp;simp only[iZ] at hv;obtain⟨rfl,rfl,rfl⟩:=hv;obtain⟨b,o,ha,hb,hn,hcell⟩:=hx (ne_of_lt h);obtain⟨x,hxx⟩:=cX h;exact⟨b,o,x,ha,by omega,hxx,(hbl.cell (p:=⟨b,o+i,none⟩) (by show b<w.heap.size;omega)).trans (hcell i x hxx)⟩
theorem c2Q (B nb:Nat)(u d lo hi:Int)(v:Value)(ns:List Int)(w:World)(hB:B<=w.heap.size)(hx:jQ w B nb v ns)(hlo:yX lo)(hhi:yX hi)(hns:∀ n∈ns,yX n)(hlen:ns.length<=1048576)(l:List (List Pt))(er:Int)(hr:xY u d lo hi ns=(l,er)) :
  Calls prog 47 #[rv u d,.int .i64 lo,.int .i64 hi,v] w (l8 w l er):=by
 have HX:=qQ hx;have HR:=qQ hr;have HNS:Hid ((∀ n∈ns,yX n)/\yX lo/\yX hi):=⟨hns,hlo,hhi⟩;obtain⟨va,vc,rfl,_⟩:=hx;obtain⟨i0,hi0,hz0,hz1,hz2⟩:=rJ c1J
 have hmk:∀ u:World,(Instr.makeSlice 77 (.int .i64 (ns.length:Int)) (.int .i64 (ns.length:Int))).run prog u =
   .ok (.slice (some ⟨u.heap.size,0,none⟩) ns.length ns.length) (u.alloc (.cells (madeCells #[.slice none 0 0] ns.length) 66)):=fun u=>by
  have h:=run_make (P:=prog) u 77 66 i0 (.slice none 0 0) underlying77 hi0 hz0 .i64 .i64 (ns.length:Int) (ns.length:Int) (by omega) (zG _) (by rw[hz2];omega) (by omega);rw[vK] at h;simpa [hz1,Value.cells] using h
 have hmm:=@run_makeMap prog;have q26:∀ (w:World) (a:Option Addr) (n c n' c':Nat),(binOp .eql 66 (.slice a n c) (.slice none n' c')).run prog w=.ok (.bool a.isNone) w:=fun w a n c n' c'=>nP w _ _ a n c n' c' underlying66;clear hr hns hlo hhi;go_enter func47,ntmps47;go_wp2
 go_loopw [23] (fun s wr=>∃ (i:Nat) (zs:List Dz) (D:DataW Value) (m:Nat),s=.int .i64 (i:Int)/\i<=ns.length/\Hid (zs.length=ns.length/\rds (zs.take i)=(ns.take i).map (fun n=>(vV u d lo hi n).1)/\∀ x∈ns.take i,(vV u d lo hi x).2=0)/\Hid (RowD wr (w.heap.size+1+1) (w.heap.size+1+1+1) zs)/\Hid (Mpi wr (w.heap.size+1) m (w.heap.size+1+1+1) D u d lo hi)/\m<=i/\Below w.heap.size w wr/\w.heap.size+1+1+1<=wr.heap.size/\wr.cell? ⟨w.heap.size,0,none⟩=some (.int .i64 u)/\wr.cell? ⟨w.heap.size,1,none⟩=some (.int .i64 d)) (fun s _=>ns.length - (intOf s).toNat)
 case atStart =>
  refine⟨0,List.replicate ns.length (.slice none 0 0,[]),.map [],0,rfl,kQ _,⟨by simp,by simp[rds],by simp⟩,?_,?_,vQ _,bal (bal (ba _ _) _) _,by simp,by simp[go_sem],by simp[go_sem]⟩
  ·have:=c0J ((w.alloc (.cells #[.int .i64 u,.int .i64 d] 37)).alloc (.map #[] 0)) ns.length (w.heap.size+1+1+1)
   simpa [Hid] using this
  ·have:=(Mpi.made (w.alloc (.cells #[.int .i64 u,.int .i64 d] 37)) (w.heap.size+1+1+1) u d lo hi).keep (ba _ (.cells (madeCells #[.slice none 0 0] ns.length) 66))
   simpa [Hid] using this
 case round =>
  obtain⟨i,zs,D,m,rfl,hit,HZ,HRw,HMp,hmi,hbl,hsz,c1,c2⟩:=hrel;by_cases h1:i<ns.length
  ·obtain⟨b,o,x,rfl,hb,hxi,hcx⟩:=HX.out.get' hB hbl h1
   have HX1:=qQ hxi;obtain⟨p,hp0⟩:∃ p,yG lo hi x=p:=⟨_,rfl⟩;have HPX:=qQ hp0
   have hp:(Lit.int .i64 p).wf=true:=by
    have h2:=HNS.out.1 x (rQ hxi);have h3:=HNS.out.2;unfold yX at h2 h3;refine WalkArith.wf_i64 ?_;rw[<-hp0];unfold yG;omega
   have ki:=bR x lo hi wr;rw[hp0] at ki;obtain⟨vv,hvv,hor⟩:=HMp.out.el p;have hrun1:=HMp.out.look hp hvv;have HVV0:=qQ hvv;clear hxi hp0 hvv;rcases hor with rfl|⟨us,hdd,hne,hhp⟩
   ·obtain⟨⟨l1,e1⟩,hh⟩:∃ y,vV u d lo hi p=y:=⟨_,rfl⟩
    have kh:=czZ u d lo hi p l1 e1 hh;have HH:=qQ hh;clear hh;go_wp2_with fail;refine ki.mono ?_;rintro e w1 ⟨rfl,rfl⟩;go_wp2_with fail;refine(kh _).mono ?_;rintro e w2 ⟨v2,us,rfl,k1,k2,k3,k4⟩;obtain⟨a2,c2',hv2⟩:=k2.slice;subst hv2;have hbw2:=bt hbl k3;by_cases he1:e1=0
    ·subst he1
     have hs2:=k3.size;have HM2:=qQ (HMp.out.keep k3);have HR2:=qQ (HRw.out.keep k3);have HD2:Hid (Dd w2 (w.heap.size+1+1+1) (.slice a2 us.length c2') us):=(show Dd w2 w1.heap.size (.slice a2 us.length c2') us from ⟨k2,k4⟩).mono hsz;have HHV:Hid (vV u d lo hi p=(rd us,0)):=by rw[Hid,k1];exact HH.out
     have hne:Hid (us≠[]):=by intro h;have:=c1Z HHV.out;rw[h] at this;exact this rfl
     have f1:w2.cell? ⟨w.heap.size,0,none⟩=some (.int .i64 u):=((bcell k3).1 _ _ (by omega)).trans c1;have f2:w2.cell? ⟨w.heap.size,1,none⟩=some (.int .i64 d):=((bcell k3).1 _ _ (by omega)).trans c2;clear k1 k2 k3 k4 kh hrun1 ki;go_wp2_with (at_mapUpdate;refine wpList_mapUpdate_own _ rfl _ _ _ 190 rfl 3 66 gL underlying190 hR (w.heap.size+1) m D rfl HM2.out.own (by unfold maxLen;omega) _ _ (.int .i64 p) rfl rfl (keyOf_int_mk underlying3 hp) (.held (.slice a2 us.length c2')) [] rfl ?_);intro w4 hown4 hgrow4;have hs4':=hgrow4.size;have HMW:=qQ (HM2.out.put hgrow4 (by omega) hown4 HD2.out hne.out HHV.out);have HRW:=qQ (HR2.out.beside hgrow4 (by omega) (by omega));have HDV:=qQ (HD2.out.beside hgrow4 (by omega));have HVV:Hid ((D.put (.int .i64 p) (.held (.slice a2 us.length c2'))).atKey (.int .i64 p) (.held (.slice none 0 0))=.held (.slice a2 us.length c2')):=Maps.atKey_put_same (k:=.int .i64 p) HM2.out.own.isMap True.intro _ _;have hbW:Below w.heap.size w w4:=hbw2.grown hgrow4 (by omega) (fun j hj=>by cases hj;omega);have d1:w4.cell? ⟨w.heap.size,0,none⟩=some (.int .i64 u):=hgrow4.cell f1 (by simp);have d2:w4.cell? ⟨w.heap.size,1,none⟩=some (.int .i64 d):=hgrow4.cell f2 (by simp);clear hown4 hgrow4 HM2 HR2 HD2 f1 f2 HRw HMp;have hrun2:=HMW.out.look hp HVV.out;have kcp:=ayJ w4.heap.size _ us w4 (vQ _) HDV.out.1.parts;obtain⟨z0,hz0⟩:=cX (l:=zs) (i:=i) (by rw[HZ.out.1];exact h1);have r1:=HRW.out.cell i z0 hz0;have r2:=HRW.out.thaw i (by rw[HZ.out.1];exact h1);have hsW:=HRW.out.lt;obtain⟨z1,hz1'⟩:∃ z1,z0.1=z1:=⟨_,rfl⟩;rw[hz1'] at r1;clear hz0 hz1';go_wp2_with fail;refine kcp.mono ?_;rintro e w3 ⟨v3,us3,rfl,k1,k2,k3,k4⟩;obtain⟨a3,c3,hv3⟩:=k1.slice;subst hv3;have hs3:=k3.size;have q1:w3.cell? ⟨w.heap.size+1+1,i,none⟩=some z1:=((bcell k3).1 _ _ hsW).trans r1;have q2:w3.frozen? ⟨w.heap.size+1+1,i,none⟩=false:=((bcell k3).2 _ _ hsW).trans r2;have hlW:w.heap.size+1+1+1<=w4.heap.size:=by omega
     have HD3:Hid (Dd w3 (w.heap.size+1+1+1) (.slice a3 us3.length c3) us3):=(show Dd w3 w4.heap.size (.slice a3 us3.length c3) us3 from ⟨k1,k4⟩).mono hlW;have HR3:=qQ ((HRW.out.keep k3).set (by rw[HZ.out.1];exact h1) (by omega) HD3.out);have HM3:Hid (Mpi (w3.setCell ⟨w.heap.size+1+1,i,none⟩ (.slice a3 us3.length c3)) (w.heap.size+1) (m+1) (w.heap.size+1+1+1) (D.put (.int .i64 p) (.held (.slice a2 us.length c2'))) u d lo hi):=(HMW.out.keep k3).beside (yO w3 (w.heap.size+1+1) i _) (by omega) (by omega);have HB3:Hid (Below w.heap.size w (w3.setCell ⟨w.heap.size+1+1,i,none⟩ (.slice a3 us3.length c3))):=bs (bt hbW k3) (by dsimp only;omega) _
     have HZ3:Hid ((zs.set i (.slice a3 us3.length c3,us3)).length=ns.length/\rds ((zs.set i (.slice a3 us3.length c3,us3)).take (i+1))=(ns.take (i+1)).map (fun n=>(vV u d lo hi n).1)/\∀ x∈ns.take (i+1),(vV u d lo hi x).2=0):=by
      have hx:=HHV.out;rw[<-HPX.out,j8] at hx;refine⟨by simp[HZ.out.1],?_,?_⟩
      ·rw[gM _ (by rw[HZ.out.1];exact h1),gZ,HX1.out]
       have h5:=HZ.out.2.1;simp only[rds,vY] at h5 ⊢;rw[h5];simp[hx,k2]
      ·intro y hy
       rw[gZ,HX1.out] at hy;rcases gV.1 hy with h6|h6
       ·exact HZ.out.2.2 y h6
       ·obtain rfl:y=x:=by simpa using h6
        rw[hx]
     have hs4:w.heap.size+1+1+1<=(w3.setCell ⟨w.heap.size+1+1,i,none⟩ (.slice a3 us3.length c3)).heap.size:=by simp;omega
     have e1:(w3.setCell ⟨w.heap.size+1+1,i,none⟩ (.slice a3 us3.length c3)).cell? ⟨w.heap.size,0,none⟩=some (.int .i64 u):=by rw[gQ (by simp),(bcell k3).1 _ _ (by omega)];exact d1
     have e2:(w3.setCell ⟨w.heap.size+1+1,i,none⟩ (.slice a3 us3.length c3)).cell? ⟨w.heap.size,1,none⟩=some (.int .i64 d):=by rw[gQ (by simp),(bcell k3).1 _ _ (by omega)];exact d2
     clear k1 k3 k4 kcp hrun2 d1 d2;go_wp2
     go_roundw
     case rel=>exact⟨i+1,_,_,_,by go_num,h1,HZ3,HR3,HM3,by omega,HB3.out,hs4,e1,e2⟩
     case measure=>simp[intOf];omega
    ·have hne1:(e1 == 0)=false:=by simpa using he1
     have hne2:(e1 != 0)=true:=by simpa using he1
     have hh:=HH.out;rw[<-HPX.out,j8] at hh;have hE:=c1X HZ.out.2.2 HX1.out (e:=e1) (by rw[hh]) he1;rw[hE] at HR;have hR':=HR.out;simp only[dQ] at hR';obtain⟨rfl,rfl⟩:=hR';clear k1 k2 k4 kh hrun1 ki hE hh HH HVV0;go_wp2;exact uQ (v:=.tuple #[.slice none 0 0,.int .i64 e1]) (by simp[results,results47,go_sem]) rfl ⟨_,[],rfl,rfl,.inl ⟨rfl,rfl⟩,hbw2⟩
   ·have HMW:Hid (Mpi wr (w.heap.size+1) m (w.heap.size+1+1+1) D u d lo hi):=HMp
    have HRW:=qQ HRw;have HDV:=qQ hdd;have HHV:=qQ hhp;have HVV:=qQ HVV0;have hbW:=hbl;have d1:=c1;have d2:=c2
    obtain⟨gs,go,vc',rfl⟩:∃ g o c,vv=.slice (some ⟨g,o,none⟩) us.length c:=by
     rcases hdd.1 with⟨_,h⟩|⟨b,o,c,h,_⟩
     ·exact absurd h hne
     ·exact⟨b,o,c,h⟩
    clear hdd hhp HMp HRw HVV0;go_wp2_with fail;refine ki.mono ?_;rintro e w1 ⟨rfl,rfl⟩;have hrun2:=HMW.out.look hp HVV.out;have kcp:=ayJ w1.heap.size _ us w1 (vQ _) HDV.out.1.parts;obtain⟨z0,hz0⟩:=cX (l:=zs) (i:=i) (by rw[HZ.out.1];exact h1);have r1:=HRW.out.cell i z0 hz0;have r2:=HRW.out.thaw i (by rw[HZ.out.1];exact h1);have hsW:=HRW.out.lt;obtain⟨z1,hz1'⟩:∃ z1,z0.1=z1:=⟨_,rfl⟩;rw[hz1'] at r1;clear hz0 hz1';go_wp2_with fail;refine kcp.mono ?_;rintro e w3 ⟨v3,us3,rfl,k1,k2,k3,k4⟩;obtain⟨a3,c3,hv3⟩:=k1.slice;subst hv3;have hs3:=k3.size;have q1:w3.cell? ⟨w.heap.size+1+1,i,none⟩=some z1:=((bcell k3).1 _ _ hsW).trans r1;have q2:w3.frozen? ⟨w.heap.size+1+1,i,none⟩=false:=((bcell k3).2 _ _ hsW).trans r2;have hlW:w.heap.size+1+1+1<=w1.heap.size:=by omega
    have HD3:Hid (Dd w3 (w.heap.size+1+1+1) (.slice a3 us3.length c3) us3):=(show Dd w3 w1.heap.size (.slice a3 us3.length c3) us3 from ⟨k1,k4⟩).mono hlW;have HR3:=qQ ((HRW.out.keep k3).set (by rw[HZ.out.1];exact h1) (by omega) HD3.out);have HM3:Hid (Mpi (w3.setCell ⟨w.heap.size+1+1,i,none⟩ (.slice a3 us3.length c3)) (w.heap.size+1) m (w.heap.size+1+1+1) D u d lo hi):=(HMW.out.keep k3).beside (yO w3 (w.heap.size+1+1) i _) (by omega) (by omega);have HB3:Hid (Below w.heap.size w (w3.setCell ⟨w.heap.size+1+1,i,none⟩ (.slice a3 us3.length c3))):=bs (bt hbW k3) (by dsimp only;omega) _
    have HZ3:Hid ((zs.set i (.slice a3 us3.length c3,us3)).length=ns.length/\rds ((zs.set i (.slice a3 us3.length c3,us3)).take (i+1))=(ns.take (i+1)).map (fun n=>(vV u d lo hi n).1)/\∀ x∈ns.take (i+1),(vV u d lo hi x).2=0):=by
     have hx:=HHV.out;rw[<-HPX.out,j8] at hx;refine⟨by simp[HZ.out.1],?_,?_⟩
     ·rw[gM _ (by rw[HZ.out.1];exact h1),gZ,HX1.out]
      have h5:=HZ.out.2.1;simp only[rds,vY] at h5 ⊢;rw[h5];simp[hx,k2]
     ·intro y hy
      rw[gZ,HX1.out] at hy;rcases gV.1 hy with h6|h6
      ·exact HZ.out.2.2 y h6
      ·obtain rfl:y=x:=by simpa using h6
       rw[hx]
    have hs4:w.heap.size+1+1+1<=(w3.setCell ⟨w.heap.size+1+1,i,none⟩ (.slice a3 us3.length c3)).heap.size:=by simp;omega
    have e1:(w3.setCell ⟨w.heap.size+1+1,i,none⟩ (.slice a3 us3.length c3)).cell? ⟨w.heap.size,0,none⟩=some (.int .i64 u):=by rw[gQ (by simp),(bcell k3).1 _ _ (by omega)];exact d1
    have e2:(w3.setCell ⟨w.heap.size+1+1,i,none⟩ (.slice a3 us3.length c3)).cell? ⟨w.heap.size,1,none⟩=some (.int .i64 d):=by rw[gQ (by simp),(bcell k3).1 _ _ (by omega)];exact d2
    clear k1 k3 k4 kcp hrun2 d1 d2 hrun1 ki;go_wp2
    go_roundw
    case rel=>exact⟨i+1,_,_,_,by go_num,h1,HZ3,HR3,HM3,by omega,HB3.out,hs4,e1,e2⟩
    case measure=>simp[intOf];omega
  ·have hall:∀ n∈ns,(vV u d lo hi n).2=0:=by have:=HZ.out.2.2;rwa [pJ (by omega)] at this
   have hE:=c1Q hall;rw[hE] at HR;have hR':=HR.out;simp only[dQ] at hR';obtain⟨rfl,rfl⟩:=hR'
   have HZZ:Hid (l8 w (ns.map fun n=>(vV u d lo hi n).1) 0 (.returned (.tuple #[.slice (some ⟨w.heap.size+1+1,0,none⟩) ns.length ns.length,.int .i64 0])) wr):=by
    refine⟨_,zs,rfl,?_,.inr ⟨_,ns.length,_,by rw[HZ.out.1],by rw[HZ.out.1];exact vQ _,by rw[HZ.out.1];exact hlen,HRw.out,by omega,by omega⟩,hbl⟩;have h5:=HZ.out.2.1;rwa [pJ (by rw[HZ.out.1];omega),pJ (by omega)] at h5
   clear HRw HMp HR hE;go_wp2;exact uQ (v:=.tuple #[.slice (some ⟨w.heap.size+1+1,0,none⟩) ns.length ns.length,.int .i64 0]) (by simp[results,results47,go_sem]) rfl HZZ.out
theorem jQ.away (h:jQ w B nb s xs)(hx:xs≠[]->∀ b o sp n c,s=.slice (some ⟨b,o,sp⟩) n c->b≠m):jQ w B m s xs:=by
 obtain⟨a,c,hv,hc,hl,hy⟩:=h;refine⟨a,c,hv,hc,hl,fun hne=>?_⟩;obtain⟨b,o,ha,hb,_,hcell⟩:=hy hne;exact⟨b,o,ha,hb,hx hne b o none xs.length c (by rw[hv,ha]),hcell⟩
def eU (w:World) (B nb:Nat) (v:Value) (ts:List Tr):Prop :=
 ∃ a c,v=.slice a ts.length c/\ts.length<=c/\ts.length<=1073741824/\(∀ t∈ts,jQ w B nb t.1 t.2.1) /\
  (ts≠[]->∃ b o,a=some ⟨b,o,none⟩/\b<B/\b≠nb/\cD w b o ts)
theorem eU.parts {ts:List Tr}(h:eU w w.heap.size nb v ts):fQ w w.heap.size v ts:=by
 obtain⟨a,c,hv,hc,hl,hi,hx⟩:=h;refine⟨a,c,hv,hc,hl,fun t ht=>(hi t ht).mono (vQ _) (.inr (vQ _)),fun hne=>?_⟩;obtain⟨b,o,ha,hb,_,hcell⟩:=hx hne;exact⟨b,o,ha,hb,hcell⟩
theorem eU.at2 {ts:List Tr}(h:eU w w.heap.size nb v ts)(hb:Below w.heap.size w w'):eU w' w'.heap.size nb v ts:=by
 obtain⟨a,c,hv,hc,hl,hi,hx⟩:=h;refine⟨a,c,hv,hc,hl,fun t ht=>(hi t ht).at2 hb,fun hne=>?_⟩;obtain⟨b,o,ha,hB,hn,hcell⟩:=hx hne;exact⟨b,o,ha,uX hB hb.size,hn,hcell.keep hb hB⟩
theorem eU.grow {ts:List Tr}(h:eU W W.heap.size m v ts)(hg:W.grownBy w' row)(hrow:∀ g,row=some g->m=g)(hm:m' = m\/W.heap.size<=m'):eU w' w'.heap.size m' v ts:=by
 obtain⟨a,c,hv,hc,hl,hi,hx⟩:=h;refine⟨a,c,hv,hc,hl,fun t ht=>(hi t ht).grow hg (vQ _) hrow hm,fun hne=>?_⟩;obtain⟨b,o,ha,hb,hn,hcell⟩:=hx hne;have:=hg.size;refine⟨b,o,ha,by omega,by rcases hm with h|h <;> omega,fun i t ht=>?_⟩;have hne':some b≠row:=fun e=>hn (hrow b e.symm).symm;exact⟨hg.cell (hcell i t ht).1 hne',hg.cell (hcell i t ht).2 hne'⟩
theorem azQ {lo:Nat}{ts:List Tr}(h:oX w lo v ts)(hf:sQ lo ts)(hm:m<lo):eU w w.heap.size m v ts:=by
 rcases h with⟨rfl,rfl⟩|⟨b,o,c,rfl,hc,hl,hlo,hr,hi⟩
 ·exact⟨none,0,rfl,vQ _,by simp,by simp,fun h=>absurd rfl h⟩
 ·refine⟨_,c,rfl,hc,hl,fun t ht=>(hi t ht).away fun hne b o sp n c e=>?_,fun _=>⟨b,o,rfl,hr.lt,by omega,hr.cells⟩⟩
  have:=hf t ht hne b o sp n c e;omega
theorem c2X {lo:Nat}(h:∀ g,v.ownBlock=some g->lo<=g/\g<n)(hn:lo<n):∃ m,lo<=m/\m<n/\∀ g,v.ownBlock=some g->m=g:=by
 cases e:v.ownBlock with
 | none=>exact⟨lo,vQ _,hn,fun g e=>by cases e⟩
 | some g=>exact⟨g,(h g e).1,(h g e).2,fun g' e=>by simpa using e⟩
abbrev Dl:=Value × List Tr
def eD (w:World) (B:Nat) (v:Value) (ns:List Dl):Prop :=
 ∃ a c,v=.slice a ns.length c/\ns.length<=c/\ns.length<=1073741824/\(∀ n∈ns,fQ w B n.1 n.2) /\
  (ns≠[]->∃ b o,a=some ⟨b,o,none⟩/\b<B/\∀ i n,ns[i]? = some n->w.cell? ⟨b,o+i,none⟩=some n.1)
theorem eD.keep {ns:List Dl}(h:eD w B v ns)(hb:Below B w w'):eD w' B v ns:=by
 obtain⟨a,c,hv,hc,hl,hi,hx⟩:=h;refine⟨a,c,hv,hc,hl,fun t ht=>(hi t ht).keep hb,fun hne=>?_⟩;obtain⟨b,o,ha,hB,hcell⟩:=hx hne;exact⟨b,o,ha,hB,fun i z hz=>(hb.cell (p:=⟨b,o+i,none⟩) hB).trans (hcell i z hz)⟩
theorem eD.at {ns:List Dl}(h:eD w B v ns)(hB:B<=w.heap.size)(hb:Below w.heap.size w w'):eD w' B v ns:=h.keep (hb.mono hB)
theorem eD.get {ns:List Dl}(hp:eD w B (.slice a n c) ns)(hB:B<=w.heap.size)(hbl:Below w.heap.size w wr)(h:i<ns.length) :
  ∃ b o na nc us,a=some ⟨b,o,none⟩/\b<w.heap.size/\ns[i]? = some (.slice na us.length nc,us)/\wr.cell? ⟨b,o+i,none⟩=some (.slice na us.length nc)/\fQ wr B (.slice na us.length nc) us:=by
 obtain⟨a',c',hv,hc,hl,hi,hx⟩:=hp;simp only[iZ] at hv;obtain⟨rfl,rfl,rfl⟩:=hv;obtain⟨b,o,ha,hb,hcell⟩:=hx (ne_of_lt h);obtain⟨⟨s,us⟩,hs⟩:=cX h;have hI:=hi _ (rQ hs);have hI2:=hI.at hB hbl;obtain⟨na,nc,he,_⟩:=hI;simp only at he;subst he;have hlt:b<w.heap.size:=by omega
 exact⟨b,o,na,nc,us,ha,hlt,hs,(hbl.cell (p:=⟨b,o+i,none⟩) hlt).trans (hcell i _ hs),hI2⟩
theorem jQ.grow2 (h:jQ W W.heap.size m s xs)(h0:jQ W W.heap.size m0 s xs)(hg:W.grownBy w' row)(hrow:∀ g,row=some g->m0=g):jQ w' w'.heap.size m s xs:=by
 obtain⟨a,c,hv,hc,hl,hx⟩:=h;obtain⟨a0,c0,hv0,_,_,hx0⟩:=h0;refine⟨a,c,hv,hc,hl,fun hne=>?_⟩;obtain⟨b,o,ha,hb,hn,hcell⟩:=hx hne;obtain⟨b0,o0,ha0,_,hn0,_⟩:=hx0 hne;rw[hv,ha,ha0] at hv0;simp only[iZ,xX,jG] at hv0;have hbb:=hv0.1.1;have:=hg.size;exact⟨b,o,ha,by omega,hn,fun i x hi=>hg.cell (hcell i x hi) fun e=>hn0 (by rw[<-hbb];exact(hrow b e.symm).symm)⟩
theorem eU.grow2 {ts:List Tr}(h:eU W W.heap.size m v ts)(h0:eU W W.heap.size m0 v ts)(hg:W.grownBy w' row)(hrow:∀ g,row=some g->m0=g):eU w' w'.heap.size m v ts:=by
 obtain⟨a,c,hv,hc,hl,hi,hx⟩:=h;obtain⟨a0,c0,hv0,_,_,hi0,hx0⟩:=h0;refine⟨a,c,hv,hc,hl,fun t ht=>(hi t ht).grow2 (hi0 t ht) hg hrow,fun hne=>?_⟩;obtain⟨b,o,ha,hb,hn,hcell⟩:=hx hne;obtain⟨b0,o0,ha0,_,hn0,_⟩:=hx0 hne;rw[hv,ha,ha0] at hv0;simp only[iZ,xX,jG] at hv0;have hbb:=hv0.1.1;have hne':some b≠row:=fun e=>hn0 (by rw[<-hbb];exact(hrow b e.symm).symm);have:=hg.size;exact⟨b,o,ha,by omega,hn,fun i t ht=>⟨hg.cell (hcell i t ht).1 hne',hg.cell (hcell i t ht).2 hne'⟩⟩
def cY (w:World) (h:Nat) (v:Value) (zs:List Dz):Prop :=
 ∃ a c,v=.slice a zs.length c/\zs.length<=c/\zs.length<=1073741824/\(∀ z∈zs,∀ m,m<h->eU w w.heap.size m z.1 z.2) /\
  (zs≠[]->∃ b o,a=some ⟨b,o,none⟩/\h<=b/\b<w.heap.size/\∀ i z,zs[i]? = some z->w.cell? ⟨b,o+i,none⟩=some z.1)
theorem cY.nil (w:World)(h:Nat):cY w h (.slice none 0 0) []:=⟨none,0,rfl,vQ _,by simp,by simp,fun h=>absurd rfl h⟩
theorem cY.keep {zs:List Dz}(d:cY w h v zs)(hb:Below w.heap.size w w'):cY w' h v zs:=by
 obtain⟨a,c,hv,hc,hl,hi,hx⟩:=d;refine⟨a,c,hv,hc,hl,fun z hz m hm=>(hi z hz m hm).at2 hb,fun hne=>?_⟩;obtain⟨b,o,ha,h1,h2,hcell⟩:=hx hne;exact⟨b,o,ha,h1,uX h2 hb.size,fun i z hz=>(hb.cell (p:=⟨b,o+i,none⟩) h2).trans (hcell i z hz)⟩
theorem cY.mono {zs:List Dz}(d:cY w h v zs)(hl:h'<=h):cY w h' v zs:=by
 obtain⟨a,c,hv,hc,hl',hi,hx⟩:=d;exact⟨a,c,hv,hc,hl',fun z hz m hm=>hi z hz m (by omega),fun hne=>let ⟨b,o,ha,h1,h2⟩:=hx hne;⟨b,o,ha,by omega,h2⟩⟩
theorem cY.dss {zs:List Dz}(d:cY w h v zs)(h0:0<h):eD w w.heap.size v zs:=by
 obtain⟨a,c,hv,hc,hl,hi,hx⟩:=d;exact⟨a,c,hv,hc,hl,fun z hz=>(hi z hz 0 h0).parts,fun hne=>let ⟨b,o,ha,_,h2,h3⟩:=hx hne;⟨b,o,ha,h2,h3⟩⟩
theorem cY.set {g k:Nat}{zs:List Dz}(d:cY w h v zs)(hg:g<h):cY (w.setCell ⟨g,k,none⟩ x) h v zs:=by
 obtain⟨a,c,hv,hc,hl,hi,hx⟩:=d;refine⟨a,c,hv,hc,hl,fun z hz m hm=>(hi z hz m hm).grow2 (hi z hz g hg) (yO w g k x) (fun g' e=>by simpa using e),fun hne=>?_⟩;obtain⟨b,o,ha,h1,h2,hcell⟩:=hx hne;exact⟨b,o,ha,h1,by simpa using h2,fun i z hz=>(yO w g k x).cell (hcell i z hz) (by simp;omega)⟩
theorem i8.dssA {zs:List Dz}(d:i8 w h v zs):cY w h v zs:=by
 rcases d with⟨rfl,rfl⟩|⟨g,cap,lo,rfl,h1,h2,hr,hg,hlo⟩
 ·exact cY.nil w h
 ·exact⟨_,cap,rfl,h1,by omega,fun z hz m hm=>azQ (hr.el z hz).1 (hr.el z hz).2 (by omega),fun _=>⟨g,0,rfl,hg,hr.lt,fun i z hz=>by rw[xZ];exact hr.cell i z hz⟩⟩
def doZ (l:List Pt) (bits:List Int) (w:World) (e:Ending) (w':World):Prop :=
 Below w.heap.size w w'/\((jA l bits=none/\e=.returned (.tuple #[dK,.bool false])) \/
  (∃ a c o k r,jA l bits=some (o,k,r)/\e=.returned (.tuple #[.agg #[.slice a (o:List Int).length c,.int .i64 k],.bool true])/\∀ m,m<w.heap.size->jQ w' w'.heap.size m (.slice a o.length c) o))
theorem doJ (B nb:Nat)(v u:Value)(ts:List Tr)(bits:List Int)(w:World)(hB:B<=w.heap.size)(hp:fQ w B v ts)(hv:jQ w B nb u bits)(hbad:aY bits=false)(hlen:bits.length<=65536)(ho:pX (rd ts)=(rd ts,0)) :
  Calls prog 115 #[v,u] w (doZ (rd ts) bits w):=by
 have HV:=qQ hv;have HBad:=qQ hbad;have hDis:=(dD ho).2;have hb0:Below w.heap.size w (w.alloc (.cells #[.slice none 0 0,.int .i64 0] 162)):=ba _ _;have kn:=vR B v ts (w.alloc (.cells #[.slice none 0 0,.int .i64 0] 162)) (by simp;omega) (hp.at hB hb0) (rd ts) 0 ho;have HR0:Hid (Rv (w.alloc (.cells #[.slice none 0 0,.int .i64 0] 162)) w.heap.size (.slice none 0 0) 0):=Rv.new _ _ _ _ _ rfl;have HDis:=qQ hDis;obtain⟨pa,pc,rfl,_⟩:=hp;obtain⟨a,c,rfl,hc,hl,_⟩:=hv;clear hbad hb0 ho hDis;go_enter func115,ntmps115;go_wp2_with fail;refine kn.mono ?_;rintro e w1 ⟨hb1,⟨h0,_⟩|⟨_,E,ra,rc,us,rfl,h1,h2,h3,h4⟩⟩
 ·exact absurd rfl h0
 have hz1:w.heap.size+1<=w1.heap.size:=by simpa using hb1.size
 have hE:w.heap.size+1<=E:=by simpa using h4
 rw[<-h1] at h2;have hDu:Dis (rd us):=by rw[h1];exact HDis.out
 have D:=axQ w1.heap.size E ra rc us hDu h2.lt;have HD:=qQ D;have hS:gH w1.heap.size E ra rc us w1 (0,0,1):=gH.start hDu h2 h3;have HS:=qQ hS;have HN:Hid (eH (dI (rd us)) (0,0,1) (fH (rd us))=jA (rd ts)):=by rw[Hid,awJ,h1]
 have HR:=qQ (HR0.out.below hb1);have HB1:Hid (Below w.heap.size w w1):=bt (ba _ _) hb1;have hElt:=h2.lt;have kc:=D.sure w1 (0,0,1) hS (vQ _);clear kn h1 h2 h3 h4 hDu D hS HR0 hb1;go_wp2_with fail;refine kc.mono ?_;rintro e w2 ⟨hb2,hs0,hs1⟩;have hz2:=hb2.size;have HR2:=qQ (HR.out.below hb2);have HB2:=qQ (bt HB1.out hb2);cases hsur:fH (rd us) with
 | some o =>
  obtain⟨sa,sc,rfl,hI⟩:=hs1 o hsur;have HI:Hid (∀ m,m<w.heap.size+1->jQ w2 w2.heap.size m (.slice sa o.length sc) o):=fun m hm=>hI m (by omega);have HNS:Hid (jA (rd ts) bits=some (o,0,bits)):=by rw[Hid,<-HN.out];simp only[eH,hsur]
  clear hs0 hs1 hI kc hsur;obtain⟨r0,r1,r2,r3,r4⟩:=HR2.out;have ne1:¬ w.heap.size=w2.heap.size:=by omega
  go_wp2;generalize hX:((w2.setCell ⟨w.heap.size,0,none⟩ (.slice sa o.length sc)).setCell ⟨w.heap.size,1,none⟩ (.int .i64 0)).alloc (.cells #[.slice sa o.length sc,.int .i64 0] 162)=X;have hbX:Below w.heap.size w X:=hX▸bal (bs (bs HB2.out (p:=⟨w.heap.size,0,none⟩) (vQ _) _) (p:=⟨w.heap.size,1,none⟩) (vQ _) _) _;have HRX:Rv X w.heap.size (.slice sa o.length sc) 0:=hX▸((HR2.out.put _ _).alloc _)
  have HIX:Hid (∀ m,m<w.heap.size+1->jQ X X.heap.size m (.slice sa o.length sc) o):=by
   have h1:=jQ.setm (jQ.setm HI.out w.heap.size 0 (by omega) (.slice sa o.length sc)) w.heap.size 1 (by omega) (.int .i64 0);intro m hm;have h2:=h1 m hm;rw[show w2.heap.size=((w2.setCell ⟨w.heap.size,0,none⟩ (.slice sa o.length sc)).setCell ⟨w.heap.size,1,none⟩ (.int .i64 0)).heap.size by simp] at h2;rw[<-hX];exact(h2.keep (ba _ _)).mono (by simp) (.inl rfl)
  clear hX;obtain⟨x0,x1,_,_,_⟩:=HRX;exact uQ (v:=.tuple #[.agg #[.slice sa o.length sc,.int .i64 0],.bool true]) (by simp[results,results115,go_sem,x0,x1]) rfl ⟨hbX,.inr ⟨sa,sc,o,0,bits,HNS.out,rfl,fun m hm=>HIX.out m (by omega)⟩⟩
 | none =>
  have he:=hs0 hsur;subst he;have HGO:Hid (dI (rd us) (0,0,1) bits=jA (rd ts) bits):=by rw[Hid,<-HN.out];simp only[eH,hsur]
  have HSU:=qQ hsur;have HS2:=qQ (HD.out.keep HS.out hb2 (vQ _));clear hs0 hs1 kc hsur;obtain⟨r0,r1,r2,r3,r4⟩:=HR2.out;go_wp2;generalize hX:w2.alloc (.cells #[.slice none 0 0,.int .i64 0] 162)=X;have hbX:Below w.heap.size w X:=hX▸bal HB2.out _;have HRX:Hid (Rv X w.heap.size (.slice none 0 0) 0):=hX▸HR2.out.alloc _;have HSX:Hid (gH w1.heap.size E ra rc us X (0,0,1)):=hX▸HD.out.keep HS2.out ((ba _ _).mono hz2) hz2;have hzX:w1.heap.size<=X.heap.size:=by rw[<-hX];simp;omega
  clear hX hb2 r0 r1 r2 r3 r4
  go_loopw [28] (fun iv wr=>∃ (i:Nat) (s:Int × Int × Int),iv=.int .i64 (i:Int)/\i<=bits.length/\Hid (gH w1.heap.size E ra rc us wr s/\s.2.1=i/\jA (rd ts) bits=dI (rd us) s (bits.drop i))/\Hid (Below w.heap.size w wr/\w1.heap.size<=wr.heap.size)/\Hid (Rv wr w.heap.size (.slice none 0 0) 0)) (fun iv _=>bits.length - (intOf iv).toNat)
  case atStart=>exact⟨0,(0,0,1),rfl,kQ _,⟨HSX.out,rfl,by rw[<-HGO.out];simp⟩,⟨hbX,hzX⟩,HRX⟩
  case round =>
   obtain⟨i,s,rfl,hit,HI,HG,HR⟩:=hrel;have hz:w.heap.size+1<=wr.heap.size:=HR.out.lt;by_cases h1:i<bits.length
   ·obtain⟨b,hb⟩:=cX h1
    have HB:=qQ hb;have HVr:=qQ (HV.out.at hB HG.out.1);obtain⟨_,_,hv',_,_,hx⟩:=HVr.out;simp only[iZ] at hv';obtain⟨rfl,-,rfl⟩:=hv';obtain⟨bb,bo,rfl,hbB,hbE,hcell⟩:=hx (ne_of_lt h1);have c1:=hcell i b hb;have hbit:=auZ HBad.out hb;have kc:=HD.out.feed HSU.out wr s b HI.out.1 HG.out.2 hbit (by simp only[HI.out.2.1];omega);clear hb hx hcell;go_wp2_with fail;refine kc.mono ?_;rintro e w4 ⟨hg2,⟨rfl,s',h2,h3,h4⟩|⟨ya,yc,o,rfl,h2,h3,h4⟩⟩
    ·have HI2:Hid (gH w1.heap.size E ra rc us w4 s'/\s'.2.1=(i+1:Nat)/\jA (rd ts) bits=dI (rd us) s' (bits.drop (i+1))):=⟨h2,by simp only at h3;rw[h3,HI.out.2.1];omega,by
      rw[HI.out.2.2,gJ h1,<-h4];have:=(cQ.1 HB.out).2;rw[this]⟩
     have HR4:=qQ (HR.out.gb hg2 (by omega));have HB4:=qQ (HG.out.1.trans (aF hg2 (by omega) (by omega)));have hz4:wr.heap.size<=w4.heap.size:=hg2.size;have hg1:=HG.out.2;clear kc h2 h3 h4 hg2 HI HG HR;obtain⟨r0,r1,r2,r3,r4⟩:=HR4.out;go_wp2
     go_roundw
     case rel=>exact⟨i+1,s',by go_num,h1,⟨HD.out.keep HI2.out.1 ((ba _ _).mono (by omega)) (by omega),HI2.out.2⟩,⟨bal HB4.out _,by simp;omega⟩,HR4.out.alloc _⟩
     case measure=>simp[intOf];omega
    ·have hu:s.2.1=(i:Int):=HI.out.2.1
     simp only[hu] at h4 ⊢
     have HI2:Hid (jA (rd ts) bits=some (o,(i:Int)+1,bits.drop (i+1))):=by
      have:=(cQ.1 HB.out).2;rw[Hid,HI.out.2.2,gJ h1,this,h4]
     have HR4:=qQ (HR.out.gb hg2 (by omega));have HB4:=qQ (HG.out.1.trans (aF hg2 (by omega) (by omega)));have hz4:wr.heap.size<=w4.heap.size:=hg2.size;have HO:=qQ h2;clear kc h2 h3 h4 hg2 HI HG HR hu;obtain⟨r0,r1,r2,r3,r4⟩:=HR4.out;have ne1:¬ w.heap.size=w4.heap.size:=by omega
     have ne2:¬ w4.heap.size=w.heap.size:=by omega
     go_wp2;generalize hX:((w4.setCell ⟨w.heap.size,0,none⟩ (.slice ya o.length yc)).setCell ⟨w.heap.size,1,none⟩ (.int .i64 ((i:Int)+1))).alloc (.cells #[.slice ya o.length yc,.int .i64 ((i:Int)+1)] 162)=X;have hbX:Below w.heap.size w X:=hX▸bal (bs (bs HB4.out (p:=⟨w.heap.size,0,none⟩) (vQ _) _) (p:=⟨w.heap.size,1,none⟩) (vQ _) _) _;have HRX:Rv X w.heap.size (.slice ya o.length yc) ((i:Int)+1):=hX▸((HR4.out.put _ _).alloc _)
     have HIX:Hid (∀ m,m<w.heap.size+1->jQ X X.heap.size m (.slice ya o.length yc) o):=by
      have h1:=jQ.setm (jQ.setm (fun m hm=>HO.out m (by omega)) w.heap.size 0 (show w.heap.size<w.heap.size+1 by omega) (.slice ya o.length yc)) w.heap.size 1 (by omega) (.int .i64 ((i:Int)+1));intro m hm;have h2:=h1 m hm;rw[show w4.heap.size=((w4.setCell ⟨w.heap.size,0,none⟩ (.slice ya o.length yc)).setCell ⟨w.heap.size,1,none⟩ (.int .i64 ((i:Int)+1))).heap.size by simp] at h2;rw[<-hX];exact(h2.keep (ba _ _)).mono (by simp) (.inl rfl)
     clear hX;obtain⟨x0,x1,_,_,_⟩:=HRX
     exact uQ (v:=.tuple #[.agg #[.slice ya o.length yc,.int .i64 ((i:Int)+1)],.bool true]) (by simp[results,results115,go_sem,x0,x1]) rfl
      ⟨hbX,.inr ⟨ya,yc,o,_,_,HI2.out,rfl,fun m hm=>HIX.out m (by omega)⟩⟩
   ·have HI2:Hid (jA (rd ts) bits=none):=by rw[Hid,HI.out.2.2,fY (by omega),HD.out.nil]
    have HR2:=HR.out.put (.slice none 0 0) 0;obtain⟨r0,r1,r2,r3,r4⟩:=HR.out;obtain⟨x0,x1,_,_,_⟩:=HR2;go_wp2
    exact uQ (v:=.tuple #[dK,.bool false]) (by simp[results,results115,go_sem,x0,x1]) rfl
     ⟨bs (bs HG.out.1 (p:=⟨w.heap.size,0,none⟩) (vQ _) _) (p:=⟨w.heap.size,1,none⟩) (vQ _) _,.inl ⟨HI2.out,rfl⟩⟩
end
end Go.Proofs.YtpmioeamdhdokaaGreat

import Derived.Test.YtdceajgpolckiaaGreatDoorQr50
import Derived.Test.YtdceajgpolckiaaGreatDoorQr51
import Derived.Test.YtdceajgpolckiaaGreatDoorQr21
import Derived.Test.YtdceajgpolckiaaGreatDoorTie
import Derived.Test.YtdceajgpolckiaaGreatDoorCards
import Derived.Lay
import Derived.LaidMore
import Derived.Stop.Joined
import Derived.SevenTiedAt
import Derived.LaidLaws
import Derived.Deep.DeepHandedRow
import Derived.Deep.DeepWitnessRowRef
open Go.Proofs.Tryz
set_option linter.unusedSimpArgs false
set_option maxHeartbeats 16000000
set_option maxRecDepth 100000
namespace Go.Proofs.YtdceajgpolckiaaGreatDoor
section
open Go.ChangeShapes Go.WideShapes Go.ChangeAt Go.RowKit Go.Joins Ds
theorem f4Q:ownKnob prog.godebug=none:=by kernel_rfl
theorem f4X (os:Os)(args:Array Value):laidMetH prog Rows.topHouseRow.laid ((World.laidAll prog os Rows.topHouseRow.laid).forCall (fun _ _=>0) ⟨#[],args,[]⟩).memory:=by
 rw[MakeChecks.laidMetH_plain _ _ _ (by kernel_rfl)];exact laidMet_laidAll _ (by kernel_rfl) (by kernel_rfl)
theorem amJ:laidOutB prog=true:=by kernel_rfl
theorem b8J:prog.cellsOf 32=2:=by kernel_rfl
theorem f4Z (os:Os)(started:os.Started)(H:Type)(enc:TypeId × Value->H) :
  ReturnsInHanded {} Tryz.checked os 4 .any (fun w args=>(Rows.topHouseSpec.pre enc prog Tryz.f4 [] false w args/\laidMetH prog Rows.topHouseRow.laid w)/\sizedMet enc prog Tryz.f4 (OpenSpec.ofChange Rows.topHouseSpec) false w args)
   (Rows.topHouseSpec.post enc prog Tryz.f4 false true false false):=by
 refine returnsInHanded_of_change_and (C:=Tryz.checked) (X:=fun w _=>laidMetH prog Rows.topHouseRow.laid w) (fun _ _ _ hh h=>h.of_heap hh) f4Q started (by kernel_rfl) func4
  (ChangeSpec.witness_shaped (enc:=enc) (C:=Tryz.checked) (os:=os) (X:=fun w _=>laidMetH prog Rows.topHouseRow.laid w) false (World.laidAll prog os Rows.topHouseRow.laid) #[.agg #[.slice none 0 0,.slice none 0 0],.slice none 0 0,.agg #[.int .i64 0,.int .i64 0],.slice none 0 0,.bool false] 8 (World.laidAll_os _ _ _) (World.shaped_of_ZipB (by kernel_rfl) (by kernel_rfl)) (by kernel_rfl) (by kernel_rfl) (by kernel_rfl) (f4X os _)) ?_
 intro W base args ds gs before hval0 hW _ _ _ _;have hval:∀ (j:Nat) t v,Tryz.f4.params[j]? = some t->args[j]? = some v->Value.okWide prog W .any base t v:=hval0;have hW':=hW;obtain⟨p,q,hA0,hV,rfl,hfz,hnd⟩:=hW;have hA:DataW.TrodAll enc prog W 0 (fun _=>true) true Tryz.f4.params.toList args.toList ds p:=hA0;rw[params4] at hA hval;obtain⟨v0,vs0,d0,ds0,p0,q0,hargs,rfl,rfl,h0,r0⟩:=trodAll_cons hA;obtain⟨v1,vs1,d1,ds1,p1,q1,rfl,rfl,rfl,h1,r1⟩:=trodAll_cons r0;obtain⟨v2,vs2,d2,ds2,p2,q2,rfl,rfl,rfl,h2,r2⟩:=trodAll_cons r1;obtain⟨v3,vs3,d3,ds3,p3,q3,rfl,rfl,rfl,h3,r3⟩:=trodAll_cons r2;obtain⟨v4,vs4,d4,ds4,p4,q4,rfl,rfl,rfl,h4,r4⟩:=trodAll_cons r3;obtain⟨rfl,rfl,rfl⟩:=trodAll_nil r4;obtain rfl:args = #[v0,v1,v2,v3,v4]:=by cases args;simp_all
 obtain⟨rfl,rfl⟩:=trodVars_none hV;clear hA0 hval0;simp only[fU] at hW';have hlt0:∀ y∈p0,y.block<W.heap.size:=fun y hy=>by simpa using hW'.lt y (by simp[hy])
 have hk0:=h0;obtain⟨c0,e0,y0,z0,m0,rfl,_,_,hy0,hz0⟩:=open_agg2 underlying25 (by kernel_rfl) K.fxZ (hval 0 25 v0 rfl rfl) h0;obtain⟨l0,hl0⟩:=K.fyX hy0;obtain⟨t0,ht0⟩:=K.fxJ hz0;have hlt1:∀ y∈p1,y.block<W.heap.size:=fun y hy=>by simpa using hW'.lt y (by simp[hy])
 have hk1:=h1;obtain⟨s1,sl1,sc1,rfl⟩:=okWide_slice underlying57 (hval 1 57 v1 rfl rfl);obtain⟨fuel1,hf1⟩:=h1;simp only[Value.cells] at hf1;obtain⟨x1,hx1,hI1⟩:=K.f3Q hf1;obtain⟨c20,c21,y20,y21,m2,rfl,rfl,rfl,hy20,hy21⟩:=open_agg2 underlying32 (by kernel_rfl) b8J (hval 2 32 v2 rfl rfl) h2;obtain⟨a2,e20,rfl,wa2⟩:=vH underlying3 hy20;obtain⟨b2,e21,rfl,wb2⟩:=vH underlying3 hy21;simp at e20 e21;subst e20 e21
 have reads2:∀ (W':World) (sp:Nat->Bool),DataW.Trod enc prog W' 0 sp true 32 (.agg #[.int .i64 a2,.int .i64 b2]) (.agg [.lit (.int .i64 a2),.lit (.int .i64 b2)]) []:=fun W' sp =>
  shut_agg2 (y0:=(.lit (.int .i64 a2),[])) (y1:=(.lit (.int .i64 b2),[])) underlying32 (by kernel_rfl) b8J ⟨1,by simp[DataW.trod,underlying3,wa2]⟩ ⟨1,by simp[DataW.trod,underlying3,wb2]⟩
 have hlt3:∀ y∈p3,y.block<W.heap.size:=fun y hy=>by simpa using hW'.lt y (by simp[hy])
 have hk3:=h3;obtain⟨s3,sl3,sc3,rfl⟩:=okWide_slice underlying23 (hval 3 23 v3 rfl rfl);obtain⟨fuel3,hf3⟩:=h3;simp only[Value.cells] at hf3;obtain⟨x3,hx3,hn3⟩:=K.f3Z hf3;obtain⟨bb,rfl,rfl,rfl⟩:=open_bool underlying4 (hval 4 4 v4 rfl rfl) h4;refine(fxQ W.heap.size c0 e0 (.slice s1 sl1 sc1) (.slice s3 sl3 sc3) l0 t0 x1 x3 a2 b2 bb W (vQ _) hl0 ht0 hx1 hI1 hx3 hn3).mono fun e W' ⟨he,bel⟩=>?_;subst he;exact⟨_,rfl,_,_,_,[],_,[],hW',trodAll_mk1 (shut_bool underlying4 _),(vE (Below.trod amJ (by kernel_rfl) (yH (by kernel_rfl)) hk0 bel hlt0) (vE (Below.trod amJ (by kernel_rfl) (yH (by kernel_rfl)) hk1 bel hlt1) (vE (reads2 _ _) (vE (Below.trod amJ (by kernel_rfl) (yH (by kernel_rfl)) hk3 bel hlt3) (vE (shut_bool underlying4 _) trodAll_mk0))))),rfl,bel.frame _,fun h=>by cases h⟩
theorem f4J:Rows.TopHouseSaid :=
 OpenClaim.holds_of_wide 4 Tryz.f4 rfl rfl rfl rfl rfl rfl rfl ⟨rfl,rfl,rfl,rfl,rfl⟩ rfl rfl rfl rfl rfl (by kernel_rfl) func4 f3J
  (yH (by kernel_rfl)) (by unfold Func.isWrapper;first|(rw[zQ (by decide +kernel)];kernel_rfl)|(rw[xQ (by decide +kernel)];exact⟨rfl,rfl⟩))
  (fun os started H enc _=>f4Z os started H enc)
theorem topHouse_holds:Rows.TopHouseCardSaid :=
 Claim7.holds_tied_plain_at .later [] _ _ _ _ f4J (fun _ h=>by cases h) (by kernel_rfl) (fun _ h=>by cases h) topHouse_row_tie rfl ⟨rfl,rfl⟩ (by kernel_rfl) rfl
  (fun f fn hf hfn=>by
   obtain rfl : f = 4 := Option.some.inj ((show prog.funcNamed "hushhouse/hushtop.TopHouse" = some 4 by kernel_rfl).symm.trans hf) |>.symm;obtain rfl:fn=Tryz.f4:=(Option.some.inj (func4.symm.trans hfn)).symm
   exact⟨by kernel_rfl,fun j t ht=>by
    rw[params4] at ht;have hm:t∈[25,57,32,23,4]:=by simpa using Array.mem_of_getElem? ht
    have hall:([25,57,32,23,4].all fun u=>!prog.wantsStandIn u)=true:=by kernel_rfl
    exact(show prog.wantsStandIn t=false by simpa using dL.1 hall t hm)⟩)
  (by kernel_rfl)
#print axioms topHouse_holds

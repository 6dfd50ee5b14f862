import Derived.Test.YtdceajgpolckiaaGreatDoorQs40
import Derived.Test.YtdceajgpolckiaaGreatDoorTie
import Derived.Test.YtdceajgpolckiaaGreatDoorCards
import Derived.Lay
import Derived.LaidMore
import Derived.Stop.Joined
import Derived.SevenTiedAt
import Derived.LaidLaws
import Derived.Deep.DeepHandedRow
import Derived.Deep.DeepWitnessRowRef
open Go.Proofs.Tryz
set_option linter.unusedSimpArgs false
set_option maxHeartbeats 16000000
set_option maxRecDepth 100000
namespace Go.Proofs.YtdceajgpolckiaaGreatDoor
section
open Go.ChangeShapes Go.WideShapes Go.ChangeAt Go.RowKit Go.Joins Ds
theorem d6Z:ownKnob prog.godebug=none:=by kernel_rfl
theorem d6J (os:Os)(args:Array Value):laidMetH prog Rows.topDrawsRow.laid ((World.laidAll prog os Rows.topDrawsRow.laid).forCall (fun _ _=>0) ⟨#[],args,[]⟩).memory:=by
 rw[MakeChecks.laidMetH_plain _ _ _ (by kernel_rfl)];exact laidMet_laidAll _ (by kernel_rfl) (by kernel_rfl)
theorem azJ:laidOutB prog=true:=by kernel_rfl
theorem a0Q:prog.cellsOf 32=2:=by kernel_rfl
theorem d7Q (os:Os)(started:os.Started)(H:Type)(enc:TypeId × Value->H) :
  ReturnsInHanded {} Tryz.checked os 5 .any (fun w args=>(Rows.topDrawsSpec.pre enc prog Tryz.f5 [] false w args/\laidMetH prog Rows.topDrawsRow.laid w)/\sizedMet enc prog Tryz.f5 (OpenSpec.ofChange Rows.topDrawsSpec) false w args)
   (Rows.topDrawsSpec.post enc prog Tryz.f5 false true false false):=by
 refine returnsInHanded_of_change_and (C:=Tryz.checked) (X:=fun w _=>laidMetH prog Rows.topDrawsRow.laid w) (fun _ _ _ hh h=>h.of_heap hh) d6Z started (by kernel_rfl) func5
  (ChangeSpec.witness_shaped (enc:=enc) (C:=Tryz.checked) (os:=os) (X:=fun w _=>laidMetH prog Rows.topDrawsRow.laid w) false (World.laidAll prog os Rows.topDrawsRow.laid) #[.agg #[.slice none 0 0,.slice none 0 0],.agg #[.int .i64 0,.string ByteArray.empty,.int .i64 0,.int .i64 0,.slice none 0 0,.slice none 0 0,.int .i64 0,.int .i64 0,.int .i64 0,.int .i64 0,.slice none 0 0],.agg #[.int .i64 0,.int .i64 0],.int .i64 0] 8 (World.laidAll_os _ _ _) (World.shaped_of_ZipB (by kernel_rfl) (by kernel_rfl)) (by kernel_rfl) (by kernel_rfl) (by kernel_rfl) (d6J os _)) ?_
 intro W base args ds gs before hval0 hW _ _ _ _;have hval:∀ (j:Nat) t v,Tryz.f5.params[j]? = some t->args[j]? = some v->Value.okWide prog W .any base t v:=hval0;have hW':=hW;obtain⟨p,q,hA0,hV,rfl,hfz,hnd⟩:=hW;have hA:DataW.TrodAll enc prog W 0 (fun _=>true) true Tryz.f5.params.toList args.toList ds p:=hA0;rw[params5] at hA hval;obtain⟨v0,vs0,d0,ds0,p0,q0,hargs,rfl,rfl,h0,r0⟩:=trodAll_cons hA;obtain⟨v1,vs1,d1,ds1,p1,q1,rfl,rfl,rfl,h1,r1⟩:=trodAll_cons r0;obtain⟨v2,vs2,d2,ds2,p2,q2,rfl,rfl,rfl,h2,r2⟩:=trodAll_cons r1;obtain⟨v3,vs3,d3,ds3,p3,q3,rfl,rfl,rfl,h3,r3⟩:=trodAll_cons r2;obtain⟨rfl,rfl,rfl⟩:=trodAll_nil r3;obtain rfl:args = #[v0,v1,v2,v3]:=by cases args;simp_all
 obtain⟨rfl,rfl⟩:=trodVars_none hV;clear hA0 hval0;simp only[yG] at hW';have hlt0:∀ y∈p0,y.block<W.heap.size:=fun y hy=>by simpa using hW'.lt y (by simp[hy])
 have hk0:=h0;obtain⟨c0,e0,y0,z0,m0,rfl,_,_,hy0,hz0⟩:=open_agg2 underlying25 (by kernel_rfl) K.d1X (hval 0 25 v0 rfl rfl) h0;obtain⟨l0,hl0⟩:=K.d2X hy0;obtain⟨t0,ht0⟩:=K.d1J hz0;have hlt1:∀ y∈p1,y.block<W.heap.size:=fun y hy=>by simpa using hW'.lt y (by simp[hy])
 have hk1:=h1;obtain⟨cs1,rfl,hsz1⟩:=okWide_struct underlying66 (hval 1 66 v1 rfl rfl);obtain⟨fuel1,hf1⟩:=h1;simp only[Value.cells] at hf1;obtain⟨u0,u1,u2,u3,u4,u5,q1,uu,ud,ul,uh,una,unn,unc,hcs1,hq1,hul,huh⟩:=K.d6X fuel1 _ _ (by simpa using hsz1.trans K.d5X) hf1;obtain rfl:cs1 = #[u0,u1,u2,u3,u4,u5,.int .i64 uu,.int .i64 ud,.int .i64 ul,.int .i64 uh,.slice una unn unc]:=by cases cs1;simp_all
 obtain⟨c20,c21,y20,y21,m2,rfl,rfl,rfl,hy20,hy21⟩:=open_agg2 underlying32 (by kernel_rfl) a0Q (hval 2 32 v2 rfl rfl) h2;obtain⟨a2,e20,rfl,wa2⟩:=pD underlying3 hy20;obtain⟨b2,e21,rfl,wb2⟩:=pD underlying3 hy21;simp at e20 e21;subst e20 e21
 have reads2:∀ (W':World) (sp:Nat->Bool),DataW.Trod enc prog W' 0 sp true 32 (.agg #[.int .i64 a2,.int .i64 b2]) (.agg [.lit (.int .i64 a2),.lit (.int .i64 b2)]) []:=fun W' sp =>
  shut_agg2 (y0:=(.lit (.int .i64 a2),[])) (y1:=(.lit (.int .i64 b2),[])) underlying32 (by kernel_rfl) a0Q ⟨1,by simp[DataW.trod,underlying3,wa2]⟩ ⟨1,by simp[DataW.trod,underlying3,wb2]⟩
 obtain⟨a3,rfl,rfl,rfl,w3⟩:=open_int underlying3 (hval 3 3 v3 rfl rfl) h3;refine(d0Z W.heap.size c0 e0 u0 u1 u2 u3 u4 u5 una unn unc l0 t0 q1 uu ud ul uh a2 b2 a3 W (jQ _) hl0 ht0 hq1 hul huh (bounds_i64 w3)).mono fun e W' ⟨he,bel⟩=>?_;subst he;exact⟨_,rfl,_,_,_,[],_,[],hW',trodAll_mk1 (shut_bool underlying4 _),(trodAll_cons_mk (Below.trod azJ (by kernel_rfl) (eH (by kernel_rfl)) hk0 bel hlt0) (trodAll_cons_mk (Below.trod azJ (by kernel_rfl) (eH (by kernel_rfl)) hk1 bel hlt1) (trodAll_cons_mk (reads2 _ _) (trodAll_cons_mk (shut_int underlying3 w3) trodAll_mk0)))),rfl,bel.frame _,fun h=>by cases h⟩
theorem d7X:Rows.TopDrawsSaid :=
 OpenClaim.holds_of_wide 5 Tryz.f5 rfl rfl rfl rfl rfl rfl rfl ⟨rfl,rfl,rfl,rfl,rfl⟩ rfl rfl rfl rfl rfl (by kernel_rfl) func5 (by kernel_rfl)
  (eH (by kernel_rfl)) (by unfold Func.isWrapper;first|(rw[zQ (by decide +kernel)];kernel_rfl)|(rw[qQ (by decide +kernel)];exact⟨rfl,rfl⟩))
  (fun os started H enc _=>d7Q os started H enc)
theorem topDraws_holds:Rows.TopDrawsCardSaid :=
 Claim7.holds_tied_plain_at .later [] _ _ _ _ d7X (fun _ h=>by cases h) (by kernel_rfl) (fun _ h=>by cases h) topDraws_row_tie rfl ⟨rfl,rfl⟩ (by kernel_rfl) rfl
  (fun f fn hf hfn=>by
   obtain rfl : f = 5 := Option.some.inj ((show prog.funcNamed "hushhouse/hushtop.TopDraws" = some 5 by kernel_rfl).symm.trans hf) |>.symm;obtain rfl:fn=Tryz.f5:=(Option.some.inj (func5.symm.trans hfn)).symm
   exact⟨by kernel_rfl,fun j t ht=>by
    rw[params5] at ht;have hm:t∈[25,66,32,3]:=by simpa using Array.mem_of_getElem? ht
    have hall:([25,66,32,3].all fun u=>!prog.wantsStandIn u)=true:=by kernel_rfl
    exact(show prog.wantsStandIn t=false by simpa using mN.1 hall t hm)⟩)
  (by kernel_rfl)
#print axioms topDraws_holds

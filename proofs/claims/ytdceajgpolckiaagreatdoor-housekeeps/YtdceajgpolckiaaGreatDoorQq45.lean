import Derived.Test.YtdceajgpolckiaaGreatDoorQq43
import Derived.Test.YtdceajgpolckiaaGreatDoorQq44
import Derived.Test.YtdceajgpolckiaaGreatDoorTie
import Derived.Test.YtdceajgpolckiaaGreatDoorCards
import Derived.Lay
import Derived.LaidMore
import Derived.Stop.Joined
import Derived.SevenTiedAt
import Derived.LaidLaws
import Derived.Deep.DeepHandedRow
import Derived.Deep.DeepWitnessRowRef
import Derived.JoinedCond
open Go.Proofs.Tryz
set_option linter.unusedSimpArgs false
set_option maxHeartbeats 16000000
set_option maxRecDepth 100000
namespace Go.Proofs.YtdceajgpolckiaaGreatDoor
section
open Go.ChangeShapes Go.WideShapes Go.ChangeAt Go.RowKit Go.Joins Ds
theorem eiZ:ownKnob prog.godebug=none:=by kernel_rfl
theorem eiJ (os:Os)(args:Array Value):laidMetH prog Rows.houseKeepsUptoRow.laid ((World.laidAll prog os Rows.houseKeepsUptoRow.laid).forCall (fun _ _=>0) ⟨#[],args,[]⟩).memory:=by
 rw[MakeChecks.laidMetH_plain _ _ _ (by kernel_rfl)];exact laidMet_laidAll _ (by kernel_rfl) (by kernel_rfl)
theorem a4X:laidOutB prog=true:=by kernel_rfl
theorem ejQ (H:Type)(enc:TypeId × Value->H)(W:World)(base:Nat)(args:Array Value)(ds gs:List (DataW H))(before:List MemPlace)
  (hval:∀ (j:Nat) t v,Tryz.f3.params[j]? = some t->args[j]? = some v->Value.okWide prog W .any base t v)
  (hW:DataW.Whole enc prog Tryz.f3.params.toList Rows.houseKeepsSpec.vars false W args.toList ds gs before) (hk:Rows.uptoSmall H (ds++gs)=true) :
  Calls prog 3 args W fun e W'=>∃ v,e=.returned v/\Rows.houseKeepsSpec.post enc prog Tryz.f3 false true false false W args v W':=by
 have hW':=hW;obtain⟨p,q,hA0,hV,rfl,hfz,hnd⟩:=hW;have hA:DataW.TrodAll enc prog W 0 (fun _=>true) true Tryz.f3.params.toList args.toList ds p:=hA0;rw[params3] at hA hval;obtain⟨v0,vs0,d0,ds0,p0,q0,hargs,rfl,rfl,h0,r0⟩:=trodAll_cons hA;obtain⟨v1,vs1,d1,ds1,p1,q1,rfl,rfl,rfl,h1,r1⟩:=trodAll_cons r0;obtain⟨v2,vs2,d2,ds2,p2,q2,rfl,rfl,rfl,h2,r2⟩:=trodAll_cons r1;obtain⟨rfl,rfl,rfl⟩:=trodAll_nil r2;obtain rfl:args = #[v0,v1,v2]:=by cases args;simp_all
 obtain⟨rfl,rfl⟩:=trodVars_none hV;clear hA0;simp only[xD] at hW' hk;have hbulk:Rows.uptoBulkAll [d0,d1,d2]<=1048576:=cH hk;simp only[Rows.uptoBulkAll] at hbulk;have hlt0:∀ y∈p0,y.block<W.heap.size:=fun y hy=>by simpa using hW'.lt y (by simp[hy])
 have hk0:=h0;obtain⟨c0,e0,y0,z0,m0,rfl,_,_,hy0,hz0⟩:=open_agg2 underlying25 (by kernel_rfl) K.ebJ (hval 0 25 v0 rfl rfl) h0;obtain⟨l0,hl0⟩:=K.ecZ hy0;obtain⟨t0,ht0⟩:=K.ecQ hz0;obtain⟨a1,rfl,rfl,rfl,w1⟩:=open_int underlying3 (hval 1 3 v1 rfl rfl) h1;have hlt2:∀ y∈p2,y.block<W.heap.size:=fun y hy=>by simpa using hW'.lt y (by simp[hy])
 have hk2:=h2;obtain⟨s2,sl2,sc2,rfl⟩:=okWide_slice underlying26 (hval 2 26 v2 rfl rfl);obtain⟨fuel2,hf2⟩:=h2;simp only[Value.cells] at hf2;obtain⟨x2,hx2,hI2⟩:=K.eiX hf2 (by omega);refine(ebQ W.heap.size c0 e0 (.slice s2 sl2 sc2) l0 t0 a1 x2 W (vQ _) hl0 ht0 hx2 (uQ hI2 (by decide))).mono fun e W' ⟨he,bel⟩=>?_;subst he;exact⟨_,rfl,_,_,_,[],_,[],hW',trodAll_mk1 (shut_bool underlying4 _),(trodAll_cons_mk (Below.trod a4X (by kernel_rfl) (cH (by kernel_rfl)) hk0 bel hlt0) (trodAll_cons_mk (shut_int underlying3 w1) (trodAll_cons_mk (Below.trod a4X (by kernel_rfl) (cH (by kernel_rfl)) hk2 bel hlt2) trodAll_mk0))),rfl,bel.frame _,fun h=>by cases h⟩
theorem ejX (os:Os){H:Type}(enc:TypeId × Value->H):∃ places,DataW.whole enc prog ((World.laidAll prog os Rows.houseKeepsUptoRow.laid).forCall (fun _ _=>0) ⟨#[],#[.agg #[.slice none 0 0,.slice none 0 0],.int .i64 0,.slice none 0 0],[]⟩).memory Tryz.f3.params.toList Rows.houseKeepsSpec.vars false (#[.agg #[.slice none 0 0,.slice none 0 0],.int .i64 0,.slice none 0 0]:Array Value).toList 8=some ([.agg [.nil,.nil],.lit (.int .i64 0),.nil],[],places) :=
 ⟨[],by kernel_rfl⟩
theorem ejZ (os:Os)(started:os.Started)(H:Type)(enc:TypeId × Value->H)(F:Stop.Interp) :
  ReturnsInHanded {} Tryz.checked os 3 .any ((Rows.OpenSpec.upto Rows.houseKeepsSpec).preRow enc prog Tryz.f3 Rows.houseKeepsUptoRow.domain false Rows.houseKeepsUptoRow.laid) (((Rows.OpenSpec.upto Rows.houseKeepsSpec).at F).post enc prog Tryz.f3 false true false false):=by
 obtain⟨places,hx⟩:=ejX os enc
 refine returnsInHanded_of_row (C:=Tryz.checked) (s:=Rows.OpenSpec.upto Rows.houseKeepsSpec) eiZ started (by kernel_rfl) func3
  (witness_row_atRef (enc:=enc) (C:=Tryz.checked) false (World.laidAll prog os Rows.houseKeepsUptoRow.laid) #[.agg #[.slice none 0 0,.slice none 0 0],.int .i64 0,.slice none 0 0] (World.laidAll_os _ _ _) (by kernel_rfl) (by kernel_rfl) (by kernel_rfl)
   (OpenSpec.preRow_of_cond 8 hx (by kernel_rfl) (fun k hk=>by cases hk;kernel_rfl) (by kernel_rfl) (eiJ os _))) ?_
 intro W base args ds gs before hval hW _ hcond _ _ _ _;exact ejQ H enc W base args ds gs before hval hW (hcond _ rfl)
theorem ejJ:Rows.HouseKeepsUptoSaid :=
 OpenClaim.holds_of_cond 3 Tryz.f3 rfl rfl rfl rfl rfl rfl rfl ⟨rfl,rfl,rfl,rfl,rfl⟩ rfl rfl rfl rfl rfl (by kernel_rfl) func3 (by kernel_rfl)
  (cH (by kernel_rfl)) (by unfold Func.isWrapper;first|(rw[xQ (by decide +kernel)];kernel_rfl)|(rw[qQ (by decide +kernel)];exact⟨rfl,rfl⟩))
  (fun os started H enc _ F=>by rw[OpenClaim.pre_eq_preRow];exact ejZ os started H enc F)
theorem houseKeeps_card:Rows.HouseKeepsUptoCardSaid :=
 Claim7.holds_tied_plain_at .later [] _ _ _ _ ejJ (fun _ h=>by cases h) (by kernel_rfl) (fun _ h=>by cases h) houseKeepsUpto_row_tie rfl ⟨rfl,rfl⟩ (by kernel_rfl) rfl
  (fun f fn hf hfn=>by
   obtain rfl : f = 3 := Option.some.inj ((show prog.funcNamed "hushhouse/hushlaw14.HouseKeeps" = some 3 by kernel_rfl).symm.trans hf) |>.symm;obtain rfl:fn=Tryz.f3:=(Option.some.inj (func3.symm.trans hfn)).symm
   exact⟨by kernel_rfl,fun j t ht=>by
    rw[params3] at ht;have hm:t∈[25,3,26]:=by simpa using Array.mem_of_getElem? ht
    have hall:([25,3,26].all fun u=>!prog.wantsStandIn u)=true:=by kernel_rfl
    exact(show prog.wantsStandIn t=false by simpa using fO.1 hall t hm)⟩)
  (by kernel_rfl)
#print axioms houseKeeps_card

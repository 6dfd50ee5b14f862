import Derived.Test.YtcaplmodgbpchaaGreatDoorQq45
import Derived.Test.YtcaplmodgbpchaaGreatDoorTie
import Derived.Test.YtcaplmodgbpchaaGreatDoorCards
import Derived.Lay
import Derived.LaidMore
import Derived.Stop.Joined
import Derived.SevenTiedAt
import Derived.LaidLaws
import Derived.Deep.DeepHandedRow
import Derived.Deep.DeepWitnessRowRef
import Derived.SizedLaws
open Go.Proofs.Tryz
open Go.Value(int)
open Go.IntKind(i64)
set_option linter.unusedSimpArgs false
set_option maxHeartbeats 16000000
set_option maxRecDepth 100000
namespace Go.Proofs.YtcaplmodgbpchaaGreatDoor
section
open Go.ChangeShapes Go.WideShapes Go.ChangeAt Go.RowKit Go.Joins Ds
theorem foZ:ownKnob prog.godebug=none:=by kernel_rfl
theorem foJ (os:Os)(args:Array Value):laidMetH prog Rows.housePlaysRow.laid ((World.laidAll prog os Rows.housePlaysRow.laid).forCall (fun _ _=>0) ⟨#[],args,[]⟩).memory:=by
 rw[MakeChecks.laidMetH_plain _ _ _ (by kernel_rfl)];exact laidMet_laidAll _ (by kernel_rfl) (by kernel_rfl)
theorem amQ:laidOutB prog=true:=by kernel_rfl
theorem fpQ (os:Os)(k:os.Started)(H:Type)(enc:TypeId × Value->H) :
  ReturnsInHanded {} Tryz.checked os 3 .any (fun w args=>(Rows.housePlaysSpec.pre enc prog Tryz.f3 [] false w args/\laidMetH prog Rows.housePlaysRow.laid w)/\sizedMet enc prog Tryz.f3 (OpenSpec.ofChange Rows.housePlaysSpec) false w args)
   (Rows.housePlaysSpec.post enc prog Tryz.f3 false true false false):=by
 refine returnsInHanded_of_change_and (C:=Tryz.checked) (X:=fun w _=>laidMetH prog Rows.housePlaysRow.laid w) (fun _ _ _ hh h=>h.of_heap hh) foZ k (by kernel_rfl) func3
  (ChangeSpec.witness_shaped (enc:=enc) (C:=Tryz.checked) (os:=os) (X:=fun w _=>laidMetH prog Rows.housePlaysRow.laid w) false (World.laidAll prog os Rows.housePlaysRow.laid) #[.agg #[.slice none 0 0,.slice none 0 0],.slice none 0 0,.slice none 0 0] 8 (World.laidAll_os _ _ _) (World.shaped_of_ZipB (by kernel_rfl) (by kernel_rfl)) (by kernel_rfl) (by kernel_rfl) (by kernel_rfl) (foJ os _)) ?_
 intro W base args ds gs F i hW _ l _ _;have a:∀ (j:Nat) t v,Tryz.f3.params[j]? = some t->args[j]? = some v->Value.okWide prog W .any base t v:=i;have g:=hW;obtain⟨p,q,m,hV,rfl,an,ao⟩:=hW;have hA:DataW.TrodAll enc prog W 0 (fun _=>true) true Tryz.f3.params.toList args.toList ds p:=m;rw[params3] at hA a;obtain⟨v0,b3,d0,ai,p0,q0,O,rfl,rfl,h0,r0⟩:=trodAll_cons hA;obtain⟨v1,b5,d1,aj,p1,q1,rfl,rfl,rfl,h1,r1⟩:=trodAll_cons r0;obtain⟨v2,b6,d2,ak,p2,q2,rfl,rfl,rfl,h2,r2⟩:=trodAll_cons r1;obtain⟨rfl,rfl,rfl⟩:=trodAll_nil r2;obtain rfl:args = #[v0,v1,v2]:=by cases args;simp_all
 obtain⟨rfl,rfl⟩:=trodVars_none hV;clear m i;simp only[bG] at g;have aq:reachBytes<140737488355328:=by decide
 have A:∀ y∈p0,y.block<W.heap.size:=fun y hy=>by simpa using g.lt y (by simp[hy])
 have P:=h0;obtain⟨c0,e0,y0,z0,m0,rfl,_,_,Z,a6⟩:=open_agg2 underlying25 (by kernel_rfl) K.fiQ (a 0 25 v0 rfl rfl) h0;obtain⟨l0,S⟩:=K.fiJ Z;obtain⟨t0,U⟩:=K.fiX a6;have B:∀ y∈p1,y.block<W.heap.size:=fun y hy=>by simpa using g.lt y (by simp[hy])
 have Q:=h1;obtain⟨s1,a9,a7,rfl⟩:=okWide_slice underlying26 (a 1 26 v1 rfl rfl);obtain⟨G,o⟩:=h1;simp only[Value.cells] at o;obtain⟨x1,V,J,M⟩:=K.foX o;have D:∀ y∈p2,y.block<W.heap.size:=fun y hy=>by simpa using g.lt y (by simp[hy])
 have R:=h2;obtain⟨s2,aa,a8,rfl⟩:=okWide_slice underlying27 (a 2 27 v2 rfl rfl);obtain⟨I,z⟩:=h2;simp only[Value.cells] at z;obtain⟨x2,Y,N⟩:=K.foQ z
 have T:x1.length<=17592186044416:=by
  rcases M with h|⟨e,s,h,h'⟩
  ·omega
  ·have L:=sized_slice l (j:=1) (t:=26) (elems:=e) (spare:=s) (by kernel_rfl) (by rw[h];rfl) underlying26
   rw[show Tryz.checked.prog.bytesOf 2=8 by kernel_rfl] at L;omega
 have E:x2.length<=1000000000000:=by
  rcases N with h|⟨e,s,h,h'⟩
  ·omega
  ·have L:=sized_slice l (j:=2) (t:=27) (elems:=e) (spare:=s) (by kernel_rfl) (by rw[h];rfl) underlying27
   rw[show Tryz.checked.prog.bytesOf 57=216 by kernel_rfl] at L;omega
 refine(fhX W.heap.size c0 e0 (.slice s2 aa a8) (.slice s1 a9 a7) l0 t0 x1 (x2.map Stv.x) W (vQ _) S U V J T (flJ Y (bQ E (by decide))) (by rw[pA];exact E)).mono fun e W' ⟨he,bel⟩=>?_;subst he;exact⟨_,rfl,_,_,_,[],_,[],g,trodAll_mk1 (shut_bool underlying4 _),(trodAll_cons_mk (Below.trod amQ (by kernel_rfl) (tD (by kernel_rfl)) P bel A) (trodAll_cons_mk (Below.trod amQ (by kernel_rfl) (tD (by kernel_rfl)) Q bel B) (trodAll_cons_mk (Below.trod amQ (by kernel_rfl) (tD (by kernel_rfl)) R bel D) trodAll_mk0))),rfl,bel.frame _,fun h=>by cases h⟩
theorem fpX:Rows.HousePlaysSaid :=
 OpenClaim.holds_of_wide 3 Tryz.f3 rfl rfl rfl rfl rfl rfl rfl ⟨rfl,rfl,rfl,rfl,rfl⟩ rfl rfl rfl rfl rfl (by kernel_rfl) func3 (by kernel_rfl)
  (tD (by kernel_rfl)) (by unfold Func.isWrapper;first|(rw[jQ (by decide +kernel)];kernel_rfl)|(rw[zQ (by decide +kernel)];exact⟨rfl,rfl⟩))
  (fun os started H enc _=>fpQ os started H enc)
theorem housePlays_holds:Rows.HousePlaysCardSaid :=
 Claim7.holds_tied_plain_at .later [] _ _ _ _ fpX (fun _ h=>by cases h) (by kernel_rfl) (fun _ h=>by cases h) housePlays_row_tie rfl ⟨rfl,rfl⟩ (by kernel_rfl) rfl
  (fun f fn hf hfn=>by
   obtain rfl : f = 3 := Option.some.inj ((show prog.funcNamed "hushhouse/hushlaw14.HousePlays" = some 3 by kernel_rfl).symm.trans hf) |>.symm;obtain rfl:fn=Tryz.f3:=(Option.some.inj (func3.symm.trans hfn)).symm
   exact⟨by kernel_rfl,fun j t ht=>by
    rw[params3] at ht;have g:t∈[25,26,27]:=by simpa using Array.mem_of_getElem? ht
    have a:([25,26,27].all fun u=>!prog.wantsStandIn u)=true:=by kernel_rfl
    exact(show prog.wantsStandIn t=false by simpa using aN.1 a t g)⟩)
  (by kernel_rfl)
#print axioms housePlays_holds

import Derived.Test.YtpmioeamdhdokaaGreatQq51
import Derived.Test.YtpmioeamdhdokaaGreatQq52
import Derived.Test.YtpmioeamdhdokaaGreatQq21
open Go.Proofs.Tryz
set_option linter.unusedSimpArgs false
set_option maxHeartbeats 16000000
set_option maxRecDepth 100000
namespace Go.Proofs.YtpmioeamdhdokaaGreat
section
open Go.ChangeShapes Go.WideShapes Go.ChangeAt Go.RowKit Go.Joins Ds
theorem f0Q:ownKnob prog.godebug=none:=by kernel_rfl
theorem amX:laidOutB prog=true:=by kernel_rfl
theorem b7X:prog.cellsOf 37=2:=by kernel_rfl
theorem f0X (os:Os)(started:os.Started)(H:Type)(enc:TypeId × Value->H) :
  ReturnsInHanded {} Tryz.checked os 5 .any (Rows.topHouseSpec.pre6 enc prog Tryz.f5 Rows.topHouseRow.domain false) (Rows.topHouseSpec.post enc prog Tryz.f5 false true false false):=by
 refine returnsInHanded_of_change (C:=Tryz.checked) f0Q started (by kernel_rfl) func5
  (ChangeSpec.witness6 (enc:=enc) (C:=Tryz.checked) false ⟨#[],#[.agg #[.slice none 0 0,.slice none 0 0],.slice none 0 0,.agg #[.int .i64 0,.int .i64 0],.slice none 0 0,.bool false],[]⟩ 8 (by kernel_rfl) (by kernel_rfl) (by kernel_rfl) (by kernel_rfl)) ?_
 intro W base args ds gs before hval0 hW hcnd _;have hval:∀ (j:Nat) t v,Tryz.f5.params[j]? = some t->args[j]? = some v->Value.okWide prog W .any base t v:=hval0;have hW':=hW;obtain⟨p,q,hA0,hV,rfl,hfz,hnd⟩:=hW;have hA:DataW.TrodAll enc prog W 0 (fun _=>true) true Tryz.f5.params.toList args.toList ds p:=hA0;rw[params5] at hA hval;obtain⟨v0,vs0,d0,ds0,p0,q0,hargs,rfl,rfl,h0,r0⟩:=trodAll_cons hA;obtain⟨v1,vs1,d1,ds1,p1,q1,rfl,rfl,rfl,h1,r1⟩:=trodAll_cons r0;obtain⟨v2,vs2,d2,ds2,p2,q2,rfl,rfl,rfl,h2,r2⟩:=trodAll_cons r1;obtain⟨v3,vs3,d3,ds3,p3,q3,rfl,rfl,rfl,h3,r3⟩:=trodAll_cons r2;obtain⟨v4,vs4,d4,ds4,p4,q4,rfl,rfl,rfl,h4,r4⟩:=trodAll_cons r3;obtain⟨rfl,rfl,rfl⟩:=trodAll_nil r4;obtain rfl:args = #[v0,v1,v2,v3,v4]:=by cases args;simp_all
 obtain⟨rfl,rfl⟩:=trodVars_none hV;clear hA0 hval0;simp only[yU] at hW';have hlt0:∀ y∈p0,y.block<W.heap.size:=fun y hy=>by simpa using hW'.lt y (by simp[hy])
 have hk0:=h0;obtain⟨c0,e0,y0,z0,m0,rfl,_,_,hy0,hz0⟩:=open_agg2 underlying25 (by kernel_rfl) K.ftZ (hval 0 25 v0 rfl rfl) h0;obtain⟨l0,hl0⟩:=K.fuX hy0;obtain⟨t0,ht0⟩:=K.ftJ hz0;have hlt1:∀ y∈p1,y.block<W.heap.size:=fun y hy=>by simpa using hW'.lt y (by simp[hy])
 have hk1:=h1;obtain⟨s1,sl1,sc1,rfl⟩:=okWide_slice underlying62 (hval 1 62 v1 rfl rfl);obtain⟨fuel1,hf1⟩:=h1;simp only[Value.cells] at hf1;obtain⟨x1,hx1,hI1⟩:=K.fzQ hf1;obtain⟨c20,c21,y20,y21,m2,rfl,rfl,rfl,hy20,hy21⟩:=open_agg2 underlying37 (by kernel_rfl) b7X (hval 2 37 v2 rfl rfl) h2;obtain⟨a2,e20,rfl,wa2⟩:=tF underlying3 hy20;obtain⟨b2,e21,rfl,wb2⟩:=tF underlying3 hy21;simp at e20 e21;subst e20 e21
 have reads2:∀ (W':World) (sp:Nat->Bool),DataW.Trod enc prog W' 0 sp true 37 (.agg #[.int .i64 a2,.int .i64 b2]) (.agg [.lit (.int .i64 a2),.lit (.int .i64 b2)]) []:=fun W' sp =>
  shut_agg2 (y0:=(.lit (.int .i64 a2),[])) (y1:=(.lit (.int .i64 b2),[])) underlying37 (by kernel_rfl) b7X ⟨1,by simp[DataW.trod,underlying3,wa2]⟩ ⟨1,by simp[DataW.trod,underlying3,wb2]⟩
 have hlt3:∀ y∈p3,y.block<W.heap.size:=fun y hy=>by simpa using hW'.lt y (by simp[hy])
 have hk3:=h3;obtain⟨s3,sl3,sc3,rfl⟩:=okWide_slice underlying23 (hval 3 23 v3 rfl rfl);obtain⟨fuel3,hf3⟩:=h3;simp only[Value.cells] at hf3;obtain⟨x3,hx3,hn3⟩:=K.fzZ hf3;obtain⟨bb,rfl,rfl,rfl⟩:=open_bool underlying4 (hval 4 4 v4 rfl rfl) h4;refine(ftQ W.heap.size c0 e0 (.slice s1 sl1 sc1) (.slice s3 sl3 sc3) l0 t0 x1 x3 a2 b2 bb W (vQ _) hl0 ht0 hx1 hI1 hx3 hn3).mono fun e W' ⟨he,bel⟩=>?_;subst he;exact⟨_,rfl,_,_,_,[],_,[],hW',trodAll_mk1 (shut_bool underlying4 _),(xE (Below.trod amX (by kernel_rfl) (qH (by kernel_rfl)) hk0 bel hlt0) (xE (Below.trod amX (by kernel_rfl) (qH (by kernel_rfl)) hk1 bel hlt1) (xE (reads2 _ _) (xE (Below.trod amX (by kernel_rfl) (qH (by kernel_rfl)) hk3 bel hlt3) (xE (shut_bool underlying4 _) trodAll_mk0))))),rfl,bel.frame _,fun h=>by cases h⟩
theorem topHouse_holds:Rows.TopHouseSaid :=
 OpenClaim.holds_of_wide 5 Tryz.f5 rfl rfl rfl rfl rfl rfl rfl ⟨rfl,rfl,rfl,rfl,rfl⟩ rfl rfl rfl rfl rfl (by kernel_rfl) func5 fzJ
  (qH (by kernel_rfl)) (by unfold Func.isWrapper;first|(rw[zQ (by decide +kernel)];kernel_rfl)|(rw[xQ (by decide +kernel)];exact⟨rfl,rfl⟩))
  (fun os started H enc _=>f0X os started H enc)
#print axioms topHouse_holds
end
end Go.Proofs.YtpmioeamdhdokaaGreat

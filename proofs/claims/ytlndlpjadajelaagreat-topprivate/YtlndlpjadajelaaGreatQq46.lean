import Derived.Test.YtlndlpjadajelaaGreatRows
import Derived.Test.YtlndlpjadajelaaGreatQq45
import Derived.ProofKit
import Derived.OpenShut
import Derived.Lib.SmallJoins
namespace Go.Proofs.YtlndlpjadajelaaGreat
open Go.ChangeShapes Go.WideShapes Go.ChangeAt Go.RowKit Go.Joins Go.Proofs.YtlndlpjadajelaaGreat.Ds
theorem topPrivate_own:ownKnob Tryz.prog.godebug=none:=by kernel_rfl
theorem topPrivate_laidOut:laidOutB Tryz.prog=true:=by kernel_rfl
theorem topPrivate_cells:Tryz.prog.cellsOf 23=2:=by kernel_rfl
set_option maxRecDepth 100000 in
theorem topPrivate_lifted (os:Os) (started:os.Started) (H:Type) (enc:TypeId × Value→H) :
  ReturnsInHanded {} Tryz.checked os 5 .any (Rows.topPrivateSpec.pre6 enc Tryz.prog Tryz.f5 Rows.topPrivateRow.domain false) (Rows.topPrivateSpec.post enc Tryz.prog Tryz.f5 false true false false):=by
 refine returnsInHanded_of_change (C:=Tryz.checked) topPrivate_own started (by kernel_rfl) Tryz.func5
  (ChangeSpec.witness6 (enc:=enc) (C:=Tryz.checked) false ⟨#[],#[.agg #[.slice none 0 0,.slice none 0 0],.agg #[.slice none 0 0,.slice none 0 0],.slice none 0 0,.agg #[.int .i64 0,.int .i64 0]],[]⟩ 8 (by kernel_rfl) (by kernel_rfl) (by kernel_rfl) (by kernel_rfl)) ?_
 intro W base args ds gs before hval0 hW hcnd _
 have hval:∀ (j:Nat) t v,Tryz.f5.params[j]? = some t→args[j]? = some v→Value.okWide Tryz.prog W .any base t v:=hval0
 have hW':=hW
 obtain ⟨p,q,hA0,hV,rfl,hfz,hnd⟩:=hW
 have hA:DataW.TrodAll enc Tryz.prog W 0 (fun _=>true) true Tryz.f5.params.toList args.toList ds p:=hA0
 rw [Tryz.params5] at hA hval
 obtain ⟨v0,vs0,d0,ds0,p0,q0,hargs,rfl,rfl,h0,r0⟩:=trodAll_cons hA
 obtain ⟨v1,vs1,d1,ds1,p1,q1,rfl,rfl,rfl,h1,r1⟩:=trodAll_cons r0
 obtain ⟨v2,vs2,d2,ds2,p2,q2,rfl,rfl,rfl,h2,r2⟩:=trodAll_cons r1
 obtain ⟨v3,vs3,d3,ds3,p3,q3,rfl,rfl,rfl,h3,r3⟩:=trodAll_cons r2
 obtain ⟨rfl,rfl,rfl⟩:=trodAll_nil r3
 obtain rfl:args = #[v0,v1,v2,v3]:=by cases args; simp_all
 obtain ⟨rfl,rfl⟩:=trodVars_none hV
 clear hA0 hval0
 simp only [List.append_nil] at hW'
 have hlt0:∀ y∈p0,y.block < W.heap.size:=fun y hy=>by simpa using hW'.lt y (by simp [hy])
 have hk0:=h0
 obtain ⟨c0,e0,y0,z0,m0,rfl,_,_,hy0,hz0⟩:=open_agg2 Tryz.underlying27 (by kernel_rfl) K.cells25 (hval 0 27 v0 rfl rfl) h0
 obtain ⟨l0,hl0⟩:=K.cols_of_trod hy0
 obtain ⟨t0,ht0⟩:=K.rows_of_trod hz0
 have hlt1:∀ y∈p1,y.block < W.heap.size:=fun y hy=>by simpa using hW'.lt y (by simp [hy])
 have hk1:=h1
 obtain ⟨c1,e1,y1,z1,m1,rfl,_,_,hy1,hz1⟩:=open_agg2 Tryz.underlying27 (by kernel_rfl) K.cells25 (hval 1 27 v1 rfl rfl) h1
 obtain ⟨l1,hl1⟩:=K.cols_of_trod hy1
 obtain ⟨t1,ht1⟩:=K.rows_of_trod hz1
 have hlt2:∀ y∈p2,y.block < W.heap.size:=fun y hy=>by simpa using hW'.lt y (by simp [hy])
 have hk2:=h2
 obtain ⟨s2,sl2,sc2,rfl⟩:=okWide_slice Tryz.underlying48 (hval 2 48 v2 rfl rfl)
 obtain ⟨fuel2,hf2⟩:=h2
 simp only [Value.cells] at hf2
 obtain ⟨x2,hx2,hI2⟩:=K.plan_of_trod hf2
 obtain ⟨c30,c31,y30,y31,m3,rfl,rfl,rfl,hy30,hy31⟩:=open_agg2 Tryz.underlying23 (by kernel_rfl) topPrivate_cells (hval 3 23 v3 rfl rfl) h3
 obtain ⟨a3,e30,rfl,wa3⟩:=DataW.trod_int Tryz.underlying3 hy30
 obtain ⟨b3,e31,rfl,wb3⟩:=DataW.trod_int Tryz.underlying3 hy31
 simp at e30 e31
 subst e30 e31
 have reads3:∀ (W':World) (sp:Nat→Bool),DataW.Trod enc Tryz.prog W' 0 sp true 23 (.agg #[.int .i64 a3,.int .i64 b3]) (.agg [.lit (.int .i64 a3),.lit (.int .i64 b3)]) []:=fun W' sp =>
  shut_agg2 (y0:=(.lit (.int .i64 a3),[])) (y1:=(.lit (.int .i64 b3),[])) Tryz.underlying23 (by kernel_rfl) topPrivate_cells ⟨1,by simp [DataW.trod,Tryz.underlying3,wa3]⟩ ⟨1,by simp [DataW.trod,Tryz.underlying3,wb3]⟩
 refine (topPrivate_walk W.heap.size c0 e0 c1 e1 (.slice s2 sl2 sc2) a3 b3 l0 t0 l1 t1 x2 W (Nat.le_refl _) hl0 ht0 hl1 ht1 hx2 hI2).mono fun e W' ⟨he,bel⟩=>?_
 subst he
 exact ⟨_,rfl,_,_,_,[],_,[],hW',trodAll_mk1 (shut_bool Tryz.underlying4 _),(trodAll_cons_mk (Below.trod topPrivate_laidOut (by kernel_rfl) (of_decide_eq_true (by kernel_rfl)) hk0 bel hlt0) (trodAll_cons_mk (Below.trod topPrivate_laidOut (by kernel_rfl) (of_decide_eq_true (by kernel_rfl)) hk1 bel hlt1) (trodAll_cons_mk (Below.trod topPrivate_laidOut (by kernel_rfl) (of_decide_eq_true (by kernel_rfl)) hk2 bel hlt2) (trodAll_cons_mk (reads3 _ _) trodAll_mk0)))),rfl,bel.frame _,fun h=>by cases h⟩
theorem topPrivate_holds:Rows.TopPrivateSaid :=
 OpenClaim.holds_of_wide 5 Tryz.f5 rfl rfl rfl rfl rfl rfl rfl ⟨rfl,rfl,rfl,rfl,rfl⟩ rfl rfl rfl rfl rfl (by kernel_rfl) Tryz.func5 (by kernel_rfl)
  (of_decide_eq_true (by kernel_rfl)) (by unfold Func.isWrapper; first | (rw [if_pos (by decide +kernel)]; kernel_rfl) | (rw [if_neg (by decide +kernel)]; exact ⟨rfl,rfl⟩))
  (fun os started H enc _=>topPrivate_lifted os started H enc)
#print axioms topPrivate_holds
end Go.Proofs.YtlndlpjadajelaaGreat

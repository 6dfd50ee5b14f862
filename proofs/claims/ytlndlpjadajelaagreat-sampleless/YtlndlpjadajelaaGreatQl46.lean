import Derived.Test.YtlndlpjadajelaaGreatRows
import Derived.Test.YtlndlpjadajelaaGreatQl45
import Derived.Test.YtlndlpjadajelaaGreatQl42
import Derived.ProofKit
import Derived.OpenShut
import Derived.Lib.SmallJoins
/-
  'Rows.SampleLessSaid', PROVED: the walk is LawLess's; here the row's frame.
-/
namespace Go.Proofs.YtlndlpjadajelaaGreat
open Go.ChangeShapes Go.WideShapes Go.ChangeAt Go.RowKit Go.Joins Go.Proofs.YtlndlpjadajelaaGreat.Ds

theorem sampleLess_own : ownKnob Tryz.prog.godebug = none := by kernel_rfl
theorem sampleLess_laidOut : laidOutB Tryz.prog = true := by kernel_rfl
theorem sampleLess_cells : Tryz.prog.cellsOf 23 = 2 := by kernel_rfl

set_option maxRecDepth 100000 in
theorem sampleLess_lifted (os : Os) (started : os.Started) (H : Type) (enc : TypeId × Value → H) :
    ReturnsInHanded {} Tryz.checked os 7 .any (Rows.sampleLessSpec.pre6 enc Tryz.prog Tryz.f7 Rows.sampleLessRow.domain false) (Rows.sampleLessSpec.post enc Tryz.prog Tryz.f7 false true false false) := by
  refine returnsInHanded_of_change (C := Tryz.checked) sampleLess_own started (by kernel_rfl) Tryz.func7
    (ChangeSpec.witness6 (enc := enc) (C := Tryz.checked) false ⟨#[], #[.agg #[.int .i64 0, .int .i64 0], .agg #[.int .i64 0, .int .i64 0], .int .i64 0, .int .i64 0, .agg #[.slice none 0 0, .slice none 0 0], .agg #[.slice none 0 0, .slice none 0 0], .agg #[.int .i64 0, .string ByteArray.empty, .int .i64 0, .int .i64 0, .slice none 0 0, .slice none 0 0]], []⟩ 8 (by kernel_rfl) (by kernel_rfl) (by kernel_rfl) (by kernel_rfl)) ?_
  intro W base args ds gs before hval0 hW hcnd _
  have hval : ∀ (j : Nat) t v, Tryz.f7.params[j]? = some t → args[j]? = some v → Value.okWide Tryz.prog W .any base t v := hval0
  have hW' := hW
  obtain ⟨p, q, hA0, hV, rfl, hfz, hnd⟩ := hW
  have hA : DataW.TrodAll enc Tryz.prog W 0 (fun _ => true) true Tryz.f7.params.toList args.toList ds p := hA0
  rw [Tryz.params7] at hA hval
  obtain ⟨v0, vs0, d0, ds0, p0, q0, hargs, rfl, rfl, h0, r0⟩ := trodAll_cons hA
  obtain ⟨v1, vs1, d1, ds1, p1, q1, rfl, rfl, rfl, h1, r1⟩ := trodAll_cons r0
  obtain ⟨v2, vs2, d2, ds2, p2, q2, rfl, rfl, rfl, h2, r2⟩ := trodAll_cons r1
  obtain ⟨v3, vs3, d3, ds3, p3, q3, rfl, rfl, rfl, h3, r3⟩ := trodAll_cons r2
  obtain ⟨v4, vs4, d4, ds4, p4, q4, rfl, rfl, rfl, h4, r4⟩ := trodAll_cons r3
  obtain ⟨v5, vs5, d5, ds5, p5, q5, rfl, rfl, rfl, h5, r5⟩ := trodAll_cons r4
  obtain ⟨v6, vs6, d6, ds6, p6, q6, rfl, rfl, rfl, h6, r6⟩ := trodAll_cons r5
  obtain ⟨rfl, rfl, rfl⟩ := trodAll_nil r6
  obtain rfl : args = #[v0, v1, v2, v3, v4, v5, v6] := by cases args; simp_all
  obtain ⟨rfl, rfl⟩ := trodVars_none hV
  clear hA0 hval0
  simp only [List.append_nil] at hW'
  obtain ⟨c00, c01, y00, y01, m0, rfl, rfl, rfl, hy00, hy01⟩ := open_agg2 Tryz.underlying23 (by kernel_rfl) sampleLess_cells (hval 0 23 v0 rfl rfl) h0
  obtain ⟨a0, e00, rfl, wa0⟩ := DataW.trod_int Tryz.underlying3 hy00
  obtain ⟨b0, e01, rfl, wb0⟩ := DataW.trod_int Tryz.underlying3 hy01
  simp at e00 e01
  subst e00 e01
  have reads0 : ∀ (W' : World) (sp : Nat → Bool), DataW.Trod enc Tryz.prog W' 0 sp true 23 (.agg #[.int .i64 a0, .int .i64 b0]) (.agg [.lit (.int .i64 a0), .lit (.int .i64 b0)]) [] := fun W' sp =>
    shut_agg2 (y0 := (.lit (.int .i64 a0), [])) (y1 := (.lit (.int .i64 b0), [])) Tryz.underlying23 (by kernel_rfl) sampleLess_cells ⟨1, by simp [DataW.trod, Tryz.underlying3, wa0]⟩ ⟨1, by simp [DataW.trod, Tryz.underlying3, wb0]⟩
  obtain ⟨c10, c11, y10, y11, m1, rfl, rfl, rfl, hy10, hy11⟩ := open_agg2 Tryz.underlying23 (by kernel_rfl) sampleLess_cells (hval 1 23 v1 rfl rfl) h1
  obtain ⟨a1, e10, rfl, wa1⟩ := DataW.trod_int Tryz.underlying3 hy10
  obtain ⟨b1, e11, rfl, wb1⟩ := DataW.trod_int Tryz.underlying3 hy11
  simp at e10 e11
  subst e10 e11
  have reads1 : ∀ (W' : World) (sp : Nat → Bool), DataW.Trod enc Tryz.prog W' 0 sp true 23 (.agg #[.int .i64 a1, .int .i64 b1]) (.agg [.lit (.int .i64 a1), .lit (.int .i64 b1)]) [] := fun W' sp =>
    shut_agg2 (y0 := (.lit (.int .i64 a1), [])) (y1 := (.lit (.int .i64 b1), [])) Tryz.underlying23 (by kernel_rfl) sampleLess_cells ⟨1, by simp [DataW.trod, Tryz.underlying3, wa1]⟩ ⟨1, by simp [DataW.trod, Tryz.underlying3, wb1]⟩
  obtain ⟨a2, rfl, rfl, rfl, w2⟩ := open_int Tryz.underlying3 (hval 2 3 v2 rfl rfl) h2
  obtain ⟨a3, rfl, rfl, rfl, w3⟩ := open_int Tryz.underlying3 (hval 3 3 v3 rfl rfl) h3
  have hlt4 : ∀ y ∈ p4, y.block < W.heap.size := fun y hy => by simpa using hW'.lt y (by simp [hy])
  have hk4 := h4
  obtain ⟨c4, e4, y4, z4, m4, rfl, _, _, hy4, hz4⟩ := open_agg2 Tryz.underlying27 (by kernel_rfl) K.cells25 (hval 4 27 v4 rfl rfl) h4
  obtain ⟨l4, hl4⟩ := K.cols_of_trod hy4
  obtain ⟨t4, ht4⟩ := K.rows_of_trod hz4
  have hlt5 : ∀ y ∈ p5, y.block < W.heap.size := fun y hy => by simpa using hW'.lt y (by simp [hy])
  have hk5 := h5
  obtain ⟨c5, e5, y5, z5, m5, rfl, _, _, hy5, hz5⟩ := open_agg2 Tryz.underlying27 (by kernel_rfl) K.cells25 (hval 5 27 v5 rfl rfl) h5
  obtain ⟨l5, hl5⟩ := K.cols_of_trod hy5
  obtain ⟨t5, ht5⟩ := K.rows_of_trod hz5
  have hlt6 : ∀ y ∈ p6, y.block < W.heap.size := fun y hy => by simpa using hW'.lt y (by simp [hy])
  have hk6 := h6
  obtain ⟨cs6, rfl, hsz6⟩ := okWide_struct Tryz.underlying31 (hval 6 31 v6 rfl rfl)
  obtain ⟨fuel6, hf6⟩ := h6
  simp only [Value.cells] at hf6
  obtain ⟨q6, a6, b6, c6, d6', e6, g6, hcs6, hq6⟩ := K.qu_of_trod fuel6 _ _ (by simpa using hsz6.trans K.cells6') hf6
  obtain rfl : cs6 = #[a6, b6, c6, d6', e6, g6] := by cases cs6; simp_all
  refine (sampleLess_walk W.heap.size a0 b0 a1 b1 a2 a3 c4 e4 c5 e5 a6 b6 c6 d6' e6 g6 l4 t4 l5 t5 q6 W (Nat.le_refl _) hl4 ht4 hl5 ht5 hq6).mono fun e W' ⟨he, bel⟩ => ?_
  subst he
  exact ⟨_, rfl, _, _, _, [], _, [], hW', trodAll_mk1 (shut_bool Tryz.underlying4 _), (trodAll_cons_mk (reads0 _ _) (trodAll_cons_mk (reads1 _ _) (trodAll_cons_mk (shut_int Tryz.underlying3 w2) (trodAll_cons_mk (shut_int Tryz.underlying3 w3) (trodAll_cons_mk (Below.trod sampleLess_laidOut (by kernel_rfl) (of_decide_eq_true (by kernel_rfl)) hk4 bel hlt4) (trodAll_cons_mk (Below.trod sampleLess_laidOut (by kernel_rfl) (of_decide_eq_true (by kernel_rfl)) hk5 bel hlt5) (trodAll_cons_mk (Below.trod sampleLess_laidOut (by kernel_rfl) (of_decide_eq_true (by kernel_rfl)) hk6 bel hlt6) trodAll_mk0))))))), rfl, bel.frame _, fun h => by cases h⟩

/-- THE STATEMENT. -/
theorem sampleLess_holds : Rows.SampleLessSaid :=
  OpenClaim.holds_of_wide 7 Tryz.f7 rfl rfl rfl rfl rfl rfl rfl ⟨rfl, rfl, rfl, rfl, rfl⟩ rfl rfl rfl rfl rfl (by kernel_rfl) Tryz.func7 (by kernel_rfl)
    (of_decide_eq_true (by kernel_rfl)) (by unfold Func.isWrapper; first | (rw [if_pos (by decide +kernel)]; kernel_rfl) | (rw [if_neg (by decide +kernel)]; exact ⟨rfl, rfl⟩))
    (fun os started H enc _ => sampleLess_lifted os started H enc)
#print axioms sampleLess_holds
end Go.Proofs.YtlndlpjadajelaaGreat

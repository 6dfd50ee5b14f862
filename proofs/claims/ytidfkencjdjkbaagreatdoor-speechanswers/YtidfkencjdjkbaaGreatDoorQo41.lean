import Derived.Test.YtidfkencjdjkbaaGreatDoorRows
import Derived.Test.YtidfkencjdjkbaaGreatDoorTie
import Derived.Test.YtidfkencjdjkbaaGreatDoorCards
import Derived.Test.YtidfkencjdjkbaaGreatDoorQo40
import Derived.Test.YtidfkencjdjkbaaGreatDoorQo29
import Derived.Test.YtidfkencjdjkbaaGreatDoorQo39
import Derived.ProofKit
import Derived.OpenShut
import Derived.Lib.SmallJoins
import Derived.Lib.LaidTab
import Derived.LaidMore
import Derived.Stop.Joined
import Derived.SevenTiedAt
import Derived.LaidLaws
import Derived.Deep.DeepHandedRow
import Derived.Deep.DeepWitnessRowRef
/-
  'Rows.SpeechAnswersCardSaid', PROVED: the walk is LawAnswers's; here the row's frame and the card.
-/
namespace Go.Proofs.YtidfkencjdjkbaaGreatDoor
open Go.ChangeShapes Go.WideShapes Go.ChangeAt Go.RowKit Go.Joins Sp

theorem speechAnswers_own : ownKnob Tryz.prog.godebug = none := by kernel_rfl
theorem speechAnswers_laidOut : laidOutB Tryz.prog = true := by kernel_rfl
/-- the door's own heap meets the condition -/
theorem speechAnswers_met (os : Os) (args : Array Value) : laidMetH Tryz.prog Rows.speechAnswersRow.laid ((World.doorLaid Tryz.prog 200 os).forCall (fun _ _ => 0) ⟨#[], args, []⟩).memory :=
  laidMetH_of_parts3 (fuel := 8) (laidMet_of_run' 8 (by kernel_rfl) (by kernel_rfl)) (by kernel_rfl) (by kernel_rfl)
theorem cells117 : Tryz.prog.cellsOf 150 = 1 := by kernel_rfl
theorem cells130 : Tryz.prog.cellsOf 159 = 20 := by kernel_rfl
theorem pow_data : (Rows.laid_internal_strconv_uint64pow10 : DataW Unit) = Lib.tabData .u64 Lib.pow10Tab := by kernel_rfl
theorem sgs_data : (Rows.laid_hushhouse_speech_signs : DataW Unit) = .agg (sgs.map fun s => .lit (.string s)) := by kernel_rfl
theorem type_of {nm : String} {g t T : Nat} (e1 : (Tryz.prog.globalNamed nm).bind (fun g => (Tryz.prog.globals[g]?).map (·.type)) = some T) (hg : Tryz.prog.globalNamed nm = some g) (ht : (Tryz.prog.globals[g]?).map (·.type) = some t) : t = T := by
  rw [hg, Option.bind_some, ht] at e1
  exact Option.some.inj e1
theorem glo_size {W : World} (h : laidMetH Tryz.prog Rows.speechAnswersRow.laid W) : 5 ≤ W.heap.size := by
  rw [MakeChecks.laidMetH_plain _ _ _ (by kernel_rfl)] at h
  obtain ⟨ps, ⟨g0, t0, cs0, f0, p0, q0, hg0, ht0, hv0, hd0, ⟨g1, t1, cs1, f1, p1, q1, hg1, ht1, hv1, hd1, ⟨g2, t2, cs2, f2, p2, q2, hg2, ht2, hv2, hd2, ⟨g3, t3, cs3, f3, p3, q3, hg3, ht3, hv3, hd3, _, _⟩, _⟩, _⟩, _⟩, _⟩ := h
  have e3 := type_of (T := 133) (by kernel_rfl) hg3 ht3
  subst e3
  obtain ⟨fl, u, v, hcs, _⟩ := iface_of_trod Tryz.underlying133 hd3
  have hc := World.var?_cell (show Tryz.prog.globalNamed "strconv.ErrRange" = some 4 by kernel_rfl) hv3 0
  rw [← Array.getElem?_toList, hcs] at hc
  exact cell_lt hc
/-- what the condition gives the walk: the table of powers, the signs, an error -/
theorem glo_of_laid {W : World} (h : laidMetH Tryz.prog Rows.speechAnswersRow.laid W) (h5 : 5 ≤ W.heap.size) : Lib.TabIs Tryz.prog W "internal/strconv.uint64pow10" .u64 Lib.pow10Tab ∧ Glo W := by
  rw [MakeChecks.laidMetH_plain _ _ _ (by kernel_rfl)] at h
  obtain ⟨ps, ⟨g0, t0, cs0, f0, p0, q0, hg0, ht0, hv0, hd0, ⟨g1, t1, cs1, f1, p1, q1, hg1, ht1, hv1, hd1, ⟨g2, t2, cs2, f2, p2, q2, hg2, ht2, hv2, hd2, ⟨g3, t3, cs3, f3, p3, q3, hg3, ht3, hv3, hd3, ⟨g4, t4, cs4, f4, p4, q4, hg4, ht4, hv4, hd4, ⟨g5, t5, cs5, f5, p5, q5, hg5, ht5, hv5, hd5, _, _⟩, _⟩, _⟩, _⟩, _⟩, _⟩, _⟩ := h
  have e2 := type_of (T := 159) (by kernel_rfl) hg2 ht2
  have e3 := type_of (T := 133) (by kernel_rfl) hg3 ht3
  have e5 := type_of (T := 137) (by kernel_rfl) hg5 ht5
  subst e2 e3 e5
  have n3 : Tryz.prog.globalNamed "strconv.ErrRange" = some 4 := by kernel_rfl
  have n5 : Tryz.prog.globalNamed "hushhouse/speech.signs" = some 0 := by kernel_rfl
  refine ⟨?_, ⟨?_, ?_, h5⟩⟩
  · rw [pow_data] at hd2
    unfold Lib.TabIs
    rw [hv2, ← Lib.cells_of_tab Tryz.underlying159 Tryz.underlying150 cells117 cells130 hd2]
  · intro i t hi
    have hc := World.var?_cell n5 hv5 i
    rw [hc]
    rw [sgs_data] at hd5
    obtain ⟨xs, m, rfl, hx, hlen, hxl, hel⟩ := DataW.trod_array Tryz.underlying137 hd5
    have hi7 : i < 7 := by have := (List.getElem?_eq_some_iff.1 hi).1; simpa [sgs] using this
    have h1 := hel i hi7
    rw [cells9, Nat.mul_one] at h1
    obtain ⟨x, hxi⟩ : ∃ x, xs[i]? = some x := ⟨_, List.getElem?_eq_getElem (by omega)⟩
    rw [hxi] at h1
    obtain ⟨s, d0, hs, _⟩ := DataW.trod_string Tryz.underlying9 h1
    simp only [Prod.mk.injEq, DataW.agg.injEq] at hx
    have h2 := congrArg (fun l => l[i]?) hx.1
    simp only [List.getElem?_map, hi, hxi, Option.map_some, hs, Option.some.injEq, DataW.lit.injEq, Lit.string.injEq] at h2
    have h3 := congrArg (fun l => l[0]?) d0
    simp only [List.getElem?_cons_zero] at h3
    rw [List.getElem?_take, List.getElem?_drop] at h3
    simp only [Nat.add_zero] at h3
    rw [if_pos (by omega)] at h3
    rw [← Array.getElem?_toList, h3, h2]
  · obtain ⟨fl, u, v, hcs, _⟩ := iface_of_trod Tryz.underlying133 hd3
    have hc := World.var?_cell n3 hv3 0
    rw [← Array.getElem?_toList, hcs] at hc
    exact ⟨_, hc, .inr ⟨u, v, rfl⟩⟩

set_option maxRecDepth 100000 in
theorem speechAnswers_lifted (os : Os) (started : os.Started) (H : Type) (enc : TypeId × Value → H) :
    ReturnsInHanded {} Tryz.checked os 4 .any (fun w args => (Rows.speechAnswersSpec.pre enc Tryz.prog Tryz.f4 [] false w args ∧ laidMetH Tryz.prog Rows.speechAnswersRow.laid w) ∧ sizedMet enc Tryz.prog Tryz.f4 (OpenSpec.ofChange Rows.speechAnswersSpec) false w args)
      (Rows.speechAnswersSpec.post enc Tryz.prog Tryz.f4 false true false false) := by
  refine returnsInHanded_of_change_and (C := Tryz.checked) (X := fun w _ => laidMetH Tryz.prog Rows.speechAnswersRow.laid w) (fun _ _ _ hh h => h.of_heap hh) speechAnswers_own started (by kernel_rfl) Tryz.func4
    (ChangeSpec.witness_shaped (enc := enc) (C := Tryz.checked) (os := os) (X := fun w _ => laidMetH Tryz.prog Rows.speechAnswersRow.laid w) false (World.doorLaid Tryz.prog 200 os) #[.agg #[.slice none 0 0, .slice none 0 0], .agg #[.int .i64 0, .string ByteArray.empty, .int .i64 0, .int .i64 0, .slice none 0 0, .slice none 0 0]] 8 rfl (World.shaped_of_RefB (by kernel_rfl) (by kernel_rfl)) (by kernel_rfl) (by kernel_rfl) (by kernel_rfl) (speechAnswers_met os _)) ?_
  intro W base args ds gs before hval0 hW _ _ hL _
  have hval : ∀ (j : Nat) t v, Tryz.f4.params[j]? = some t → args[j]? = some v → Value.okWide Tryz.prog W .any base t v := hval0
  have hW' := hW
  obtain ⟨p, q, hA0, hV, rfl, hfz, hnd⟩ := hW
  have hA : DataW.TrodAll enc Tryz.prog W 0 (fun _ => true) true Tryz.f4.params.toList args.toList ds p := hA0
  rw [Tryz.params4] at hA hval
  obtain ⟨v0, vs0, d0, ds0, p0, q0, hargs, rfl, rfl, h0, r0⟩ := trodAll_cons hA
  obtain ⟨v1, vs1, d1, ds1, p1, q1, rfl, rfl, rfl, h1, r1⟩ := trodAll_cons r0
  obtain ⟨rfl, rfl, rfl⟩ := trodAll_nil r1
  obtain rfl : args = #[v0, v1] := by cases args; simp_all
  obtain ⟨rfl, rfl⟩ := trodVars_none hV
  clear hA0 hval0
  simp only [List.append_nil] at hW'
  have hlt0 : ∀ y ∈ p0, y.block < W.heap.size := fun y hy => by simpa using hW'.lt y (by simp [hy])
  have hlt1 : ∀ y ∈ p1, y.block < W.heap.size := fun y hy => by simpa using hW'.lt y (by simp [hy])
  have hk0 := h0
  have hk1 := h1
  obtain ⟨c0, e0, y0, z0, m0, rfl, _, _, hy0, hz0⟩ := open_agg2 Tryz.underlying33 (by kernel_rfl) K.cells25 (hval 0 33 v0 rfl rfl) h0
  obtain ⟨l0, hl0⟩ := K.cols_of_trod hy0
  obtain ⟨t0, ht0⟩ := K.rows_of_trod hz0
  obtain ⟨cs1, rfl, hsz1⟩ := okWide_struct Tryz.underlying25 (hval 1 25 v1 rfl rfl)
  obtain ⟨fuel1, hf1⟩ := h1
  simp only [Value.cells] at hf1
  obtain ⟨q1', hq1, -⟩ := qu_of_trod fuel1 _ _ (by simpa using hsz1.trans cells25) hf1
  have h5 : 5 ≤ W.heap.size := glo_size hL
  obtain ⟨htab, hglo⟩ := glo_of_laid hL h5
  refine (speechAnswers_walk l0 t0 c0 e0 q1' cs1.toList W hl0 ht0 hq1 hglo (Lib.tabBelow_of_tabIs htab)).mono fun e W' ⟨he, bel⟩ => ?_
  subst he
  exact ⟨_, rfl, _, _, _, [], _, [], hW', trodAll_mk1 (shut_bool Tryz.underlying4 _), (trodAll_cons_mk (Below.trod speechAnswers_laidOut (by kernel_rfl) (of_decide_eq_true (by kernel_rfl)) hk0 bel hlt0) (trodAll_cons_mk (Below.trod speechAnswers_laidOut (by kernel_rfl) (of_decide_eq_true (by kernel_rfl)) hk1 bel hlt1) trodAll_mk0)), rfl, bel.frame _, fun h => by cases h⟩

theorem speechAnswers_row : Rows.SpeechAnswersSaid :=
  OpenClaim.holds_of_wide 4 Tryz.f4 rfl rfl rfl rfl rfl rfl rfl ⟨rfl, rfl, rfl, rfl, rfl⟩ rfl rfl rfl rfl rfl (by kernel_rfl) Tryz.func4 (by kernel_rfl)
    (of_decide_eq_true (by kernel_rfl)) (by unfold Func.isWrapper; first | (rw [if_pos (by decide +kernel)]; kernel_rfl) | (rw [if_neg (by decide +kernel)]; exact ⟨rfl, rfl⟩))
    (fun os started H enc _ => speechAnswers_lifted os started H enc)

/-- THE STATEMENT: the tied card. -/
theorem speechAnswers_holds : Rows.SpeechAnswersCardSaid :=
  Claim7.holds_tied_plain_at .later [] _ _ _ _ speechAnswers_row (fun _ h => by cases h) (by kernel_rfl) (fun _ h => by cases h) speechAnswers_row_tie rfl ⟨rfl, rfl⟩ (by kernel_rfl) rfl
    (fun f fn hf hfn => by
      obtain rfl : f = 4 := Option.some.inj ((show Tryz.prog.funcNamed "hushhouse/hushlaw15.SpeechAnswers" = some 4 by kernel_rfl).symm.trans hf) |>.symm
      obtain rfl : fn = Tryz.f4 := (Option.some.inj (Tryz.func4.symm.trans hfn)).symm
      exact ⟨by kernel_rfl, fun j t ht => by
        rw [Tryz.params4] at ht
        have hm : t ∈ [33, 25] := by simpa using Array.mem_of_getElem? ht
        have hall : ([33, 25].all fun u => !Tryz.prog.wantsStandIn u) = true := by kernel_rfl
        exact (show Tryz.prog.wantsStandIn t = false by simpa using List.all_eq_true.1 hall t hm)⟩)
    (by kernel_rfl)
#print axioms speechAnswers_holds
end Go.Proofs.YtidfkencjdjkbaaGreatDoor

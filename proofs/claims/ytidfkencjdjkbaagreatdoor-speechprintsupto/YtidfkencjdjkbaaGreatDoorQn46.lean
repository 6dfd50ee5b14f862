import Derived.Test.YtidfkencjdjkbaaGreatDoorRows
import Derived.Test.YtidfkencjdjkbaaGreatDoorTie
import Derived.Test.YtidfkencjdjkbaaGreatDoorCards
import Derived.Test.YtidfkencjdjkbaaGreatDoorQn44
import Derived.Test.YtidfkencjdjkbaaGreatDoorQn45
import Derived.ProofKit
import Derived.OpenShut
import Derived.Lib.SmallJoins
import Derived.Lib.LaidTab
import Derived.LaidMore
import Derived.Stop.Joined
import Derived.SevenTiedAt
import Derived.LaidLaws
import Derived.Deep.DeepHandedRow
import Derived.Deep.DeepWitnessRowRef
/-
  'Rows.SpeechPrintsUptoCardSaid', PROVED: the walk is LawPrints's; here the row's frame and the card.
-/
namespace Go.Proofs.YtidfkencjdjkbaaGreatDoor
open Go.ChangeShapes Go.WideShapes Go.ChangeAt Go.RowKit Go.Joins Sp

theorem speechPrints_own : ownKnob Tryz.prog.godebug = none := by kernel_rfl
theorem speechPrints_laidOut : laidOutB Tryz.prog = true := by kernel_rfl
/-- the door's own heap meets the condition -/
theorem speechPrints_met (os : Os) (args : Array Value) : laidMetH Tryz.prog Rows.speechPrintsUptoRow.laid ((World.doorLaid Tryz.prog 200 os).forCall (fun _ _ => 0) ⟨#[], args, []⟩).memory :=
  laidMetH_of_parts3 (fuel := 8) (laidMet_of_run' 8 (by kernel_rfl) (by kernel_rfl)) (by kernel_rfl) (by kernel_rfl)
theorem cells117 : Tryz.prog.cellsOf 150 = 1 := by kernel_rfl
theorem cells130 : Tryz.prog.cellsOf 159 = 20 := by kernel_rfl
theorem cells108 : Tryz.prog.cellsOf 137 = 7 := by kernel_rfl
theorem pow_data : (Rows.laid_internal_strconv_uint64pow10 : DataW Unit) = Lib.tabData .u64 Lib.pow10Tab := by kernel_rfl
theorem sgs_data : (Rows.laid_hushhouse_speech_signs : DataW Unit) = .agg (sgs.map fun s => .lit (.string s)) := by kernel_rfl
theorem type_of {nm : String} {g t T : Nat} (e1 : (Tryz.prog.globalNamed nm).bind (fun g => (Tryz.prog.globals[g]?).map (·.type)) = some T) (hg : Tryz.prog.globalNamed nm = some g) (ht : (Tryz.prog.globals[g]?).map (·.type) = some t) : t = T := by
  rw [hg, Option.bind_some, ht] at e1
  exact Option.some.inj e1
theorem glo_size {W : World} (h : laidMetH Tryz.prog Rows.speechPrintsUptoRow.laid W) : 5 ≤ W.heap.size := by
  rw [MakeChecks.laidMetH_plain _ _ _ (by kernel_rfl)] at h
  obtain ⟨ps, ⟨g0, t0, cs0, f0, p0, q0, hg0, ht0, hv0, hd0, ⟨g1, t1, cs1, f1, p1, q1, hg1, ht1, hv1, hd1, ⟨g2, t2, cs2, f2, p2, q2, hg2, ht2, hv2, hd2, ⟨g3, t3, cs3, f3, p3, q3, hg3, ht3, hv3, hd3, _, _⟩, _⟩, _⟩, _⟩, _⟩ := h
  have e3 := type_of (T := 133) (by kernel_rfl) hg3 ht3
  subst e3
  obtain ⟨fl, u, v, hcs, _⟩ := iface_of_trod Tryz.underlying133 hd3
  have hc := World.var?_cell (show Tryz.prog.globalNamed "strconv.ErrRange" = some 4 by kernel_rfl) hv3 0
  rw [← Array.getElem?_toList, hcs] at hc
  exact cell_lt hc
/-- what the condition gives the walk: the table of powers, the signs, an error -/
theorem glo_of_laid {W : World} (h : laidMetH Tryz.prog Rows.speechPrintsUptoRow.laid W) (h5 : 5 ≤ W.heap.size) : Lib.TabIs Tryz.prog W "internal/strconv.uint64pow10" .u64 Lib.pow10Tab ∧ Glo W := by
  rw [MakeChecks.laidMetH_plain _ _ _ (by kernel_rfl)] at h
  obtain ⟨ps, ⟨g0, t0, cs0, f0, p0, q0, hg0, ht0, hv0, hd0, ⟨g1, t1, cs1, f1, p1, q1, hg1, ht1, hv1, hd1, ⟨g2, t2, cs2, f2, p2, q2, hg2, ht2, hv2, hd2, ⟨g3, t3, cs3, f3, p3, q3, hg3, ht3, hv3, hd3, ⟨g4, t4, cs4, f4, p4, q4, hg4, ht4, hv4, hd4, ⟨g5, t5, cs5, f5, p5, q5, hg5, ht5, hv5, hd5, _, _⟩, _⟩, _⟩, _⟩, _⟩, _⟩, _⟩ := h
  have e2 := type_of (T := 159) (by kernel_rfl) hg2 ht2
  have e3 := type_of (T := 133) (by kernel_rfl) hg3 ht3
  have e5 := type_of (T := 137) (by kernel_rfl) hg5 ht5
  subst e2 e3 e5
  have n3 : Tryz.prog.globalNamed "strconv.ErrRange" = some 4 := by kernel_rfl
  have n5 : Tryz.prog.globalNamed "hushhouse/speech.signs" = some 0 := by kernel_rfl
  refine ⟨?_, ⟨?_, ?_, h5⟩⟩
  · rw [pow_data] at hd2
    unfold Lib.TabIs
    rw [hv2, ← Lib.cells_of_tab Tryz.underlying159 Tryz.underlying150 cells117 cells130 hd2]
  · intro i t hi
    have hc := World.var?_cell n5 hv5 i
    rw [hc]
    rw [sgs_data] at hd5
    obtain ⟨xs, m, rfl, hx, hlen, hxl, hel⟩ := DataW.trod_array Tryz.underlying137 hd5
    have hi7 : i < 7 := by have := (List.getElem?_eq_some_iff.1 hi).1; simpa [sgs] using this
    have h1 := hel i hi7
    rw [cells9, Nat.mul_one] at h1
    obtain ⟨x, hxi⟩ : ∃ x, xs[i]? = some x := ⟨_, List.getElem?_eq_getElem (by omega)⟩
    rw [hxi] at h1
    obtain ⟨s, d0, hs, _⟩ := DataW.trod_string Tryz.underlying9 h1
    simp only [Prod.mk.injEq, DataW.agg.injEq] at hx
    have h2 := congrArg (fun l => l[i]?) hx.1
    simp only [List.getElem?_map, hi, hxi, Option.map_some, hs, Option.some.injEq, DataW.lit.injEq, Lit.string.injEq] at h2
    have h3 := congrArg (fun l => l[0]?) d0
    simp only [List.getElem?_cons_zero] at h3
    rw [List.getElem?_take, List.getElem?_drop] at h3
    simp only [Nat.add_zero] at h3
    rw [if_pos (by omega)] at h3
    rw [← Array.getElem?_toList, h3, h2]
  · obtain ⟨fl, u, v, hcs, _⟩ := iface_of_trod Tryz.underlying133 hd3
    have hc := World.var?_cell n3 hv3 0
    rw [← Array.getElem?_toList, hcs] at hc
    exact ⟨_, hc, .inr ⟨u, v, rfl⟩⟩

set_option maxRecDepth 100000 in
theorem speechPrints_contract (H : Type) (enc : TypeId × Value → H) (W : World) (base : Nat) (args : Array Value) (ds gs : List (DataW H)) (before : List MemPlace)
    (hval : ∀ (j : Nat) t v, Tryz.f3.params[j]? = some t → args[j]? = some v → Value.okWide Tryz.prog W .any base t v)
    (hW : DataW.Whole enc Tryz.prog Tryz.f3.params.toList Rows.speechPrintsSpec.vars false W args.toList ds gs before) (hL : laidMetH Tryz.prog Rows.speechPrintsUptoRow.laid W) (hk : Rows.uptoSmall H (ds ++ gs) = true) :
    Calls Tryz.prog 3 args W fun e W' => ∃ v, e = .returned v ∧ Rows.speechPrintsSpec.post enc Tryz.prog Tryz.f3 false true false false W args v W' := by
  have hW' := hW
  obtain ⟨p, q, hA0, hV, rfl, hfz, hnd⟩ := hW
  have hA : DataW.TrodAll enc Tryz.prog W 0 (fun _ => true) true Tryz.f3.params.toList args.toList ds p := hA0
  rw [Tryz.params3] at hA hval
  obtain ⟨v0, vs0, d0, ds0, p0, q0, hargs, rfl, rfl, h0, r0⟩ := trodAll_cons hA
  obtain ⟨rfl, rfl, rfl⟩ := trodAll_nil r0
  obtain rfl : args = #[v0] := by cases args; simp_all
  obtain ⟨rfl, rfl⟩ := trodVars_none hV
  clear hA0
  simp only [List.append_nil] at hW' hk
  have hbulk : Rows.uptoBulkAll [d0] ≤ 1048576 := of_decide_eq_true hk
  simp only [Rows.uptoBulkAll] at hbulk
  have hlt0 : ∀ y ∈ p0, y.block < W.heap.size := fun y hy => by simpa using hW'.lt y (by simp [hy])
  have hk0 := h0
  obtain ⟨cs0, rfl, hsz0⟩ := okWide_struct Tryz.underlying25 (hval 0 25 v0 rfl rfl)
  obtain ⟨fuel0, hf0⟩ := h0
  simp only [Value.cells] at hf0
  obtain ⟨q0', hq0, hz0⟩ := qu_of_trod fuel0 _ _ (by simpa using hsz0.trans cells25) hf0
  simp only at hz0
  have h5 : 5 ≤ W.heap.size := glo_size hL
  obtain ⟨htab, hglo⟩ := glo_of_laid hL h5
  refine (speechPrints_walk q0' cs0.toList W hq0 (by omega) hglo (Lib.tabBelow_of_tabIs htab)).mono fun e W' ⟨he, bel⟩ => ?_
  subst he
  exact ⟨_, rfl, _, _, _, [], _, [], hW', trodAll_mk1 (shut_bool Tryz.underlying4 _), (trodAll_cons_mk (Below.trod speechPrints_laidOut (by kernel_rfl) (of_decide_eq_true (by kernel_rfl)) hk0 bel hlt0) trodAll_mk0), rfl, bel.frame _, fun h => by cases h⟩

theorem speechPrints_reads (os : Os) {H : Type} (enc : TypeId × Value → H) : ∃ places, DataW.whole enc Tryz.prog ((World.doorLaid Tryz.prog 200 os).forCall (fun _ _ => 0) ⟨#[], #[.agg #[.int .i64 0, .string ByteArray.empty, .int .i64 0, .int .i64 0, .slice none 0 0, .slice none 0 0]], []⟩).memory Tryz.f3.params.toList Rows.speechPrintsSpec.vars false (#[.agg #[.int .i64 0, .string ByteArray.empty, .int .i64 0, .int .i64 0, .slice none 0 0, .slice none 0 0]] : Array Value).toList 8 = some ([.agg [.lit (.int .i64 0), .lit (.string []), .lit (.int .i64 0), .lit (.int .i64 0), .nil, .nil]], [], places) :=
  ⟨[], by kernel_rfl⟩

set_option maxRecDepth 100000 in
theorem speechPrints_lifted (os : Os) (started : os.Started) (H : Type) (enc : TypeId × Value → H) (F : Stop.Interp) :
    ReturnsInHanded {} Tryz.checked os 3 .any ((Rows.OpenSpec.upto Rows.speechPrintsSpec).preRow enc Tryz.prog Tryz.f3 Rows.speechPrintsUptoRow.domain false Rows.speechPrintsUptoRow.laid) (((Rows.OpenSpec.upto Rows.speechPrintsSpec).at F).post enc Tryz.prog Tryz.f3 false true false false) := by
  obtain ⟨places, hx⟩ := speechPrints_reads os enc
  refine returnsInHanded_of_row (C := Tryz.checked) (s := Rows.OpenSpec.upto Rows.speechPrintsSpec) speechPrints_own started (by kernel_rfl) Tryz.func3
    (witness_row_atRef (enc := enc) (C := Tryz.checked) false (World.doorLaid Tryz.prog 200 os) #[.agg #[.int .i64 0, .string ByteArray.empty, .int .i64 0, .int .i64 0, .slice none 0 0, .slice none 0 0]] rfl (by kernel_rfl) (by kernel_rfl) (by kernel_rfl)
      (OpenSpec.preRow_of_cond 8 hx (by kernel_rfl) (fun k hk => by cases hk; kernel_rfl) (by kernel_rfl) (speechPrints_met os _))) ?_
  intro W base args ds gs before hval hW _ hcond _ hL _ _
  exact speechPrints_contract H enc W base args ds gs before hval hW hL (hcond _ rfl)

theorem speechPrints_upto : Rows.SpeechPrintsUptoSaid :=
  OpenClaim.holds_of_cond 3 Tryz.f3 rfl rfl rfl rfl rfl rfl rfl ⟨rfl, rfl, rfl, rfl, rfl⟩ rfl rfl rfl rfl rfl (by kernel_rfl) Tryz.func3 (by kernel_rfl)
    (of_decide_eq_true (by kernel_rfl)) (by unfold Func.isWrapper; first | (rw [if_pos (by decide +kernel)]; kernel_rfl) | (rw [if_neg (by decide +kernel)]; exact ⟨rfl, rfl⟩))
    (fun os started H enc _ F => by rw [OpenClaim.pre_eq_preRow]; exact speechPrints_lifted os started H enc F)

/-- THE STATEMENT: the second form's card. -/
theorem speechPrints_card : Rows.SpeechPrintsUptoCardSaid :=
  Claim7.holds_tied_plain_at .later [] _ _ _ _ speechPrints_upto (fun _ h => by cases h) (by kernel_rfl) (fun _ h => by cases h) speechPrintsUpto_row_tie rfl ⟨rfl, rfl⟩ (by kernel_rfl) rfl
    (fun f fn hf hfn => by
      obtain rfl : f = 3 := Option.some.inj ((show Tryz.prog.funcNamed "hushhouse/hushlaw15.SpeechPrints" = some 3 by kernel_rfl).symm.trans hf) |>.symm
      obtain rfl : fn = Tryz.f3 := (Option.some.inj (Tryz.func3.symm.trans hfn)).symm
      exact ⟨by kernel_rfl, fun j t ht => by
        rw [Tryz.params3] at ht
        have hm : t ∈ [25] := by simpa using Array.mem_of_getElem? ht
        have hall : ([25].all fun u => !Tryz.prog.wantsStandIn u) = true := by kernel_rfl
        exact (show Tryz.prog.wantsStandIn t = false by simpa using List.all_eq_true.1 hall t hm)⟩)
    (by kernel_rfl)
#print axioms speechPrints_card
end Go.Proofs.YtidfkencjdjkbaaGreatDoor

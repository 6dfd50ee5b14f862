import Derived.Test.YtidfkencjdjkbaaDoorRows
import Derived.Test.YtidfkencjdjkbaaDoorTie
import Derived.Test.YtidfkencjdjkbaaDoorCards
import Derived.Test.YtidfkencjdjkbaaDoorQr44
import Derived.ProofKit
import Derived.OpenShut
import Derived.Lib.SmallJoins
import Derived.Lib.LaidTab
import Derived.LaidMore
import Derived.Stop.Joined
import Derived.SevenTiedAt
import Derived.LaidLaws
/-
  'Rows.SpeechReadsCardSaid', PROVED: the walk is LawReads's; here the row's frame and the card.
-/
namespace Go.Proofs.YtidfkencjdjkbaaDoor
open Go.ChangeShapes Go.WideShapes Go.ChangeAt Go.RowKit Go.Joins Sp

theorem speechReads_own : ownKnob Tryd.prog.godebug = none := by kernel_rfl
theorem speechReads_laidOut : laidOutB Tryd.prog = true := by kernel_rfl
/-- the door's own heap meets the condition -/
theorem speechReads_met (os : Os) (args : Array Value) : laidMetH Tryd.prog Rows.speechReadsRow.laid ((World.doorLaid Tryd.prog 200 os).forCall (fun _ _ => 0) ⟨#[], args, []⟩).memory :=
  laidMetH_of_parts3 (fuel := 8) (laidMet_of_run' 8 (by kernel_rfl) (by kernel_rfl)) (by kernel_rfl) (by kernel_rfl)
theorem cells117 : Tryd.prog.cellsOf 117 = 1 := by kernel_rfl
theorem cells130 : Tryd.prog.cellsOf 130 = 20 := by kernel_rfl
theorem pow_data : (Rows.laid_internal_strconv_uint64pow10 : DataW Unit) = Lib.tabData .u64 Lib.pow10Tab := by kernel_rfl
theorem sgs_data : (Rows.laid_hushhouse_speech_signs : DataW Unit) = .agg (sgs.map fun s => .lit (.string s)) := by kernel_rfl
theorem type_of {nm : String} {g t T : Nat} (e1 : (Tryd.prog.globalNamed nm).bind (fun g => (Tryd.prog.globals[g]?).map (·.type)) = some T) (hg : Tryd.prog.globalNamed nm = some g) (ht : (Tryd.prog.globals[g]?).map (·.type) = some t) : t = T := by
  rw [hg, Option.bind_some, ht] at e1
  exact Option.some.inj e1
theorem glo_size {W : World} (h : laidMetH Tryd.prog Rows.speechReadsRow.laid W) : 5 ≤ W.heap.size := by
  rw [MakeChecks.laidMetH_plain _ _ _ (by kernel_rfl)] at h
  obtain ⟨ps, ⟨g0, t0, cs0, f0, p0, q0, hg0, ht0, hv0, hd0, ⟨g1, t1, cs1, f1, p1, q1, hg1, ht1, hv1, hd1, ⟨g2, t2, cs2, f2, p2, q2, hg2, ht2, hv2, hd2, ⟨g3, t3, cs3, f3, p3, q3, hg3, ht3, hv3, hd3, _, _⟩, _⟩, _⟩, _⟩, _⟩ := h
  have e3 := type_of (T := 104) (by kernel_rfl) hg3 ht3
  subst e3
  obtain ⟨fl, u, v, hcs, _⟩ := iface_of_trod Tryd.underlying104 hd3
  have hc := World.var?_cell (show Tryd.prog.globalNamed "strconv.ErrRange" = some 4 by kernel_rfl) hv3 0
  rw [← Array.getElem?_toList, hcs] at hc
  exact cell_lt hc
/-- what the condition gives the walk: the table of powers, the signs, an error -/
theorem glo_of_laid {W : World} (h : laidMetH Tryd.prog Rows.speechReadsRow.laid W) (h5 : 5 ≤ W.heap.size) : Lib.TabIs Tryd.prog W "internal/strconv.uint64pow10" .u64 Lib.pow10Tab ∧ Glo W := by
  rw [MakeChecks.laidMetH_plain _ _ _ (by kernel_rfl)] at h
  obtain ⟨ps, ⟨g0, t0, cs0, f0, p0, q0, hg0, ht0, hv0, hd0, ⟨g1, t1, cs1, f1, p1, q1, hg1, ht1, hv1, hd1, ⟨g2, t2, cs2, f2, p2, q2, hg2, ht2, hv2, hd2, ⟨g3, t3, cs3, f3, p3, q3, hg3, ht3, hv3, hd3, ⟨g4, t4, cs4, f4, p4, q4, hg4, ht4, hv4, hd4, ⟨g5, t5, cs5, f5, p5, q5, hg5, ht5, hv5, hd5, _, _⟩, _⟩, _⟩, _⟩, _⟩, _⟩, _⟩ := h
  have e2 := type_of (T := 130) (by kernel_rfl) hg2 ht2
  have e3 := type_of (T := 104) (by kernel_rfl) hg3 ht3
  have e5 := type_of (T := 108) (by kernel_rfl) hg5 ht5
  subst e2 e3 e5
  have n3 : Tryd.prog.globalNamed "strconv.ErrRange" = some 4 := by kernel_rfl
  have n5 : Tryd.prog.globalNamed "hushhouse/speech.signs" = some 0 := by kernel_rfl
  refine ⟨?_, ⟨?_, ?_, h5⟩⟩
  · rw [pow_data] at hd2
    unfold Lib.TabIs
    rw [hv2, ← Lib.cells_of_tab Tryd.underlying130 Tryd.underlying117 cells117 cells130 hd2]
  · intro i t hi
    have hc := World.var?_cell n5 hv5 i
    rw [hc]
    rw [sgs_data] at hd5
    obtain ⟨xs, m, rfl, hx, hlen, hxl, hel⟩ := DataW.trod_array Tryd.underlying108 hd5
    have hi7 : i < 7 := by have := (List.getElem?_eq_some_iff.1 hi).1; simpa [sgs] using this
    have h1 := hel i hi7
    rw [cells9, Nat.mul_one] at h1
    obtain ⟨x, hxi⟩ : ∃ x, xs[i]? = some x := ⟨_, List.getElem?_eq_getElem (by omega)⟩
    rw [hxi] at h1
    obtain ⟨s, d0, hs, _⟩ := DataW.trod_string Tryd.underlying9 h1
    simp only [Prod.mk.injEq, DataW.agg.injEq] at hx
    have h2 := congrArg (fun l => l[i]?) hx.1
    simp only [List.getElem?_map, hi, hxi, Option.map_some, hs, Option.some.injEq, DataW.lit.injEq, Lit.string.injEq] at h2
    have h3 := congrArg (fun l => l[0]?) d0
    simp only [List.getElem?_cons_zero] at h3
    rw [List.getElem?_take, List.getElem?_drop] at h3
    simp only [Nat.add_zero] at h3
    rw [if_pos (by omega)] at h3
    rw [← Array.getElem?_toList, h3, h2]
  · obtain ⟨fl, u, v, hcs, _⟩ := iface_of_trod Tryd.underlying104 hd3
    have hc := World.var?_cell n3 hv3 0
    rw [← Array.getElem?_toList, hcs] at hc
    exact ⟨_, hc, .inr ⟨u, v, rfl⟩⟩

set_option maxRecDepth 100000 in
theorem speechReads_lifted (os : Os) (started : os.Started) (H : Type) (enc : TypeId × Value → H) :
    ReturnsInHanded {} Tryd.checked os 3 .any (fun w args => (Rows.speechReadsSpec.pre enc Tryd.prog Tryd.f3 [] false w args ∧ laidMetH Tryd.prog Rows.speechReadsRow.laid w) ∧ sizedMet enc Tryd.prog Tryd.f3 (OpenSpec.ofChange Rows.speechReadsSpec) false w args)
      (Rows.speechReadsSpec.post enc Tryd.prog Tryd.f3 false true false false) := by
  refine returnsInHanded_of_change_and (C := Tryd.checked) (X := fun w _ => laidMetH Tryd.prog Rows.speechReadsRow.laid w) (fun _ _ _ hh h => h.of_heap hh) speechReads_own started (by kernel_rfl) Tryd.func3
    (ChangeSpec.witness_shaped (enc := enc) (C := Tryd.checked) (os := os) (X := fun w _ => laidMetH Tryd.prog Rows.speechReadsRow.laid w) false (World.doorLaid Tryd.prog 200 os) #[.string ByteArray.empty] 8 rfl (World.shaped_of_RefB (by kernel_rfl) (by kernel_rfl)) (by kernel_rfl) (by kernel_rfl) (by kernel_rfl) (speechReads_met os _)) ?_
  intro W base args ds gs before hval0 hW _ _ hL _
  have hval : ∀ (j : Nat) t v, Tryd.f3.params[j]? = some t → args[j]? = some v → Value.okWide Tryd.prog W .any base t v := hval0
  have hW' := hW
  obtain ⟨p, q, hA0, hV, rfl, hfz, hnd⟩ := hW
  have hA : DataW.TrodAll enc Tryd.prog W 0 (fun _ => true) true Tryd.f3.params.toList args.toList ds p := hA0
  rw [Tryd.params3] at hA hval
  obtain ⟨v0, vs0, d0, ds0, p0, q0, hargs, rfl, rfl, h0, r0⟩ := trodAll_cons hA
  obtain ⟨rfl, rfl, rfl⟩ := trodAll_nil r0
  obtain rfl : args = #[v0] := by cases args; simp_all
  obtain ⟨rfl, rfl⟩ := trodVars_none hV
  clear hA0 hval0
  simp only [List.append_nil] at hW'
  have hlt0 : ∀ y ∈ p0, y.block < W.heap.size := fun y hy => by simpa using hW'.lt y (by simp [hy])
  have hk0 := h0
  obtain ⟨s0, rfl, rfl, rfl, hs0⟩ := Go.ChangeMaps.open_string Tryd.underlying9 (hval 0 9 v0 rfl rfl) h0
  have h5 : 5 ≤ W.heap.size := glo_size hL
  obtain ⟨htab, hglo⟩ := glo_of_laid hL h5
  refine (speechReads_walk s0.data.toList W (str_ok hs0) hglo (Lib.tabBelow_of_tabIs htab)).mono fun e W' ⟨he, bel⟩ => ?_
  subst he
  exact ⟨_, rfl, _, _, _, [], _, [], hW', trodAll_mk1 (shut_bool Tryd.underlying4 _), (trodAll_cons_mk (Below.trod speechReads_laidOut (by kernel_rfl) (of_decide_eq_true (by kernel_rfl)) hk0 bel hlt0) trodAll_mk0), rfl, bel.frame _, fun h => by cases h⟩

theorem speechReads_row : Rows.SpeechReadsSaid :=
  OpenClaim.holds_of_wide 3 Tryd.f3 rfl rfl rfl rfl rfl rfl rfl ⟨rfl, rfl, rfl, rfl, rfl⟩ rfl rfl rfl rfl rfl (by kernel_rfl) Tryd.func3 (by kernel_rfl)
    (of_decide_eq_true (by kernel_rfl)) (by unfold Func.isWrapper; first | (rw [if_pos (by decide +kernel)]; kernel_rfl) | (rw [if_neg (by decide +kernel)]; exact ⟨rfl, rfl⟩))
    (fun os started H enc _ => speechReads_lifted os started H enc)

/-- THE STATEMENT: the tied card. -/
theorem speechReads_holds : Rows.SpeechReadsCardSaid :=
  Claim7.holds_tied_plain_at .later [] _ _ _ _ speechReads_row (fun _ h => by cases h) (by kernel_rfl) (fun _ h => by cases h) speechReads_row_tie rfl ⟨rfl, rfl⟩ (by kernel_rfl) rfl
    (fun f fn hf hfn => by
      obtain rfl : f = 3 := Option.some.inj ((show Tryd.prog.funcNamed "hushhouse/hushlaw15.SpeechReads" = some 3 by kernel_rfl).symm.trans hf) |>.symm
      obtain rfl : fn = Tryd.f3 := (Option.some.inj (Tryd.func3.symm.trans hfn)).symm
      exact ⟨by kernel_rfl, fun j t ht => by
        rw [Tryd.params3] at ht
        have hm : t ∈ [9] := by simpa using Array.mem_of_getElem? ht
        have hall : ([9].all fun u => !Tryd.prog.wantsStandIn u) = true := by kernel_rfl
        exact (show Tryd.prog.wantsStandIn t = false by simpa using List.all_eq_true.1 hall t hm)⟩)
    (by kernel_rfl)
#print axioms speechReads_holds
end Go.Proofs.YtidfkencjdjkbaaDoor

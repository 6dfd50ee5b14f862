/-
  NARROWER THAN 'FOR EVERY INPUT', by the rows' own cells (each row's printed sentence says how): AskTypes: loops · AskRuns: loops · AskSound: loops · AskMoves: loops · AskParts: loops.
  DERIVED. THE GIVEN ROWS OF THIS SEAT. 5 by the template 'for every input the law returns true; each argument reads behind the call as it read before'; 0 by the template 'total and deterministic' (their statements: YtejeiahbnnechaaTotals.lean).
  GIVEN WITH THE SEED: the statements are not yours to turn. If you find one false, say at which input.
  Laid BY PROGRAM, IN A SANDBOX (cutbox-rows.mjs): the forced cells as the released guide's own fill.sh prints them over the translation 668dbd323c6dacea… (all of the seat's roots in one cut). By AI agents, Wed Nov 11 2026. No macro, syntax, notation, axiom, sorry.
-/
import Derived.Test.YtejeiahbnnechaaChecked
import GoSem.Claim
import GoSem.ClaimJoined
import GoSem.ClaimMapViews
import Derived.JoinedTies
import Derived.KernelRfl
namespace Go.Proofs.Ytejeiahbnnechaa
/- THE CELL 'sum', in the pinned program and in every row, IS THE sha256 OF THE DUMP (.gsa) THAT YtejeiahbnnechaaProg.lean LOADS. Nothing in Lean hashes anything: it is a label: what it is worth is what the hold of that sum in a sandbox is worth. -/
noncomputable def Try.pinned : Pinned := { name := "ytejeiahbnnechaa", sum := "668dbd323c6dacea7687a7a6954eb51dab1fc68c26deb9feb317627e64637117", checked := Try.checked }
namespace Rows
def none {H : Type} : Left H := { results := [], args := [] }

/-- 'hushlaw5.AskTypes': WHATEVER THE INPUT: true; the input reads as it did. -/
def askTypesSpec : ChangeSpec := { name := "askTypes", fn := fun _ => fun
  | [d1, d2, d3] => { results := [.lit (.bool true)], args := [d1, d2, d3] }
  | _ => none }
def askTypesRow : OpenClaim := { program := "ytejeiahbnnechaa", sum := "668dbd323c6dacea7687a7a6954eb51dab1fc68c26deb9feb317627e64637117", func := "hushhouse/hushlaw5.AskTypes", spec := "askTypes", unfollowed := true, recurses := true, loops := true, apart := false }
def AskTypesSaid : Prop := askTypesRow.holds Try.pinned (OpenSpec.ofChange askTypesSpec)

/-- ITS FALSE NEIGHBOUR: 'it returns false'. Refute it at one input. -/
def askTypesWrong : ChangeSpec := { name := "askTypes", fn := fun _ => fun
  | [d1, d2, d3] => { results := [.lit (.bool false)], args := [d1, d2, d3] }
  | _ => none }
def AskTypesWrongFalsely : Prop := askTypesRow.holds Try.pinned (OpenSpec.ofChange askTypesWrong)

/-- 'hushlaw5.AskRuns': WHATEVER THE INPUT: true; the input reads as it did. -/
def askRunsSpec : ChangeSpec := { name := "askRuns", fn := fun _ => fun
  | [d1, d2] => { results := [.lit (.bool true)], args := [d1, d2] }
  | _ => none }
def askRunsRow : OpenClaim := { program := "ytejeiahbnnechaa", sum := "668dbd323c6dacea7687a7a6954eb51dab1fc68c26deb9feb317627e64637117", func := "hushhouse/hushlaw5.AskRuns", spec := "askRuns", unfollowed := true, recurses := true, loops := true, apart := false }
def AskRunsSaid : Prop := askRunsRow.holds Try.pinned (OpenSpec.ofChange askRunsSpec)

/-- ITS FALSE NEIGHBOUR: 'it returns false'. Refute it at one input. -/
def askRunsWrong : ChangeSpec := { name := "askRuns", fn := fun _ => fun
  | [d1, d2] => { results := [.lit (.bool false)], args := [d1, d2] }
  | _ => none }
def AskRunsWrongFalsely : Prop := askRunsRow.holds Try.pinned (OpenSpec.ofChange askRunsWrong)

/-- 'hushlaw5.AskSound': WHATEVER THE INPUT: true; the input reads as it did. -/
def askSoundSpec : ChangeSpec := { name := "askSound", fn := fun _ => fun
  | [d1, d2] => { results := [.lit (.bool true)], args := [d1, d2] }
  | _ => none }
def askSoundRow : OpenClaim := { program := "ytejeiahbnnechaa", sum := "668dbd323c6dacea7687a7a6954eb51dab1fc68c26deb9feb317627e64637117", func := "hushhouse/hushlaw5.AskSound", spec := "askSound", unfollowed := true, recurses := true, loops := true, apart := false }
def AskSoundSaid : Prop := askSoundRow.holds Try.pinned (OpenSpec.ofChange askSoundSpec)

/-- ITS FALSE NEIGHBOUR: 'it returns false'. Refute it at one input. -/
def askSoundWrong : ChangeSpec := { name := "askSound", fn := fun _ => fun
  | [d1, d2] => { results := [.lit (.bool false)], args := [d1, d2] }
  | _ => none }
def AskSoundWrongFalsely : Prop := askSoundRow.holds Try.pinned (OpenSpec.ofChange askSoundWrong)

/-- 'hushlaw5.AskMoves': WHATEVER THE INPUT: true; the input reads as it did. -/
def askMovesSpec : ChangeSpec := { name := "askMoves", fn := fun _ => fun
  | [d1, d2, d3] => { results := [.lit (.bool true)], args := [d1, d2, d3] }
  | _ => none }
def askMovesRow : OpenClaim := { program := "ytejeiahbnnechaa", sum := "668dbd323c6dacea7687a7a6954eb51dab1fc68c26deb9feb317627e64637117", func := "hushhouse/hushlaw5.AskMoves", spec := "askMoves", unfollowed := true, recurses := true, loops := true, apart := false }
def AskMovesSaid : Prop := askMovesRow.holds Try.pinned (OpenSpec.ofChange askMovesSpec)

/-- ITS FALSE NEIGHBOUR: 'it returns false'. Refute it at one input. -/
def askMovesWrong : ChangeSpec := { name := "askMoves", fn := fun _ => fun
  | [d1, d2, d3] => { results := [.lit (.bool false)], args := [d1, d2, d3] }
  | _ => none }
def AskMovesWrongFalsely : Prop := askMovesRow.holds Try.pinned (OpenSpec.ofChange askMovesWrong)

/-- 'hushlaw5.AskParts': WHATEVER THE INPUT: true; the input reads as it did. -/
def askPartsSpec : ChangeSpec := { name := "askParts", fn := fun _ => fun
  | [d1, d2, d3] => { results := [.lit (.bool true)], args := [d1, d2, d3] }
  | _ => none }
def askPartsRow : OpenClaim := { program := "ytejeiahbnnechaa", sum := "668dbd323c6dacea7687a7a6954eb51dab1fc68c26deb9feb317627e64637117", func := "hushhouse/hushlaw5.AskParts", spec := "askParts", unfollowed := true, recurses := true, loops := true, apart := false }
def AskPartsSaid : Prop := askPartsRow.holds Try.pinned (OpenSpec.ofChange askPartsSpec)

/-- ITS FALSE NEIGHBOUR: 'it returns false'. Refute it at one input. -/
def askPartsWrong : ChangeSpec := { name := "askParts", fn := fun _ => fun
  | [d1, d2, d3] => { results := [.lit (.bool false)], args := [d1, d2, d3] }
  | _ => none }
def AskPartsWrongFalsely : Prop := askPartsRow.holds Try.pinned (OpenSpec.ofChange askPartsWrong)

/- THE SECOND FORM. 'bulk': how many values and letters a reading holds, each counted each time it is reached (what is shared counts as often as it is met; a slice's spare places count too). A statement '..UptoSaid' is the law's where the arguments, and the package variables that the reading takes, are together of bulk at most 1048576: NARROWER than '..Said'. Prove '..Said' where nothing that the law and all that it calls make is longer than what came in: it says more and counts as full. Else prove '..UptoSaid'. A law counts once. -/
mutual
def uptoBulk {H : Type} : DataW H → Nat
  | .lit (.string bytes) => bytes.length + 1
  | .lit _ => 1
  | .nil => 1
  | .ptr d => uptoBulk d + 1
  | .slice elems spare => uptoBulkAll elems + uptoBulkAll spare + 1
  | .agg parts => uptoBulkAll parts + 1
  | .iface _ d => uptoBulk d + 1
  | .map entries => uptoBulkEntries entries + 1
  | .held _ => 1
def uptoBulkAll {H : Type} : List (DataW H) → Nat
  | [] => 0
  | d :: r => uptoBulk d + uptoBulkAll r
def uptoBulkEntries {H : Type} : List (Lit × DataW H) → Nat
  | [] => 0
  | x :: r => uptoBulkEntry x + uptoBulkEntries r
def uptoBulkEntry {H : Type} : Lit × DataW H → Nat
  | (.string bytes, d) => bytes.length + uptoBulk d + 1
  | (_, d) => uptoBulk d + 1
 end
def uptoSmall : (H : Type) → List (DataW H) → Bool := fun _ ds => decide (uptoBulkAll ds ≤ 1048576)
def OpenSpec.upto (s : _root_.Go.ChangeSpec) : _root_.Go.OpenSpec := { _root_.Go.OpenSpec.ofChange s with cond := some uptoSmall }

/-- 'hushlaw5.AskTypes', WHERE WHAT IT READS IS OF BULK AT MOST 1048576: true; the input reads as it did. -/
def askTypesUptoRow : OpenClaim := { program := "ytejeiahbnnechaa", sum := "668dbd323c6dacea7687a7a6954eb51dab1fc68c26deb9feb317627e64637117", func := "hushhouse/hushlaw5.AskTypes", spec := "askTypes", unfollowed := true, recurses := true, loops := true, apart := false, narrowed := true }
def AskTypesUptoSaid : Prop := askTypesUptoRow.holds Try.pinned (OpenSpec.upto askTypesSpec)

/-- 'hushlaw5.AskRuns', WHERE WHAT IT READS IS OF BULK AT MOST 1048576: true; the input reads as it did. -/
def askRunsUptoRow : OpenClaim := { program := "ytejeiahbnnechaa", sum := "668dbd323c6dacea7687a7a6954eb51dab1fc68c26deb9feb317627e64637117", func := "hushhouse/hushlaw5.AskRuns", spec := "askRuns", unfollowed := true, recurses := true, loops := true, apart := false, narrowed := true }
def AskRunsUptoSaid : Prop := askRunsUptoRow.holds Try.pinned (OpenSpec.upto askRunsSpec)

/-- 'hushlaw5.AskSound', WHERE WHAT IT READS IS OF BULK AT MOST 1048576: true; the input reads as it did. -/
def askSoundUptoRow : OpenClaim := { program := "ytejeiahbnnechaa", sum := "668dbd323c6dacea7687a7a6954eb51dab1fc68c26deb9feb317627e64637117", func := "hushhouse/hushlaw5.AskSound", spec := "askSound", unfollowed := true, recurses := true, loops := true, apart := false, narrowed := true }
def AskSoundUptoSaid : Prop := askSoundUptoRow.holds Try.pinned (OpenSpec.upto askSoundSpec)

/-- 'hushlaw5.AskMoves', WHERE WHAT IT READS IS OF BULK AT MOST 1048576: true; the input reads as it did. -/
def askMovesUptoRow : OpenClaim := { program := "ytejeiahbnnechaa", sum := "668dbd323c6dacea7687a7a6954eb51dab1fc68c26deb9feb317627e64637117", func := "hushhouse/hushlaw5.AskMoves", spec := "askMoves", unfollowed := true, recurses := true, loops := true, apart := false, narrowed := true }
def AskMovesUptoSaid : Prop := askMovesUptoRow.holds Try.pinned (OpenSpec.upto askMovesSpec)

/-- 'hushlaw5.AskParts', WHERE WHAT IT READS IS OF BULK AT MOST 1048576: true; the input reads as it did. -/
def askPartsUptoRow : OpenClaim := { program := "ytejeiahbnnechaa", sum := "668dbd323c6dacea7687a7a6954eb51dab1fc68c26deb9feb317627e64637117", func := "hushhouse/hushlaw5.AskParts", spec := "askParts", unfollowed := true, recurses := true, loops := true, apart := false, narrowed := true }
def AskPartsUptoSaid : Prop := askPartsUptoRow.holds Try.pinned (OpenSpec.upto askPartsSpec)

end Rows
end Go.Proofs.Ytejeiahbnnechaa

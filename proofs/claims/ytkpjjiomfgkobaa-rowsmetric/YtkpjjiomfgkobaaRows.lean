/-
  No cell of these rows narrows 'for every input' (looked for: loops, veiled, ifaces, maps, wideKeys, modest, calm, conditions, laid).
  DERIVED. THE GIVEN ROWS OF THIS SEAT. 3 by the template 'for every input the law returns true; each argument reads behind the call as it read before'; 0 by the template 'total and deterministic' (their statements: YtkpjjiomfgkobaaTotals.lean).
  GIVEN WITH THE SEED: the statements are not yours to turn. If you find one false, say at which input.
  Laid BY PROGRAM, IN A SANDBOX (cutbox-rows.mjs): the forced cells as the released guide's own fill.sh prints them over the translation 36b1a7f1073b1adb… (all of the seat's roots in one cut). By AI agents, Wed Nov 11 2026. No macro, syntax, notation, axiom, sorry.
-/
import Derived.Test.YtkpjjiomfgkobaaChecked
import GoSem.Claim
import GoSem.ClaimJoined
import GoSem.ClaimMapViews
import Derived.JoinedTies
import Derived.KernelRfl
namespace Go.Proofs.Ytkpjjiomfgkobaa
/- THE CELL 'sum', in the pinned program and in every row, IS THE sha256 OF THE DUMP (.gsa) THAT YtkpjjiomfgkobaaProg.lean LOADS. Nothing in Lean hashes anything: it is a label: what it is worth is what the hold of that sum in a sandbox is worth. -/
noncomputable def Try.pinned : Pinned := { name := "ytkpjjiomfgkobaa", sum := "36b1a7f1073b1adba6f13b42f78b029534126351ac3d4fcbf4fc1aa195587266", checked := Try.checked }
namespace Rows
def none {H : Type} : Left H := { results := [], args := [] }

/-- 'hushlaw4.RowsCount': WHATEVER THE INPUT: true; the input reads as it did. -/
def rowsCountSpec : ChangeSpec := { name := "rowsCount", fn := fun _ => fun
  | [d1, d2, d3] => { results := [.lit (.bool true)], args := [d1, d2, d3] }
  | _ => none }
def rowsCountRow : OpenClaim := { program := "ytkpjjiomfgkobaa", sum := "36b1a7f1073b1adba6f13b42f78b029534126351ac3d4fcbf4fc1aa195587266", func := "hushhouse/hushlaw4.RowsCount", spec := "rowsCount", unfollowed := true, recurses := true, apart := false }
def RowsCountSaid : Prop := rowsCountRow.holds Try.pinned (OpenSpec.ofChange rowsCountSpec)

/-- ITS FALSE NEIGHBOUR: 'it returns false'. Refute it at one input. -/
def rowsCountWrong : ChangeSpec := { name := "rowsCount", fn := fun _ => fun
  | [d1, d2, d3] => { results := [.lit (.bool false)], args := [d1, d2, d3] }
  | _ => none }
def RowsCountWrongFalsely : Prop := rowsCountRow.holds Try.pinned (OpenSpec.ofChange rowsCountWrong)

/-- 'hushlaw4.RowsNear': WHATEVER THE INPUT: true; the input reads as it did. -/
def rowsNearSpec : ChangeSpec := { name := "rowsNear", fn := fun _ => fun
  | [d] => { results := [.lit (.bool true)], args := [d] }
  | _ => none }
def rowsNearRow : OpenClaim := { program := "ytkpjjiomfgkobaa", sum := "36b1a7f1073b1adba6f13b42f78b029534126351ac3d4fcbf4fc1aa195587266", func := "hushhouse/hushlaw4.RowsNear", spec := "rowsNear", unfollowed := true, recurses := true, apart := false }
def RowsNearSaid : Prop := rowsNearRow.holds Try.pinned (OpenSpec.ofChange rowsNearSpec)

/-- ITS FALSE NEIGHBOUR: 'it returns false'. Refute it at one input. -/
def rowsNearWrong : ChangeSpec := { name := "rowsNear", fn := fun _ => fun
  | [d] => { results := [.lit (.bool false)], args := [d] }
  | _ => none }
def RowsNearWrongFalsely : Prop := rowsNearRow.holds Try.pinned (OpenSpec.ofChange rowsNearWrong)

/-- 'hushlaw4.RowsMetric': WHATEVER THE INPUT: true; the input reads as it did. -/
def rowsMetricSpec : ChangeSpec := { name := "rowsMetric", fn := fun _ => fun
  | [d1, d2, d3] => { results := [.lit (.bool true)], args := [d1, d2, d3] }
  | _ => none }
def rowsMetricRow : OpenClaim := { program := "ytkpjjiomfgkobaa", sum := "36b1a7f1073b1adba6f13b42f78b029534126351ac3d4fcbf4fc1aa195587266", func := "hushhouse/hushlaw4.RowsMetric", spec := "rowsMetric", unfollowed := true, recurses := true, apart := false }
def RowsMetricSaid : Prop := rowsMetricRow.holds Try.pinned (OpenSpec.ofChange rowsMetricSpec)

/-- ITS FALSE NEIGHBOUR: 'it returns false'. Refute it at one input. -/
def rowsMetricWrong : ChangeSpec := { name := "rowsMetric", fn := fun _ => fun
  | [d1, d2, d3] => { results := [.lit (.bool false)], args := [d1, d2, d3] }
  | _ => none }
def RowsMetricWrongFalsely : Prop := rowsMetricRow.holds Try.pinned (OpenSpec.ofChange rowsMetricWrong)

/- THE SECOND FORM. 'bulk': how many values and letters a reading holds, each counted each time it is reached (what is shared counts as often as it is met; a slice's spare places count too). A statement '..UptoSaid' is the law's where the arguments, and the package variables that the reading takes, are together of bulk at most 1048576: NARROWER than '..Said'. Prove '..Said' where nothing that the law and all that it calls make is longer than what came in: it says more and counts as full. Else prove '..UptoSaid'. A law counts once. -/
mutual
def uptoBulk {H : Type} : DataW H → Nat
  | .lit (.string bytes) => bytes.length + 1
  | .lit _ => 1
  | .nil => 1
  | .ptr d => uptoBulk d + 1
  | .slice elems spare => uptoBulkAll elems + uptoBulkAll spare + 1
  | .agg parts => uptoBulkAll parts + 1
  | .iface _ d => uptoBulk d + 1
  | .map entries => uptoBulkEntries entries + 1
  | .held _ => 1
def uptoBulkAll {H : Type} : List (DataW H) → Nat
  | [] => 0
  | d :: r => uptoBulk d + uptoBulkAll r
def uptoBulkEntries {H : Type} : List (Lit × DataW H) → Nat
  | [] => 0
  | x :: r => uptoBulkEntry x + uptoBulkEntries r
def uptoBulkEntry {H : Type} : Lit × DataW H → Nat
  | (.string bytes, d) => bytes.length + uptoBulk d + 1
  | (_, d) => uptoBulk d + 1
 end
def uptoSmall : (H : Type) → List (DataW H) → Bool := fun _ ds => decide (uptoBulkAll ds ≤ 1048576)
def OpenSpec.upto (s : _root_.Go.ChangeSpec) : _root_.Go.OpenSpec := { _root_.Go.OpenSpec.ofChange s with cond := some uptoSmall }

/-- 'hushlaw4.RowsCount', WHERE WHAT IT READS IS OF BULK AT MOST 1048576: true; the input reads as it did. -/
def rowsCountUptoRow : OpenClaim := { program := "ytkpjjiomfgkobaa", sum := "36b1a7f1073b1adba6f13b42f78b029534126351ac3d4fcbf4fc1aa195587266", func := "hushhouse/hushlaw4.RowsCount", spec := "rowsCount", unfollowed := true, recurses := true, apart := false, narrowed := true }
def RowsCountUptoSaid : Prop := rowsCountUptoRow.holds Try.pinned (OpenSpec.upto rowsCountSpec)

/-- 'hushlaw4.RowsNear', WHERE WHAT IT READS IS OF BULK AT MOST 1048576: true; the input reads as it did. -/
def rowsNearUptoRow : OpenClaim := { program := "ytkpjjiomfgkobaa", sum := "36b1a7f1073b1adba6f13b42f78b029534126351ac3d4fcbf4fc1aa195587266", func := "hushhouse/hushlaw4.RowsNear", spec := "rowsNear", unfollowed := true, recurses := true, apart := false, narrowed := true }
def RowsNearUptoSaid : Prop := rowsNearUptoRow.holds Try.pinned (OpenSpec.upto rowsNearSpec)

/-- 'hushlaw4.RowsMetric', WHERE WHAT IT READS IS OF BULK AT MOST 1048576: true; the input reads as it did. -/
def rowsMetricUptoRow : OpenClaim := { program := "ytkpjjiomfgkobaa", sum := "36b1a7f1073b1adba6f13b42f78b029534126351ac3d4fcbf4fc1aa195587266", func := "hushhouse/hushlaw4.RowsMetric", spec := "rowsMetric", unfollowed := true, recurses := true, apart := false, narrowed := true }
def RowsMetricUptoSaid : Prop := rowsMetricUptoRow.holds Try.pinned (OpenSpec.upto rowsMetricSpec)

end Rows
end Go.Proofs.Ytkpjjiomfgkobaa

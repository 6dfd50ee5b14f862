/-
  No cell of these rows narrows 'for every input' (looked for: loops, veiled, ifaces, maps, wideKeys, modest, calm, conditions, laid).
  DERIVED. THE GIVEN ROWS OF THIS SEAT. 3 by the template 'for every input the law returns true; each argument reads behind the call as it read before'; 0 by the template 'total and deterministic' (their statements: YtgfndaiilhbkmaaTotals.lean).
  GIVEN WITH THE SEED: the statements are not yours to turn. If you find one false, say at which input.
  Laid BY PROGRAM, IN A SANDBOX (cutbox-rows.mjs): the forced cells as the released guide's own fill.sh prints them over the translation 54ecaac02d601e24… (all of the seat's roots in one cut). By AI agents, Wed Nov 11 2026. No macro, syntax, notation, axiom, sorry.
-/
import Derived.Test.YtgfndaiilhbkmaaChecked
import GoSem.Claim
import GoSem.ClaimJoined
import GoSem.ClaimMapViews
import Derived.JoinedTies
import Derived.KernelRfl
namespace Go.Proofs.Ytgfndaiilhbkmaa
/- THE CELL 'sum', in the pinned program and in every row, IS THE sha256 OF THE DUMP (.gsa) THAT YtgfndaiilhbkmaaProg.lean LOADS. Nothing in Lean hashes anything: it is a label: what it is worth is what the hold of that sum in a sandbox is worth. -/
noncomputable def Try.pinned : Pinned := { name := "ytgfndaiilhbkmaa", sum := "54ecaac02d601e24d085ecf6ad0238435ce777b1a4bc265f9e20cfb77c5d850b", checked := Try.checked }
namespace Rows
def none {H : Type} : Left H := { results := [], args := [] }

/-- 'hushlaw10.PyramidAgrees': WHATEVER THE INPUT: true; the input reads as it did. -/
def pyramidAgreesSpec : ChangeSpec := { name := "pyramidAgrees", fn := fun _ => fun
  | [d1, d2, d3, d4] => { results := [.lit (.bool true)], args := [d1, d2, d3, d4] }
  | _ => none }
def pyramidAgreesRow : OpenClaim := { program := "ytgfndaiilhbkmaa", sum := "54ecaac02d601e24d085ecf6ad0238435ce777b1a4bc265f9e20cfb77c5d850b", func := "hushhouse/hushlaw10.PyramidAgrees", spec := "pyramidAgrees", unfollowed := true, recurses := true, apart := false }
def PyramidAgreesSaid : Prop := pyramidAgreesRow.holds Try.pinned (OpenSpec.ofChange pyramidAgreesSpec)

/-- ITS FALSE NEIGHBOUR: 'it returns false'. Refute it at one input. -/
def pyramidAgreesWrong : ChangeSpec := { name := "pyramidAgrees", fn := fun _ => fun
  | [d1, d2, d3, d4] => { results := [.lit (.bool false)], args := [d1, d2, d3, d4] }
  | _ => none }
def PyramidAgreesWrongFalsely : Prop := pyramidAgreesRow.holds Try.pinned (OpenSpec.ofChange pyramidAgreesWrong)

/-- 'hushlaw10.PyramidSums': WHATEVER THE INPUT: true; the input reads as it did. -/
def pyramidSumsSpec : ChangeSpec := { name := "pyramidSums", fn := fun _ => fun
  | [d1, d2, d3, d4] => { results := [.lit (.bool true)], args := [d1, d2, d3, d4] }
  | _ => none }
def pyramidSumsRow : OpenClaim := { program := "ytgfndaiilhbkmaa", sum := "54ecaac02d601e24d085ecf6ad0238435ce777b1a4bc265f9e20cfb77c5d850b", func := "hushhouse/hushlaw10.PyramidSums", spec := "pyramidSums", unfollowed := true, recurses := true, apart := false }
def PyramidSumsSaid : Prop := pyramidSumsRow.holds Try.pinned (OpenSpec.ofChange pyramidSumsSpec)

/-- ITS FALSE NEIGHBOUR: 'it returns false'. Refute it at one input. -/
def pyramidSumsWrong : ChangeSpec := { name := "pyramidSums", fn := fun _ => fun
  | [d1, d2, d3, d4] => { results := [.lit (.bool false)], args := [d1, d2, d3, d4] }
  | _ => none }
def PyramidSumsWrongFalsely : Prop := pyramidSumsRow.holds Try.pinned (OpenSpec.ofChange pyramidSumsWrong)

/-- 'hushlaw10.PyramidNearest': WHATEVER THE INPUT: true; the input reads as it did. -/
def pyramidNearestSpec : ChangeSpec := { name := "pyramidNearest", fn := fun _ => fun
  | [d1, d2, d3, d4] => { results := [.lit (.bool true)], args := [d1, d2, d3, d4] }
  | _ => none }
def pyramidNearestRow : OpenClaim := { program := "ytgfndaiilhbkmaa", sum := "54ecaac02d601e24d085ecf6ad0238435ce777b1a4bc265f9e20cfb77c5d850b", func := "hushhouse/hushlaw10.PyramidNearest", spec := "pyramidNearest", unfollowed := true, recurses := true, apart := false }
def PyramidNearestSaid : Prop := pyramidNearestRow.holds Try.pinned (OpenSpec.ofChange pyramidNearestSpec)

/-- ITS FALSE NEIGHBOUR: 'it returns false'. Refute it at one input. -/
def pyramidNearestWrong : ChangeSpec := { name := "pyramidNearest", fn := fun _ => fun
  | [d1, d2, d3, d4] => { results := [.lit (.bool false)], args := [d1, d2, d3, d4] }
  | _ => none }
def PyramidNearestWrongFalsely : Prop := pyramidNearestRow.holds Try.pinned (OpenSpec.ofChange pyramidNearestWrong)

/- THE SECOND FORM. 'bulk': how many values and letters a reading holds, each counted each time it is reached (what is shared counts as often as it is met; a slice's spare places count too). A statement '..UptoSaid' is the law's where the arguments, and the package variables that the reading takes, are together of bulk at most 1048576: NARROWER than '..Said'. Prove '..Said' where nothing that the law and all that it calls make is longer than what came in: it says more and counts as full. Else prove '..UptoSaid'. A law counts once. -/
mutual
def uptoBulk {H : Type} : DataW H → Nat
  | .lit (.string bytes) => bytes.length + 1
  | .lit _ => 1
  | .nil => 1
  | .ptr d => uptoBulk d + 1
  | .slice elems spare => uptoBulkAll elems + uptoBulkAll spare + 1
  | .agg parts => uptoBulkAll parts + 1
  | .iface _ d => uptoBulk d + 1
  | .map entries => uptoBulkEntries entries + 1
  | .held _ => 1
def uptoBulkAll {H : Type} : List (DataW H) → Nat
  | [] => 0
  | d :: r => uptoBulk d + uptoBulkAll r
def uptoBulkEntries {H : Type} : List (Lit × DataW H) → Nat
  | [] => 0
  | x :: r => uptoBulkEntry x + uptoBulkEntries r
def uptoBulkEntry {H : Type} : Lit × DataW H → Nat
  | (.string bytes, d) => bytes.length + uptoBulk d + 1
  | (_, d) => uptoBulk d + 1
 end
def uptoSmall : (H : Type) → List (DataW H) → Bool := fun _ ds => decide (uptoBulkAll ds ≤ 1048576)
def OpenSpec.upto (s : _root_.Go.ChangeSpec) : _root_.Go.OpenSpec := { _root_.Go.OpenSpec.ofChange s with cond := some uptoSmall }

/-- 'hushlaw10.PyramidAgrees', WHERE WHAT IT READS IS OF BULK AT MOST 1048576: true; the input reads as it did. -/
def pyramidAgreesUptoRow : OpenClaim := { program := "ytgfndaiilhbkmaa", sum := "54ecaac02d601e24d085ecf6ad0238435ce777b1a4bc265f9e20cfb77c5d850b", func := "hushhouse/hushlaw10.PyramidAgrees", spec := "pyramidAgrees", unfollowed := true, recurses := true, apart := false, narrowed := true }
def PyramidAgreesUptoSaid : Prop := pyramidAgreesUptoRow.holds Try.pinned (OpenSpec.upto pyramidAgreesSpec)

/-- 'hushlaw10.PyramidSums', WHERE WHAT IT READS IS OF BULK AT MOST 1048576: true; the input reads as it did. -/
def pyramidSumsUptoRow : OpenClaim := { program := "ytgfndaiilhbkmaa", sum := "54ecaac02d601e24d085ecf6ad0238435ce777b1a4bc265f9e20cfb77c5d850b", func := "hushhouse/hushlaw10.PyramidSums", spec := "pyramidSums", unfollowed := true, recurses := true, apart := false, narrowed := true }
def PyramidSumsUptoSaid : Prop := pyramidSumsUptoRow.holds Try.pinned (OpenSpec.upto pyramidSumsSpec)

/-- 'hushlaw10.PyramidNearest', WHERE WHAT IT READS IS OF BULK AT MOST 1048576: true; the input reads as it did. -/
def pyramidNearestUptoRow : OpenClaim := { program := "ytgfndaiilhbkmaa", sum := "54ecaac02d601e24d085ecf6ad0238435ce777b1a4bc265f9e20cfb77c5d850b", func := "hushhouse/hushlaw10.PyramidNearest", spec := "pyramidNearest", unfollowed := true, recurses := true, apart := false, narrowed := true }
def PyramidNearestUptoSaid : Prop := pyramidNearestUptoRow.holds Try.pinned (OpenSpec.upto pyramidNearestSpec)

end Rows
end Go.Proofs.Ytgfndaiilhbkmaa

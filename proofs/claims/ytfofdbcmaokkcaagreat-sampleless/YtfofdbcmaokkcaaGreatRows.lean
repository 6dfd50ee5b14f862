/-
  NARROWER THAN 'FOR EVERY INPUT', by the rows' own cells (each row's printed sentence says how): SampleThrough: loops · SampleLess: loops.
  DERIVED. THE GIVEN ROWS OF THIS SEAT. 2 by the template 'for every input the law returns true; each argument reads behind the call as it read before'; 0 by the template 'total and deterministic' (their statements: YtfofdbcmaokkcaaGreatTotals.lean).
  GIVEN WITH THE SEED: the statements are not yours to turn. If you find one false, say at which input.
  Laid BY PROGRAM, IN A SANDBOX (cutbox-rows.mjs): the forced cells as the released guide's own fill.sh prints them over the translation c647b61ea9e10074… (all of the seat's roots in one cut). By AI agents, Wed Nov 11 2026. No macro, syntax, notation, axiom, sorry.
-/
import Derived.Test.YtfofdbcmaokkcaaGreatChecked
import GoSem.Claim
import GoSem.ClaimJoined
import GoSem.ClaimMapViews
import Derived.JoinedTies
import Derived.KernelRfl
namespace Go.Proofs.YtfofdbcmaokkcaaGreat
/- THE CELL 'sum', in the pinned program and in every row, IS THE sha256 OF THE DUMP (.gsa) THAT YtfofdbcmaokkcaaGreatProg.lean LOADS. Nothing in Lean hashes anything: it is a label: what it is worth is what the hold of that sum in a sandbox is worth. -/
noncomputable def Tryz.pinned : Pinned := { name := "ytfofdbcmaokkcaagreat", sum := "c647b61ea9e10074030d7fd8a2f6438d50e63ac2848644caeb1d13b757f65d3c", checked := Tryz.checked }
namespace Rows
def none {H : Type} : Left H := { results := [], args := [] }

/-- 'hushlaw11.SampleThrough': WHATEVER THE INPUT: true; the input reads as it did. -/
def sampleThroughSpec : ChangeSpec := { name := "sampleThrough", fn := fun _ => fun
  | [d1, d2, d3, d4, d5, d6] => { results := [.lit (.bool true)], args := [d1, d2, d3, d4, d5, d6] }
  | _ => none }
def sampleThroughRow : OpenClaim := { program := "ytfofdbcmaokkcaagreat", sum := "c647b61ea9e10074030d7fd8a2f6438d50e63ac2848644caeb1d13b757f65d3c", func := "hushhouse/hushlaw11.SampleThrough", spec := "sampleThrough", unfollowed := true, recurses := true, loops := true, apart := false }
def SampleThroughSaid : Prop := sampleThroughRow.holds Tryz.pinned (OpenSpec.ofChange sampleThroughSpec)

/-- ITS FALSE NEIGHBOUR: 'it returns false'. Refute it at one input. -/
def sampleThroughWrong : ChangeSpec := { name := "sampleThrough", fn := fun _ => fun
  | [d1, d2, d3, d4, d5, d6] => { results := [.lit (.bool false)], args := [d1, d2, d3, d4, d5, d6] }
  | _ => none }
def SampleThroughWrongFalsely : Prop := sampleThroughRow.holds Tryz.pinned (OpenSpec.ofChange sampleThroughWrong)

/-- 'hushlaw11.SampleLess': WHATEVER THE INPUT: true; the input reads as it did. -/
def sampleLessSpec : ChangeSpec := { name := "sampleLess", fn := fun _ => fun
  | [d1, d2, d3, d4, d5, d6, d7] => { results := [.lit (.bool true)], args := [d1, d2, d3, d4, d5, d6, d7] }
  | _ => none }
def sampleLessRow : OpenClaim := { program := "ytfofdbcmaokkcaagreat", sum := "c647b61ea9e10074030d7fd8a2f6438d50e63ac2848644caeb1d13b757f65d3c", func := "hushhouse/hushlaw11.SampleLess", spec := "sampleLess", unfollowed := true, recurses := true, loops := true, apart := false }
def SampleLessSaid : Prop := sampleLessRow.holds Tryz.pinned (OpenSpec.ofChange sampleLessSpec)

/-- ITS FALSE NEIGHBOUR: 'it returns false'. Refute it at one input. -/
def sampleLessWrong : ChangeSpec := { name := "sampleLess", fn := fun _ => fun
  | [d1, d2, d3, d4, d5, d6, d7] => { results := [.lit (.bool false)], args := [d1, d2, d3, d4, d5, d6, d7] }
  | _ => none }
def SampleLessWrongFalsely : Prop := sampleLessRow.holds Tryz.pinned (OpenSpec.ofChange sampleLessWrong)

/- THE SECOND FORM. 'bulk': how many values and letters a reading holds, each counted each time it is reached (what is shared counts as often as it is met; a slice's spare places count too). A statement '..UptoSaid' is the law's where the arguments, and the package variables that the reading takes, are together of bulk at most 1048576: NARROWER than '..Said'. Prove '..Said' where nothing that the law and all that it calls make is longer than what came in: it says more and counts as full. Else prove '..UptoSaid'. A law counts once. -/
mutual
def uptoBulk {H : Type} : DataW H → Nat
  | .lit (.string bytes) => bytes.length + 1
  | .lit _ => 1
  | .nil => 1
  | .ptr d => uptoBulk d + 1
  | .slice elems spare => uptoBulkAll elems + uptoBulkAll spare + 1
  | .agg parts => uptoBulkAll parts + 1
  | .iface _ d => uptoBulk d + 1
  | .map entries => uptoBulkEntries entries + 1
  | .held _ => 1
def uptoBulkAll {H : Type} : List (DataW H) → Nat
  | [] => 0
  | d :: r => uptoBulk d + uptoBulkAll r
def uptoBulkEntries {H : Type} : List (Lit × DataW H) → Nat
  | [] => 0
  | x :: r => uptoBulkEntry x + uptoBulkEntries r
def uptoBulkEntry {H : Type} : Lit × DataW H → Nat
  | (.string bytes, d) => bytes.length + uptoBulk d + 1
  | (_, d) => uptoBulk d + 1
 end
def uptoSmall : (H : Type) → List (DataW H) → Bool := fun _ ds => decide (uptoBulkAll ds ≤ 1048576)
def OpenSpec.upto (s : _root_.Go.ChangeSpec) : _root_.Go.OpenSpec := { _root_.Go.OpenSpec.ofChange s with cond := some uptoSmall }

/-- 'hushlaw11.SampleThrough', WHERE WHAT IT READS IS OF BULK AT MOST 1048576: true; the input reads as it did. -/
def sampleThroughUptoRow : OpenClaim := { program := "ytfofdbcmaokkcaagreat", sum := "c647b61ea9e10074030d7fd8a2f6438d50e63ac2848644caeb1d13b757f65d3c", func := "hushhouse/hushlaw11.SampleThrough", spec := "sampleThrough", unfollowed := true, recurses := true, loops := true, apart := false, narrowed := true }
def SampleThroughUptoSaid : Prop := sampleThroughUptoRow.holds Tryz.pinned (OpenSpec.upto sampleThroughSpec)

/-- 'hushlaw11.SampleLess', WHERE WHAT IT READS IS OF BULK AT MOST 1048576: true; the input reads as it did. -/
def sampleLessUptoRow : OpenClaim := { program := "ytfofdbcmaokkcaagreat", sum := "c647b61ea9e10074030d7fd8a2f6438d50e63ac2848644caeb1d13b757f65d3c", func := "hushhouse/hushlaw11.SampleLess", spec := "sampleLess", unfollowed := true, recurses := true, loops := true, apart := false, narrowed := true }
def SampleLessUptoSaid : Prop := sampleLessUptoRow.holds Tryz.pinned (OpenSpec.upto sampleLessSpec)

end Rows
end Go.Proofs.YtfofdbcmaokkcaaGreat

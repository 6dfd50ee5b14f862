/-
  No cell of these rows narrows 'for every input' (looked for: loops, veiled, ifaces, maps, wideKeys, modest, calm, conditions, laid).
  DERIVED. THE GIVEN ROWS OF THIS SEAT. 6 by the template 'for every input the law returns true; each argument reads behind the call as it read before'; 0 by the template 'total and deterministic' (their statements: YtdcdjjemndadaaaTotals.lean).
  GIVEN WITH THE SEED: the statements are not yours to turn. If you find one false, say at which input.
  Laid BY PROGRAM, IN A SANDBOX (cutbox-rows.mjs): the forced cells as the released guide's own fill.sh prints them over the translation 5c867506992e42c2… (all of the seat's roots in one cut). By AI agents, Wed Nov 11 2026. No macro, syntax, notation, axiom, sorry.
-/
import Derived.Test.YtdcdjjemndadaaaChecked
import GoSem.Claim
import GoSem.ClaimJoined
import GoSem.ClaimMapViews
import Derived.JoinedTies
import Derived.KernelRfl
namespace Go.Proofs.Ytdcdjjemndadaaa
/- THE CELL 'sum', in the pinned program and in every row, IS THE sha256 OF THE DUMP (.gsa) THAT YtdcdjjemndadaaaProg.lean LOADS. Nothing in Lean hashes anything: it is a label: what it is worth is what the hold of that sum in a sandbox is worth. -/
noncomputable def Try.pinned : Pinned := { name := "ytdcdjjemndadaaa", sum := "5c867506992e42c26155b8d074fca88a2510935f4c0e9b7a7afd43100bb1f1d7", checked := Try.checked }
namespace Rows
def none {H : Type} : Left H := { results := [], args := [] }

/-- 'hushlaw2.DistMakes': WHATEVER THE INPUT: true; the input reads as it did. -/
def distMakesSpec : ChangeSpec := { name := "distMakes", fn := fun _ => fun
  | [d1, d2, d3, d4] => { results := [.lit (.bool true)], args := [d1, d2, d3, d4] }
  | _ => none }
def distMakesRow : OpenClaim := { program := "ytdcdjjemndadaaa", sum := "5c867506992e42c26155b8d074fca88a2510935f4c0e9b7a7afd43100bb1f1d7", func := "hushhouse/hushlaw2.DistMakes", spec := "distMakes", unfollowed := true, recurses := true, apart := false }
def DistMakesSaid : Prop := distMakesRow.holds Try.pinned (OpenSpec.ofChange distMakesSpec)

/-- ITS FALSE NEIGHBOUR: 'it returns false'. Refute it at one input. -/
def distMakesWrong : ChangeSpec := { name := "distMakes", fn := fun _ => fun
  | [d1, d2, d3, d4] => { results := [.lit (.bool false)], args := [d1, d2, d3, d4] }
  | _ => none }
def DistMakesWrongFalsely : Prop := distMakesRow.holds Try.pinned (OpenSpec.ofChange distMakesWrong)

/-- 'hushlaw2.DistMoves': WHATEVER THE INPUT: true; the input reads as it did. -/
def distMovesSpec : ChangeSpec := { name := "distMoves", fn := fun _ => fun
  | [d1, d2, d3, d4, d5] => { results := [.lit (.bool true)], args := [d1, d2, d3, d4, d5] }
  | _ => none }
def distMovesRow : OpenClaim := { program := "ytdcdjjemndadaaa", sum := "5c867506992e42c26155b8d074fca88a2510935f4c0e9b7a7afd43100bb1f1d7", func := "hushhouse/hushlaw2.DistMoves", spec := "distMoves", unfollowed := true, recurses := true, apart := false }
def DistMovesSaid : Prop := distMovesRow.holds Try.pinned (OpenSpec.ofChange distMovesSpec)

/-- ITS FALSE NEIGHBOUR: 'it returns false'. Refute it at one input. -/
def distMovesWrong : ChangeSpec := { name := "distMoves", fn := fun _ => fun
  | [d1, d2, d3, d4, d5] => { results := [.lit (.bool false)], args := [d1, d2, d3, d4, d5] }
  | _ => none }
def DistMovesWrongFalsely : Prop := distMovesRow.holds Try.pinned (OpenSpec.ofChange distMovesWrong)

/-- 'hushlaw2.DistFars': WHATEVER THE INPUT: true; the input reads as it did. -/
def distFarsSpec : ChangeSpec := { name := "distFars", fn := fun _ => fun
  | [d1, d2] => { results := [.lit (.bool true)], args := [d1, d2] }
  | _ => none }
def distFarsRow : OpenClaim := { program := "ytdcdjjemndadaaa", sum := "5c867506992e42c26155b8d074fca88a2510935f4c0e9b7a7afd43100bb1f1d7", func := "hushhouse/hushlaw2.DistFars", spec := "distFars", unfollowed := true, recurses := true, apart := false }
def DistFarsSaid : Prop := distFarsRow.holds Try.pinned (OpenSpec.ofChange distFarsSpec)

/-- ITS FALSE NEIGHBOUR: 'it returns false'. Refute it at one input. -/
def distFarsWrong : ChangeSpec := { name := "distFars", fn := fun _ => fun
  | [d1, d2] => { results := [.lit (.bool false)], args := [d1, d2] }
  | _ => none }
def DistFarsWrongFalsely : Prop := distFarsRow.holds Try.pinned (OpenSpec.ofChange distFarsWrong)

/-- 'hushlaw2.DistMonad': WHATEVER THE INPUT: true; the input reads as it did. -/
def distMonadSpec : ChangeSpec := { name := "distMonad", fn := fun _ => fun
  | [d1, d2, d3, d4] => { results := [.lit (.bool true)], args := [d1, d2, d3, d4] }
  | _ => none }
def distMonadRow : OpenClaim := { program := "ytdcdjjemndadaaa", sum := "5c867506992e42c26155b8d074fca88a2510935f4c0e9b7a7afd43100bb1f1d7", func := "hushhouse/hushlaw2.DistMonad", spec := "distMonad", unfollowed := true, recurses := true, apart := false }
def DistMonadSaid : Prop := distMonadRow.holds Try.pinned (OpenSpec.ofChange distMonadSpec)

/-- ITS FALSE NEIGHBOUR: 'it returns false'. Refute it at one input. -/
def distMonadWrong : ChangeSpec := { name := "distMonad", fn := fun _ => fun
  | [d1, d2, d3, d4] => { results := [.lit (.bool false)], args := [d1, d2, d3, d4] }
  | _ => none }
def DistMonadWrongFalsely : Prop := distMonadRow.holds Try.pinned (OpenSpec.ofChange distMonadWrong)

/-- 'hushlaw2.DistMetric': WHATEVER THE INPUT: true; the input reads as it did. -/
def distMetricSpec : ChangeSpec := { name := "distMetric", fn := fun _ => fun
  | [d1, d2, d3] => { results := [.lit (.bool true)], args := [d1, d2, d3] }
  | _ => none }
def distMetricRow : OpenClaim := { program := "ytdcdjjemndadaaa", sum := "5c867506992e42c26155b8d074fca88a2510935f4c0e9b7a7afd43100bb1f1d7", func := "hushhouse/hushlaw2.DistMetric", spec := "distMetric", unfollowed := true, recurses := true, apart := false }
def DistMetricSaid : Prop := distMetricRow.holds Try.pinned (OpenSpec.ofChange distMetricSpec)

/-- ITS FALSE NEIGHBOUR: 'it returns false'. Refute it at one input. -/
def distMetricWrong : ChangeSpec := { name := "distMetric", fn := fun _ => fun
  | [d1, d2, d3] => { results := [.lit (.bool false)], args := [d1, d2, d3] }
  | _ => none }
def DistMetricWrongFalsely : Prop := distMetricRow.holds Try.pinned (OpenSpec.ofChange distMetricWrong)

/-- 'hushlaw2.DistCompose': WHATEVER THE INPUT: true; the input reads as it did. -/
def distComposeSpec : ChangeSpec := { name := "distCompose", fn := fun _ => fun
  | [d1, d2, d3, d4] => { results := [.lit (.bool true)], args := [d1, d2, d3, d4] }
  | _ => none }
def distComposeRow : OpenClaim := { program := "ytdcdjjemndadaaa", sum := "5c867506992e42c26155b8d074fca88a2510935f4c0e9b7a7afd43100bb1f1d7", func := "hushhouse/hushlaw2.DistCompose", spec := "distCompose", unfollowed := true, recurses := true, apart := false }
def DistComposeSaid : Prop := distComposeRow.holds Try.pinned (OpenSpec.ofChange distComposeSpec)

/-- ITS FALSE NEIGHBOUR: 'it returns false'. Refute it at one input. -/
def distComposeWrong : ChangeSpec := { name := "distCompose", fn := fun _ => fun
  | [d1, d2, d3, d4] => { results := [.lit (.bool false)], args := [d1, d2, d3, d4] }
  | _ => none }
def DistComposeWrongFalsely : Prop := distComposeRow.holds Try.pinned (OpenSpec.ofChange distComposeWrong)

/- THE SECOND FORM. 'bulk': how many values and letters a reading holds, each counted each time it is reached (what is shared counts as often as it is met; a slice's spare places count too). A statement '..UptoSaid' is the law's where the arguments, and the package variables that the reading takes, are together of bulk at most 1048576: NARROWER than '..Said'. Prove '..Said' where nothing that the law and all that it calls make is longer than what came in: it says more and counts as full. Else prove '..UptoSaid'. A law counts once. -/
mutual
def uptoBulk {H : Type} : DataW H → Nat
  | .lit (.string bytes) => bytes.length + 1
  | .lit _ => 1
  | .nil => 1
  | .ptr d => uptoBulk d + 1
  | .slice elems spare => uptoBulkAll elems + uptoBulkAll spare + 1
  | .agg parts => uptoBulkAll parts + 1
  | .iface _ d => uptoBulk d + 1
  | .map entries => uptoBulkEntries entries + 1
  | .held _ => 1
def uptoBulkAll {H : Type} : List (DataW H) → Nat
  | [] => 0
  | d :: r => uptoBulk d + uptoBulkAll r
def uptoBulkEntries {H : Type} : List (Lit × DataW H) → Nat
  | [] => 0
  | x :: r => uptoBulkEntry x + uptoBulkEntries r
def uptoBulkEntry {H : Type} : Lit × DataW H → Nat
  | (.string bytes, d) => bytes.length + uptoBulk d + 1
  | (_, d) => uptoBulk d + 1
 end
def uptoSmall : (H : Type) → List (DataW H) → Bool := fun _ ds => decide (uptoBulkAll ds ≤ 1048576)
def OpenSpec.upto (s : _root_.Go.ChangeSpec) : _root_.Go.OpenSpec := { _root_.Go.OpenSpec.ofChange s with cond := some uptoSmall }

/-- 'hushlaw2.DistMakes', WHERE WHAT IT READS IS OF BULK AT MOST 1048576: true; the input reads as it did. -/
def distMakesUptoRow : OpenClaim := { program := "ytdcdjjemndadaaa", sum := "5c867506992e42c26155b8d074fca88a2510935f4c0e9b7a7afd43100bb1f1d7", func := "hushhouse/hushlaw2.DistMakes", spec := "distMakes", unfollowed := true, recurses := true, apart := false, narrowed := true }
def DistMakesUptoSaid : Prop := distMakesUptoRow.holds Try.pinned (OpenSpec.upto distMakesSpec)

/-- 'hushlaw2.DistMoves', WHERE WHAT IT READS IS OF BULK AT MOST 1048576: true; the input reads as it did. -/
def distMovesUptoRow : OpenClaim := { program := "ytdcdjjemndadaaa", sum := "5c867506992e42c26155b8d074fca88a2510935f4c0e9b7a7afd43100bb1f1d7", func := "hushhouse/hushlaw2.DistMoves", spec := "distMoves", unfollowed := true, recurses := true, apart := false, narrowed := true }
def DistMovesUptoSaid : Prop := distMovesUptoRow.holds Try.pinned (OpenSpec.upto distMovesSpec)

/-- 'hushlaw2.DistFars', WHERE WHAT IT READS IS OF BULK AT MOST 1048576: true; the input reads as it did. -/
def distFarsUptoRow : OpenClaim := { program := "ytdcdjjemndadaaa", sum := "5c867506992e42c26155b8d074fca88a2510935f4c0e9b7a7afd43100bb1f1d7", func := "hushhouse/hushlaw2.DistFars", spec := "distFars", unfollowed := true, recurses := true, apart := false, narrowed := true }
def DistFarsUptoSaid : Prop := distFarsUptoRow.holds Try.pinned (OpenSpec.upto distFarsSpec)

/-- 'hushlaw2.DistMonad', WHERE WHAT IT READS IS OF BULK AT MOST 1048576: true; the input reads as it did. -/
def distMonadUptoRow : OpenClaim := { program := "ytdcdjjemndadaaa", sum := "5c867506992e42c26155b8d074fca88a2510935f4c0e9b7a7afd43100bb1f1d7", func := "hushhouse/hushlaw2.DistMonad", spec := "distMonad", unfollowed := true, recurses := true, apart := false, narrowed := true }
def DistMonadUptoSaid : Prop := distMonadUptoRow.holds Try.pinned (OpenSpec.upto distMonadSpec)

/-- 'hushlaw2.DistMetric', WHERE WHAT IT READS IS OF BULK AT MOST 1048576: true; the input reads as it did. -/
def distMetricUptoRow : OpenClaim := { program := "ytdcdjjemndadaaa", sum := "5c867506992e42c26155b8d074fca88a2510935f4c0e9b7a7afd43100bb1f1d7", func := "hushhouse/hushlaw2.DistMetric", spec := "distMetric", unfollowed := true, recurses := true, apart := false, narrowed := true }
def DistMetricUptoSaid : Prop := distMetricUptoRow.holds Try.pinned (OpenSpec.upto distMetricSpec)

/-- 'hushlaw2.DistCompose', WHERE WHAT IT READS IS OF BULK AT MOST 1048576: true; the input reads as it did. -/
def distComposeUptoRow : OpenClaim := { program := "ytdcdjjemndadaaa", sum := "5c867506992e42c26155b8d074fca88a2510935f4c0e9b7a7afd43100bb1f1d7", func := "hushhouse/hushlaw2.DistCompose", spec := "distCompose", unfollowed := true, recurses := true, apart := false, narrowed := true }
def DistComposeUptoSaid : Prop := distComposeUptoRow.holds Try.pinned (OpenSpec.upto distComposeSpec)

end Rows
end Go.Proofs.Ytdcdjjemndadaaa

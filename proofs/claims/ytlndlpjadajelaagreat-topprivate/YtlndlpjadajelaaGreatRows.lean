/-
  NARROWER THAN 'FOR EVERY INPUT', by the rows' own cells (each row's printed sentence says how): NoiseAnswers: loops · NoisePrivate: loops · TopPrivate: loops · SampleThrough: loops · SampleLess: loops.
  DERIVED. THE GIVEN ROWS OF THIS SEAT. 5 by the template 'for every input the law returns true; each argument reads behind the call as it read before'; 0 by the template 'total and deterministic' (their statements: YtlndlpjadajelaaGreatTotals.lean).
  GIVEN WITH THE SEED: the statements are not yours to turn. If you find one false, say at which input.
  Laid BY PROGRAM, IN A SANDBOX (cutbox-rows.mjs): the forced cells as the released guide's own fill.sh prints them over the translation c48aba63c53a20bc… (all of the seat's roots in one cut). By AI agents, Wed Nov 11 2026. No macro, syntax, notation, axiom, sorry.
-/
import Derived.Test.YtlndlpjadajelaaGreatChecked
import GoSem.Claim
import GoSem.ClaimJoined
import GoSem.ClaimMapViews
import Derived.JoinedTies
import Derived.KernelRfl
namespace Go.Proofs.YtlndlpjadajelaaGreat
/- THE CELL 'sum', in the pinned program and in every row, IS THE sha256 OF THE DUMP (.gsa) THAT YtlndlpjadajelaaGreatProg.lean LOADS. Nothing in Lean hashes anything: it is a label: what it is worth is what the hold of that sum in a sandbox is worth. -/
noncomputable def Tryz.pinned : Pinned := { name := "ytlndlpjadajelaagreat", sum := "c48aba63c53a20bcf99363cd10ff1ce308417b157305bf534ad2dc65e20b2c52", checked := Tryz.checked }
namespace Rows
def none {H : Type} : Left H := { results := [], args := [] }

/-- 'hushlaw6.NoiseAnswers': WHATEVER THE INPUT: true; the input reads as it did. -/
def noiseAnswersSpec : ChangeSpec := { name := "noiseAnswers", fn := fun _ => fun
  | [d1, d2, d3, d4, d5] => { results := [.lit (.bool true)], args := [d1, d2, d3, d4, d5] }
  | _ => none }
def noiseAnswersRow : OpenClaim := { program := "ytlndlpjadajelaagreat", sum := "c48aba63c53a20bcf99363cd10ff1ce308417b157305bf534ad2dc65e20b2c52", func := "hushhouse/hushlaw6.NoiseAnswers", spec := "noiseAnswers", unfollowed := true, recurses := true, loops := true, apart := false }
def NoiseAnswersSaid : Prop := noiseAnswersRow.holds Tryz.pinned (OpenSpec.ofChange noiseAnswersSpec)

/-- ITS FALSE NEIGHBOUR: 'it returns false'. Refute it at one input. -/
def noiseAnswersWrong : ChangeSpec := { name := "noiseAnswers", fn := fun _ => fun
  | [d1, d2, d3, d4, d5] => { results := [.lit (.bool false)], args := [d1, d2, d3, d4, d5] }
  | _ => none }
def NoiseAnswersWrongFalsely : Prop := noiseAnswersRow.holds Tryz.pinned (OpenSpec.ofChange noiseAnswersWrong)

/-- 'hushlaw6.NoisePrivate': WHATEVER THE INPUT: true; the input reads as it did. -/
def noisePrivateSpec : ChangeSpec := { name := "noisePrivate", fn := fun _ => fun
  | [d1, d2, d3, d4, d5, d6] => { results := [.lit (.bool true)], args := [d1, d2, d3, d4, d5, d6] }
  | _ => none }
def noisePrivateRow : OpenClaim := { program := "ytlndlpjadajelaagreat", sum := "c48aba63c53a20bcf99363cd10ff1ce308417b157305bf534ad2dc65e20b2c52", func := "hushhouse/hushlaw6.NoisePrivate", spec := "noisePrivate", unfollowed := true, recurses := true, loops := true, apart := false }
def NoisePrivateSaid : Prop := noisePrivateRow.holds Tryz.pinned (OpenSpec.ofChange noisePrivateSpec)

/-- ITS FALSE NEIGHBOUR: 'it returns false'. Refute it at one input. -/
def noisePrivateWrong : ChangeSpec := { name := "noisePrivate", fn := fun _ => fun
  | [d1, d2, d3, d4, d5, d6] => { results := [.lit (.bool false)], args := [d1, d2, d3, d4, d5, d6] }
  | _ => none }
def NoisePrivateWrongFalsely : Prop := noisePrivateRow.holds Tryz.pinned (OpenSpec.ofChange noisePrivateWrong)

/-- 'hushtop.TopPrivate': WHATEVER THE INPUT: true; the input reads as it did. -/
def topPrivateSpec : ChangeSpec := { name := "topPrivate", fn := fun _ => fun
  | [d1, d2, d3, d4] => { results := [.lit (.bool true)], args := [d1, d2, d3, d4] }
  | _ => none }
def topPrivateRow : OpenClaim := { program := "ytlndlpjadajelaagreat", sum := "c48aba63c53a20bcf99363cd10ff1ce308417b157305bf534ad2dc65e20b2c52", func := "hushhouse/hushtop.TopPrivate", spec := "topPrivate", inPlace := ["maps.clone"], unfollowed := true, recurses := true, loops := true, apart := false }
def TopPrivateSaid : Prop := topPrivateRow.holds Tryz.pinned (OpenSpec.ofChange topPrivateSpec)

/-- ITS FALSE NEIGHBOUR: 'it returns false'. Refute it at one input. -/
def topPrivateWrong : ChangeSpec := { name := "topPrivate", fn := fun _ => fun
  | [d1, d2, d3, d4] => { results := [.lit (.bool false)], args := [d1, d2, d3, d4] }
  | _ => none }
def TopPrivateWrongFalsely : Prop := topPrivateRow.holds Tryz.pinned (OpenSpec.ofChange topPrivateWrong)

/-- 'hushlaw11.SampleThrough': WHATEVER THE INPUT: true; the input reads as it did. -/
def sampleThroughSpec : ChangeSpec := { name := "sampleThrough", fn := fun _ => fun
  | [d1, d2, d3, d4, d5, d6] => { results := [.lit (.bool true)], args := [d1, d2, d3, d4, d5, d6] }
  | _ => none }
def sampleThroughRow : OpenClaim := { program := "ytlndlpjadajelaagreat", sum := "c48aba63c53a20bcf99363cd10ff1ce308417b157305bf534ad2dc65e20b2c52", func := "hushhouse/hushlaw11.SampleThrough", spec := "sampleThrough", unfollowed := true, recurses := true, loops := true, apart := false }
def SampleThroughSaid : Prop := sampleThroughRow.holds Tryz.pinned (OpenSpec.ofChange sampleThroughSpec)

/-- ITS FALSE NEIGHBOUR: 'it returns false'. Refute it at one input. -/
def sampleThroughWrong : ChangeSpec := { name := "sampleThrough", fn := fun _ => fun
  | [d1, d2, d3, d4, d5, d6] => { results := [.lit (.bool false)], args := [d1, d2, d3, d4, d5, d6] }
  | _ => none }
def SampleThroughWrongFalsely : Prop := sampleThroughRow.holds Tryz.pinned (OpenSpec.ofChange sampleThroughWrong)

/-- 'hushlaw11.SampleLess': WHATEVER THE INPUT: true; the input reads as it did. -/
def sampleLessSpec : ChangeSpec := { name := "sampleLess", fn := fun _ => fun
  | [d1, d2, d3, d4, d5, d6, d7] => { results := [.lit (.bool true)], args := [d1, d2, d3, d4, d5, d6, d7] }
  | _ => none }
def sampleLessRow : OpenClaim := { program := "ytlndlpjadajelaagreat", sum := "c48aba63c53a20bcf99363cd10ff1ce308417b157305bf534ad2dc65e20b2c52", func := "hushhouse/hushlaw11.SampleLess", spec := "sampleLess", unfollowed := true, recurses := true, loops := true, apart := false }
def SampleLessSaid : Prop := sampleLessRow.holds Tryz.pinned (OpenSpec.ofChange sampleLessSpec)

/-- ITS FALSE NEIGHBOUR: 'it returns false'. Refute it at one input. -/
def sampleLessWrong : ChangeSpec := { name := "sampleLess", fn := fun _ => fun
  | [d1, d2, d3, d4, d5, d6, d7] => { results := [.lit (.bool false)], args := [d1, d2, d3, d4, d5, d6, d7] }
  | _ => none }
def SampleLessWrongFalsely : Prop := sampleLessRow.holds Tryz.pinned (OpenSpec.ofChange sampleLessWrong)

/- THE SECOND FORM. 'bulk': how many values and letters a reading holds, each counted each time it is reached (what is shared counts as often as it is met; a slice's spare places count too). A statement '..UptoSaid' is the law's where the arguments, and the package variables that the reading takes, are together of bulk at most 1048576: NARROWER than '..Said'. Prove '..Said' where nothing that the law and all that it calls make is longer than what came in: it says more and counts as full. Else prove '..UptoSaid'. A law counts once. -/
mutual
def uptoBulk {H : Type} : DataW H → Nat
  | .lit (.string bytes) => bytes.length + 1
  | .lit _ => 1
  | .nil => 1
  | .ptr d => uptoBulk d + 1
  | .slice elems spare => uptoBulkAll elems + uptoBulkAll spare + 1
  | .agg parts => uptoBulkAll parts + 1
  | .iface _ d => uptoBulk d + 1
  | .map entries => uptoBulkEntries entries + 1
  | .held _ => 1
def uptoBulkAll {H : Type} : List (DataW H) → Nat
  | [] => 0
  | d :: r => uptoBulk d + uptoBulkAll r
def uptoBulkEntries {H : Type} : List (Lit × DataW H) → Nat
  | [] => 0
  | x :: r => uptoBulkEntry x + uptoBulkEntries r
def uptoBulkEntry {H : Type} : Lit × DataW H → Nat
  | (.string bytes, d) => bytes.length + uptoBulk d + 1
  | (_, d) => uptoBulk d + 1
 end
def uptoSmall : (H : Type) → List (DataW H) → Bool := fun _ ds => decide (uptoBulkAll ds ≤ 1048576)
def OpenSpec.upto (s : _root_.Go.ChangeSpec) : _root_.Go.OpenSpec := { _root_.Go.OpenSpec.ofChange s with cond := some uptoSmall }

/-- 'hushlaw6.NoiseAnswers', WHERE WHAT IT READS IS OF BULK AT MOST 1048576: true; the input reads as it did. -/
def noiseAnswersUptoRow : OpenClaim := { program := "ytlndlpjadajelaagreat", sum := "c48aba63c53a20bcf99363cd10ff1ce308417b157305bf534ad2dc65e20b2c52", func := "hushhouse/hushlaw6.NoiseAnswers", spec := "noiseAnswers", unfollowed := true, recurses := true, loops := true, apart := false, narrowed := true }
def NoiseAnswersUptoSaid : Prop := noiseAnswersUptoRow.holds Tryz.pinned (OpenSpec.upto noiseAnswersSpec)

/-- 'hushlaw6.NoisePrivate', WHERE WHAT IT READS IS OF BULK AT MOST 1048576: true; the input reads as it did. -/
def noisePrivateUptoRow : OpenClaim := { program := "ytlndlpjadajelaagreat", sum := "c48aba63c53a20bcf99363cd10ff1ce308417b157305bf534ad2dc65e20b2c52", func := "hushhouse/hushlaw6.NoisePrivate", spec := "noisePrivate", unfollowed := true, recurses := true, loops := true, apart := false, narrowed := true }
def NoisePrivateUptoSaid : Prop := noisePrivateUptoRow.holds Tryz.pinned (OpenSpec.upto noisePrivateSpec)

/-- 'hushtop.TopPrivate', WHERE WHAT IT READS IS OF BULK AT MOST 1048576: true; the input reads as it did. -/
def topPrivateUptoRow : OpenClaim := { program := "ytlndlpjadajelaagreat", sum := "c48aba63c53a20bcf99363cd10ff1ce308417b157305bf534ad2dc65e20b2c52", func := "hushhouse/hushtop.TopPrivate", spec := "topPrivate", inPlace := ["maps.clone"], unfollowed := true, recurses := true, loops := true, apart := false, narrowed := true }
def TopPrivateUptoSaid : Prop := topPrivateUptoRow.holds Tryz.pinned (OpenSpec.upto topPrivateSpec)

/-- 'hushlaw11.SampleThrough', WHERE WHAT IT READS IS OF BULK AT MOST 1048576: true; the input reads as it did. -/
def sampleThroughUptoRow : OpenClaim := { program := "ytlndlpjadajelaagreat", sum := "c48aba63c53a20bcf99363cd10ff1ce308417b157305bf534ad2dc65e20b2c52", func := "hushhouse/hushlaw11.SampleThrough", spec := "sampleThrough", unfollowed := true, recurses := true, loops := true, apart := false, narrowed := true }
def SampleThroughUptoSaid : Prop := sampleThroughUptoRow.holds Tryz.pinned (OpenSpec.upto sampleThroughSpec)

/-- 'hushlaw11.SampleLess', WHERE WHAT IT READS IS OF BULK AT MOST 1048576: true; the input reads as it did. -/
def sampleLessUptoRow : OpenClaim := { program := "ytlndlpjadajelaagreat", sum := "c48aba63c53a20bcf99363cd10ff1ce308417b157305bf534ad2dc65e20b2c52", func := "hushhouse/hushlaw11.SampleLess", spec := "sampleLess", unfollowed := true, recurses := true, loops := true, apart := false, narrowed := true }
def SampleLessUptoSaid : Prop := sampleLessUptoRow.holds Tryz.pinned (OpenSpec.upto sampleLessSpec)

end Rows
end Go.Proofs.YtlndlpjadajelaaGreat

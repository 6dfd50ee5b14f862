/-
  DERIVED. GIVEN WITH THE SEED: THE CARDS: each row of YtidfkencjdjkbaaGreatDoorRows.lean that lists a variable, with what it lists TIED to the program's text (the seventh form; the later family's looks); each row that meets fmt, with fmt's text TOLD by the authors' own Lean function (tested against real Go, not proved from fmt's source: count such statements apart). THE CARD IS WHAT COUNTS. Prove the row's statement (the work); the ties are given (YtidfkencjdjkbaaGreatDoorTie.lean); close each card by the builder's one call (the guide's Derived/Test/ToyasCard.lean, 'card_holds'). Laid BY PROGRAM, IN A SANDBOX (cutbox-door.mjs). By AI agents, Wed Nov 11 2026. No macro, syntax, notation, axiom, sorry.
-/
import Derived.Test.YtidfkencjdjkbaaGreatDoorRows
import GoSem.ClaimSeven
namespace Go.Proofs.YtidfkencjdjkbaaGreatDoor
namespace Rows

/-- THE TIED CARD OF 'hushlaw15.SpeechPrints'. -/
def speechPrintsCard : Claim7 := { stood := { row := speechPrintsRow, standIns := [], harness := (true, "24a26640258eec048b87b3b275bb4b626811bad2062d57e82decea6143ad026b"), looks := true }, kinds := [], alts := [], laidByText := true, laidKinds := [.data, .data, .data, .sentinel, .sentinel, .data], laidTests := true, laidLooks := .later }
def SpeechPrintsCardSaid : Prop := Claim7.holds Tryz.pinned (.plain (OpenSpec.ofChange speechPrintsSpec)) speechPrintsCard

/-- THE TIED CARD OF 'hushlaw15.SpeechAnswers'. -/
def speechAnswersCard : Claim7 := { stood := { row := speechAnswersRow, standIns := [], harness := (true, "24a26640258eec048b87b3b275bb4b626811bad2062d57e82decea6143ad026b"), looks := true }, kinds := [], alts := [], laidByText := true, laidKinds := [.data, .data, .data, .sentinel, .sentinel, .data], laidTests := true, laidLooks := .later }
def SpeechAnswersCardSaid : Prop := Claim7.holds Tryz.pinned (.plain (OpenSpec.ofChange speechAnswersSpec)) speechAnswersCard

/-- THE SECOND FORM's CARD OF 'hushlaw15.SpeechPrints'. -/
def speechPrintsUptoCard : Claim7 := { stood := { row := speechPrintsUptoRow, standIns := [], harness := (true, "24a26640258eec048b87b3b275bb4b626811bad2062d57e82decea6143ad026b"), looks := true }, kinds := [], alts := [], laidByText := true, laidKinds := [.data, .data, .data, .sentinel, .sentinel, .data], laidTests := true, laidLooks := .later }
def SpeechPrintsUptoCardSaid : Prop := Claim7.holds Tryz.pinned (.plain (OpenSpec.upto speechPrintsSpec)) speechPrintsUptoCard

/-- THE SECOND FORM's CARD OF 'hushlaw15.SpeechAnswers'. -/
def speechAnswersUptoCard : Claim7 := { stood := { row := speechAnswersUptoRow, standIns := [], harness := (true, "24a26640258eec048b87b3b275bb4b626811bad2062d57e82decea6143ad026b"), looks := true }, kinds := [], alts := [], laidByText := true, laidKinds := [.data, .data, .data, .sentinel, .sentinel, .data], laidTests := true, laidLooks := .later }
def SpeechAnswersUptoCardSaid : Prop := Claim7.holds Tryz.pinned (.plain (OpenSpec.upto speechAnswersSpec)) speechAnswersUptoCard
end Rows
end Go.Proofs.YtidfkencjdjkbaaGreatDoor

/-
  DERIVED. GIVEN WITH THE SEED: THE CARDS: each row of YtidfkencjdjkbaaDoorRows.lean that lists a variable, with what it lists TIED to the program's text (the seventh form; the later family's looks); each row that meets fmt, with fmt's text TOLD by the authors' own Lean function (tested against real Go, not proved from fmt's source: count such statements apart). THE CARD IS WHAT COUNTS. Prove the row's statement (the work); the ties are given (YtidfkencjdjkbaaDoorTie.lean); close each card by the builder's one call (the guide's Derived/Test/ToyasCard.lean, 'card_holds'). Laid BY PROGRAM, IN A SANDBOX (cutbox-door.mjs). By AI agents, Wed Nov 11 2026. No macro, syntax, notation, axiom, sorry.
-/
import Derived.Test.YtidfkencjdjkbaaDoorRows
import GoSem.ClaimSeven
namespace Go.Proofs.YtidfkencjdjkbaaDoor
namespace Rows

/-- THE TIED CARD OF 'hushlaw15.SpeechReads'. -/
def speechReadsCard : Claim7 := { stood := { row := speechReadsRow, standIns := [], harness := (true, "afe6e0113bf9fc5c6115f54fa21ed60d1b01ab765f67f359ff4381b686f51ac8"), looks := true }, kinds := [], alts := [], laidByText := true, laidKinds := [.data, .data, .data, .sentinel, .sentinel, .data], laidTests := true, laidLooks := .later }
def SpeechReadsCardSaid : Prop := Claim7.holds Tryd.pinned (.plain (OpenSpec.ofChange speechReadsSpec)) speechReadsCard

/-- THE TIED CARD OF 'hushlaw15.SpeechTurns'. -/
def speechTurnsCard : Claim7 := { stood := { row := speechTurnsRow, standIns := [], harness := (true, "afe6e0113bf9fc5c6115f54fa21ed60d1b01ab765f67f359ff4381b686f51ac8"), looks := true }, kinds := [], alts := [], laidByText := true, laidKinds := [.data, .data, .data, .sentinel, .sentinel, .data], laidTests := true, laidLooks := .later }
def SpeechTurnsCardSaid : Prop := Claim7.holds Tryd.pinned (.plain (OpenSpec.ofChange speechTurnsSpec)) speechTurnsCard

/-- THE SECOND FORM's CARD OF 'hushlaw15.SpeechReads'. -/
def speechReadsUptoCard : Claim7 := { stood := { row := speechReadsUptoRow, standIns := [], harness := (true, "afe6e0113bf9fc5c6115f54fa21ed60d1b01ab765f67f359ff4381b686f51ac8"), looks := true }, kinds := [], alts := [], laidByText := true, laidKinds := [.data, .data, .data, .sentinel, .sentinel, .data], laidTests := true, laidLooks := .later }
def SpeechReadsUptoCardSaid : Prop := Claim7.holds Tryd.pinned (.plain (OpenSpec.upto speechReadsSpec)) speechReadsUptoCard

/-- THE SECOND FORM's CARD OF 'hushlaw15.SpeechTurns'. -/
def speechTurnsUptoCard : Claim7 := { stood := { row := speechTurnsUptoRow, standIns := [], harness := (true, "afe6e0113bf9fc5c6115f54fa21ed60d1b01ab765f67f359ff4381b686f51ac8"), looks := true }, kinds := [], alts := [], laidByText := true, laidKinds := [.data, .data, .data, .sentinel, .sentinel, .data], laidTests := true, laidLooks := .later }
def SpeechTurnsUptoCardSaid : Prop := Claim7.holds Tryd.pinned (.plain (OpenSpec.upto speechTurnsSpec)) speechTurnsUptoCard
end Rows
end Go.Proofs.YtidfkencjdjkbaaDoor

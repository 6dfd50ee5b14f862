/-
  DERIVED. GIVEN WITH THE SEED: THE CARDS: each row of YtkpjjiomfgkobaaDoorRows.lean that lists a variable, with what it lists TIED to the program's text (the seventh form; the later family's looks); each row that meets fmt, with fmt's text TOLD by the authors' own Lean function (tested against real Go, not proved from fmt's source: count such statements apart). THE CARD IS WHAT COUNTS. Prove the row's statement (the work); the ties are given (YtkpjjiomfgkobaaDoorTie.lean); close each card by the builder's one call (the guide's Derived/Test/ToyasCard.lean, 'card_holds'). Laid BY PROGRAM, IN A SANDBOX (cutbox-door.mjs). By AI agents, Wed Nov 11 2026. No macro, syntax, notation, axiom, sorry.
-/
import Derived.Test.YtkpjjiomfgkobaaDoorRows
import GoSem.ClaimSeven
namespace Go.Proofs.YtkpjjiomfgkobaaDoor
namespace Rows

/-- THE TIED CARD OF 'hushlaw4.RowsTexts'. -/
def rowsTextsCard : Claim7 := { stood := { row := rowsTextsRow, standIns := [], harness := (true, "950eadfebcf5717609c363b12516574776db87678ab93d265ec9e4834e8af3b6"), looks := true }, kinds := [], alts := [], laidByText := true, laidKinds := [.data, .data, .data, .sentinel, .sentinel], laidTests := true, laidLooks := .later }
def RowsTextsCardSaid : Prop := Claim7.holds Tryd.pinned (.plain (OpenSpec.ofChange rowsTextsSpec)) rowsTextsCard

/-- THE TIED CARD OF 'hushlaw4.RowsTurn'. -/
def rowsTurnCard : Claim7 := { stood := { row := rowsTurnRow, standIns := [], harness := (true, "950eadfebcf5717609c363b12516574776db87678ab93d265ec9e4834e8af3b6"), looks := true }, kinds := [], alts := [], laidByText := true, laidKinds := [.data, .data, .data, .sentinel, .sentinel], laidTests := true, laidLooks := .later }
def RowsTurnCardSaid : Prop := Claim7.holds Tryd.pinned (.plain (OpenSpec.ofChange rowsTurnSpec)) rowsTurnCard

/-- THE SECOND FORM's CARD OF 'hushlaw4.RowsTexts'. -/
def rowsTextsUptoCard : Claim7 := { stood := { row := rowsTextsUptoRow, standIns := [], harness := (true, "950eadfebcf5717609c363b12516574776db87678ab93d265ec9e4834e8af3b6"), looks := true }, kinds := [], alts := [], laidByText := true, laidKinds := [.data, .data, .data, .sentinel, .sentinel], laidTests := true, laidLooks := .later }
def RowsTextsUptoCardSaid : Prop := Claim7.holds Tryd.pinned (.plain (OpenSpec.upto rowsTextsSpec)) rowsTextsUptoCard

/-- THE SECOND FORM's CARD OF 'hushlaw4.RowsTurn'. -/
def rowsTurnUptoCard : Claim7 := { stood := { row := rowsTurnUptoRow, standIns := [], harness := (true, "950eadfebcf5717609c363b12516574776db87678ab93d265ec9e4834e8af3b6"), looks := true }, kinds := [], alts := [], laidByText := true, laidKinds := [.data, .data, .data, .sentinel, .sentinel], laidTests := true, laidLooks := .later }
def RowsTurnUptoCardSaid : Prop := Claim7.holds Tryd.pinned (.plain (OpenSpec.upto rowsTurnSpec)) rowsTurnUptoCard
end Rows
end Go.Proofs.YtkpjjiomfgkobaaDoor

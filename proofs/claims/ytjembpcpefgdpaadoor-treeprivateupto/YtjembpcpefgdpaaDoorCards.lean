/-
  DERIVED. GIVEN WITH THE SEED: THE CARDS: each row of YtjembpcpefgdpaaDoorRows.lean that lists a variable, with what it lists TIED to the program's text (the seventh form; the later family's looks); each row that meets fmt, with fmt's text TOLD by the authors' own Lean function (tested against real Go, not proved from fmt's source: count such statements apart). THE CARD IS WHAT COUNTS. Prove the row's statement (the work); the ties are given (YtjembpcpefgdpaaDoorTie.lean); close each card by the builder's one call (the guide's Derived/Test/ToyasCard.lean, 'card_holds'). Laid BY PROGRAM, IN A SANDBOX (cutbox-door.mjs). By AI agents, Wed Nov 11 2026. No macro, syntax, notation, axiom, sorry.
-/
import Derived.Test.YtjembpcpefgdpaaDoorRows
import GoSem.ClaimSeven
namespace Go.Proofs.YtjembpcpefgdpaaDoor
namespace Rows

/-- THE TIED CARD OF 'hushlaw9.TreeCounts'. -/
def treeCountsCard : Claim7 := { stood := { row := treeCountsRow, standIns := [], harness := (true, "ec1a3b1df3196956a436b6b515f5edf402470636ed618f6c0acab96cf2131cef"), looks := false }, kinds := [], alts := [], laidByText := true, laidKinds := [.data, .data], laidTests := true, laidLooks := .later }
def TreeCountsCardSaid : Prop := Claim7.holds Tryd.pinned (.plain (OpenSpec.ofChange treeCountsSpec)) treeCountsCard

/-- THE TIED CARD OF 'hushlaw9.TreePrivate'. -/
def treePrivateCard : Claim7 := { stood := { row := treePrivateRow, standIns := [], harness := (true, "ec1a3b1df3196956a436b6b515f5edf402470636ed618f6c0acab96cf2131cef"), looks := false }, kinds := [], alts := [], laidByText := true, laidKinds := [.data, .data], laidTests := true, laidLooks := .later }
def TreePrivateCardSaid : Prop := Claim7.holds Tryd.pinned (.plain (OpenSpec.ofChange treePrivateSpec)) treePrivateCard

/-- THE SECOND FORM's CARD OF 'hushlaw9.TreeCounts'. -/
def treeCountsUptoCard : Claim7 := { stood := { row := treeCountsUptoRow, standIns := [], harness := (true, "ec1a3b1df3196956a436b6b515f5edf402470636ed618f6c0acab96cf2131cef"), looks := false }, kinds := [], alts := [], laidByText := true, laidKinds := [.data, .data], laidTests := true, laidLooks := .later }
def TreeCountsUptoCardSaid : Prop := Claim7.holds Tryd.pinned (.plain (OpenSpec.upto treeCountsSpec)) treeCountsUptoCard

/-- THE SECOND FORM's CARD OF 'hushlaw9.TreePrivate'. -/
def treePrivateUptoCard : Claim7 := { stood := { row := treePrivateUptoRow, standIns := [], harness := (true, "ec1a3b1df3196956a436b6b515f5edf402470636ed618f6c0acab96cf2131cef"), looks := false }, kinds := [], alts := [], laidByText := true, laidKinds := [.data, .data], laidTests := true, laidLooks := .later }
def TreePrivateUptoCardSaid : Prop := Claim7.holds Tryd.pinned (.plain (OpenSpec.upto treePrivateSpec)) treePrivateUptoCard
end Rows
end Go.Proofs.YtjembpcpefgdpaaDoor

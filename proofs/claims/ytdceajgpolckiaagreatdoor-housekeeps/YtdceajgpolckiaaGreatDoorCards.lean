/-
  DERIVED. GIVEN WITH THE SEED: THE CARDS: each row of YtdceajgpolckiaaGreatDoorRows.lean that lists a variable, with what it lists TIED to the program's text (the seventh form; the later family's looks); each row that meets fmt, with fmt's text TOLD by the authors' own Lean function (tested against real Go, not proved from fmt's source: count such statements apart). THE CARD IS WHAT COUNTS. Prove the row's statement (the work); the ties are given (YtdceajgpolckiaaGreatDoorTie.lean); close each card by the builder's one call (the guide's Derived/Test/ToyasCard.lean, 'card_holds'). Laid BY PROGRAM, IN A SANDBOX (cutbox-door.mjs). By AI agents, Wed Nov 11 2026. No macro, syntax, notation, axiom, sorry.
-/
import Derived.Test.YtdceajgpolckiaaGreatDoorRows
import GoSem.ClaimSeven
namespace Go.Proofs.YtdceajgpolckiaaGreatDoor
namespace Rows

/-- THE TIED CARD OF 'hushlaw14.HouseKeeps'. -/
def houseKeepsCard : Claim7 := { stood := { row := houseKeepsRow, standIns := [], harness := (true, "0fdde5ac223e16193d28814a4f54ddd141fdcbaf49873e6ac262eeb3d0697931"), looks := true }, kinds := [], alts := [], laidByText := true, laidKinds := [.data, .pinned], laidTests := true, laidLooks := .later }
def HouseKeepsCardSaid : Prop := Claim7.holds Tryz.pinned (.plain (OpenSpec.ofChange houseKeepsSpec)) houseKeepsCard

/-- THE TIED CARD OF 'hushtop.TopHouse'. -/
def topHouseCard : Claim7 := { stood := { row := topHouseRow, standIns := [], harness := (true, "0fdde5ac223e16193d28814a4f54ddd141fdcbaf49873e6ac262eeb3d0697931"), looks := true }, kinds := [], alts := [], laidByText := true, laidKinds := [.data, .pinned], laidTests := true, laidLooks := .later }
def TopHouseCardSaid : Prop := Claim7.holds Tryz.pinned (.plain (OpenSpec.ofChange topHouseSpec)) topHouseCard

/-- THE TIED CARD OF 'hushtop.TopDraws'. -/
def topDrawsCard : Claim7 := { stood := { row := topDrawsRow, standIns := [], harness := (true, "0fdde5ac223e16193d28814a4f54ddd141fdcbaf49873e6ac262eeb3d0697931"), looks := true }, kinds := [], alts := [], laidByText := true, laidKinds := [.data, .pinned], laidTests := true, laidLooks := .later }
def TopDrawsCardSaid : Prop := Claim7.holds Tryz.pinned (.plain (OpenSpec.ofChange topDrawsSpec)) topDrawsCard

/-- THE SECOND FORM's CARD OF 'hushlaw14.HouseKeeps'. -/
def houseKeepsUptoCard : Claim7 := { stood := { row := houseKeepsUptoRow, standIns := [], harness := (true, "0fdde5ac223e16193d28814a4f54ddd141fdcbaf49873e6ac262eeb3d0697931"), looks := true }, kinds := [], alts := [], laidByText := true, laidKinds := [.data, .pinned], laidTests := true, laidLooks := .later }
def HouseKeepsUptoCardSaid : Prop := Claim7.holds Tryz.pinned (.plain (OpenSpec.upto houseKeepsSpec)) houseKeepsUptoCard

/-- THE SECOND FORM's CARD OF 'hushtop.TopHouse'. -/
def topHouseUptoCard : Claim7 := { stood := { row := topHouseUptoRow, standIns := [], harness := (true, "0fdde5ac223e16193d28814a4f54ddd141fdcbaf49873e6ac262eeb3d0697931"), looks := true }, kinds := [], alts := [], laidByText := true, laidKinds := [.data, .pinned], laidTests := true, laidLooks := .later }
def TopHouseUptoCardSaid : Prop := Claim7.holds Tryz.pinned (.plain (OpenSpec.upto topHouseSpec)) topHouseUptoCard

/-- THE SECOND FORM's CARD OF 'hushtop.TopDraws'. -/
def topDrawsUptoCard : Claim7 := { stood := { row := topDrawsUptoRow, standIns := [], harness := (true, "0fdde5ac223e16193d28814a4f54ddd141fdcbaf49873e6ac262eeb3d0697931"), looks := true }, kinds := [], alts := [], laidByText := true, laidKinds := [.data, .pinned], laidTests := true, laidLooks := .later }
def TopDrawsUptoCardSaid : Prop := Claim7.holds Tryz.pinned (.plain (OpenSpec.upto topDrawsSpec)) topDrawsUptoCard
end Rows
end Go.Proofs.YtdceajgpolckiaaGreatDoor

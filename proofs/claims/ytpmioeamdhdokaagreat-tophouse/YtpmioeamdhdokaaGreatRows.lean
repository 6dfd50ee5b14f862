/-
  NARROWER THAN 'FOR EVERY INPUT', by the rows' own cells (each row's printed sentence says how): HousePlays: loops · HouseKeeps: loops · TopHouse: loops · TopDraws: loops.
  DERIVED. THE GIVEN ROWS OF THIS SEAT. 4 by the template 'for every input the law returns true; each argument reads behind the call as it read before'; 0 by the template 'total and deterministic' (their statements: YtpmioeamdhdokaaGreatTotals.lean).
  GIVEN WITH THE SEED: the statements are not yours to turn. If you find one false, say at which input.
  Laid BY PROGRAM, IN A SANDBOX (cutbox-rows.mjs): the forced cells as the released guide's own fill.sh prints them over the translation 1f8dfdaa380fe95d… (all of the seat's roots in one cut). By AI agents, Wed Nov 11 2026. No macro, syntax, notation, axiom, sorry.
-/
import Derived.Test.YtpmioeamdhdokaaGreatChecked
import GoSem.Claim
import GoSem.ClaimJoined
import GoSem.ClaimMapViews
import Derived.JoinedTies
import Derived.KernelRfl
namespace Go.Proofs.YtpmioeamdhdokaaGreat
/- THE CELL 'sum', in the pinned program and in every row, IS THE sha256 OF THE DUMP (.gsa) THAT YtpmioeamdhdokaaGreatProg.lean LOADS. Nothing in Lean hashes anything: it is a label: what it is worth is what the hold of that sum in a sandbox is worth. -/
noncomputable def Tryz.pinned : Pinned := { name := "ytpmioeamdhdokaagreat", sum := "1f8dfdaa380fe95d4bed0100de46b11ce950e1f6fe4cc0b887186c9709635c76", checked := Tryz.checked }
namespace Rows
def none {H : Type} : Left H := { results := [], args := [] }

/-- 'hushlaw14.HousePlays': WHATEVER THE INPUT: true; the input reads as it did. -/
def housePlaysSpec : ChangeSpec := { name := "housePlays", fn := fun _ => fun
  | [d1, d2, d3] => { results := [.lit (.bool true)], args := [d1, d2, d3] }
  | _ => none }
def housePlaysRow : OpenClaim := { program := "ytpmioeamdhdokaagreat", sum := "1f8dfdaa380fe95d4bed0100de46b11ce950e1f6fe4cc0b887186c9709635c76", func := "hushhouse/hushlaw14.HousePlays", spec := "housePlays", inPlace := ["maps.clone"], unfollowed := true, recurses := true, loops := true, apart := false }
def HousePlaysSaid : Prop := housePlaysRow.holds Tryz.pinned (OpenSpec.ofChange housePlaysSpec)

/-- ITS FALSE NEIGHBOUR: 'it returns false'. Refute it at one input. -/
def housePlaysWrong : ChangeSpec := { name := "housePlays", fn := fun _ => fun
  | [d1, d2, d3] => { results := [.lit (.bool false)], args := [d1, d2, d3] }
  | _ => none }
def HousePlaysWrongFalsely : Prop := housePlaysRow.holds Tryz.pinned (OpenSpec.ofChange housePlaysWrong)

/-- 'hushlaw14.HouseKeeps': WHATEVER THE INPUT: true; the input reads as it did. -/
def houseKeepsSpec : ChangeSpec := { name := "houseKeeps", fn := fun _ => fun
  | [d1, d2, d3] => { results := [.lit (.bool true)], args := [d1, d2, d3] }
  | _ => none }
def houseKeepsRow : OpenClaim := { program := "ytpmioeamdhdokaagreat", sum := "1f8dfdaa380fe95d4bed0100de46b11ce950e1f6fe4cc0b887186c9709635c76", func := "hushhouse/hushlaw14.HouseKeeps", spec := "houseKeeps", inPlace := ["maps.clone"], unfollowed := true, recurses := true, loops := true, apart := false }
def HouseKeepsSaid : Prop := houseKeepsRow.holds Tryz.pinned (OpenSpec.ofChange houseKeepsSpec)

/-- ITS FALSE NEIGHBOUR: 'it returns false'. Refute it at one input. -/
def houseKeepsWrong : ChangeSpec := { name := "houseKeeps", fn := fun _ => fun
  | [d1, d2, d3] => { results := [.lit (.bool false)], args := [d1, d2, d3] }
  | _ => none }
def HouseKeepsWrongFalsely : Prop := houseKeepsRow.holds Tryz.pinned (OpenSpec.ofChange houseKeepsWrong)

/-- 'hushtop.TopHouse': WHATEVER THE INPUT: true; the input reads as it did. -/
def topHouseSpec : ChangeSpec := { name := "topHouse", fn := fun _ => fun
  | [d1, d2, d3, d4, d5] => { results := [.lit (.bool true)], args := [d1, d2, d3, d4, d5] }
  | _ => none }
def topHouseRow : OpenClaim := { program := "ytpmioeamdhdokaagreat", sum := "1f8dfdaa380fe95d4bed0100de46b11ce950e1f6fe4cc0b887186c9709635c76", func := "hushhouse/hushtop.TopHouse", spec := "topHouse", inPlace := ["maps.clone"], unfollowed := true, recurses := true, loops := true, apart := false }
def TopHouseSaid : Prop := topHouseRow.holds Tryz.pinned (OpenSpec.ofChange topHouseSpec)

/-- ITS FALSE NEIGHBOUR: 'it returns false'. Refute it at one input. -/
def topHouseWrong : ChangeSpec := { name := "topHouse", fn := fun _ => fun
  | [d1, d2, d3, d4, d5] => { results := [.lit (.bool false)], args := [d1, d2, d3, d4, d5] }
  | _ => none }
def TopHouseWrongFalsely : Prop := topHouseRow.holds Tryz.pinned (OpenSpec.ofChange topHouseWrong)

/-- 'hushtop.TopDraws': WHATEVER THE INPUT: true; the input reads as it did. -/
def topDrawsSpec : ChangeSpec := { name := "topDraws", fn := fun _ => fun
  | [d1, d2, d3, d4] => { results := [.lit (.bool true)], args := [d1, d2, d3, d4] }
  | _ => none }
def topDrawsRow : OpenClaim := { program := "ytpmioeamdhdokaagreat", sum := "1f8dfdaa380fe95d4bed0100de46b11ce950e1f6fe4cc0b887186c9709635c76", func := "hushhouse/hushtop.TopDraws", spec := "topDraws", inPlace := ["maps.clone"], unfollowed := true, recurses := true, loops := true, apart := false }
def TopDrawsSaid : Prop := topDrawsRow.holds Tryz.pinned (OpenSpec.ofChange topDrawsSpec)

/-- ITS FALSE NEIGHBOUR: 'it returns false'. Refute it at one input. -/
def topDrawsWrong : ChangeSpec := { name := "topDraws", fn := fun _ => fun
  | [d1, d2, d3, d4] => { results := [.lit (.bool false)], args := [d1, d2, d3, d4] }
  | _ => none }
def TopDrawsWrongFalsely : Prop := topDrawsRow.holds Tryz.pinned (OpenSpec.ofChange topDrawsWrong)

/- THE SECOND FORM. 'bulk': how many values and letters a reading holds, each counted each time it is reached (what is shared counts as often as it is met; a slice's spare places count too). A statement '..UptoSaid' is the law's where the arguments, and the package variables that the reading takes, are together of bulk at most 1048576: NARROWER than '..Said'. Prove '..Said' where nothing that the law and all that it calls make is longer than what came in: it says more and counts as full. Else prove '..UptoSaid'. A law counts once. -/
mutual
def uptoBulk {H : Type} : DataW H → Nat
  | .lit (.string bytes) => bytes.length + 1
  | .lit _ => 1
  | .nil => 1
  | .ptr d => uptoBulk d + 1
  | .slice elems spare => uptoBulkAll elems + uptoBulkAll spare + 1
  | .agg parts => uptoBulkAll parts + 1
  | .iface _ d => uptoBulk d + 1
  | .map entries => uptoBulkEntries entries + 1
  | .held _ => 1
def uptoBulkAll {H : Type} : List (DataW H) → Nat
  | [] => 0
  | d :: r => uptoBulk d + uptoBulkAll r
def uptoBulkEntries {H : Type} : List (Lit × DataW H) → Nat
  | [] => 0
  | x :: r => uptoBulkEntry x + uptoBulkEntries r
def uptoBulkEntry {H : Type} : Lit × DataW H → Nat
  | (.string bytes, d) => bytes.length + uptoBulk d + 1
  | (_, d) => uptoBulk d + 1
 end
def uptoSmall : (H : Type) → List (DataW H) → Bool := fun _ ds => decide (uptoBulkAll ds ≤ 1048576)
def OpenSpec.upto (s : _root_.Go.ChangeSpec) : _root_.Go.OpenSpec := { _root_.Go.OpenSpec.ofChange s with cond := some uptoSmall }

/-- 'hushlaw14.HousePlays', WHERE WHAT IT READS IS OF BULK AT MOST 1048576: true; the input reads as it did. -/
def housePlaysUptoRow : OpenClaim := { program := "ytpmioeamdhdokaagreat", sum := "1f8dfdaa380fe95d4bed0100de46b11ce950e1f6fe4cc0b887186c9709635c76", func := "hushhouse/hushlaw14.HousePlays", spec := "housePlays", inPlace := ["maps.clone"], unfollowed := true, recurses := true, loops := true, apart := false, narrowed := true }
def HousePlaysUptoSaid : Prop := housePlaysUptoRow.holds Tryz.pinned (OpenSpec.upto housePlaysSpec)

/-- 'hushlaw14.HouseKeeps', WHERE WHAT IT READS IS OF BULK AT MOST 1048576: true; the input reads as it did. -/
def houseKeepsUptoRow : OpenClaim := { program := "ytpmioeamdhdokaagreat", sum := "1f8dfdaa380fe95d4bed0100de46b11ce950e1f6fe4cc0b887186c9709635c76", func := "hushhouse/hushlaw14.HouseKeeps", spec := "houseKeeps", inPlace := ["maps.clone"], unfollowed := true, recurses := true, loops := true, apart := false, narrowed := true }
def HouseKeepsUptoSaid : Prop := houseKeepsUptoRow.holds Tryz.pinned (OpenSpec.upto houseKeepsSpec)

/-- 'hushtop.TopHouse', WHERE WHAT IT READS IS OF BULK AT MOST 1048576: true; the input reads as it did. -/
def topHouseUptoRow : OpenClaim := { program := "ytpmioeamdhdokaagreat", sum := "1f8dfdaa380fe95d4bed0100de46b11ce950e1f6fe4cc0b887186c9709635c76", func := "hushhouse/hushtop.TopHouse", spec := "topHouse", inPlace := ["maps.clone"], unfollowed := true, recurses := true, loops := true, apart := false, narrowed := true }
def TopHouseUptoSaid : Prop := topHouseUptoRow.holds Tryz.pinned (OpenSpec.upto topHouseSpec)

/-- 'hushtop.TopDraws', WHERE WHAT IT READS IS OF BULK AT MOST 1048576: true; the input reads as it did. -/
def topDrawsUptoRow : OpenClaim := { program := "ytpmioeamdhdokaagreat", sum := "1f8dfdaa380fe95d4bed0100de46b11ce950e1f6fe4cc0b887186c9709635c76", func := "hushhouse/hushtop.TopDraws", spec := "topDraws", inPlace := ["maps.clone"], unfollowed := true, recurses := true, loops := true, apart := false, narrowed := true }
def TopDrawsUptoSaid : Prop := topDrawsUptoRow.holds Tryz.pinned (OpenSpec.upto topDrawsSpec)

end Rows
end Go.Proofs.YtpmioeamdhdokaaGreat

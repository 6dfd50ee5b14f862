import Derived.Test.YtdceajgpolckiaaGreatDoorQr00
import Derived.Test.YtdceajgpolckiaaGreatDoorRows
import Derived.ProofKit
import Derived.JoinedOf
open Go.Proofs.Tryz
set_option linter.unusedSimpArgs false
set_option maxHeartbeats 16000000
set_option maxRecDepth 100000
namespace Go.Proofs.YtdceajgpolckiaaGreatDoor
section
open Go.ChangeShapes Go.WideShapes Go.ChangeAt Go.RowKit
theorem f3J:joinedFacts Tryz.pinned.checked.prog 4 Tryz.f4 Rows.topHouseSpec Rows.topHouseRow=true:=by kernel_rfl

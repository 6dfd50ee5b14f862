import Derived.Test.YtpmioeamdhdokaaGreatQq00
import Derived.Test.YtpmioeamdhdokaaGreatRows
import Derived.ProofKit
import Derived.JoinedOf
open Go.Proofs.Tryz
set_option linter.unusedSimpArgs false
set_option maxHeartbeats 16000000
set_option maxRecDepth 100000
namespace Go.Proofs.YtpmioeamdhdokaaGreat
section
open Go.ChangeShapes Go.WideShapes Go.ChangeAt Go.RowKit
theorem fzJ:joinedFacts Tryz.pinned.checked.prog 5 Tryz.f5 Rows.topHouseSpec Rows.topHouseRow=true:=by kernel_rfl
end
end Go.Proofs.YtpmioeamdhdokaaGreat

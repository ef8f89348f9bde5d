/- What the frames of laws without a table want, in a seat that has Steps (laidOut stands there). -/
import Derived.Test.YtcaeakddcanamaaRows
import Derived.Test.YtcaeakddcanamaaSteps
import Derived.ProofKit
namespace Go.Proofs.Ytcaeakddcanamaa
open Go.RowKit
theorem own : ownKnob Try.prog.godebug = none := by kernel_rfl
end Go.Proofs.Ytcaeakddcanamaa

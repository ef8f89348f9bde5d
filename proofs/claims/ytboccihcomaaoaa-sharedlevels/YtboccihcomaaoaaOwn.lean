/- What the frames of laws without a table want. -/
import Derived.ProofKit
import Derived.Test.YtboccihcomaaoaaRows
namespace Go.Proofs.Ytboccihcomaaoaa
open Go.RowKit
theorem own : ownKnob Try.prog.godebug = none := by kernel_rfl
theorem laidOut : laidOutB Try.prog = true := by kernel_rfl
end Go.Proofs.Ytboccihcomaaoaa

/- What the frames of laws without a table want. -/
import Derived.Test.YtpcmdbpgplcnnaaRows
import Derived.ProofKit
namespace Go.Proofs.Ytpcmdbpgplcnnaa
open Go.RowKit
theorem own : ownKnob Try.prog.godebug = none := by kernel_rfl
theorem laidOut : laidOutB Try.prog = true := by kernel_rfl
end Go.Proofs.Ytpcmdbpgplcnnaa

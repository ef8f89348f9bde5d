/- What the frames of laws without a table want. -/
import Derived.Test.YtkkefonapjcglaaRows
import Derived.ProofKit
namespace Go.Proofs.Ytkkefonapjcglaa
open Go.RowKit
theorem own : ownKnob Try.prog.godebug = none := by kernel_rfl
end Go.Proofs.Ytkkefonapjcglaa

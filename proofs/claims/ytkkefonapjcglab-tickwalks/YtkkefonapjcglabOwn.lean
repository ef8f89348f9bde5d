/- What the frames of laws without a table want. -/
import Derived.Test.YtkkefonapjcglabRows
import Derived.ProofKit
namespace Go.Proofs.Ytkkefonapjcglab
open Go.RowKit
theorem own : ownKnob Try.prog.godebug = none := by kernel_rfl
end Go.Proofs.Ytkkefonapjcglab

/- sort.Search over a function that only reads: a place where its answer turns. -/
import Derived.Test.YtoknpinlphbeoaaEntLess
import Derived.Deep.LoopGhost
namespace Go.Proofs.Ytoknpinlphbeoaa
open Go.RowKit Go.Lib Go.Sort
set_option linter.unusedVariables false

end Go.Proofs.Ytoknpinlphbeoaa

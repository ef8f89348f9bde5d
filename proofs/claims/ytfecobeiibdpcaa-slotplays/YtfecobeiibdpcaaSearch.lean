/- sort.Search over a function that only reads: a place where its answer turns. -/
import Derived.Test.YtfecobeiibdpcaaEntLess
import Derived.Deep.LoopGhost
namespace Go.Proofs.Ytfecobeiibdpcaa
open Go.RowKit Go.Lib Go.Sort
set_option linter.unusedVariables false

end Go.Proofs.Ytfecobeiibdpcaa

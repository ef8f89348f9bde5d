/- sort.Search over a function that only reads: a place where its answer turns. -/
import Derived.Deep.LoopGhost
import Derived.Test.YtchephglapnloaaEntLess
namespace Go.Proofs.Ytchephglapnloaa
open Go.RowKit Go.Lib Go.Sort
set_option linter.unusedVariables false

end Go.Proofs.Ytchephglapnloaa

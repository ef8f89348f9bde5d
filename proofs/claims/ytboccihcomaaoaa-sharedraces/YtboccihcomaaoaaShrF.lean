/- The version of a Snap that was just told. -/
import Derived.Test.YtboccihcomaaoaaShrK
namespace Go.Proofs.Ytboccihcomaaoaa
open Go.RowKit Go.Lib Go.Sort
set_option linter.unusedVariables false
theorem fieldN (v : Int) (y : Value) (w : World) : (Instr.field 30 (.agg #[.int .u64 v, y]) 0).run Try.prog w = .ok (.int .u64 v) w := by
  simp [Instr.field, run_underlying Try.underlying30, asAgg, part]
end Go.Proofs.Ytboccihcomaaoaa

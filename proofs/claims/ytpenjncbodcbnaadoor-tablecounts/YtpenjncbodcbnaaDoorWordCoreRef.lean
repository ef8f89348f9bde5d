/- What the document's calls answer on words: contracts. -/
import Derived.Test.YtpenjncbodcbnaaDoorWordCore
namespace Go.Proofs.YtpenjncbodcbnaaDoor
open Go.RowKit

theorem rcan_any (a b : Int) (w : World) : Calls Tryd.prog 8 #[.int .i64 a, .int .i64 b] w fun e w' => e = .returned (.bool (canB a b)) ∧ w' = w := by
  go_enter Tryd.func8, Tryd.ntmps8
  go_wp2
  all_goals
    go_ret
    refine ⟨ret_bool ?_, rfl⟩
    simp only [beq_iff_eq, beq_eq_false_iff_ne, ne_eq] at *
    rw [Bool.eq_iff_iff]
    simp [canB]
    omega
end Go.Proofs.YtpenjncbodcbnaaDoor

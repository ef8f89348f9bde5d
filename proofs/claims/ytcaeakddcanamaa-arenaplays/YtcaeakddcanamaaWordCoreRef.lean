/- What the document's calls answer on words: contracts. -/
import Derived.Test.YtcaeakddcanamaaWordCore
namespace Go.Proofs.Ytcaeakddcanamaa
open Go.RowKit

theorem rpack_any (s v : Int) (w : World) :
    Calls Try.prog 38 #[.int .i64 s, .int .u64 v] w fun e w' => e = .returned (.int .u64 (packI s v)) ∧ w' = w := by
  go_enter Try.func38, Try.ntmps38
  go_wp2
  go_ret
  exact ⟨ret_int (pack_or' s v), rfl⟩
theorem rstate_any (v : Int) (w : World) (h0 : 0 ≤ v) (h1 : v < 18446744073709551616) :
    Calls Try.prog 20 #[.int .u64 v] w fun e w' => e = .returned (.int .i64 (v % 8)) ∧ w' = w := by
  go_enter Try.func20, Try.ntmps20
  go_wp2
  go_ret
  exact ⟨ret_int (state_num v h0 h1), rfl⟩
theorem rversion_any (v : Int) (w : World) :
    Calls Try.prog 39 #[.int .u64 v] w fun e w' => e = .returned (.int .u64 (v / 8)) ∧ w' = w := by
  go_enter Try.func39, Try.ntmps39
  go_wp2
  go_ret
  exact ⟨rfl, rfl⟩
theorem rnext_any (v s : Int) (w : World) (h0 : 0 ≤ v) (h1 : v < 18446744073709551616) :
    Calls Try.prog 32 #[.int .u64 v, .int .i64 s] w fun e w' => e = .returned (.int .u64 (packI s (v / 8 + 1))) ∧ w' = w := by
  go_enter Try.func32, Try.ntmps32
  go_wp2_with fail
  refine (rversion_any _ _).mono ?_
  rintro e w1 ⟨rfl, rfl⟩
  go_wp2_with fail
  refine (rpack_any _ _ _).mono ?_
  rintro e w2 ⟨rfl, rfl⟩
  go_wp2_with fail
  go_ret
  exact ⟨rfl, rfl⟩
theorem rover_any (s : Int) (w : World) : Calls Try.prog 33 #[.int .i64 s] w fun e w' => e = .returned (.bool (overB s)) ∧ w' = w := by
  go_enter Try.func33, Try.ntmps33
  go_wp2
  all_goals
    go_ret
    exact ⟨ret_bool (by rw [Bool.eq_iff_iff]; simp [overB]; omega), rfl⟩
theorem rcan_any (a b : Int) (w : World) : Calls Try.prog 31 #[.int .i64 a, .int .i64 b] w fun e w' => e = .returned (.bool (canB a b)) ∧ w' = w := by
  go_enter Try.func31, Try.ntmps31
  go_wp2
  all_goals
    go_ret
    refine ⟨ret_bool ?_, rfl⟩
    simp only [beq_iff_eq, beq_eq_false_iff_ne, ne_eq] at *
    rw [Bool.eq_iff_iff]
    simp [canB]
    omega
end Go.Proofs.Ytcaeakddcanamaa

/- What the calls of package word answer: contracts (Pack, State, Version, Next, Over alone). -/
import Derived.Test.YtcaeakddcanamaaCan
import Derived.Test.YtcaeakddcanamaaNum
namespace Go.Proofs.Ytcaeakddcanamaa
open Go.RowKit

theorem ret_int {k : IntKind} {a b : Int} (h : a = b) : Ending.returned (.int k a) = .returned (.int k b) := by rw [h]
theorem ret_bool {a b : Bool} (h : a = b) : Ending.returned (.bool a) = .returned (.bool b) := by rw [h]

theorem pack_any (s v : Int) (w : World) :
    Calls Try.prog 40 #[.int .i64 s, .int .u64 v] w fun e w' => e = .returned (.int .u64 (packI s v)) ∧ w' = w := by
  go_enter Try.func40, Try.ntmps40
  go_wp2
  go_ret
  exact ⟨ret_int (pack_or s v), rfl⟩
theorem state_num (v : Int) (h0 : 0 ≤ v) (h1 : v < 18446744073709551616) : wrap64 (bits .and .u64 v 7) = v % 8 := by
  rw [and7_u64 v h0 h1]
  exact IntWalk.wrap64_in _ ⟨by omega, by omega⟩
theorem state_any (v : Int) (w : World) (h0 : 0 ≤ v) (h1 : v < 18446744073709551616) :
    Calls Try.prog 29 #[.int .u64 v] w fun e w' => e = .returned (.int .i64 (v % 8)) ∧ w' = w := by
  go_enter Try.func29, Try.ntmps29
  go_wp2
  go_ret
  exact ⟨ret_int (state_num v h0 h1), rfl⟩
theorem version_any (v : Int) (w : World) :
    Calls Try.prog 41 #[.int .u64 v] w fun e w' => e = .returned (.int .u64 (v / 8)) ∧ w' = w := by
  go_enter Try.func41, Try.ntmps41
  go_wp2
  go_ret
  exact ⟨rfl, rfl⟩
theorem next_any (v s : Int) (w : World) (h0 : 0 ≤ v) (h1 : v < 18446744073709551616) :
    Calls Try.prog 36 #[.int .u64 v, .int .i64 s] w fun e w' => e = .returned (.int .u64 (packI s (v / 8 + 1))) ∧ w' = w := by
  go_enter Try.func36, Try.ntmps36
  go_wp2_with fail
  refine (version_any _ _).mono ?_
  rintro e w1 ⟨rfl, rfl⟩
  go_wp2_with fail
  refine (pack_any _ _ _).mono ?_
  rintro e w2 ⟨rfl, rfl⟩
  go_wp2_with fail
  go_ret
  exact ⟨rfl, rfl⟩
def overB (s : Int) : Bool := decide (4 ≤ s) && decide (s ≤ 6)
theorem over_any (s : Int) (w : World) : Calls Try.prog 28 #[.int .i64 s] w fun e w' => e = .returned (.bool (overB s)) ∧ w' = w := by
  go_enter Try.func28, Try.ntmps28
  go_wp2
  all_goals
    go_ret
    refine ⟨ret_bool ?_, rfl⟩
    simp only [beq_iff_eq, beq_eq_false_iff_ne, ne_eq] at *
    rw [Bool.eq_iff_iff]
    simp [overB]
    omega
end Go.Proofs.Ytcaeakddcanamaa

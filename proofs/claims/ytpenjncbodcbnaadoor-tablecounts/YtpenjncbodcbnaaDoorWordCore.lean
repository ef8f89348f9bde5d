/- What the calls of package word answer: contracts (Pack, State, Version, Next, Over alone). -/
import Derived.Test.YtpenjncbodcbnaaDoorCan
import Derived.Test.YtpenjncbodcbnaaDoorNum
namespace Go.Proofs.YtpenjncbodcbnaaDoor
open Go.RowKit

theorem ret_int {k : IntKind} {a b : Int} (h : a = b) : Ending.returned (.int k a) = .returned (.int k b) := by rw [h]
theorem ret_bool {a b : Bool} (h : a = b) : Ending.returned (.bool a) = .returned (.bool b) := by rw [h]

theorem pack_any (s v : Int) (w : World) :
    Calls Tryd.prog 46 #[.int .i64 s, .int .u64 v] w fun e w' => e = .returned (.int .u64 (packI s v)) ∧ w' = w := by
  go_enter Tryd.func46, Tryd.ntmps46
  go_wp2
  go_ret
  exact ⟨ret_int (pack_or s v), rfl⟩
theorem state_num (v : Int) (h0 : 0 ≤ v) (h1 : v < 18446744073709551616) : wrap64 (bits .and .u64 v 7) = v % 8 := by
  rw [and7_u64 v h0 h1]
  exact IntWalk.wrap64_in _ ⟨by omega, by omega⟩
theorem state_any (v : Int) (w : World) (h0 : 0 ≤ v) (h1 : v < 18446744073709551616) :
    Calls Tryd.prog 33 #[.int .u64 v] w fun e w' => e = .returned (.int .i64 (v % 8)) ∧ w' = w := by
  go_enter Tryd.func33, Tryd.ntmps33
  go_wp2
  go_ret
  exact ⟨ret_int (state_num v h0 h1), rfl⟩
theorem version_any (v : Int) (w : World) :
    Calls Tryd.prog 47 #[.int .u64 v] w fun e w' => e = .returned (.int .u64 (v / 8)) ∧ w' = w := by
  go_enter Tryd.func47, Tryd.ntmps47
  go_wp2
  go_ret
  exact ⟨rfl, rfl⟩
theorem next_any (v s : Int) (w : World) (h0 : 0 ≤ v) (h1 : v < 18446744073709551616) :
    Calls Tryd.prog 42 #[.int .u64 v, .int .i64 s] w fun e w' => e = .returned (.int .u64 (packI s (v / 8 + 1))) ∧ w' = w := by
  go_enter Tryd.func42, Tryd.ntmps42
  go_wp2_with fail
  refine (version_any _ _).mono ?_
  rintro e w1 ⟨rfl, rfl⟩
  go_wp2_with fail
  refine (pack_any _ _ _).mono ?_
  rintro e w2 ⟨rfl, rfl⟩
  go_wp2_with fail
  go_ret
  exact ⟨rfl, rfl⟩
def overB (s : Int) : Bool := decide (4 ≤ s) && decide (s ≤ 6)
end Go.Proofs.YtpenjncbodcbnaaDoor

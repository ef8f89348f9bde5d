/- What the calls of package tick answer: contracts. -/
import Derived.Test.YtldannchhbaghaaTickNum
import Derived.Test.YtldannchhbaghaaChecked
import Derived.Laws.Externs
import Derived.Below
namespace Go.Proofs.Ytldannchhbaghaa
open Go.RowKit
set_option linter.unusedVariables false

theorem ret_int {k : IntKind} {a b : Int} (h : a = b) : Ending.returned (.int k a) = .returned (.int k b) := by rw [h]
theorem ret_bool {a b : Bool} (h : a = b) : Ending.returned (.bool a) = .returned (.bool b) := by rw [h]


theorem add64 (x y : Int) (hx : IsT x) (hy : IsT y) (w : World) : (callFunc 21 #[.int .u64 x, .int .u64 y, .int .u64 0]).run Try.prog w =
    .ok (.value (.tuple #[.int .u64 ((x + y) % 18446744073709551616), .int .u64 ((x + y) / 18446744073709551616)])) w := by
  obtain ⟨hx, _⟩ := hx
  obtain ⟨hy, _⟩ := hy
  rw [run_callFunc_extern Try.func21 (by kernel_rfl) (by kernel_rfl) (by kernel_rfl) (e := add64Entry) (by kernel_rfl), run_add64 x y 0 hx hy (by omega) (by omega)]
  simp only [Result.andThen, Int.add_zero]
theorem add_any (a b : Int) (w : World) (ha : IsT a) (hb : IsT b) :
    Calls Try.prog 17 #[.int .u64 a, .int .u64 b] w fun e w' => e = .returned (.int .u64 (addT a b)) ∧ w' = w := by
  have hc := add64 a b ha hb
  obtain ⟨a0, a1⟩ := ha
  obtain ⟨b0, b1⟩ := hb
  by_cases h : a + b < 18446744073709551616
  · have e1 : (a + b) / 18446744073709551616 = 0 := by omega
    have e2 : (a + b) % 18446744073709551616 = a + b := by omega
    have e3 : addT a b = a + b := by unfold addT; rw [if_pos h]
    rw [e1, e2] at hc
    rw [e3]
    clear a0 a1 b0 b1 h
    go_enter Try.func17, Try.ntmps17
    go_wp2_with (simp only [hc])
    go_ret
    exact ⟨rfl, rfl⟩
  · have e1 : (a + b) / 18446744073709551616 = 1 := by omega
    have e3 : addT a b = 18446744073709551615 := by unfold addT; rw [if_neg h]
    rw [e1] at hc
    rw [e3]
    clear a0 a1 b0 b1 h
    go_enter Try.func17, Try.ntmps17
    go_wp2_with (simp only [hc])
    go_ret
    exact ⟨rfl, rfl⟩
theorem aw1 : gridV 5 3 9 = 11 := by decide
theorem aw2 : gridOk 5 3 9 = true := by decide
theorem aw3 : addT 18446744073709551615 1 = 18446744073709551615 := by decide
theorem aw4 : subT 3 5 = 0 := by decide
theorem aw5 : ofT (-1) = 0 := by decide
theorem aw6 : intT 9223372036854775808 = 9223372036854775807 := by decide
end Go.Proofs.Ytldannchhbaghaa

/- What Store and Add of package cell answer, the counters whatever they are. -/
import Derived.Test.YtigaonoilbakfaaMemW
namespace Go.Proofs.Ytigaonoilbakfaa
open Go.RowKit
set_option linter.unusedVariables false

theorem mstore_in (w : World) (b r n : Nat) (ws : Nat → Int) (i : Nat) (v : Int) (h : WAt w b r n ws) (hi : i < n) (v0 : 0 ≤ v) (v1 : v < 18446744073709551616) :
    Calls Try.prog 17 #[.pointer (some ⟨b, 0, none⟩), .int .i64 i, .int .u64 v] w fun e w' => e = .returned (.tuple #[]) ∧ WAt w' b r n (putW ws i v) ∧ Kept b b r w w' := by
  have g1 : (i : Int) < (n : Int) := by omega
  go_enter Try.func17, Try.ntmps17
  go_wp2_with fail
  refine (mreach_in w b r n ws i 2 h hi).mono ?_
  rintro e w1 ⟨rfl, h1, hw⟩
  have c0 := h1.c0
  have cw := h1.word hi
  have fw := h1.free' i
  have h2 := h1.put i v v0 v1
  have H : Hid _ := And.intro h2 hw
  clear h2 hw h h1
  go_wp2_with fail
  go_end0
  exact ⟨rfl, H.out.1, H.out.2.set _ _ (.inr (.inr rfl))⟩
theorem madd_in (w : World) (b r n : Nat) (ws : Nat → Int) (i : Nat) (v X Y : Int) (h : WAt w b r n ws) (hi : i < n) (hX : ws i = X) (hY : (X + v) % 18446744073709551616 = Y) :
    Calls Try.prog 16 #[.pointer (some ⟨b, 0, none⟩), .int .i64 i, .int .u64 v] w fun e w' => e = .returned (.int .u64 Y) ∧ WAt w' b r n (putW ws i Y) ∧ Kept b b r w w' := by
  have g1 : (i : Int) < (n : Int) := by omega
  have hW : IntKind.u64.wrap (X + v) = Y := by rw [IntKind.wrap_u64]; exact hY
  have y0 : 0 ≤ Y := by omega
  have y1 : Y < 18446744073709551616 := by omega
  go_enter Try.func16, Try.ntmps16
  go_wp2_with fail
  refine (mreach_in w b r n ws i 4 h hi).mono ?_
  rintro e w1 ⟨rfl, h1, hw⟩
  have c0 := h1.c0
  have cw : w1.cell? ⟨r, i, none⟩ = some (.int .u64 X) := by rw [← hX]; exact h1.word hi
  have fw := h1.free' i
  have h2 := h1.put i Y y0 y1
  have d0 := h2.c0
  have dw : (w1.setCell ⟨r, i, none⟩ (.int .u64 Y)).cell? ⟨r, i, none⟩ = some (.int .u64 Y) := by simpa using h2.word hi
  have H : Hid _ := And.intro h2 hw
  clear hX hY h2 hw h h1
  go_wp2_with fail
  go_ret
  exact ⟨rfl, H.out.1, H.out.2.set _ _ (.inr (.inr rfl))⟩
end Go.Proofs.Ytigaonoilbakfaa

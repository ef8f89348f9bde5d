/- 'SlotPlays' where the number of threads may not be. -/
import Derived.Test.YtfecobeiibdpcaaSltR
namespace Go.Proofs.Ytfecobeiibdpcaa
open Go.RowKit Go.Lib Go.Sort
set_option linter.unusedVariables false

set_option maxHeartbeats 8000000 in
set_option maxRecDepth 100000 in
theorem slotPlays_out (n0 : Int) (a1 : Option Addr) (len1 cap1 : Nat) (w : World) (hn : n0 < 1 ∨ 8 < n0) :
    Calls Try.prog 5 #[.int .i64 n0, .slice a1 len1 cap1] w fun r w' => r = .returned (.bool true) ∧ Below w.heap.size w w' := by
  obtain ⟨S, hS⟩ : ∃ S, w.heap.size = S := ⟨_, rfl⟩
  have nw := slNew_out n0 w hn
  have aw := slAwake_any w
  rw [hS] at aw ⊢
  clear hS
  by_cases g8 : 8 < n0
  · have t1 : decide (8 < n0) = true := decide_eq_true g8
    go_enter Try.func5, Try.ntmps5
    go_wp2_with fail
    refine nw.mono ?_
    rintro r w1 ⟨rfl, rfl⟩
    go_wp2_with fail
    refine aw.mono ?_
    rintro r w2 ⟨rfl, b2⟩
    have B2 : Aside _ := b2
    clear nw aw b2
    go_wp2
    go_ret
    exact ⟨rfl, B2.out⟩
  · have t1 : decide (8 < n0) = false := decide_eq_false g8
    have t2 : n0 < 1 := by omega
    have t3 : decide (n0 < 1) = true := decide_eq_true t2
    go_enter Try.func5, Try.ntmps5
    go_wp2_with fail
    refine nw.mono ?_
    rintro r w1 ⟨rfl, rfl⟩
    go_wp2_with fail
    refine aw.mono ?_
    rintro r w2 ⟨rfl, b2⟩
    have B2 : Aside _ := b2
    clear nw aw b2
    go_wp2
    go_ret
    exact ⟨rfl, B2.out⟩
end Go.Proofs.Ytfecobeiibdpcaa

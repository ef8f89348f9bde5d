/- The walk of 'TickTurns'. -/
import Derived.Test.YtkkefonapjcglaaTick
namespace Go.Proofs.Ytkkefonapjcglaa
open Go.RowKit
set_option linter.unusedVariables false
/-- The second half: any tick. -/
theorem tickTurns_walk (n t : Int) (w : World) (wn : (Lit.int .i64 n).wf = true) (wt : (Lit.int .u64 t).wf = true) :
    Calls Try.prog 3 #[.int .i64 n, .int .u64 t] w fun e w' => e = .returned (.bool true) ∧ Below w.heap.size w w' := by
  obtain ⟨n1, n2⟩ := bounds_i64 wn
  have ht : IsT t := bounds_u64 wt
  clear wn wt
  have C1 := of_any n
  have C3 := int_any t
  obtain ⟨t0, t1⟩ := id ht
  by_cases hn : n < 0
  · have e1 : ofT n = 0 := by unfold ofT; rw [if_pos hn]
    rw [e1] at C1
    by_cases hT : t > 9223372036854775807
    · have e2 : intT t = 9223372036854775807 := by unfold intT; rw [if_pos hT]
      rw [e2] at C3
      go_enter Try.func3, Try.ntmps3
      go_wp2_with fail
      refine (C1 _ n1 n2).mono ?_
      rintro e w1 ⟨rfl, rfl⟩
      go_wp2_with fail
      refine (C3 _ ht).mono ?_
      rintro e w1 ⟨rfl, rfl⟩
      go_wp2_with fail
      refine (awake_any _).mono ?_
      rintro e w1 ⟨rfl, rfl⟩
      go_wp2_with fail
      go_ret
      exact ⟨rfl, Below.refl _ _⟩
    · have e2 : intT t = t := by unfold intT; rw [if_neg hT]
      rw [e2] at C3
      go_enter Try.func3, Try.ntmps3
      go_wp2_with fail
      refine (C1 _ n1 n2).mono ?_
      rintro e w1 ⟨rfl, rfl⟩
      go_wp2_with fail
      refine (C3 _ ht).mono ?_
      rintro e w1 ⟨rfl, rfl⟩
      go_wp2_with fail
      refine (awake_any _).mono ?_
      rintro e w1 ⟨rfl, rfl⟩
      go_wp2_with fail
      go_ret
      exact ⟨rfl, Below.refl _ _⟩
  · have e1 : ofT n = n := by unfold ofT; rw [if_neg hn]
    rw [e1] at C1
    have C2 := int_any n
    have e3 : intT n = n := by unfold intT; rw [if_neg (by omega)]
    rw [e3] at C2
    have hnT : IsT n := ⟨by omega, by omega⟩
    by_cases hT : t > 9223372036854775807
    · have e2 : intT t = 9223372036854775807 := by unfold intT; rw [if_pos hT]
      rw [e2] at C3
      go_enter Try.func3, Try.ntmps3
      go_wp2_with fail
      refine (C1 _ n1 n2).mono ?_
      rintro e w1 ⟨rfl, rfl⟩
      go_wp2_with fail
      refine (C2 _ hnT).mono ?_
      rintro e w1 ⟨rfl, rfl⟩
      go_wp2_with fail
      refine (C3 _ ht).mono ?_
      rintro e w1 ⟨rfl, rfl⟩
      go_wp2_with fail
      refine (awake_any _).mono ?_
      rintro e w1 ⟨rfl, rfl⟩
      go_wp2_with fail
      go_ret
      exact ⟨rfl, Below.refl _ _⟩
    · have e2 : intT t = t := by unfold intT; rw [if_neg hT]
      rw [e2] at C3
      go_enter Try.func3, Try.ntmps3
      go_wp2_with fail
      refine (C1 _ n1 n2).mono ?_
      rintro e w1 ⟨rfl, rfl⟩
      go_wp2_with fail
      refine (C2 _ hnT).mono ?_
      rintro e w1 ⟨rfl, rfl⟩
      go_wp2_with fail
      refine (C3 _ ht).mono ?_
      rintro e w1 ⟨rfl, rfl⟩
      go_wp2_with fail
      refine (awake_any _).mono ?_
      rintro e w1 ⟨rfl, rfl⟩
      go_wp2_with fail
      go_ret
      exact ⟨rfl, Below.refl _ _⟩
end Go.Proofs.Ytkkefonapjcglaa

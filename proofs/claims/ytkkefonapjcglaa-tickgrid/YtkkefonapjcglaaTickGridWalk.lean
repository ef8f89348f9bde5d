/- The walk of 'TickGrid'. -/
import Derived.Test.YtkkefonapjcglaaTickRef
namespace Go.Proofs.Ytkkefonapjcglaa
open Go.RowKit
set_option linter.unusedVariables false
theorem tickGrid_walk (f p n t : Int) (w : World) (wf : (Lit.int .u64 f).wf = true) (wp : (Lit.int .u64 p).wf = true) (wn : (Lit.int .u64 n).wf = true) (wt : (Lit.int .u64 t).wf = true) :
    Calls Try.prog 7 #[.int .u64 f, .int .u64 p, .int .u64 n, .int .u64 t] w fun e w' => e = .returned (.bool true) ∧ Below w.heap.size w w' := by
  have hf : IsT f := bounds_u64 wf
  have hp : IsT p := bounds_u64 wp
  have hn : IsT n := bounds_u64 wn
  have ht : IsT t := bounds_u64 wt
  clear wf wp wn wt
  go_enter Try.func7, Try.ntmps7
  go_wp2_with fail
  refine (grid_any _ _ _ _ hf hp hn).mono ?_
  rintro e w1 ⟨rfl, rfl⟩
  go_wp2_with fail
  refine (refGrid_any _ _ _ _ hf hp hn).mono ?_
  rintro e w1 ⟨rfl, rfl⟩
  go_wp2_with fail
  refine (missed_any _ _ _ _ _ hf hp hn ht).mono ?_
  rintro e w1 ⟨rfl, rfl⟩
  go_wp2_with fail
  refine (refMissed_any _ _ _ _ _ hf hp hn ht).mono ?_
  rintro e w1 ⟨rfl, rfl⟩
  go_wp2_with fail
  refine (awake_any _).mono ?_
  rintro e w1 ⟨rfl, rfl⟩
  go_wp2_with fail
  go_ret
  exact ⟨rfl, Below.refl _ _⟩
end Go.Proofs.Ytkkefonapjcglaa

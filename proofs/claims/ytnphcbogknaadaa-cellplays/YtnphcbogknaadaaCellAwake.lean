/- 'awake' of layer 3. -/
import Derived.Test.YtnphcbogknaadaaCell
namespace Go.Proofs.Ytnphcbogknaadaa
open Go.RowKit
set_option linter.unusedVariables false

theorem awake_any (w : World) : Calls Try.prog 12 #[] w fun e w' => e = .returned (.bool true) ∧ Below w.heap.size w w' := by
  go_enter Try.func12, Try.ntmps12
  go_wp2_with fail
  refine (new_in 1 w (by omega) (by omega)).mono ?_
  rintro e w1 ⟨rfl, h1, b1, z1⟩
  go_wp2_with fail
  refine (store_in w1 _ _ 1 _ 0 5 h1 (by omega) (by decide) (by omega) (by omega)).mono ?_
  rintro e w2 ⟨rfl, h2, d2⟩
  go_wp2_with fail
  refine (cas_won w2 _ _ 1 _ 0 5 6 h2 (by omega) (by decide) (by decide) rfl (by omega) (by omega)).mono ?_
  rintro e w3 ⟨rfl, h3, d3⟩
  go_wp2_with fail
  refine (cas_lost w3 _ _ 1 _ 0 5 7 h3 (by omega) (by decide) (by decide)).mono ?_
  rintro e w4 ⟨rfl, h4, d4⟩
  go_wp2_with fail
  refine (load_in w4 _ _ 1 _ 0 h4 (by omega) (by decide)).mono ?_
  rintro e w5 ⟨rfl, h5, d5⟩
  go_wp2_with fail
  refine (steps_any w5 _ _ 1 _ h5 (by decide)).mono ?_
  rintro e w6 ⟨rfl, rfl⟩
  go_wp2_with fail
  refine (wins_any w6 _ _ 1 _ h5 (by decide)).mono ?_
  rintro e w7 ⟨rfl, rfl⟩
  go_wp2_with fail
  go_ret
  exact ⟨rfl, (((d2.trans d3).trans d4).trans d5).below b1 (by omega) (by omega)⟩
end Go.Proofs.Ytnphcbogknaadaa

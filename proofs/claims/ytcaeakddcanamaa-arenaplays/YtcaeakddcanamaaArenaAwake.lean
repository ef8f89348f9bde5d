/- 'awake' of layer 4. -/
import Derived.Test.YtcaeakddcanamaaArenaOps
namespace Go.Proofs.Ytcaeakddcanamaa
open Go.RowKit
set_option linter.unusedVariables false

/-- The next word, while the version is small. -/
theorem packI_next (s v : Int) (v0 : 0 ≤ v) (v1 : v < 1152921504606846976) (s0 : 0 ≤ s) (s1 : s < 8) : packI s (v / 8 + 1) = v - v % 8 + 8 + s := by
  unfold packI; omega
/-- An arena that lies at S was turned: what lay below S stays. -/
theorem Arn.stay {S n : Nat} {ws : Nat → Int} {u v v' : World} (h : AAt v (S + 2) (S + 1) S n ws) (k : Kept (S + 2) (S + 1) S v v') (b : Below S u v) : Below S u v' :=
  k.below b (by have := h.mem.rlt; omega) (by omega) (by omega) (by omega)
theorem Arn.congr {ta t e : TypeId} {w : World} {a b r n : Nat} {ws us : Nat → Int} (h : Arn ta t e w a b r n ws) (hu : ∀ i, i < n → ws i = us i) : Arn ta t e w a b r n us := by
  obtain ⟨cs, h1, h2, h3, h4⟩ := h.head
  refine ⟨h.nb, h.nr, ⟨cs, h1, h2, h3, fun s hs => ?_⟩, ⟨h.mem.ne, h.mem.head, h.mem.row.congr fun i hi => by rw [hu i hi], fun i hi => by rw [← hu i hi]; exact h.mem.fits i hi, h.mem.size⟩, fun i hi => by rw [← hu i hi]; exact h.ok i hi, h.one, h.most⟩
  rw [h4 s hs, cnt_congr hu]

theorem awake_any (w : World) : Calls Try.prog 14 #[] w fun e w' => e = .returned (.bool true) ∧ Below w.heap.size w w' := by
  go_enter Try.func14, Try.ntmps14
  go_wp2_with fail
  refine (new_in 2 w (by omega) (by omega)).mono ?_
  rintro e w1 ⟨rfl, h1, b1, z1⟩
  clear z1
  go_wp2_with fail
  refine (alloc_ok w1 _ _ _ 2 _ h1 2 (by decide) 0 (by omega) rfl (fun j hj => absurd hj (by omega))).mono ?_
  rw [show packI 2 ((0 : Int) / 8 + 1) = 10 by decide]
  rintro e w2 ⟨rfl, h2, k2⟩
  go_wp2_with fail
  refine (word_in w2 _ _ _ 2 _ h2 0 (by omega)).mono ?_
  rw [putW_same]
  rintro e w3 ⟨rfl, h3, k3⟩
  go_wp2_with fail
  refine (turn_ok w3 _ _ _ 2 _ h3 0 (by omega) 10 3 (by decide) (by rw [putW_same])).mono ?_
  rw [show packI 3 ((10 : Int) / 8 + 1) = 19 by decide]
  rintro e w4 ⟨rfl, h4, k4⟩
  go_wp2_with fail
  refine (turn_late w4 _ _ _ 2 _ h4 0 (by omega) 10 3 (by omega) (by omega) (by decide) (by rw [putW_same]; decide)).mono ?_
  rintro e w5 ⟨rfl, h5, k5⟩
  go_wp2_with fail
  refine (state_in w5 _ _ _ 2 _ h5 0 (by omega)).mono ?_
  rw [putW_same]
  rintro e w6 ⟨rfl, h6, k6⟩
  go_wp2_with fail
  go_ret
  exact ⟨rfl, h1.stay ((((k2.trans k3).trans k4).trans k5).trans k6) b1⟩
end Go.Proofs.Ytcaeakddcanamaa

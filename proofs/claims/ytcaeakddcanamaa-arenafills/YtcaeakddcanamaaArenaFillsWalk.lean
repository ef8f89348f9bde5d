/- The walk of 'ArenaFills'. -/
import Derived.Test.YtcaeakddcanamaaArenaAwake
import Derived.Test.YtcaeakddcanamaaMask
namespace Go.Proofs.Ytcaeakddcanamaa
open Go.RowKit
set_option linter.unusedVariables false

/-- The first k ids are ready, the others free. -/
def filled (k : Nat) : Nat → Int := fun j => if j < k then 10 else 0
theorem filled_put (k : Nat) : ∀ i, putW (filled k) k 10 i = filled (k + 1) i := by
  intro i
  by_cases e : i = k
  · subst e; simp [filled]
  · rw [putW_other _ _ _ _ e]
    simp only [filled]
    split <;> split <;> omega
theorem filled_free (k : Nat) : filled k k = 0 := by simp [filled]
theorem filled_at {k j : Nat} (h : j < k) : filled k j = 10 := by simp [filled, h]

theorem arenaFills_walk (x y : Int) (w : World) (wx : (Lit.int .i64 x).wf = true) (wy : (Lit.int .i64 y).wf = true) :
    Calls Try.prog 3 #[.int .i64 x, .int .i64 y] w fun e w' => e = .returned (.bool true) ∧ Below w.heap.size w w' := by
  clear wx wy
  obtain ⟨X, hX, X0, X1⟩ : ∃ X, bits .and .i64 x 255 = X ∧ 0 ≤ X ∧ X < 256 := ⟨_, mask_i64 x 8 255 256 (by omega) rfl rfl, by omega, by omega⟩
  obtain ⟨Y, hY, Y0, Y1⟩ : ∃ Y, X % 60 = Y ∧ 0 ≤ Y ∧ Y < 60 := ⟨_, rfl, by omega, by omega⟩
  obtain ⟨n, hn, n0, n1⟩ : ∃ n : Nat, Y + 1 = n ∧ 1 ≤ n ∧ n ≤ 60 := ⟨(Y + 1).toNat, by omega, by omega, by omega⟩
  obtain ⟨Z, hZ, Z0⟩ : ∃ Z, bits .and .i64 y 255 = Z ∧ 0 ≤ Z := ⟨_, mask_i64 y 8 255 256 (by omega) rfl rfl, by omega⟩
  obtain ⟨T, hT, hTn⟩ : ∃ T : Nat, Z % (n : Int) = T ∧ T < n := by
    have := Int.emod_nonneg Z (show (n : Int) ≠ 0 by omega)
    have := Int.emod_lt_of_pos Z (show (0 : Int) < n by omega)
    exact ⟨(Z % (n : Int)).toNat, by omega, by omega⟩
  go_enter Try.func3, Try.ntmps3
  go_wp2_with fail
  refine (new_in n w (by omega) (by omega)).mono ?_
  rintro e w1 ⟨rfl, h1, b1, z1⟩
  clear z1
  go_wp2_with fail
  clear hX X0 X1 hY hn Y0 Y1
  go_loopw [7] (fun i wr => ∃ k : Nat, k ≤ n ∧ i = .int .i64 ((k : Int) + 1) ∧ AAt wr (w.heap.size + 2) (w.heap.size + 1) w.heap.size n (filled k) ∧ Below w.heap.size w wr)
    (fun i _ => 61 - (intOf i).toNat)
  case atStart => exact ⟨0, by omega, rfl, h1.congr (fun i hi => by simp [filled]), b1⟩
  case round =>
    obtain ⟨k, hk, rfl, hA, bw⟩ := hrel
    clear h1 b1
    by_cases hgo : k < n
    · have g1 : (k : Int) + 1 ≤ (n : Int) := by omega
      go_wp2_with fail
      refine (alloc_ok wr _ _ _ n _ hA 2 (by decide) k hgo (by rw [filled_free]; rfl) (fun j hj => by rw [filled_at hj]; decide)).mono ?_
      rw [filled_free, show packI 2 ((0 : Int) / 8 + 1) = 10 by decide]
      rintro e w2 ⟨rfl, h2, k2⟩
      go_wp2_with fail
      go_roundw
      case rel => exact ⟨k + 1, by omega, by go_num, h2.congr (fun i _ => filled_put k i), hA.stay k2 bw⟩
      case measure => simp [intOf]; omega
    · obtain rfl : k = n := by omega
      have g1 : ¬ (k : Int) + 1 ≤ (k : Int) := by omega
      clear hk hgo
      go_wp2_with fail
      refine (alloc_many wr _ _ _ k _ hA 1 (by decide) (by decide) (fun j hj => by rw [filled_at hj]; decide)).mono ?_
      rintro e w2 ⟨rfl, h2, k2⟩
      go_wp2_with fail
      refine (word_in w2 _ _ _ k _ h2 T hTn).mono ?_
      rw [filled_at hTn]
      rintro e w3 ⟨rfl, h3, k3⟩
      go_wp2_with fail
      refine (free_state w3 _ _ _ k _ h3 T hTn (by rw [filled_at hTn]; decide)).mono ?_
      rintro e w4 ⟨rfl, h4, k4⟩
      go_wp2_with fail
      refine (turn_ok w4 _ _ _ k _ h4 T hTn 10 6 (by decide) (filled_at hTn)).mono ?_
      rw [show packI 6 ((10 : Int) / 8 + 1) = 22 by decide]
      rintro e w5 ⟨rfl, h5, k5⟩
      go_wp2_with fail
      refine (free_ok w5 _ _ _ k _ h5 T hTn (by rw [putW_same]; decide)).mono ?_
      rw [putW_same, show packI 0 ((22 : Int) / 8 + 1) = 24 by decide]
      rintro e w6 ⟨rfl, h6, k6⟩
      go_wp2_with fail
      refine (free_state w6 _ _ _ k _ h6 T hTn (by rw [putW_same]; decide)).mono ?_
      rintro e w7 ⟨rfl, h7, k7⟩
      go_wp2_with fail
      refine (state_in w7 _ _ _ k _ h7 T hTn).mono ?_
      rw [putW_same]
      rintro e w8 ⟨rfl, h8, k8⟩
      go_wp2_with fail
      refine (alloc_ok w8 _ _ _ k _ h8 2 (by decide) T hTn (by rw [putW_same]; decide) (fun j hj => by rw [putW_other _ _ _ _ (by omega), putW_other _ _ _ _ (by omega), filled_at (by omega)]; decide)).mono ?_
      rw [putW_same, show packI 2 ((24 : Int) / 8 + 1) = 34 by decide]
      rintro e w9 ⟨rfl, h9, k9⟩
      go_wp2_with fail
      refine (word_in w9 _ _ _ k _ h9 T hTn).mono ?_
      rw [putW_same]
      rintro e w10 ⟨rfl, h10, k10⟩
      go_wp2_with fail
      refine (word_in w10 _ _ _ k _ h10 T hTn).mono ?_
      rw [putW_same]
      rintro e w11 ⟨rfl, h11, k11⟩
      go_wp2_with fail
      refine (state_in w11 _ _ _ k _ h11 T hTn).mono ?_
      rw [putW_same]
      rintro e w12 ⟨rfl, h12, k12⟩
      go_wp2_with fail
      refine (count_in w12 _ _ _ k _ h12 2 (by omega)).mono ?_
      rw [cnt_all (s := ((2 : Nat) : Int)) (fun i hi => by
        by_cases e : i = T
        · subst e; rw [putW_same]; decide
        · rw [putW_other _ _ _ _ e, putW_other _ _ _ _ e, putW_other _ _ _ _ e, filled_at hi]; decide)]
      rintro e w13 ⟨rfl, rfl⟩
      have bb : Hid (Below w.heap.size w w13) := hA.stay ((((((((((k2.trans k3).trans k4).trans k5).trans k6).trans k7).trans k8).trans k9).trans k10).trans k11).trans k12) bw
      clear h2 h3 h4 h5 h6 h7 h8 h9 h10 h11 h12 k2 k3 k4 k5 k6 k7 k8 k9 k10 k11 k12 hA bw
      go_wp2_with fail
      refine (awake_any _).mono ?_
      rintro e w14 ⟨rfl, b5⟩
      go_wp2_with fail
      go_ret
      exact ⟨rfl, bb.out.trans (b5.mono bb.out.size)⟩
end Go.Proofs.Ytcaeakddcanamaa

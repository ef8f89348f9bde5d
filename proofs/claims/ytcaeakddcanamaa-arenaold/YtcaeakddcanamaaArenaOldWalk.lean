/- The walk of 'ArenaOld'. -/
import Derived.Test.YtcaeakddcanamaaArenaAwake
import Derived.Test.YtcaeakddcanamaaMask
namespace Go.Proofs.Ytcaeakddcanamaa
open Go.RowKit
set_option linter.unusedVariables false

theorem arenaOld_walk (x : Int) (w : World) (wx : (Lit.int .i64 x).wf = true) :
    Calls Try.prog 4 #[.int .i64 x] w fun e w' => e = .returned (.bool true) ∧ Below w.heap.size w w' := by
  clear wx
  obtain ⟨X, hX, X0, X1⟩ : ∃ X, bits .and .i64 x 255 = X ∧ 0 ≤ X ∧ X < 256 := ⟨_, mask_i64 x 8 255 256 (by omega) rfl rfl, by omega, by omega⟩
  obtain ⟨Y, hY, Y0, Y1⟩ : ∃ Y, X % 30 = Y ∧ 0 ≤ Y ∧ Y < 30 := ⟨_, rfl, by omega, by omega⟩
  go_enter Try.func4, Try.ntmps4
  go_wp2_with fail
  refine (new_in 1 w (by omega) (by omega)).mono ?_
  rintro e w1 ⟨rfl, h1, b1, z1⟩
  clear z1
  go_wp2_with fail
  refine (alloc_ok w1 _ _ _ 1 _ h1 2 (by decide) 0 (by omega) rfl (fun j hj => absurd hj (by omega))).mono ?_
  rw [show packI 2 ((0 : Int) / 8 + 1) = 10 by decide]
  rintro e w2 ⟨rfl, h2, k2⟩
  go_wp2_with fail
  refine (word_in w2 _ _ _ 1 _ h2 0 (by omega)).mono ?_
  rw [putW_same]
  rintro e w3 ⟨rfl, h3, k3⟩
  have b3 : Hid (Below w.heap.size w w3) := h1.stay (k2.trans k3) b1
  have H3 : Hid _ := h3
  clear b1 h1 h2 h3 k2 k3
  go_wp2_with fail
  go_loopw [8] (fun i wr => ∃ (k : Nat) (ws : Nat → Int), (k : Int) ≤ Y + 1 ∧ i = .int .i64 k ∧ AAt wr (w.heap.size + 2) (w.heap.size + 1) w.heap.size 1 ws ∧ ws 0 = 32 * (k : Int) + 10 ∧ Below w.heap.size w wr)
    (fun i _ => 31 - (intOf i).toNat)
  case atStart => exact ⟨0, _, by omega, rfl, H3.out, by simp, b3.out⟩
  case round =>
    obtain ⟨k, ws, hk, rfl, hA, h0, bw⟩ := hrel
    clear H3 b3
    by_cases hgo : (k : Int) < Y + 1
    · obtain ⟨V, hV, V0, V1, V8⟩ : ∃ V, 32 * (k : Int) + 10 = V ∧ 10 ≤ V ∧ V < 2000 ∧ V % 8 = 2 := ⟨_, rfl, by omega, by omega, by omega⟩
      rw [hV] at h0
      have HV : Hid (32 * (k : Int) + 10 = V) := hV
      clear hV
      go_wp2_with fail
      refine (word_in wr _ _ _ 1 ws hA 0 (by omega)).mono ?_
      rw [h0]
      rintro e w4 ⟨rfl, h4, k4⟩
      go_wp2_with fail
      refine (turn_ok w4 _ _ _ 1 ws h4 0 (by omega) V 3 (by rw [V8]; decide) h0).mono ?_
      rw [packI_next 3 V (by omega) (by omega) (by omega) (by omega), show V - V % 8 + 8 + 3 = V + 9 by omega]
      rintro e w5 ⟨rfl, h5, k5⟩
      go_wp2_with fail
      refine (turn_ok w5 _ _ _ 1 _ h5 0 (by omega) (V + 9) 4 (by rw [show (V + 9) % 8 = 3 by omega]; decide) (putW_same _ _ _)).mono ?_
      rw [packI_next 4 (V + 9) (by omega) (by omega) (by omega) (by omega), show V + 9 - (V + 9) % 8 + 8 + 4 = V + 18 by omega]
      rintro e w6 ⟨rfl, h6, k6⟩
      go_wp2_with fail
      refine (free_ok w6 _ _ _ 1 _ h6 0 (by omega) (by rw [putW_same, show (V + 18) % 8 = 4 by omega]; decide)).mono ?_
      rw [putW_same, packI_next 0 (V + 18) (by omega) (by omega) (by omega) (by omega), show V + 18 - (V + 18) % 8 + 8 + 0 = V + 22 by omega]
      rintro e w7 ⟨rfl, h7, k7⟩
      go_wp2_with fail
      refine (alloc_ok w7 _ _ _ 1 _ h7 2 (by decide) 0 (by omega) (by rw [putW_same]; omega) (fun j hj => absurd hj (by omega))).mono ?_
      rw [putW_same, packI_next 2 (V + 22) (by omega) (by omega) (by omega) (by omega), show V + 22 - (V + 22) % 8 + 8 + 2 = V + 32 by omega]
      rintro e w8 ⟨rfl, h8, k8⟩
      go_wp2_with fail
      refine (turn_late w8 _ _ _ 1 _ h8 0 (by omega) 10 3 (by omega) (by omega) (by decide) (by rw [putW_same]; omega)).mono ?_
      rintro e w9 ⟨rfl, h9, k9⟩
      have bb : Hid (Below w.heap.size w w9) := hA.stay (((((k4.trans k5).trans k6).trans k7).trans k8).trans k9) bw
      have H9 : Hid _ := h9
      clear h4 h5 h6 h7 h8 h9 k4 k5 k6 k7 k8 k9 hA bw
      go_wp2_with fail
      go_roundw
      case rel => exact ⟨k + 1, _, by omega, by go_num, H9.out, by rw [putW_same]; have := HV.out; omega, bb.out⟩
      case measure => simp [intOf]; omega
    · go_wp2_with fail
      refine (state_in wr _ _ _ 1 ws hA 0 (by omega)).mono ?_
      rw [h0, show (32 * (k : Int) + 10) % 8 = 2 by omega]
      rintro e w4 ⟨rfl, h4, k4⟩
      go_wp2_with fail
      refine (awake_any _).mono ?_
      rintro e w5 ⟨rfl, b5⟩
      have bb : Hid (Below w.heap.size w w4) := hA.stay k4 bw
      go_wp2_with fail
      go_ret
      exact ⟨rfl, bb.out.trans (b5.mono bb.out.size)⟩
end Go.Proofs.Ytcaeakddcanamaa

/- The walk of 'CellSums'. -/
import Derived.Test.YtnphcbogknaadaaCellAwake
import Derived.Test.YtnphcbogknaadaaRowAt
namespace Go.Proofs.Ytnphcbogknaadaa
open Go.RowKit
set_option linter.unusedVariables false

theorem cellSums_walk (a : Option Addr) (len cap : Nat) (zs : List Int) (x : Int) (w : World) (h : IsRow .u64 w a len cap zs) (wx : (Lit.int .i64 x).wf = true) :
    Calls Try.prog 3 #[.slice a len cap, .int .i64 x] w fun e w' => e = .returned (.bool true) ∧ Below w.heap.size w w' := by
  have hl := h.len_le
  have hh : Hid (IsRow .u64 w a len cap zs) := h
  clear h wx
  obtain ⟨X, hX⟩ : ∃ X, bits .and .i64 x 63 = X := ⟨_, rfl⟩
  go_enter Try.func3, Try.ntmps3
  go_wp2_with fail
  refine (new_in 3 w (by omega) (by omega)).mono ?_
  rintro e w1 ⟨rfl, h1, b1, z1⟩
  go_wp2_with fail
  go_loopw [7, 8] (fun s i wr => ∃ (I : Nat) (S : Int) (m : Mem), I ≤ 60 ∧ s = .int .u64 S ∧ i = .int .i64 I ∧ CAt wr (w.heap.size + 1) w.heap.size 3 m ∧ m.ws 1 = S ∧ m.ws 0 = 0 ∧ m.ws 2 = 0 ∧ m.wn = 0 ∧ m.st ≤ 2 * I ∧ Below w.heap.size w wr)
    (fun _ i _ => 60 - (intOf i).toNat)
  case atStart => exact ⟨0, 0, Mem.zero, by omega, rfl, rfl, h1, rfl, rfl, rfl, rfl, by simp [Mem.zero], b1⟩
  case round =>
    obtain ⟨I, S, m, hI, rfl, rfl, hm, m1, m0, m2, mw, ms, bw⟩ := hrel
    by_cases hgo : I < len ∧ I < 60
    · obtain ⟨g1, g2⟩ := hgo
      have g1' : (I : Int) < (len : Int) := by omega
      have g2' : (I : Int) < 60 := by omega
      obtain ⟨b, off, rfl, hbl, hc, hwf⟩ := hh.out.at g1
      have hcr := (bw.cell (p := ⟨b, off + I, none⟩) hbl).trans hc
      obtain ⟨z0, z1'⟩ := bounds_u64 hwf
      clear hc hwf b1 h1
      generalize zs.getD I 0 = Z at *
      obtain ⟨T, hT, hTw⟩ : ∃ T, (S + Z) % 18446744073709551616 = T ∧ IntKind.u64.wrap (S + Z) = T := ⟨_, rfl, by rw [IntKind.wrap_u64]⟩
      obtain ⟨U, hU, hUw⟩ : ∃ U, (T + 1) % 18446744073709551616 = U ∧ IntKind.u64.wrap (T + 1) = U := ⟨_, rfl, by rw [IntKind.wrap_u64]⟩
      have HU : Hid (T ≠ U) := show T ≠ U by omega
      have HT : Hid ((S + Z) % 18446744073709551616 = T) := hT
      clear hT hU
      go_wp2_with fail
      refine (add_in wr _ _ 3 m 1 Z hm (by omega) (by omega)).mono ?_
      rintro e w2 ⟨rfl, hm2, d2⟩
      rw [m1, HT.out] at hm2 ⊢
      by_cases hx : (I : Int) = X
      · go_wp2_with fail
        refine (cas_lost w2 _ _ 3 _ 1 U 0 hm2 (by omega) (by simp; omega) (by simpa using HU.out)).mono ?_
        rintro e w3 ⟨rfl, hm3, d3⟩
        go_wp2_with fail
        go_roundw
        case rel => exact ⟨I + 1, T, _, by omega, rfl, by go_num, hm3, by simp, by simpa [Mem.put] using m0, by simpa [Mem.put] using m2, mw, by simp; omega, (d2.trans d3).below bw (by omega) (by omega)⟩
        case measure => simp [intOf]; omega
      · have hx' : ((I : Int) == X) = false := by simpa using hx
        go_wp2_with fail
        go_roundw
        case rel => exact ⟨I + 1, T, _, by omega, rfl, by go_num, hm2, by simp, by simpa [Mem.put] using m0, by simpa [Mem.put] using m2, mw, by simp; omega, d2.below bw (by omega) (by omega)⟩
        case measure => simp [intOf]; omega
    · have hs := bw.size
      have tests : ((I : Int) < (len : Int) ∧ ¬ (I : Int) < 60) ∨ ¬ (I : Int) < (len : Int) := by omega
      rcases tests with ⟨g1, g2⟩ | g1
      all_goals
        go_wp2_with fail
        refine (load_in wr _ _ 3 m 1 hm (by omega) (by omega)).mono ?_
        rintro e w2 ⟨rfl, hm2, d2⟩
        rw [m1]
        go_wp2_with fail
        refine (load_in w2 _ _ 3 _ 0 hm2 (by omega) (by simp; omega)).mono ?_
        rintro e w3 ⟨rfl, hm3, d3⟩
        simp only [Mem.hit_ws, m0]
        go_wp2_with fail
        refine (load_in w3 _ _ 3 _ 2 hm3 (by omega) (by simp; omega)).mono ?_
        rintro e w4 ⟨rfl, hm4, d4⟩
        simp only [Mem.hit_ws, m2]
        go_wp2_with fail
        refine (wins_any w4 _ _ 3 _ hm4 (by simp; omega)).mono ?_
        rintro e w5 ⟨rfl, rfl⟩
        simp only [Mem.hit_wn, mw]
        go_wp2_with fail
        have b4 := ((d2.trans d3).trans d4).below bw (Nat.le_succ _) (Nat.le_refl _)
        refine (awake_any _).mono ?_
        rintro e w6 ⟨rfl, b6⟩
        go_wp2_with fail
        go_ret
        exact ⟨rfl, b4.trans (b6.mono b4.size)⟩
end Go.Proofs.Ytnphcbogknaadaa

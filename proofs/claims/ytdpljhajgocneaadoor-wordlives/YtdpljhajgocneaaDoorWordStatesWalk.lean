/- The walk of 'WordStates'. -/
import Derived.Test.YtdpljhajgocneaaDoorWords
namespace Go.Proofs.YtdpljhajgocneaaDoor
open Go.RowKit
set_option linter.unusedVariables false
def overB (s : Int) : Bool := decide (4 ≤ s) && decide (s ≤ 6)
theorem over_any (s : Int) (w : World) : Calls Tryd.prog 12 #[.int .i64 s] w fun e w' => e = .returned (.bool (overB s)) ∧ w' = w := by
  go_enter Tryd.func12, Tryd.ntmps12
  go_wp2
  all_goals
    go_ret
    refine ⟨ret_bool ?_, rfl⟩
    simp only [beq_iff_eq, beq_eq_false_iff_ne, ne_eq] at *
    rw [Bool.eq_iff_iff]
    simp [overB]
    omega
theorem rover_any (s : Int) (w : World) : Calls Tryd.prog 24 #[.int .i64 s] w fun e w' => e = .returned (.bool (overB s)) ∧ w' = w := by
  go_enter Tryd.func24, Tryd.ntmps24
  go_wp2
  all_goals
    go_ret
    exact ⟨ret_bool (by rw [Bool.eq_iff_iff]; simp [overB]; omega), rfl⟩
theorem rcan_any (a b : Int) (w : World) : Calls Tryd.prog 23 #[.int .i64 a, .int .i64 b] w fun e w' => e = .returned (.bool (canB a b)) ∧ w' = w := by
  go_enter Tryd.func23, Tryd.ntmps23
  go_wp2
  all_goals
    go_ret
    refine ⟨ret_bool ?_, rfl⟩
    simp only [beq_iff_eq, beq_eq_false_iff_ne, ne_eq] at *
    rw [Bool.eq_iff_iff]
    simp [canB]
    omega
theorem name_any (s : Int) (w : World) (hN : Named w) : Calls Tryd.prog 25 #[.int .i64 s] w fun e w' => e = .returned (.string (nameB s)) ∧ w' = w := by
  by_cases h : s < 0 ∨ 7 ≤ s
  · exact name_out s h w
  · obtain ⟨k, rfl⟩ := Int.eq_ofNat_of_zero_le (show 0 ≤ s by omega)
    exact name_in k (by omega) w hN
theorem rname_any (s : Int) (w : World) : Calls Tryd.prog 26 #[.int .i64 s] w fun e w' => e = .returned (.string (nameB s)) ∧ Below w.heap.size w w' := by
  by_cases h : s < 0 ∨ 7 ≤ s
  · have hn : nameB s = ⟨#[]⟩ := by unfold nameB; repeat (rw [if_neg (by omega)])
    rw [hn]
    rcases h with h | h
    · go_enter Tryd.func26, Tryd.ntmps26
      go_wp2
      go_ret
      exact ⟨rfl, (Below.refl _ _).alloc (Nat.le_refl _) _⟩
    · have h' : 0 ≤ s := by omega
      go_enter Tryd.func26, Tryd.ntmps26
      go_wp2
      go_ret
      exact ⟨rfl, (Below.refl _ _).alloc (Nat.le_refl _) _⟩
  · have h7 : s = 0 ∨ s = 1 ∨ s = 2 ∨ s = 3 ∨ s = 4 ∨ s = 5 ∨ s = 6 := by omega
    rcases h7 with rfl | rfl | rfl | rfl | rfl | rfl | rfl
    all_goals
      clear h
      go_enter Tryd.func26, Tryd.ntmps26
      go_wp2
      go_ret
      exact ⟨by unfold nameB; rfl, (Below.refl _ _).alloc (Nat.le_refl _) _⟩
theorem over_not_can {a : Int} (h : overB a = true) (b : Int) : canB a b = false := by
  rw [Bool.eq_false_iff]
  intro hc
  simp [overB, canB] at h hc
  omega
theorem can_not_free {a b : Int} (h : canB a b = true) : (b != 0) = true := by
  simp [canB] at h ⊢
  omega
set_option maxHeartbeats 400000 in
theorem wordStates_walk (a b : Int) (w : World) (wa : (Lit.int .i64 a).wf = true) (wb : (Lit.int .i64 b).wf = true) (hN : Named w ∧ 0 < w.heap.size) :
    Calls Tryd.prog 7 #[.int .i64 a, .int .i64 b] w fun e w' => e = .returned (.bool true) ∧ Below w.heap.size w w' := by
  obtain ⟨hN, h0⟩ := hN
  go_enter Tryd.func7, Tryd.ntmps7
  go_wp2_with fail
  refine (can_any a b _ wa wb).mono ?_
  rintro e w1 ⟨rfl, b1⟩
  have N1 := hN.below b1 h0
  go_wp2_with fail
  refine (rcan_any _ _ _).mono ?_
  rintro e w2 ⟨rfl, rfl⟩
  go_wp2_with fail
  refine (over_any _ _).mono ?_
  rintro e w2 ⟨rfl, rfl⟩
  go_wp2_with fail
  refine (rover_any _ _).mono ?_
  rintro e w2 ⟨rfl, rfl⟩
  go_wp2_with fail
  refine (name_any _ _ N1).mono ?_
  rintro e w2 ⟨rfl, rfl⟩
  go_wp2_with fail
  refine (rname_any _ _).mono ?_
  rintro e w3 ⟨rfl, b3⟩
  have z1 := b1.size
  have z3 := b3.size
  have N3 := N1.below b3 (by omega)
  have c3 := b1.trans (b3.mono z1)
  clear N1 b1 b3
  go_wp2_with fail
  refine (over_any _ _).mono ?_
  rintro e w2 ⟨rfl, rfl⟩
  cases ho : overB a
  · go_wp2_with fail
    refine (can_any a b _ wa wb).mono ?_
    rintro e w4 ⟨rfl, b4⟩
    have N4 := N3.below b4 (by omega)
    have z4 := b4.size
    have c4 := c3.trans (b4.mono c3.size)
    cases hc : canB a b
    · go_wp2_with fail
      refine (awake_any _ N4).mono ?_
      rintro e w5 ⟨rfl, b5⟩
      go_wp2_with fail
      go_ret
      exact ⟨rfl, c4.trans (b5.mono c4.size)⟩
    · have hf := can_not_free hc
      go_wp2_with fail
      refine (awake_any _ N4).mono ?_
      rintro e w5 ⟨rfl, b5⟩
      go_wp2_with fail
      go_ret
      exact ⟨rfl, c4.trans (b5.mono c4.size)⟩
  · have hc := over_not_can ho b
    go_wp2_with fail
    refine (can_any a b _ wa wb).mono ?_
    rintro e w4 ⟨rfl, b4⟩
    have N4 := N3.below b4 (by omega)
    have z4 := b4.size
    have c4 := c3.trans (b4.mono c3.size)
    rw [hc]
    go_wp2_with fail
    refine (can_any a b _ wa wb).mono ?_
    rintro e w5 ⟨rfl, b5⟩
    have N5 := N4.below b5 (by omega)
    have z5 := b5.size
    have c5 := c4.trans (b5.mono c4.size)
    rw [hc]
    go_wp2_with fail
    refine (awake_any _ N5).mono ?_
    rintro e w6 ⟨rfl, b6⟩
    go_wp2_with fail
    go_ret
    exact ⟨rfl, c5.trans (b6.mono c5.size)⟩
end Go.Proofs.YtdpljhajgocneaaDoor

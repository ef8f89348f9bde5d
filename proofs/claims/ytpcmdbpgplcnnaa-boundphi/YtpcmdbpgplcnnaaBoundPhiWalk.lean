/- The walk of 'BoundPhi'. -/
import Derived.Test.YtpcmdbpgplcnnaaBnW
import Derived.Test.YtpcmdbpgplcnnaaMask
import Derived.WalkSmall
namespace Go.Proofs.Ytpcmdbpgplcnnaa
open Go.RowKit Go.Lib
set_option linter.unusedVariables false

theorem inB_of {n : Int} (h0 : 0 ≤ n) (h1 : n ≤ 1000) : inB n = n := by unfold inB; omega
theorem phi_ge {a b c a' b' c' : Int} (ha : 0 ≤ a) (hb : 0 ≤ b) (hc : 0 ≤ c) (h1 : a ≤ a') (h2 : b ≤ b') (h3 : c ≤ c') : a * (b * (c + 5) + 5) ≤ a' * (b' * (c' + 5) + 5) := by
  have q1 : b * (c + 5) ≤ b' * (c' + 5) := Int.mul_le_mul h2 (by omega) (by omega) (by omega)
  have q0 : 0 ≤ b * (c + 5) := Int.mul_nonneg hb (by omega)
  exact Int.mul_le_mul h1 (by omega) (by omega) (by omega)
theorem boundPhi_walk (t n o m : Int) (w : World) (wt : (Lit.int .i64 t).wf = true) (wn : (Lit.int .i64 n).wf = true) (wo : (Lit.int .i64 o).wf = true) (wm : (Lit.int .i64 m).wf = true) :
    Calls Try.prog 5 #[.int .i64 t, .int .i64 n, .int .i64 o, .int .i64 m] w fun e w' => e = .returned (.bool true) ∧ Below w.heap.size w w' := by
  clear wt wn wo wm
  obtain ⟨T0, hT, T1, T2⟩ : ∃ Q, bits .and .i64 t 511 = Q ∧ 0 ≤ Q ∧ Q < 512 := ⟨_, mask_i64 t 9 511 512 (by omega) rfl rfl, by omega, by omega⟩
  obtain ⟨N, hN, N1, N2⟩ : ∃ Q, bits .and .i64 n 511 = Q ∧ 0 ≤ Q ∧ Q < 512 := ⟨_, mask_i64 n 9 511 512 (by omega) rfl rfl, by omega, by omega⟩
  obtain ⟨O, hO, O1, O2⟩ : ∃ Q, bits .and .i64 o 511 = Q ∧ 0 ≤ Q ∧ Q < 512 := ⟨_, mask_i64 o 9 511 512 (by omega) rfl rfl, by omega, by omega⟩
  obtain ⟨M, hM, M1, M2⟩ : ∃ Q, bits .and .i64 m 255 = Q ∧ 0 ≤ Q ∧ Q < 256 := ⟨_, mask_i64 m 8 255 256 (by omega) rfl rfl, by omega, by omega⟩
  obtain ⟨T, hT3⟩ : ∃ T, T0 + 1 = T := ⟨_, rfl⟩
  have wT : IntKind.i64.wrap (T0 + 1) = T := by rw [IntKind.wrap_i64]; omega
  have t1 : 1 ≤ T := by omega
  have t2 : T ≤ 512 := by omega
  obtain ⟨TM, hTM⟩ : ∃ q, T + M = q := ⟨_, rfl⟩
  obtain ⟨NM, hNM⟩ : ∃ q, N + M = q := ⟨_, rfl⟩
  obtain ⟨OM, hOM⟩ : ∃ q, O + M = q := ⟨_, rfl⟩
  have wTM : IntKind.i64.wrap (T + M) = TM := by rw [IntKind.wrap_i64]; omega
  have wNM : IntKind.i64.wrap (N + M) = NM := by rw [IntKind.wrap_i64]; omega
  have wOM : IntKind.i64.wrap (O + M) = OM := by rw [IntKind.wrap_i64]; omega
  obtain ⟨A, hA⟩ : ∃ A, T * (N * (O + 5) + 5) = A := ⟨_, rfl⟩
  obtain ⟨B, hB⟩ : ∃ A, TM * (N * (O + 5) + 5) = A := ⟨_, rfl⟩
  obtain ⟨C, hC⟩ : ∃ A, T * (NM * (O + 5) + 5) = A := ⟨_, rfl⟩
  obtain ⟨D, hD⟩ : ∃ A, T * (N * (OM + 5) + 5) = A := ⟨_, rfl⟩
  have gB : B ≥ A := by rw [← hA, ← hB]; exact phi_ge (by omega) N1 O1 (by omega) (Int.le_refl _) (Int.le_refl _)
  have gC : C ≥ A := by rw [← hA, ← hC]; exact phi_ge (by omega) N1 O1 (Int.le_refl _) (by omega) (Int.le_refl _)
  have gD : D ≥ A := by rw [← hA, ← hD]; exact phi_ge (by omega) N1 O1 (Int.le_refl _) (Int.le_refl _) (by omega)
  have P1 : ∀ V, Calls Try.prog 14 #[.int .i64 T, .int .i64 N, .int .i64 O] V fun e w' => e = .returned (.int .i64 A) ∧ w' = V := phi_is (by rw [inB_of (by omega) (by omega), inB_of (by omega) (by omega), inB_of (by omega) (by omega)]; exact hA)
  have P2 : ∀ V, Calls Try.prog 14 #[.int .i64 TM, .int .i64 N, .int .i64 O] V fun e w' => e = .returned (.int .i64 B) ∧ w' = V := phi_is (by rw [inB_of (by omega) (by omega), inB_of (by omega) (by omega), inB_of (by omega) (by omega)]; exact hB)
  have P3 : ∀ V, Calls Try.prog 14 #[.int .i64 T, .int .i64 NM, .int .i64 O] V fun e w' => e = .returned (.int .i64 C) ∧ w' = V := phi_is (by rw [inB_of (by omega) (by omega), inB_of (by omega) (by omega), inB_of (by omega) (by omega)]; exact hC)
  have P4 : ∀ V, Calls Try.prog 14 #[.int .i64 T, .int .i64 N, .int .i64 OM] V fun e w' => e = .returned (.int .i64 D) ∧ w' = V := phi_is (by rw [inB_of (by omega) (by omega), inB_of (by omega) (by omega), inB_of (by omega) (by omega)]; exact hD)
  have P5 : ∀ V, Calls Try.prog 14 #[.int .i64 (-1), .int .i64 N, .int .i64 O] V fun e w' => e = .returned (.int .i64 0) ∧ w' = V := phi_is (by rw [show inB (-1) = 0 by decide, Int.zero_mul])
  have P6 : ∀ V, Calls Try.prog 14 #[.int .i64 5000, .int .i64 1, .int .i64 0] V fun e w' => e = .returned (.int .i64 10000) ∧ w' = V := phi_is (by decide)
  have P7 : ∀ V, Calls Try.prog 14 #[.int .i64 1000, .int .i64 1, .int .i64 0] V fun e w' => e = .returned (.int .i64 10000) ∧ w' = V := phi_is (by decide)
  have a0 : 0 ≤ T * N := Int.mul_nonneg (by omega) N1
  have a1 : T * N ≤ 512 * 512 := Int.mul_le_mul t2 (by omega) N1 (by omega)
  have a2 : 0 ≤ T * N * (O + 5) := Int.mul_nonneg a0 (by omega)
  have a3 : T * N * (O + 5) ≤ 512 * 512 * 517 := Int.mul_le_mul a1 (by omega) (by omega) (by omega)
  have e0 : T * N * (O + 5) + 5 * T = A := by rw [← hA, Int.mul_add T, ← Int.mul_assoc T N, Int.mul_comm T 5]
  have w1 : IntKind.i64.wrap (T * N) = T * N := by rw [IntKind.wrap_i64]; omega
  have w2 : IntKind.i64.wrap (O + 5) = O + 5 := by rw [IntKind.wrap_i64]; omega
  have w3 : IntKind.i64.wrap (T * N * (O + 5)) = T * N * (O + 5) := by rw [IntKind.wrap_i64]; omega
  have w4 : IntKind.i64.wrap (5 * T) = 5 * T := by rw [IntKind.wrap_i64]; omega
  have w5 : IntKind.i64.wrap (T * N * (O + 5) + 5 * T) = A := by rw [← e0, IntKind.wrap_i64]; omega
  have PP : Aside _ := And.intro P1 (And.intro P2 (And.intro P3 (And.intro P4 (And.intro P5 (And.intro P6 P7)))))
  have AW := awake_any
  clear P1 P2 P3 P4 P5 P6 P7 hA hB hC hD a0 a1 a2 a3 e0 hTM hNM hOM hT3 T1 T2 N1 N2 O1 O2 M1 M2 t1 t2
  go_enter Try.func5, Try.ntmps5
  go_wp2_with fail
  refine (PP.out.1 _).mono ?_
  rintro e w0 ⟨rfl, rfl⟩
  go_wp2_with fail
  refine (PP.out.2.1 _).mono ?_
  rintro e w1 ⟨rfl, rfl⟩
  go_wp2_with fail
  refine (PP.out.2.2.1 _).mono ?_
  rintro e w1 ⟨rfl, rfl⟩
  go_wp2_with fail
  refine (PP.out.2.2.2.1 _).mono ?_
  rintro e w1 ⟨rfl, rfl⟩
  go_wp2_with fail
  refine (PP.out.2.2.2.2.1 _).mono ?_
  rintro e w1 ⟨rfl, rfl⟩
  go_wp2_with fail
  refine (PP.out.2.2.2.2.2.1 _).mono ?_
  rintro e w1 ⟨rfl, rfl⟩
  go_wp2_with fail
  refine (PP.out.2.2.2.2.2.2 _).mono ?_
  rintro e w1 ⟨rfl, rfl⟩
  go_wp2_with fail
  refine (AW _).mono ?_
  rintro e w2 ⟨rfl, b⟩
  go_wp2_with fail
  go_ret
  exact ⟨rfl, b⟩
end Go.Proofs.Ytpcmdbpgplcnnaa

/- The walk of 'AgeRises'. -/
import Derived.Test.YtldannchhbaghaaAgeC
import Derived.Test.YtldannchhbaghaaMask
namespace Go.Proofs.Ytldannchhbaghaa
open Go.RowKit
set_option linter.unusedVariables false

theorem slN_two {p : Nat} (h : p < 7) : slN ((p : Int) + 1) = 2 * slN p + 1 := by
  have : p = 0 ∨ p = 1 ∨ p = 2 ∨ p = 3 ∨ p = 4 ∨ p = 5 ∨ p = 6 := by omega
  rcases this with rfl | rfl | rfl | rfl | rfl | rfl | rfl <;> decide
theorem addT_le {a b c : Int} (h : a ≤ b) : addT a c ≤ addT b c := by
  unfold addT
  split <;> split <;> omega
theorem addT_ge {a c : Int} (ha : IsT a) (hc : 0 ≤ c) : a ≤ addT a c := by
  unfold IsT addT at *
  split <;> omega
/-- What is left once the lesser one stands first. -/
theorem rises_keys (a b : Int) (p : Nat) (w : World) (ha : IsT a) (hb : IsT b) (h : a ≤ b) : ∃ x y : Int,
    (Calls Try.prog 6 #[.int .u64 a, .int .i64 p] w fun e w' => e = .returned (.int .u64 x) ∧ w' = w) ∧
    (Calls Try.prog 6 #[.int .u64 b, .int .i64 p] w fun e w' => e = .returned (.int .u64 y) ∧ w' = w) ∧ x ≤ y ∧ a ≤ x :=
  ⟨_, _, key_any a p ha w, key_any b p hb w, addT_le h, addT_ge ha (slN_le p).1⟩
theorem rises_slack (p : Nat) (w : World) (h : p < 7) : ∃ x : Int,
    (Calls Try.prog 7 #[.int .i64 ((p : Int) + 1)] w fun e w' => e = .returned (.int .u64 (2 * x + 1)) ∧ w' = w) ∧
    (Calls Try.prog 7 #[.int .i64 p] w fun e w' => e = .returned (.int .u64 x) ∧ w' = w) ∧ 0 ≤ x ∧ x ≤ 127 := by
  have c := slack_any ((p : Int) + 1) w
  rw [slN_two h] at c
  exact ⟨_, c, slack_any p w, (slN_le p).1, (slN_le p).2⟩
set_option maxHeartbeats 2000000 in
theorem ageRises_walk (a b n : Int) (w : World) (wa : (Lit.int .u64 a).wf = true) (wb : (Lit.int .u64 b).wf = true) (wn : (Lit.int .i64 n).wf = true) :
    Calls Try.prog 5 #[.int .u64 a, .int .u64 b, .int .i64 n] w fun e w' => e = .returned (.bool true) ∧ Below w.heap.size w w' := by
  have ha : IsT a := bounds_u64 wa
  have hb : IsT b := bounds_u64 wb
  obtain ⟨p, hp, p8⟩ : ∃ N : Nat, bits .and .i64 n 7 = (N : Int) ∧ N < 8 := by
    have := mask_i64 n 3 7 8 (by omega) rfl rfl
    exact ⟨(n % 8).toNat, by rw [this]; omega, by omega⟩
  have s5 : Calls Try.prog 7 #[.int .i64 (-5)] w fun e w' => e = .returned (.int .u64 0) ∧ w' = w := slack_any (-5) w
  have s99 : Calls Try.prog 7 #[.int .i64 99] w fun e w' => e = .returned (.int .u64 127) ∧ w' = w := slack_any 99 w
  have s7 : Calls Try.prog 7 #[.int .i64 7] w fun e w' => e = .returned (.int .u64 127) ∧ w' = w := slack_any 7 w
  have aw := awake_any w
  clear wa wb wn
  by_cases h : a > b
  · obtain ⟨u, v, k1, k2, uv, au⟩ := rises_keys b a p w hb ha (by omega)
    clear ha hb
    by_cases p7 : p < 7
    · obtain ⟨z, c1, c2, z0, z1⟩ := rises_slack p w p7
      have d1 : decide ((p : Int) < 7) = true := decide_eq_true (by omega)
      have e1 : IntKind.i64.wrap ((p : Int) + 1) = (p : Int) + 1 := by rw [IntKind.wrap_i64]; omega
      have e2 : IntKind.u64.wrap (2 * z) = 2 * z := by rw [IntKind.wrap_u64]; omega
      have e3 : IntKind.u64.wrap (2 * z + 1) = 2 * z + 1 := by rw [IntKind.wrap_u64]; omega
      clear z0 z1 p7 p8
      go_enter Try.func5, Try.ntmps5
      go_wp2_with fail
      refine c1.mono ?_
      rintro e w1 ⟨rfl, rfl⟩
      go_wp2_with fail
      refine c2.mono ?_
      rintro e w1 ⟨rfl, rfl⟩
      go_wp2_with fail
      refine k1.mono ?_
      rintro e w1 ⟨rfl, rfl⟩
      go_wp2_with fail
      refine k2.mono ?_
      rintro e w1 ⟨rfl, rfl⟩
      go_wp2_with fail
      refine k1.mono ?_
      rintro e w1 ⟨rfl, rfl⟩
      go_wp2_with fail
      refine s5.mono ?_
      rintro e w1 ⟨rfl, rfl⟩
      go_wp2_with fail
      refine s99.mono ?_
      rintro e w1 ⟨rfl, rfl⟩
      go_wp2_with fail
      refine s7.mono ?_
      rintro e w1 ⟨rfl, rfl⟩
      go_wp2_with fail
      refine aw.mono ?_
      rintro e w1 ⟨rfl, b9⟩
      go_wp2
      go_ret
      exact ⟨rfl, b9⟩
    · have d1 : decide ((p : Int) < 7) = false := decide_eq_false (by omega)
      clear p7 p8
      go_enter Try.func5, Try.ntmps5
      go_wp2_with fail
      refine k1.mono ?_
      rintro e w1 ⟨rfl, rfl⟩
      go_wp2_with fail
      refine k2.mono ?_
      rintro e w1 ⟨rfl, rfl⟩
      go_wp2_with fail
      refine k1.mono ?_
      rintro e w1 ⟨rfl, rfl⟩
      go_wp2_with fail
      refine s5.mono ?_
      rintro e w1 ⟨rfl, rfl⟩
      go_wp2_with fail
      refine s99.mono ?_
      rintro e w1 ⟨rfl, rfl⟩
      go_wp2_with fail
      refine s7.mono ?_
      rintro e w1 ⟨rfl, rfl⟩
      go_wp2_with fail
      refine aw.mono ?_
      rintro e w1 ⟨rfl, b9⟩
      go_wp2
      go_ret
      exact ⟨rfl, b9⟩
  · have h' : a ≤ b := by omega
    obtain ⟨u, v, k1, k2, uv, au⟩ := rises_keys a b p w ha hb (by omega)
    clear ha hb
    by_cases p7 : p < 7
    · obtain ⟨z, c1, c2, z0, z1⟩ := rises_slack p w p7
      have d1 : decide ((p : Int) < 7) = true := decide_eq_true (by omega)
      have e1 : IntKind.i64.wrap ((p : Int) + 1) = (p : Int) + 1 := by rw [IntKind.wrap_i64]; omega
      have e2 : IntKind.u64.wrap (2 * z) = 2 * z := by rw [IntKind.wrap_u64]; omega
      have e3 : IntKind.u64.wrap (2 * z + 1) = 2 * z + 1 := by rw [IntKind.wrap_u64]; omega
      clear z0 z1 p7 p8
      go_enter Try.func5, Try.ntmps5
      go_wp2_with fail
      refine c1.mono ?_
      rintro e w1 ⟨rfl, rfl⟩
      go_wp2_with fail
      refine c2.mono ?_
      rintro e w1 ⟨rfl, rfl⟩
      go_wp2_with fail
      refine k1.mono ?_
      rintro e w1 ⟨rfl, rfl⟩
      go_wp2_with fail
      refine k2.mono ?_
      rintro e w1 ⟨rfl, rfl⟩
      go_wp2_with fail
      refine k1.mono ?_
      rintro e w1 ⟨rfl, rfl⟩
      go_wp2_with fail
      refine s5.mono ?_
      rintro e w1 ⟨rfl, rfl⟩
      go_wp2_with fail
      refine s99.mono ?_
      rintro e w1 ⟨rfl, rfl⟩
      go_wp2_with fail
      refine s7.mono ?_
      rintro e w1 ⟨rfl, rfl⟩
      go_wp2_with fail
      refine aw.mono ?_
      rintro e w1 ⟨rfl, b9⟩
      go_wp2
      go_ret
      exact ⟨rfl, b9⟩
    · have d1 : decide ((p : Int) < 7) = false := decide_eq_false (by omega)
      clear p7 p8
      go_enter Try.func5, Try.ntmps5
      go_wp2_with fail
      refine k1.mono ?_
      rintro e w1 ⟨rfl, rfl⟩
      go_wp2_with fail
      refine k2.mono ?_
      rintro e w1 ⟨rfl, rfl⟩
      go_wp2_with fail
      refine k1.mono ?_
      rintro e w1 ⟨rfl, rfl⟩
      go_wp2_with fail
      refine s5.mono ?_
      rintro e w1 ⟨rfl, rfl⟩
      go_wp2_with fail
      refine s99.mono ?_
      rintro e w1 ⟨rfl, rfl⟩
      go_wp2_with fail
      refine s7.mono ?_
      rintro e w1 ⟨rfl, rfl⟩
      go_wp2_with fail
      refine aw.mono ?_
      rintro e w1 ⟨rfl, b9⟩
      go_wp2
      go_ret
      exact ⟨rfl, b9⟩
end Go.Proofs.Ytldannchhbaghaa

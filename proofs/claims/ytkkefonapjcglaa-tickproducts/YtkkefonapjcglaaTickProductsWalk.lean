/- The walk of 'TickProducts'. -/
import Derived.Test.YtkkefonapjcglaaTickMul
import Derived.WalkSmall
namespace Go.Proofs.Ytkkefonapjcglaa
open Go.RowKit
set_option linter.unusedVariables false
theorem and255_i64 (n : Int) : bits .and .i64 n 255 = n % 256 := by
  show IntKind.i64.wrap ((BitVec.ofInt 64 n &&& 255#64).toNat : Int) = n % 256
  rw [BitVec.toNat_and, BitVec.toNat_ofInt]
  have h7 : (255#64).toNat = 2 ^ 8 - 1 := rfl
  rw [h7, Nat.and_two_pow_sub_one_eq_mod]
  simp only [IntKind.wrap, IntKind.bits, IntKind.signed]
  simp
  omega
theorem mulT_comm (a b : Int) : mulT b a = mulT a b := by unfold mulT; rw [Int.mul_comm b a]
theorem mulT_zero (a : Int) : mulT a 0 = 0 := by unfold mulT; rw [Int.mul_zero]; rfl
theorem mulT_succ {a : Int} (ha : IsT a) (i : Nat) : addT (mulT a i) a = mulT a (i + 1) := by
  obtain ⟨a0, a1⟩ := ha
  have h0 : 0 ≤ a * i := Int.mul_nonneg a0 (by omega)
  have h1 : a * ((i : Int) + 1) = a * i + a := by rw [Int.mul_add, Int.mul_one]
  unfold mulT addT
  rw [h1]
  generalize a * (i : Int) = m at *
  split
  · rfl
  · split <;> split <;> omega
theorem tickProducts_walk (a n : Int) (w : World) (wa : (Lit.int .u64 a).wf = true) (wn : (Lit.int .i64 n).wf = true) :
    Calls Try.prog 5 #[.int .u64 a, .int .i64 n] w fun e w' => e = .returned (.bool true) ∧ Below w.heap.size w w' := by
  have ha : IsT a := bounds_u64 wa
  obtain ⟨X, hX, X0⟩ : ∃ X, bits .and .i64 n 255 = X ∧ 0 ≤ X := ⟨_, and255_i64 n, by omega⟩
  obtain ⟨k, hk, k1⟩ : ∃ k : Nat, X % 50 = k ∧ k < 50 := ⟨(X % 50).toNat, by omega, by omega⟩
  clear wa wn
  go_enter Try.func5, Try.ntmps5
  go_wp2_with fail
  simp only [hk]
  clear hk hX
  go_loop [5, 6] (fun s i => ∃ I : Nat, I ≤ k ∧ s = .int .u64 (mulT a I) ∧ i = .int .i64 I) (fun _ i => k - (intOf i).toNat)
  case atStart => exact ⟨0, by omega, by rw [show ((0 : Nat) : Int) = 0 from rfl, mulT_zero], rfl⟩
  case round =>
    obtain ⟨I, hI, rfl, rfl⟩ := hrel
    by_cases h : I < k
    · have h' : (I : Int) < (k : Int) := by omega
      have hm : IsT (mulT a I) := mulT_is ha ⟨by omega, by omega⟩
      have C := add_any (mulT a I) a
      rw [mulT_succ ha I] at C
      go_wp2_with fail
      refine (C _ hm ha).mono ?_
      rintro e w1 ⟨rfl, rfl⟩
      go_wp2_with fail
      go_round
      case rel => exact ⟨I + 1, by omega, rfl, by go_num⟩
      case measure => simp [intOf]; omega
    · obtain rfl : I = k := by omega
      have hk2 : IsT (I : Int) := ⟨by omega, by omega⟩
      have C1 := mul_any a I
      have C2 := mul_any I a
      rw [mulT_comm] at C2
      generalize mulT a I = s at *
      go_wp2_with fail
      refine (C1 _ ha hk2).mono ?_
      rintro e w1 ⟨rfl, rfl⟩
      go_wp2_with fail
      refine (C2 _ hk2 ha).mono ?_
      rintro e w1 ⟨rfl, rfl⟩
      go_wp2_with fail
      refine (awake_any _).mono ?_
      rintro e w1 ⟨rfl, rfl⟩
      go_wp2_with fail
      go_ret
      exact ⟨rfl, Below.refl _ _⟩
end Go.Proofs.Ytkkefonapjcglaa

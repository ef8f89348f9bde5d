/- The walk of 'WordApart'. -/
import Derived.Test.YtdpljhajgocneaaDoorWords
namespace Go.Proofs.YtdpljhajgocneaaDoor
open Go.RowKit
set_option linter.unusedVariables false
theorem packI_eq {A B X Y : Int} (a1 : 0 ≤ A) (a2 : A < 8) (b1 : 0 ≤ B) (b2 : B < 8) (x1 : 0 ≤ X) (x2 : X < 2305843009213693952) (y1 : 0 ≤ Y) (y2 : Y < 2305843009213693952) :
    packI A X = packI B Y ↔ A = B ∧ X = Y := by
  rw [packI_inj]
  omega
theorem wordApart_walk (a b x y : Int) (w : World) (wa : (Lit.int .i64 a).wf = true) (wb : (Lit.int .i64 b).wf = true) (wx : (Lit.int .u64 x).wf = true) (wy : (Lit.int .u64 y).wf = true) (hN : Named w ∧ 0 < w.heap.size) :
    Calls Tryd.prog 3 #[.int .i64 a, .int .i64 b, .int .u64 x, .int .u64 y] w fun e w' => e = .returned (.bool true) ∧ Below w.heap.size w w' := by
  obtain ⟨x1, x2⟩ := bounds_u64 wx
  obtain ⟨y1, y2⟩ := bounds_u64 wy
  obtain ⟨A, hA, a1, a2⟩ : ∃ A, bits .and .i64 a 7 = A ∧ 0 ≤ A ∧ A < 8 := ⟨_, and7_i64 a, by omega, by omega⟩
  obtain ⟨B, hB, b1, b2⟩ : ∃ B, bits .and .i64 b 7 = B ∧ 0 ≤ B ∧ B < 8 := ⟨_, and7_i64 b, by omega, by omega⟩
  obtain ⟨X, hX, X1, X2⟩ : ∃ X, bits .and .u64 x 2305843009213693951 = X ∧ 0 ≤ X ∧ X < 2305843009213693952 := ⟨_, and61_u64 x x1 x2, by omega, by omega⟩
  obtain ⟨Y, hY, Y1, Y2⟩ : ∃ Y, bits .and .u64 y 2305843009213693951 = Y ∧ 0 ≤ Y ∧ Y < 2305843009213693952 := ⟨_, and61_u64 y y1 y2, by omega, by omega⟩
  have hp : packI A X = packI B Y ↔ A = B ∧ X = Y := packI_eq a1 a2 b1 b2 X1 X2 Y1 Y2
  clear x1 x2 y1 y2 wa wb wx wy a1 a2 b1 b2 X1 X2 Y1 Y2
  obtain ⟨hN, h0⟩ := hN
  by_cases hAB : A = B
  · by_cases hXY : X = Y
    · subst hAB hXY
      clear hp
      go_enter Tryd.func3, Tryd.ntmps3
      go_wp2_with fail
      refine (pack_any _ _ _).mono ?_
      rintro e w1 ⟨rfl, rfl⟩
      go_wp2_with fail
      refine (pack_any _ _ _).mono ?_
      rintro e w1 ⟨rfl, rfl⟩
      go_wp2_with fail
      refine (awake_any _ hN).mono ?_
      rintro e w1 ⟨rfl, hb⟩
      go_wp2_with fail
      go_ret
      exact ⟨rfl, hb⟩
    · have e1 : (packI A X == packI B Y) = false := by simp [hp, hXY]
      have e2 : (A == B) = true := by simp [hAB]
      have e3 : (X == Y) = false := by simp [hXY]
      clear hp hAB hXY
      go_enter Tryd.func3, Tryd.ntmps3
      go_wp2_with fail
      refine (pack_any _ _ _).mono ?_
      rintro e w1 ⟨rfl, rfl⟩
      go_wp2_with fail
      refine (pack_any _ _ _).mono ?_
      rintro e w1 ⟨rfl, rfl⟩
      go_wp2_with fail
      refine (awake_any _ hN).mono ?_
      rintro e w1 ⟨rfl, hb⟩
      go_wp2_with fail
      go_ret
      exact ⟨rfl, hb⟩
  · have e1 : (packI A X == packI B Y) = false := by simp [hp, hAB]
    have e2 : (A == B) = false := by simp [hAB]
    clear hp hAB
    go_enter Tryd.func3, Tryd.ntmps3
    go_wp2_with fail
    refine (pack_any _ _ _).mono ?_
    rintro e w1 ⟨rfl, rfl⟩
    go_wp2_with fail
    refine (pack_any _ _ _).mono ?_
    rintro e w1 ⟨rfl, rfl⟩
    go_wp2_with fail
    refine (awake_any _ hN).mono ?_
    rintro e w1 ⟨rfl, hb⟩
    go_wp2_with fail
    go_ret
    exact ⟨rfl, hb⟩
end Go.Proofs.YtdpljhajgocneaaDoor

/- What the document fixes of layer 13: awake. -/
import Derived.Test.YtgclepkjeepanaaGrA
namespace Go.Proofs.Ytgclepkjeepanaa
open Go.RowKit
set_option linter.unusedVariables false

theorem awake_any (w : World) :
    Calls Try.prog 10 #[] w fun e w' => e = .returned (.bool true) ∧ Below w.heap.size w w' := by
  have i5 : IsT 5 := by unfold IsT; decide
  have i3 : IsT 3 := by unfold IsT; decide
  have i12 : IsT 12 := by unfold IsT; decide
  have o1 : okJ 5 3 5 = true := by decide
  have d1 : dueJ 5 3 5 12 = 14 := by decide
  have m1 : IntKind.u64.wrap (0 + missT 5 3 5 12) = 2 := by decide
  have r1 : IntKind.u64.wrap ((0 : Int) + 1) = 1 := by decide
  have g1 : gridOk 5 3 (max 12 5) = true := by decide
  have c1 := fun w => new_any 5 3 (by decide) w
  have c2 := fun w => after_yes 5 3 5 0 0 12 w i5 i3 i5 i12 o1
  have c3 := fun w => ok_any 5 3 5 0 0 w i5 i3 i5
  simp only [d1, m1, r1, g1] at c2
  simp only [o1] at c3
  obtain ⟨S, hS⟩ : ∃ S, w.heap.size = S := ⟨_, rfl⟩
  clear i5 i3 i12 o1 d1 m1 r1 g1
  go_enter Try.func10, Try.ntmps10
  go_wp2_with fail
  refine (c1 _).mono ?_
  rintro e w1 ⟨rfl, b1⟩
  obtain ⟨S1, hS1⟩ : ∃ S, w1.heap.size = S := ⟨_, rfl⟩
  obtain ⟨v1, hv1⟩ : ∃ u, w1.alloc (.cells #[.int .u64 5, .int .u64 3, .int .u64 5, .int .u64 0, .int .u64 0] 24) = u := ⟨_, rfl⟩
  have x1 : JBox v1 S1 5 3 5 0 0 := by rw [← hv1, ← hS1]; exact JBox.new _ _ _ _ _ _
  have B1 : Aside (Below S w v1) := by rw [← hv1]; have := b1.size; rw [hS] at b1; exact b1.alloc (by omega) _
  have sz : S ≤ v1.heap.size := by have := B1.out.size; omega
  have SZ : Hid (S ≤ v1.heap.size) := sz
  have X1 : Aside _ := x1
  have HV1 : Hid _ := hv1
  obtain ⟨k0, k1, k2, k3, k4⟩ := x1.cell
  clear b1 hv1 x1 c1 sz
  go_wp2_with fail
  rw [HV1.out]
  refine (c2 _).mono ?_
  rintro e w2 ⟨rfl, b2⟩
  clear k0 k1 k2 k3 k4
  have x2 := JBox.below X1.out b2
  obtain ⟨k0, k1, k2, k3, k4⟩ := x2.cell
  obtain ⟨fz, lt⟩ := x2.fz
  have B2 : Aside (Below S w w2) := B1.out.trans (b2.mono SZ.out)
  clear x2 b2 c2 X1 B1 SZ HV1
  go_wp2_with fail
  refine (c3 _).mono ?_
  rintro e w3 ⟨rfl, rfl⟩
  go_wp2_with fail
  go_ret
  refine ⟨rfl, ?_⟩
  have : S ≤ w2.heap.size := by have := B2.out.size; omega
  first | exact (B2.out.alloc this _).alloc (by rw [alloc_sz]; omega) _ | (rw [hS]; exact (B2.out.alloc this _).alloc (by rw [alloc_sz]; omega) _)
end Go.Proofs.Ytgclepkjeepanaa

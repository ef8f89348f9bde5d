/- 'awake' of layer 5. -/
import Derived.Test.YtefkgljpocfpfaaEntLe
namespace Go.Proofs.Ytefkgljpocfpfaa
open Go.RowKit Go.Lib Go.Sort
set_option linter.unusedVariables false

theorem cell_new (w : World) (cs : Array Value) (T : TypeId) (i : Nat) : (w.alloc (.cells cs T)).cell? ⟨w.heap.size, i, none⟩ = cs[i]? := cell_of_row _ _ _ cs T (0, 0) (heap_alloc_new w _)
theorem cell_old (w : World) (o : Obj) {b : Nat} (i : Nat) (hb : b < w.heap.size) : (w.alloc o).cell? ⟨b, i, none⟩ = w.cell? ⟨b, i, none⟩ := World.cell?_of_block (w := w) (Below.heap_alloc _ _ _ hb)
/-- Three blocks laid one behind the other. -/
theorem cells3 (w : World) (cs ds es : Array Value) (T T' T'' : TypeId) (i : Nat) :
    (((w.alloc (.cells cs T)).alloc (.cells ds T')).alloc (.cells es T'')).cell? ⟨w.heap.size, i, none⟩ = cs[i]? ∧
    (((w.alloc (.cells cs T)).alloc (.cells ds T')).alloc (.cells es T'')).cell? ⟨w.heap.size + 1, i, none⟩ = ds[i]? ∧
    (((w.alloc (.cells cs T)).alloc (.cells ds T')).alloc (.cells es T'')).cell? ⟨w.heap.size + 2, i, none⟩ = es[i]? := by
  have s1 : (w.alloc (.cells cs T)).heap.size = w.heap.size + 1 := by simp
  have s2 : ((w.alloc (.cells cs T)).alloc (.cells ds T')).heap.size = w.heap.size + 2 := by simp
  refine ⟨?_, ?_, ?_⟩
  · rw [cell_old _ _ _ (by omega), cell_old _ _ _ (by omega), cell_new]
  · rw [cell_old _ _ _ (by omega), ← s1, cell_new]
  · rw [← s2, cell_new]

set_option maxHeartbeats 2000000 in
set_option maxRecDepth 100000 in
theorem awake_any (w : World) : Calls Try.prog 9 #[] w fun e w' => e = .returned (.bool true) ∧ Below w.heap.size w w' := by
  obtain ⟨S, hS⟩ : ∃ S, w.heap.size = S := ⟨_, rfl⟩
  obtain ⟨u, hu⟩ : ∃ u, ((w.alloc (.cells #[.int .u64 5, .int .i64 1] 31)).alloc (.cells #[.int .u64 3, .int .i64 9] 31)).alloc (.cells #[.slice (some ⟨S, 0, none⟩) 1 1, .slice (some ⟨S + 1, 0, none⟩) 1 1] 22) = u := ⟨_, rfl⟩
  have gu : Grown w u := by rw [← hu]; exact (((Grown.refl w).alloc _).alloc _).alloc _
  have L : IsLL u (some ⟨S + 2, 0, none⟩) [[(5, 1)], [(3, 9)]] := by
    rw [← hu, ← hS]
    refine ⟨by simp, fun i d hd => ?_⟩
    have hi : i < 2 := by simpa using (List.getElem?_eq_some_iff.1 hd).1
    have : i = 0 ∨ i = 1 := by omega
    rcases this with rfl | rfl
    · simp at hd
      subst hd
      refine ⟨w.heap.size + 2, 0, some ⟨w.heap.size, 0, none⟩, 1, rfl, by simp, (cells3 w _ _ _ _ _ _ _).2.2, by simp, by simp [maxLen], fun j x hx => ?_⟩
      have hj : j = 0 := by have := (List.getElem?_eq_some_iff.1 hx).1; simpa using this
      subst hj
      simp at hx
      subst hx
      exact ⟨w.heap.size, 0, rfl, by simp; omega, (cells3 w _ _ _ _ _ _ _).1, (cells3 w _ _ _ _ _ _ _).1⟩
    · simp at hd
      subst hd
      refine ⟨w.heap.size + 2, 0, some ⟨w.heap.size + 1, 0, none⟩, 1, rfl, by simp, (cells3 w _ _ _ _ _ _ _).2.2, by simp, by simp [maxLen], fun j x hx => ?_⟩
      have hj : j = 0 := by have := (List.getElem?_eq_some_iff.1 hx).1; simpa using this
      subst hj
      simp at hx
      subst hx
      exact ⟨w.heap.size + 1, 0, rfl, by simp, (cells3 w _ _ _ _ _ _ _).2.1, (cells3 w _ _ _ _ _ _ _).2.1⟩
  have la := least_any (some ⟨S + 2, 0, none⟩) 2 [[(5, 1)], [(3, 9)]] u L
  have hle : leastL [[(5, 1)], [(3, 9)]] [[((5 : Int), (1 : Int))], [(3, 9)]].length = some (1, (3, 9)) := by decide
  have l2 := fun W => less_any (1, 1) (1, 2) W
  simp only [show ltE (1, 1) (1, 2) = true by decide] at l2
  have HU : Aside _ := hu
  have GU : Aside (Grown w u) := gu
  clear hu gu L
  go_enter Try.func9, Try.ntmps9
  go_wp2_with fail
  rw [HU.out]
  refine la.mono ?_
  rintro e w1 ⟨rfl, b1⟩
  rw [hle]
  simp only [unl, unj, unb]
  have B1 : Aside (Below S w w1) := by rw [← hS]; exact GU.out.below.trans (b1.mono (GU.out.below.size))
  clear b1 la
  go_wp2_with fail
  refine (l2 _).mono ?_
  rintro e w2 ⟨rfl, g2⟩
  have hz : S ≤ w1.heap.size := by have := B1.out.size; omega
  have B2 : Aside (Below S w w2) := ((B1.out.alloc hz _)).trans (g2.below.mono (by simp; omega))
  clear g2
  go_wp2
  go_ret
  exact ⟨rfl, by rw [hS]; exact B2.out⟩
end Go.Proofs.Ytefkgljpocfpfaa

/- 'awake' of layer 5. -/
import Derived.Test.YtboccihcomaaoaaEntLe
namespace Go.Proofs.Ytboccihcomaaoaa
open Go.RowKit Go.Lib Go.Sort
set_option linter.unusedVariables false

theorem cell_new (w : World) (cs : Array Value) (T : TypeId) (i : Nat) : (w.alloc (.cells cs T)).cell? ⟨w.heap.size, i, none⟩ = cs[i]? := cell_of_row _ _ _ cs T (0, 0) (heap_alloc_new w _)
theorem cell_old (w : World) (o : Obj) {b : Nat} (i : Nat) (hb : b < w.heap.size) : (w.alloc o).cell? ⟨b, i, none⟩ = w.cell? ⟨b, i, none⟩ := World.cell?_of_block (w := w) (Below.heap_alloc _ _ _ hb)
/-- Three blocks laid one behind the other. -/
theorem cells3 (w : World) (cs ds es : Array Value) (T T' T'' : TypeId) (i : Nat) :
    (((w.alloc (.cells cs T)).alloc (.cells ds T')).alloc (.cells es T'')).cell? ⟨w.heap.size, i, none⟩ = cs[i]? ∧
    (((w.alloc (.cells cs T)).alloc (.cells ds T')).alloc (.cells es T'')).cell? ⟨w.heap.size + 1, i, none⟩ = ds[i]? ∧
    (((w.alloc (.cells cs T)).alloc (.cells ds T')).alloc (.cells es T'')).cell? ⟨w.heap.size + 2, i, none⟩ = es[i]? := by
  have s1 : (w.alloc (.cells cs T)).heap.size = w.heap.size + 1 := by simp
  have s2 : ((w.alloc (.cells cs T)).alloc (.cells ds T')).heap.size = w.heap.size + 2 := by simp
  refine ⟨?_, ?_, ?_⟩
  · rw [cell_old _ _ _ (by omega), cell_old _ _ _ (by omega), cell_new]
  · rw [cell_old _ _ _ (by omega), ← s1, cell_new]
  · rw [← s2, cell_new]

end Go.Proofs.Ytboccihcomaaoaa

/- A world that has grown, nothing turned; what a compare function of timers answers. -/
import Derived.Test.YtbopobgnmkhabaaDoorEntW
import Derived.Deep.QuietTactic
import Derived.BigQuiet
namespace Go.Proofs.YtbopobgnmkhabaaDoor
open Go.RowKit Go.Lib Go.Sort
set_option linter.unusedVariables false

/-- Draws, and blocks laid behind: nothing else. -/
def Grown (w w' : World) : Prop := ∃ q os, w' = grow (w.drewN q) os
theorem Grown.refl (w : World) : Grown w w := ⟨0, #[], by rw [grow_empty]; rfl⟩
theorem Grown.trans {u v w : World} (h : Grown u v) (k : Grown v w) : Grown u w := by
  obtain ⟨q, os, rfl⟩ := h
  obtain ⟨q', os', rfl⟩ := k
  exact ⟨q + q', os ++ os', by show grow (grow ((u.drewN q).drewN q') os) os' = _; rw [grow_grow, World.drewN_drewN]⟩
theorem Grown.alloc {u v : World} (h : Grown u v) (o : Obj) : Grown u (v.alloc o) := h.trans ⟨0, #[o], by rw [alloc_eq_grow]; rfl⟩
theorem Grown.drewN {u v : World} (h : Grown u v) (q : Nat) : Grown u (v.drewN q) := h.trans ⟨q, #[], by rw [grow_empty]⟩
theorem Grown.drew {u v : World} (h : Grown u v) : Grown u v.drew := h.drewN 1

theorem Grown.below {u v : World} (h : Grown u v) : Below u.heap.size u v := by
  obtain ⟨q, os, rfl⟩ := h
  exact ⟨rfl, rfl, rfl, by simp [grow], fun k hk => heap_grow_old _ _ hk⟩
theorem Grown.cells {u v : World} (h : Grown u v) (b o : Nat) (hb : b < u.heap.size) : v.cell? ⟨b, o, none⟩ = u.cell? ⟨b, o, none⟩ := h.below.cell (p := ⟨b, o, none⟩) hb

/-- What the compare function answers. -/
def cfE (x y : Ent) : Int := if ltE x y then -1 else if ltE y x then 1 else 0
theorem ltOf_cfE (x y : Ent) : decide (cfE x y < 0) = ltE x y := by
  unfold cfE
  cases h : ltE x y <;> cases h' : ltE y x <;> simp
theorem cfE_neg (x y : Ent) (h : ltE x y = true) : cfE x y < 0 := of_decide_eq_true ((ltOf_cfE x y).trans h)
theorem cfE_not (x y : Ent) (h : ltE x y = false) : ¬ cfE x y < 0 := of_decide_eq_false ((ltOf_cfE x y).trans h)

end Go.Proofs.YtbopobgnmkhabaaDoor

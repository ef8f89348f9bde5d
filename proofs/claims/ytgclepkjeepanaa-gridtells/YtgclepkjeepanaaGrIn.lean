/- A job that came in. -/
import Derived.Test.YtgclepkjeepanaaRecs
import Derived.Test.YtgclepkjeepanaaNum
import Derived.Test.YtgclepkjeepanaaTickNum
import Derived.Test.YtgclepkjeepanaaChecked
import Derived.SizedLaws
import Derived.Lib.SmallJoins
import Derived.ProofKit
namespace Go.Proofs.Ytgclepkjeepanaa
open Go.RowKit Go.Deep Go.ChangeShapes Go.WideShapes
set_option linter.unusedVariables false

section
variable {H : Type} {enc : TypeId × Value → H} {P : Program} {w : World} {spare : Nat → Bool} {held : Bool}
theorem open_five {t : TypeId} {fs : Array Field} {r : Reach} {b0 : Nat} {v : Value} {d : DataW H} {p : List MemPlace} (ht : P.underlying t = some (.struct fs)) (hC : P.cellsOf t = 5) (hr : recFields P fs [.u64, .u64, .u64, .u64, .u64] = true)
    (hv : Value.okWide P w r b0 t v) (h : DataW.Trod enc P w 0 spare held t v d p) :
    ∃ z0 z1 z2 z3 z4 : Int, v = .agg #[.int .u64 z0, .int .u64 z1, .int .u64 z2, .int .u64 z3, .int .u64 z4] ∧ IsT z0 ∧ IsT z1 ∧ IsT z2 ∧ IsT z3 ∧ IsT z4 := by
  obtain ⟨cs, rfl, hsz⟩ := okWide_struct ht hv
  obtain ⟨fuel, hf⟩ := h
  obtain ⟨xs, q, _, _, _, hxl, hx⟩ := DataW.trod_struct ht hf
  have h5 : cs.size = 5 := hsz.trans hC
  have each : ∀ j, j < 5 → ∃ z : Int, cs[j]? = some (.int .u64 z) ∧ IsT z := by
    intro j hj
    have hk : ([.u64, .u64, .u64, .u64, .u64] : List IntKind)[j]? = some .u64 := by
      have : j = 0 ∨ j = 1 ∨ j = 2 ∨ j = 3 ∨ j = 4 := by omega
      rcases this with rfl | rfl | rfl | rfl | rfl <;> rfl
    obtain ⟨hks, f, hfj, ho, hc, hu⟩ := recFields_at hr hk
    simp only [List.length_cons, List.length_nil] at hks
    have g := hx j f hfj
    rw [ho, hc, take1_drop _ j undef (by simp [Value.cells]; omega), List.getElem?_eq_getElem (by omega)] at g
    obtain ⟨z, hz, _, hw⟩ := DataW.trod_int hu g
    refine ⟨z, ?_, bounds_u64 hw⟩
    simp [Value.cells, Array.getElem?_eq_getElem (show j < cs.size by omega)] at hz ⊢
    exact hz
  obtain ⟨z0, e0, i0⟩ := each 0 (by omega)
  obtain ⟨z1, e1, i1⟩ := each 1 (by omega)
  obtain ⟨z2, e2, i2⟩ := each 2 (by omega)
  obtain ⟨z3, e3, i3⟩ := each 3 (by omega)
  obtain ⟨z4, e4, i4⟩ := each 4 (by omega)
  refine ⟨z0, z1, z2, z3, z4, ?_, i0, i1, i2, i3, i4⟩
  congr 1
  refine Array.ext_getElem? fun i => ?_
  have hi : i = 0 ∨ i = 1 ∨ i = 2 ∨ i = 3 ∨ i = 4 ∨ 5 ≤ i := by omega
  rcases hi with rfl | rfl | rfl | rfl | rfl | hi
  · exact e0
  · exact e1
  · exact e2
  · exact e3
  · exact e4
  · rw [Array.getElem?_eq_none (by omega), Array.getElem?_eq_none (by simp; omega)]
end
theorem open_job {H : Type} {enc : TypeId × Value → H} {w : World} {spare : Nat → Bool} {held : Bool} {r : Reach} {b0 : Nat} {v : Value} {d : DataW H} {p : List MemPlace} (hv : Value.okWide Try.prog w r b0 24 v) (h : DataW.Trod enc Try.prog w 0 spare held 24 v d p) :
    ∃ z0 z1 z2 z3 z4 : Int, v = .agg #[.int .u64 z0, .int .u64 z1, .int .u64 z2, .int .u64 z3, .int .u64 z4] ∧ IsT z0 ∧ IsT z1 ∧ IsT z2 ∧ IsT z3 ∧ IsT z4 :=
  open_five Try.underlying24 (by kernel_rfl) (by kernel_rfl) hv h
end Go.Proofs.Ytgclepkjeepanaa

/- More calls that only read: the document's Same, Has and Place; Smaller, Place. -/
import Derived.Test.YtoknpinlphbeoabEntR
namespace Go.Proofs.Ytoknpinlphbeoab
open Go.RowKit Go.Lib Go.Sort
set_option linter.unusedVariables false

/-- '==' of two entries. -/
theorem eqE (x y : Ent) (w : World) : (Op.equalIn 10000 26 (.agg #[.int .u64 x.1, .int .i64 x.2]) (.agg #[.int .u64 y.1, .int .i64 y.2])).run Try.prog w = .ok (decide (x = y)) w := by
  have u3 := Try.underlying3
  have a3 := Try.isAgg3
  have z3 := Try.sizeOf3
  have u29 := Try.underlying24
  have a29 := Try.isAgg24
  have z29 := Try.sizeOf24
  have hS : Try.prog.underlying 26 = some (.struct (Try.prog.fieldsOf 26)) := by kernel_rfl
  have hp : Try.prog.stoodInHeld 26 = false := by kernel_rfl
  rw [show (10000 : Nat) = 9999 + 1 from rfl, run_equalIn_agg w 9999 26 _ _ hS hp]
  simp only [Program.fieldsOf, Try.underlying26]
  obtain ⟨k1, i1⟩ := x
  obtain ⟨k2, i2⟩ := y
  go_simp
  by_cases h1 : k1 = k2 <;> by_cases h2 : i1 = i2 <;> simp [h1, h2]
theorem guardE : Try.prog.eqGuardType Try.prog.depth 26 = false := by kernel_rfl

theorem eq_take_succ {c d : List Ent} {k : Nat} (hc : k < c.length) (hd : k < d.length) (h : c.take k = d.take k) (e : c[k] = d[k]) : c.take (k + 1) = d.take (k + 1) := by
  rw [List.take_succ_eq_append_getElem hc, List.take_succ_eq_append_getElem hd, h, e]

/-- A boxed entry, in every world that has grown. -/
theorem box_at (w : World) (x : Ent) (T : TypeId) {W : World} (h : Grown (w.alloc (.cells #[.int .u64 x.1, .int .i64 x.2] T)) W) (n : Nat) (os : Array Obj) :
    (grow (W.drewN n) os).cell? ⟨w.heap.size, 0, none⟩ = some (.int .u64 x.1) ∧ (grow (W.drewN n) os).cell? ⟨w.heap.size, 1, none⟩ = some (.int .i64 x.2) := by
  have g : Grown (w.alloc (.cells #[.int .u64 x.1, .int .i64 x.2] T)) (grow (W.drewN n) os) := h.trans ⟨n, os, rfl⟩
  exact ⟨(g.cells _ _ (by simp)).trans (by simp), (g.cells _ _ (by simp)).trans (by simp)⟩


end Go.Proofs.Ytoknpinlphbeoab

/- The calls that only read slices of entries: Sorted, Smaller, Place; the document's Sorted, Same, Has, Place. -/
import Derived.Test.YtfecobeiibdpcaaEntL
import Derived.Test.YtfecobeiibdpcaaEntS
import Derived.Test.YtfecobeiibdpcaaSearch
import Derived.Deep.LoopGhost
namespace Go.Proofs.Ytfecobeiibdpcaa
open Go.RowKit Go.Lib Go.Sort
set_option linter.unusedVariables false

/-- Entry i, in every world that has grown. -/
theorem IsL.at {w : World} {a : Option Addr} {cap : Nat} {d : List Ent} (h : IsL w a cap d) {i : Nat} (hi : i < d.length) : ∃ b off, a = some ⟨b, off, none⟩ ∧ ∀ W, Grown w W → ∀ n os, (grow (W.drewN n) os).cell? ⟨b, off + i * 2, none⟩ = some (.int .u64 d[i].1) ∧ (grow (W.drewN n) os).cell? ⟨b, off + i * 2 + 1, none⟩ = some (.int .i64 d[i].2) := by
  obtain ⟨b, off, e, hb, h1, h2⟩ := h.elem i d[i] (List.getElem?_eq_getElem hi)
  refine ⟨b, off, e, fun W hW n os => ?_⟩
  have g : Grown w (grow (W.drewN n) os) := hW.trans ⟨n, os, rfl⟩
  exact ⟨(g.below.cell (p := ⟨b, off + i * 2, none⟩) hb).trans h1, (g.below.cell (p := ⟨b, off + i * 2 + 1, none⟩) hb).trans h2⟩


end Go.Proofs.Ytfecobeiibdpcaa

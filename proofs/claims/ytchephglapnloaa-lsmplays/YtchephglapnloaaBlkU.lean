/- Blocks: Cut. -/
import Derived.Deep.RegionHeld3
import Derived.Test.YtchephglapnloaaBlkC
namespace Go.Proofs.Ytchephglapnloaa
open Go.RowKit Go.Lib Go.Sort
set_option linter.unusedVariables false

/-- Two new blocks. -/
def MadeB2 (w : World) (c d : List Ent) (r : Ending) (w' : World) : Prop :=
  ∃ a p b q, r = .returned (.tuple #[.agg #[.int .i64 (lvl c.length), .slice a c.length p], .agg #[.int .i64 (lvl d.length), .slice b d.length q]]) ∧
    OwnE w' w.heap.size (.slice a c.length p) c ∧ OwnE w' w.heap.size (.slice b d.length q) d ∧ Below w.heap.size w w'

theorem keep_set {w : World} {S i : Nat} {v : Option Value} {p : Addr} {u : Value} (h : w.cell? ⟨S, i, none⟩ = v) (hp : p.block ≠ S) : (w.setCell p u).cell? ⟨S, i, none⟩ = v := by
  rw [World.cell?_setCell_other _ _ _ _ (by intro e; exact hp (by rw [e])), h]

end Go.Proofs.Ytchephglapnloaa

/- Slices of slices of entries; entry.Least. -/
import Derived.Test.YtfecobeiibdpcaaEntR
namespace Go.Proofs.Ytfecobeiibdpcaa
open Go.RowKit Go.Lib Go.Sort
set_option linter.unusedVariables false

/-- A slice at a that holds these lists. -/
structure IsLL (w : World) (a : Option Addr) (ls : List (List Ent)) : Prop where
  len : ls.length ≤ 9223372036854775807
  elem : ∀ i d, ls[i]? = some d → ∃ b off p k, a = some ⟨b, off, none⟩ ∧ b < w.heap.size ∧ w.cell? ⟨b, off + i, none⟩ = some (.slice p d.length k) ∧ IsL w p k d
theorem IsLL.below {w w' : World} {a : Option Addr} {ls : List (List Ent)} (h : IsLL w a ls) (hw : Below w.heap.size w w') : IsLL w' a ls :=
  ⟨h.len, fun i d hd => by
    obtain ⟨b, off, p, k, e, hb, h1, h2⟩ := h.elem i d hd
    exact ⟨b, off, p, k, e, by have := hw.size; omega, (hw.cell (p := ⟨b, off + i, none⟩) hb).trans h1, h2.below hw⟩⟩

def unl : Option (Nat × Ent) → Ent
  | none => (0, 0)
  | some (_, y) => y
def unj : Option (Nat × Ent) → Nat
  | none => 0
  | some (j, _) => j
def unb : Option (Nat × Ent) → Bool
  | none => false
  | some _ => true
theorem least_j (ls : List (List Ent)) : ∀ k, unj (leastL ls k) ≤ k
  | 0 => Nat.le_refl _
  | k + 1 => by
    have ih := least_j ls k
    simp only [leastL]
    generalize leastL ls k = st at ih ⊢
    unfold least1
    split
    · simp [unj]
    · split
      · simp [unj]
      · simp [unj] at ih ⊢; omega
    · omega

/-- What Least tells. -/
def LeastIs (w : World) (ls : List (List Ent)) (r : Ending) (w' : World) : Prop :=
  r = .returned (.tuple #[.agg #[.int .u64 (unl (leastL ls ls.length)).1, .int .i64 (unl (leastL ls ls.length)).2], .int .i64 (unj (leastL ls ls.length)), .bool (unb (leastL ls ls.length))]) ∧ Below w.heap.size w w'

/-- A box for an entry at S. -/
structure Box (S : Nat) (x : Ent) (w : World) : Prop where
  lt : S < w.heap.size
  c0 : w.cell? ⟨S, 0, none⟩ = some (.int .u64 x.1)
  c1 : w.cell? ⟨S, 1, none⟩ = some (.int .i64 x.2)
  f0 : w.frozen? ⟨S, 0, none⟩ = false
  f1 : w.frozen? ⟨S, 1, none⟩ = false
theorem Box.grown {S : Nat} {x : Ent} {w W : World} (h : Box S x w) (g : Grown w W) : Box S x W :=
  ⟨by have := g.below.size; have := h.lt; omega, (g.cells _ _ h.lt).trans h.c0, (g.cells _ _ h.lt).trans h.c1, (g.below.frozen (p := ⟨S, 0, none⟩) h.lt).trans h.f0, (g.below.frozen (p := ⟨S, 1, none⟩) h.lt).trans h.f1⟩
theorem Box.set {S : Nat} {x : Ent} {w : World} (h : Box S x w) (y : Ent) : Box S y ((w.setCell ⟨S, 0, none⟩ (.int .u64 y.1)).setCell ⟨S, 1, none⟩ (.int .i64 y.2)) := by
  have k1 : ((w.setCell ⟨S, 0, none⟩ (.int .u64 y.1)).cell? ⟨S, 1, none⟩).isSome := by
    rw [World.cell?_setCell_other _ _ _ _ (by simp), h.c1]; rfl
  refine ⟨by simpa [World.setCell] using h.lt, ?_, ?_, ?_, ?_⟩
  · rw [World.cell?_setCell_other _ _ _ _ (by simp), World.cell?_setCell_same' _ _ _ (by rw [h.c0]; rfl)]
  · rw [World.cell?_setCell_same' _ _ _ k1]
  · rw [World.frozen?_setCell, World.frozen?_setCell]; exact h.f0
  · rw [World.frozen?_setCell, World.frozen?_setCell]; exact h.f1

end Go.Proofs.Ytfecobeiibdpcaa

/- A slice of bools that came in: what a walk is told of it, and how it is drawn from the reading. -/
import Derived.Deep.Grids
import Derived.WalkKit
namespace Go.Proofs.Ytigaonoilbakfaa
open Go.RowKit Go.Deep
/-- Its elements are the bools B. -/
structure IsBools (w : World) (a : Option Addr) (len : Nat) (B : Nat → Bool) : Prop where
  len_le : len ≤ 9223372036854775807
  elem : ∀ i, i < len → ∃ b off, a = some ⟨b, off, none⟩ ∧ b < w.heap.size ∧ w.cell? ⟨b, off + i, none⟩ = some (.bool (B i))
theorem isBools_of {H : Type} {enc : TypeId × Value → H} {P : Program} {w : World} {base : Nat} {held : Bool} {t e : TypeId} {fuel : Nat} {a : Option Addr} {len cap : Nat} {x : DataW H × List MemPlace}
    (ht : P.underlying t = some (.slice e)) (he : P.underlying e = some .bool) (hc : P.cellsOf e = 1)
    (h : DataW.trod enc P w base (fun _ => true) held fuel t [.slice a len cap] = some x) : ∃ B, IsBools w a len B := by
  rcases open_bools ht he hc h with ⟨h0, _⟩ | ⟨y, l, c, B, h0, _, hl, hm, _, hcell⟩
  · simp at h0
    obtain ⟨rfl, rfl, rfl⟩ := h0
    exact ⟨fun _ => false, by omega, fun i hi => by omega⟩
  · simp at h0
    obtain ⟨rfl, rfl, rfl⟩ := h0
    unfold maxLen at hm
    refine ⟨B, by omega, fun i hi => ?_⟩
    obtain ⟨b, off, spot⟩ := y
    have hspot : spot = none := by simpa [Addr.add] using World.cell?_spot (hcell 0 (by omega))
    subst hspot
    have h1 := hcell i (by omega)
    rw [Addr.add_lit] at h1
    exact ⟨b, off, rfl, World.block_lt_of_cell? w _ h1, h1⟩
end Go.Proofs.Ytigaonoilbakfaa

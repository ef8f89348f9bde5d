/- slices.IndexFunc at entries; entry.Drop. -/
import Derived.Test.YtoknpinlphbeoaaEntPut
import Derived.Test.YtoknpinlphbeoaaEntAwake
namespace Go.Proofs.Ytoknpinlphbeoaa
open Go.RowKit Go.Lib Go.Sort
set_option linter.unusedVariables false

/-- Where the first stands of which p is true; -1 if there is none. -/
def FirstIs (d : List Ent) (p : Ent → Bool) (z : Int) : Prop := (z = -1 ∧ ∀ i (hi : i < d.length), p d[i] = false) ∨ ∃ k : Nat, ∃ hk : k < d.length, z = k ∧ p d[k] = true ∧ ∀ i (hi : i < k), p (d[i]'(by omega)) = false

/-- A list and whether it was changed. -/
def Dropped (w : World) (d : List Ent) (id : Int) (r : Ending) (w' : World) : Prop := ∃ a cap, r = .returned (.tuple #[.slice a (dropL d id).length cap, .bool (hasL d id)]) ∧ IsL w' a cap (dropL d id) ∧ Below w.heap.size w w'

/-- The two parts that Drop joins. -/
theorem drop_lists {w2 : World} {a p1 : Option Addr} {cap k : Nat} {d : List Ent} (L : IsL w2 a cap d) (hk : k < d.length) (hp : (if cap = k + 1 then a else a.map (·.add ((k + 1) * 2))) = p1) :
    IsLL (w2.alloc (.cells #[.slice a k cap, .slice p1 (d.length - (k + 1)) (cap - (k + 1))] 22)).drew (some ⟨w2.heap.size, 0, none⟩) [d.take k, d.drop (k + 1)] ∧
    Below w2.heap.size w2 (w2.alloc (.cells #[.slice a k cap, .slice p1 (d.length - (k + 1)) (cap - (k + 1))] 22)).drew := by
  have b2 : Below w2.heap.size w2 (w2.alloc (.cells #[.slice a k cap, .slice p1 (d.length - (k + 1)) (cap - (k + 1))] 22)).drew := ((Below.refl _ _).alloc (Nat.le_refl _) _).drew
  refine ⟨IsLL.of_block (cs := #[.slice a k cap, .slice p1 (d.length - (k + 1)) (cap - (k + 1))]) (T := 22) (fr := (0, 0)) (heap_alloc_new w2 _) (by simp) (fun i x hx => ?_), b2⟩
  have hi : i < 2 := by simpa using (List.getElem?_eq_some_iff.1 hx).1
  have : i = 0 ∨ i = 1 := by omega
  rcases this with rfl | rfl
  · simp at hx
    subst hx
    exact ⟨a, cap, by simp [List.length_take, Nat.min_eq_left (Nat.le_of_lt hk)], (L.take k).below b2⟩
  · simp at hx
    subst hx
    have := (L.drop (k + 1) hk).below b2
    rw [hp] at this
    exact ⟨p1, cap - (k + 1), by simp [List.length_drop], this⟩

end Go.Proofs.Ytoknpinlphbeoaa

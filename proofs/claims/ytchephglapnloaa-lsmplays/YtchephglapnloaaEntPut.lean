/- entry.Put. -/
import Derived.Deep.RegionHeld3
import Derived.Test.YtchephglapnloaaEntP
import Derived.Test.YtchephglapnloaaEntR
namespace Go.Proofs.Ytchephglapnloaa
open Go.RowKit Go.Lib Go.Sort
set_option linter.unusedVariables false

theorem IsLL.of_block {W : World} {g : Nat} {cs : Array Value} {T : TypeId} {fr : Nat × Nat} {ls : List (List Ent)} (h : W.heap[g]? = some (.cells cs T fr)) (hl : ls.length ≤ 9223372036854775807)
    (he : ∀ (i : Nat) (d : List Ent), ls[i]? = some d → ∃ p k, cs[i]? = some (Value.slice p d.length k) ∧ IsL W p k d) : IsLL W (some ⟨g, 0, none⟩) ls :=
  ⟨hl, fun i d hd => by
    obtain ⟨p, k, h1, h2⟩ := he i d hd
    exact ⟨g, 0, p, k, rfl, lt_of_block h, by rw [Nat.zero_add, cell_of_row _ _ _ cs T fr h]; exact h1, h2⟩⟩
/-- The three parts that Put joins. -/
theorem put_lists {w2 : World} {a p1 : Option Addr} {cap k : Nat} {d : List Ent} (e : Ent) (L : IsL w2 a cap d) (hk : k ≤ d.length) (hp : (if cap = k then a else a.map (·.add (k * 2))) = p1) :
    IsLL ((w2.alloc (.cells #[.int .u64 e.1, .int .i64 e.2] 28)).alloc (.cells #[.slice a k cap, .slice (some ⟨w2.heap.size, 0, none⟩) 1 1, .slice p1 (d.length - k) (cap - k)] 29)).drew (some ⟨w2.heap.size + 1, 0, none⟩) [d.take k, [e], d.drop k] ∧
    Below w2.heap.size w2 ((w2.alloc (.cells #[.int .u64 e.1, .int .i64 e.2] 28)).alloc (.cells #[.slice a k cap, .slice (some ⟨w2.heap.size, 0, none⟩) 1 1, .slice p1 (d.length - k) (cap - k)] 29)).drew := by
  have b1 : Below w2.heap.size w2 (w2.alloc (.cells #[.int .u64 e.1, .int .i64 e.2] 28)) := (Below.refl _ _).alloc (Nat.le_refl _) _
  have b2 : Below w2.heap.size w2 ((w2.alloc (.cells #[.int .u64 e.1, .int .i64 e.2] 28)).alloc (.cells #[.slice a k cap, .slice (some ⟨w2.heap.size, 0, none⟩) 1 1, .slice p1 (d.length - k) (cap - k)] 29)).drew := (b1.alloc (by simp) _).drew
  refine ⟨IsLL.of_block (cs := #[.slice a k cap, .slice (some ⟨w2.heap.size, 0, none⟩) 1 1, .slice p1 (d.length - k) (cap - k)]) (T := 29) (fr := (0, 0)) ?_ (by simp) (fun i x hx => ?_), b2⟩
  · have := heap_alloc_new (w2.alloc (.cells #[.int .u64 e.1, .int .i64 e.2] 28)) (.cells #[.slice a k cap, .slice (some ⟨w2.heap.size, 0, none⟩) 1 1, .slice p1 (d.length - k) (cap - k)] 29)
    rw [show (w2.alloc (.cells #[.int .u64 e.1, .int .i64 e.2] 28)).heap.size = w2.heap.size + 1 by simp] at this
    exact this
  · have hi : i < 3 := by simpa using (List.getElem?_eq_some_iff.1 hx).1
    have : i = 0 ∨ i = 1 ∨ i = 2 := by omega
    rcases this with rfl | rfl | rfl
    · simp at hx
      subst hx
      exact ⟨a, cap, by simp [List.length_take, Nat.min_eq_left hk], (L.take k).below b2⟩
    · simp at hx
      subst hx
      exact ⟨some ⟨w2.heap.size, 0, none⟩, 1, rfl, (IsL.one w2 e).below (((Below.refl _ _).alloc (by simp) _).drew)⟩
    · simp at hx
      subst hx
      have := (L.drop k hk).below b2
      rw [hp] at this
      exact ⟨p1, cap - k, by simp [List.length_drop], this⟩

end Go.Proofs.Ytchephglapnloaa

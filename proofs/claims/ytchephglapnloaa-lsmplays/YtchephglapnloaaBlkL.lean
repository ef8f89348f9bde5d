/- The contracts of blocks once more, all lengths and levels as letters: for the walks. -/
import Derived.Test.YtchephglapnloaaBlkU
import Derived.Test.YtchephglapnloaaBlkO
import Derived.Test.YtchephglapnloaaEntR
namespace Go.Proofs.Ytchephglapnloaa
open Go.RowKit Go.Lib Go.Sort
set_option linter.unusedVariables false

/-- A new block of level m that holds d, n of them. -/
def MadeN (w : World) (m n : Nat) (d : List Ent) (r : Ending) (w' : World) : Prop := ∃ a cap, r = .returned (.agg #[.int .i64 m, .slice a n cap]) ∧ IsL w' a cap d ∧ Below w.heap.size w w'
def MadeN2 (w : World) (m n : Nat) (c : List Ent) (k j : Nat) (d : List Ent) (r : Ending) (w' : World) : Prop :=
  ∃ a p b q, r = .returned (.tuple #[.agg #[.int .i64 m, .slice a n p], .agg #[.int .i64 k, .slice b j q]]) ∧ IsL w' a p c ∧ IsL w' b q d ∧ Below w.heap.size w w'
theorem MadeB.n {w w' : World} {d : List Ent} {r : Ending} (h : MadeB w d r w') {n m : Nat} (hn : d.length = n) (hm : lvl n = m) : MadeN w m n d r w' := by
  obtain ⟨a, cap, h1, h2, h3⟩ := h
  rw [hn, hm] at h1
  exact ⟨a, cap, h1, h2.is, h3⟩
variable {w : World} {a b : Option Addr} {p q : Nat} {c d e : List Ent}
theorem ofN {n m : Nat} (h : IsL w a p c) (hl : c.length = n) (hn : n ≤ 1000000) (hs : sortE c = d) (hm : lvl n = m) : Calls Try.prog 25 #[.slice a n p] w (MadeN w m n d) := by
  have := of_any a p c w h (by omega)
  rw [hl] at this
  exact this.mono fun r w' h => by rw [hs] at h; exact h.n (by rw [← hs, sortE_len, hl]) hm
theorem mergeN {i j : Int} {k n t m : Nat} (hc : IsL w a p c) (hd : IsL w b q d) (h1 : c.length = k) (h2 : d.length = n) (hn : k + n ≤ 1000000) (he : sortE (c ++ d) = e) (ht : k + n = t) (hm : lvl t = m) :
    Calls Try.prog 42 #[.agg #[.int .i64 i, .slice a k p], .agg #[.int .i64 j, .slice b n q]] w (MadeN w m t e) := by
  have := mergeB_any i j a b p q c d w hc hd (by omega)
  rw [h1, h2] at this
  exact this.mono fun r w' h => by rw [he] at h; exact h.n (by rw [← he, sortE_len, List.length_append, h1, h2, ht]) hm
theorem okN {n m : Nat} (h : IsL w a p d) (hs : Srt d) (hl : d.length = n) (hn : n ≤ 1000000) (hm : lvl n = m) :
    Calls Try.prog 26 #[.agg #[.int .i64 m, .slice a n p]] w fun e w' => e = .returned (.bool true) ∧ Below w.heap.size w w' := by
  have := okB_any a p d w h hs (by omega)
  rw [hl, hm] at this
  exact this
theorem sameN {k n : Nat} {B : Bool} (hc : IsL w a p c) (hd : IsL w b q d) (h1 : c.length = k) (h2 : d.length = n) (hB : decide (c = d) = B) :
    Calls Try.prog 13 #[.slice a k p, .slice b n q] w fun e w' => e = .returned (.bool B) ∧ Below w.heap.size w w' := by
  have := same_any a b p q c d w hc hd
  rw [h1, h2, hB] at this
  exact this.mono fun r w' h => ⟨h.1, h.2.below⟩
theorem Box2.on {S : Nat} {x y : Value} {w w' : World} (h : Box2 S x y w) (hw : Below w.heap.size w w') : Box2 S x y w' := h.below hw h.lt
/-- Its cells in every world that has grown. -/
theorem Box2.grows {S : Nat} {x y : Value} {w : World} (h : Box2 S x y w) (n : Nat) (os : Array Obj) : (grow (w.drewN n) os).cell? ⟨S, 0, none⟩ = some x ∧ (grow (w.drewN n) os).cell? ⟨S, 1, none⟩ = some y := by
  have := h.on (Grown.below ⟨n, os, rfl⟩)
  exact ⟨this.c0, this.c1⟩
theorem Box2.drews {S : Nat} {x y : Value} {w : World} (h : Box2 S x y w) (n : Nat) : (w.drewN n).cell? ⟨S, 0, none⟩ = some x ∧ (w.drewN n).cell? ⟨S, 1, none⟩ = some y := ⟨h.c0, h.c1⟩
end Go.Proofs.Ytchephglapnloaa

/- Both lists side by side, and a script that came in. -/
import Derived.Test.YtchephglapnloaaLsmPB
import Derived.Test.YtchephglapnloaaLsmY
import Derived.Test.YtchephglapnloaaLsmA
namespace Go.Proofs.Ytchephglapnloaa
open Go.RowKit Go.Lib Go.Sort
set_option linter.unusedVariables false

/-- A slice of calls: number j of call i is 'Z i j'. -/
structure IsOps (w : World) (a : Option Addr) (len : Nat) (Z : Nat → Nat → Int) : Prop where
  len_le : len ≤ 9223372036854775807
  elem : ∀ i, i < len → ∃ b off, a = some ⟨b, off, none⟩ ∧ b < w.heap.size ∧ w.cell? ⟨b, off + i * 3, none⟩ = some (.int .i64 (Z i 0)) ∧ w.cell? ⟨b, off + i * 3 + 1, none⟩ = some (.int .u64 (Z i 1)) ∧ w.cell? ⟨b, off + i * 3 + 2, none⟩ = some (.int .i64 (Z i 2))
/-- The program's list at S holds ls, the document's behind it ks. -/
structure Both (w : World) (S : Nat) (ls ks : List (List Ent)) (W : World) : Prop where
  l : Lsm W S S ls
  r : RLsm W S (S + 1) ks
  d : Below S w W
theorem Both.sz {w : World} {S : Nat} {ls ks : List (List Ent)} {W : World} (h : Both w S ls ks W) : S + 1 < W.heap.size := by
  obtain ⟨a, cap, bs, _, _, h3, _⟩ := h.r
  exact lt_of_block h3
theorem Both.on {w : World} {S : Nat} {ls ks : List (List Ent)} {W W' : World} (h : Both w S ls ks W) (hw : Below W.heap.size W W') : Both w S ls ks W' :=
  ⟨h.l.below hw, h.r.below hw, h.d.trans (hw.mono (by have := h.sz; omega))⟩
theorem lb_ref : ¬ LB 44 ∧ ¬ LB 53 ∧ ¬ LB 46 := by unfold LB; decide
theorem Both.turn {w : World} {S : Nat} {ls ls' ks : List (List Ent)} {W W' : World} (h : Both w S ls ks W) (t : Turned W S S ls' W') : Both w S ls' ks W' :=
  ⟨t.1, h.r.kept t.2.2 lb_ref.1 lb_ref.2.1 lb_ent, h.d.trans t.2.1⟩
theorem Both.rturn {w : World} {S : Nat} {ls ks ks' : List (List Ent)} {W W' : World} (h : Both w S ls ks W) (t : RTurned W S (S + 1) ks' W') : Both w S ls ks' W' :=
  ⟨h.l.kept (t.kept h.r) (by decide) (by decide) (by decide), t.1, h.d.trans ⟨t.2.os, t.2.tape, t.2.output, t.2.size, fun k hk => t.2.block k (by have := h.sz; omega) (by simp; omega)⟩⟩
theorem Both.op {w : World} {S O : Nat} {ls ls' ks : List (List Ent)} {W W' : World} {cs : Array Value} (h : Both w S ls ks W) (t : Turned W S S ls' W') (ho : W.heap[O]? = some (.cells cs 46 (0, 0))) : W'.heap[O]? = some (.cells cs 46 (0, 0)) :=
  (t.2.2.block O _ _ _ ho lb_ref.2.2).trans ho
theorem rlsm_new (w : World) (base : Nat) (h : base ≤ w.heap.size) : RLsm (w.alloc (.cells #[.slice none 0 0] 44)) base w.heap.size [] :=
  ⟨none, 0, [], rfl, h, heap_alloc_new w _, Nat.le_refl _, by unfold maxLen; omega, RefB.nil _ _ _⟩
theorem row3 {w : World} {O : Nat} {x y z : Value} {T : TypeId} (h : w.heap[O]? = some (.cells #[x, y, z] T (0, 0))) : w.cell? ⟨O, 0, none⟩ = some x ∧ w.cell? ⟨O, 1, none⟩ = some y ∧ w.cell? ⟨O, 2, none⟩ = some z := by
  refine ⟨?_, ?_, ?_⟩ <;> rw [cell_of_row _ _ _ _ _ _ h] <;> rfl
/-- What the round leaves. -/
def Held (ls : List (List Ent)) (i : Nat) : Prop := Fall ls ∧ ls.length ≤ i ∧ ls.flatten.length ≤ i
theorem Held.put {ls : List (List Ent)} {i : Nat} (h : Held ls i) (e : Ent) : Held (putL ls e) (i + 1) := by
  have f := putL_fall h.1 e
  have l : (putL ls e).flatten.length ≤ i + 1 := by rw [(putL_perm ls e).length_eq, List.length_append]; have := h.2.2; simp only [List.length_singleton]; omega
  exact ⟨f, by have := f.count; omega, l⟩
theorem Held.drop {ls : List (List Ent)} {i : Nat} (h : Held ls i) (id : Int) : Held (dropLs ls id) (i + 1) := by
  have f := dropLs_fall h.1 id
  have l := dropLs_len (ls := ls) id
  have := f.count
  exact ⟨f, by have := h.2.2; omega, by have := h.2.2; omega⟩
theorem Held.nil (i : Nat) : Held [] i := ⟨Fall.nil, by simp, by simp⟩
end Go.Proofs.Ytchephglapnloaa

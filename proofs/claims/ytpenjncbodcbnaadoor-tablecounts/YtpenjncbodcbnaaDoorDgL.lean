/- Slices of ints: what one holds, one of a call's own, append; frames by blocks. -/
import Derived.WalkKit
import Derived.Test.YtpenjncbodcbnaaDoorProg
import Derived.Lib.AppendZeros
import Derived.Lib.AppendZerosOnto
import Derived.Maps.AppendAt
import Derived.OwnWalk
import Derived.Laws.OwnMore
import Derived.Below
import Derived.Deep.QuietTactic
import Derived.BigQuiet
namespace Go.Proofs.YtpenjncbodcbnaaDoor
open Go.RowKit Go.Lib
set_option linter.unusedVariables false

abbrev wfI (a : Int) : Prop := (Lit.int .i64 a).wf = true
theorem wfI_of {a : Int} (h1 : -9223372036854775808 ≤ a) (h2 : a ≤ 9223372036854775807) : wfI a := by
  unfold wfI
  simp [Lit.wf, IntKind.min, IntKind.max, IntKind.bits, IntKind.signed]
  omega
theorem of_wfI {a : Int} (h : wfI a) : -9223372036854775808 ≤ a ∧ a ≤ 9223372036854775807 := by
  unfold wfI at h
  simp [Lit.wf, IntKind.min, IntKind.max, IntKind.bits, IntKind.signed] at h
  omega

/-- Nothing but blocks of X has turned. -/
structure Fr (X : Nat → Prop) (w w' : World) : Prop where
  os : w'.os = w.os
  tape : w'.tape = w.tape
  output : w'.output = w.output
  size : w.heap.size ≤ w'.heap.size
  block : ∀ k, k < w.heap.size → ¬ X k → w'.heap[k]? = w.heap[k]?
theorem Fr.refl (X : Nat → Prop) (w : World) : Fr X w w := ⟨rfl, rfl, rfl, Nat.le_refl _, fun _ _ _ => rfl⟩
theorem Fr.trans {X Y : Nat → Prop} {u v w : World} (h : Fr X u v) (k : Fr Y v w) (hY : ∀ j, Y j → X j ∨ u.heap.size ≤ j) : Fr X u w :=
  ⟨k.os.trans h.os, k.tape.trans h.tape, k.output.trans h.output, Nat.le_trans h.size k.size, fun j hj hx => (k.block j (Nat.lt_of_lt_of_le hj h.size) (fun hy => by rcases hY j hy with hy | hy; exact hx hy; omega)).trans (h.block j hj hx)⟩
theorem Fr.mono {X Y : Nat → Prop} {w w' : World} (h : Fr X w w') (hxy : ∀ j, X j → Y j) : Fr Y w w' := ⟨h.os, h.tape, h.output, h.size, fun j hj hy => h.block j hj (fun hx => hy (hxy j hx))⟩
theorem Fr.of_grown {row : Option Nat} {w w' : World} (h : w.grownBy w' row) : Fr (fun k => row = some k) w w' := ⟨h.os, h.tape, h.output, h.size, fun j hj hx => h.block j hj (fun e => hx e.symm)⟩
theorem Fr.below {X : Nat → Prop} {w w' : World} (h : Below w.heap.size w w') : Fr X w w' := ⟨h.os, h.tape, h.output, h.size, fun j hj _ => h.block j hj⟩
theorem Fr.toBelow {X : Nat → Prop} {w w' : World} (h : Fr X w w') {b : Nat} (hb : ∀ k, X k → b ≤ k) (hw : b ≤ w.heap.size) : Below b w w' := ⟨h.os, h.tape, h.output, h.size, fun j hj => h.block j (by omega) (fun hx => by have := hb j hx; omega)⟩
theorem Fr.setCell (X : Nat → Prop) (w : World) (B k : Nat) (v : Value) (hB : X B) : Fr X w (w.setCell ⟨B, k, none⟩ v) := ⟨rfl, rfl, rfl, by simp, fun j _ hj => heap_setCell_other _ _ j _ (fun e => hj (by rw [e]; exact hB))⟩
theorem Fr.alloc {X : Nat → Prop} {w w' : World} (h : Fr X w w') (o : Obj) : Fr X w (w'.alloc o) := h.trans (Fr.below (X := X) ((Below.refl _ _).alloc (Nat.le_refl _) _)) (fun j hj => .inl hj)
theorem Fr.drew {X : Nat → Prop} {w w' : World} (h : Fr X w w') : Fr X w w'.drew := ⟨h.os, h.tape, h.output, h.size, h.block⟩

/-- The ints' cells. -/
abbrev cz (d : List Int) : List Value := d.map (Value.int .i64)
theorem cz_one (d : List Int) : ∀ u ∈ cz d, u.oneCell' = true := by
  intro u hu
  obtain ⟨x, _, rfl⟩ := List.mem_map.1 hu
  rfl
theorem cz_at {d : List Int} {i : Nat} {x : Int} (h : d[i]? = some x) : (cz d)[i]? = some (.int .i64 x) := by simp [cz, h]

/-- A slice at a, of capacity cap, that holds d. -/
structure IsI (w : World) (a : Option Addr) (cap : Nat) (d : List Int) : Prop where
  le : d.length ≤ cap
  big : cap ≤ maxLen
  elem : ∀ i x, d[i]? = some x → ∃ b off, a = some ⟨b, off, none⟩ ∧ b < w.heap.size ∧ w.cell? ⟨b, off + i, none⟩ = some (.int .i64 x)

variable {w w' : World} {a : Option Addr} {cap base : Nat} {d c : List Int} {v : Value}

theorem IsI.nil (w : World) : IsI w none 0 [] := ⟨by simp, by simp, fun i x h => by simp at h⟩
theorem IsI.fr {X : Nat → Prop} (h : IsI w a cap d) (hw : Fr X w w') (hx : ∀ b off, a = some ⟨b, off, none⟩ → ¬ X b) : IsI w' a cap d :=
  ⟨h.le, h.big, fun i x hi => by
    obtain ⟨b, off, e, hb, h1⟩ := h.elem i x hi
    refine ⟨b, off, e, by have := hw.size; omega, ?_⟩
    rw [← h1]
    exact World.cell?_of_block (hw.block b hb (hx b off e))⟩
theorem IsI.below (h : IsI w a cap d) (hw : Below w.heap.size w w') : IsI w' a cap d := h.fr (Fr.below (X := fun _ => False) hw) (fun _ _ _ => id)
theorem IsI.len (h : IsI w a cap d) : d.length ≤ 9223372036854775807 := by
  have h1 := h.le
  have h2 := h.big
  unfold maxLen at h2
  omega
theorem IsI.take (h : IsI w a cap d) (k : Nat) : IsI w a cap (d.take k) :=
  ⟨by have := h.le; simp; omega, h.big, fun i x hx => h.elem i x (by
    rw [List.getElem?_take] at hx
    split at hx
    · exact hx
    · cases hx)⟩
theorem IsI.drop (h : IsI w a cap d) (k : Nat) (hk : k ≤ d.length) : IsI w (if cap = k then a else a.map (·.add k)) (cap - k) (d.drop k) :=
  ⟨by have := h.le; simp; omega, by have := h.big; unfold maxLen at *; omega, fun i x hx => by
    rw [List.getElem?_drop] at hx
    obtain ⟨b, off, e, hb, h1⟩ := h.elem _ x hx
    have hl := (List.getElem?_eq_some_iff.1 hx).1
    have := h.le
    refine ⟨b, off + k, ?_, hb, ?_⟩
    · rw [if_neg (by omega), e, Option.map_some, Addr.add_lit]
    · rw [← h1]; congr 2; omega⟩
theorem IsI.at (h : IsI w a cap d) {j : Nat} (hj : j < d.length) : ∃ b off, a = some ⟨b, off, none⟩ ∧ b < w.heap.size ∧ w.cell? ⟨b, off + j, none⟩ = some (.int .i64 (d.getD j 0)) := by
  have e : d[j]? = some (d.getD j 0) := by rw [List.getD, List.getElem?_eq_getElem hj]; rfl
  exact h.elem j _ e

/-- A slice of the call's own: it may be appended to. -/
def OwnI (w : World) (base : Nat) (v : Value) (d : List Int) : Prop := w.ownsRow base 3 1 v d.length (cz d)
theorem OwnI.nil (w : World) (base : Nat) : OwnI w base (.slice none 0 0) [] := World.ownsRow_nil w base _ _
theorem OwnI.isI (h : OwnI w base v d) : ∃ a cap, v = .slice a d.length cap ∧ IsI w a cap d := by
  obtain ⟨h1, h2⟩ := h
  rcases h2 with ⟨rfl, h0⟩ | ⟨g, cap, cur, rfl, hb, hg, hn, hc, hs, ht⟩
  · obtain rfl : d = [] := List.length_eq_zero_iff.1 h0
    exact ⟨none, 0, rfl, IsI.nil w⟩
  · have own : OwnI w base (.slice (some ⟨g, 0, none⟩) d.length cap) d := ⟨h1, .inr ⟨g, cap, cur, rfl, hb, hg, hn, hc, hs, ht⟩⟩
    refine ⟨some ⟨g, 0, none⟩, cap, rfl, hn, hc, fun i x hx => ⟨g, 0, rfl, lt_of_block hg, ?_⟩⟩
    have hi : i < d.length := (List.getElem?_eq_some_iff.1 hx).1
    rw [Nat.zero_add, World.ownsRow.cellAt own i (by omega), cz_at hx]
theorem OwnI.low (h : OwnI w base v d) {b' : Nat} (hb : b' ≤ base) : OwnI w b' v d := by
  obtain ⟨h1, h2⟩ := h
  refine ⟨h1, ?_⟩
  rcases h2 with h2 | ⟨g, cap, cur, r1, r2, r3⟩
  · exact .inl h2
  · exact .inr ⟨g, cap, cur, r1, by omega, r3⟩
theorem OwnI.of_block (h : OwnI w base v d) (hk : ∀ k, v.ownBlock = some k → w'.heap[k]? = w.heap[k]?) : OwnI w' base v d := by
  obtain ⟨h1, h2⟩ := h
  refine ⟨h1, ?_⟩
  rcases h2 with h2 | ⟨g, cap, cur, r1, r2, r3, r4⟩
  · exact .inl h2
  · exact .inr ⟨g, cap, cur, r1, r2, (hk g (by rw [r1]; rfl)).trans r3, r4⟩
theorem OwnI.rowLt (h : OwnI w base v d) {k : Nat} (hk : v.ownBlock = some k) : base ≤ k ∧ k < w.heap.size := World.ownsRow.lt h k hk
theorem OwnI.rowT (h : OwnI w base v d) {k : Nat} (hk : v.ownBlock = some k) : ∃ cs, w.heap[k]? = some (.cells cs 3 (0, 0)) := by
  obtain ⟨h1, h2⟩ := h
  rcases h2 with ⟨rfl, _⟩ | ⟨g, cap, cur, r1, r2, r3, r4⟩
  · cases hk
  · rw [r1] at hk
    injection hk with hk
    subst hk
    exact ⟨cur, r3⟩
theorem OwnI.fr {X : Nat → Prop} (h : OwnI w base v d) (hw : Fr X w w') (hx : ∀ k, v.ownBlock = some k → ¬ X k) : OwnI w' base v d :=
  h.of_block fun k hk => hw.block k (h.rowLt hk).2 (hx k hk)
theorem OwnI.below (h : OwnI w base v d) (hw : Below w.heap.size w w') : OwnI w' base v d := h.of_block fun k hk => hw.block k (h.rowLt hk).2
theorem OwnI.isIv (h : OwnI w base (.slice a d.length cap) d) : IsI w a cap d := by
  obtain ⟨a', cap', e, hi⟩ := h.isI
  injection e with e1 e2 e3
  rw [e1, e3]
  exact hi
/-- A literal of one. -/
theorem OwnI.one (w : World) (x : Int) (hb : base ≤ w.heap.size) : OwnI (w.alloc (.cells #[.int .i64 x] 3)) base (.slice (some ⟨w.heap.size, 0, none⟩) 1 1) [x] :=
  World.ownsRow_lit w #[.int .i64 x] 1 hb (by unfold maxLen; omega) rfl
theorem OwnI.lit (w : World) (l : List Int) (hb : base ≤ w.heap.size) (hl : l.length ≤ 1000) : OwnI (w.alloc (.cells (cz l).toArray 3)) base (.slice (some ⟨w.heap.size, 0, none⟩) l.length l.length) l :=
  World.ownsRow_lit w (cz l).toArray l.length hb (by unfold maxLen; omega) (by simp)
/-- Cut. -/
theorem OwnI.cut (h : OwnI w base (.slice a d.length cap) d) {k : Nat} (hk : k ≤ d.length) : OwnI w base (.slice a (d.take k).length cap) (d.take k) := by
  obtain ⟨h1, h2⟩ := h
  refine ⟨by simp, ?_⟩
  rcases h2 with ⟨e, h0⟩ | ⟨g, cap', cur, r1, r2, r3, r4, r5, r6, r7⟩
  · injection e with e1 e2 e3
    subst e1 e3
    exact .inl ⟨by simp; omega, by simp; omega⟩
  · injection r1 with e1 e2 e3
    subst e1 e3
    refine .inr ⟨g, cap, cur, rfl, r2, r3, by simp; omega, r5, r6, ?_⟩
    rw [List.length_take, Nat.min_eq_left hk, Nat.mul_one, cz, List.map_take]
    show _ = List.take k (cz d)
    rw [← r7, List.take_take, Nat.min_eq_left (by omega)]
/-- Stored into. -/
theorem OwnI.set {g : Nat} (h : OwnI w base (.slice (some ⟨g, 0, none⟩) d.length cap) d) (j : Nat) (x : Int) : OwnI (w.setCell ⟨g, j, none⟩ (.int .i64 x)) base (.slice (some ⟨g, 0, none⟩) (d.set j x).length cap) (d.set j x) := by
  have := (World.ownsRow.stored h j (.int .i64 x)).1
  unfold OwnI
  rw [List.length_set, cz, List.map_set]
  exact this
theorem OwnI.frozen {g : Nat} (h : OwnI w base (.slice (some ⟨g, 0, none⟩) d.length cap) d) (j : Nat) : w.frozen? ⟨g, j, none⟩ = false := World.ownsRow.frozenAt h j
theorem OwnI.addr (h : OwnI w base v d) (hd : d ≠ []) : ∃ g cap, v = .slice (some ⟨g, 0, none⟩) d.length cap := by
  rcases h.2 with ⟨_, h0⟩ | ⟨g, cap, cur, r1, _⟩
  · exact absurd (List.length_eq_zero_iff.1 h0) hd
  · exact ⟨g, cap, r1⟩

theorem infoI : ∃ i, Tryd.prog.info? 3 = some i ∧ i.zero = some (.int .i64 0) ∧ i.size = 1 ∧ i.bytes = 8 := by
  have h : (Tryd.prog.info? 3).map (fun i => (i.zero, i.size, i.bytes)) = some (some (.int .i64 0), 1, 8) := by kernel_rfl
  obtain ⟨i, h1, h2⟩ := Option.map_eq_some_iff.1 h
  simp at h2
  exact ⟨i, h1, h2.1, h2.2.1, h2.2.2⟩

/-- append(v, c...), v of the call's own. -/
theorem app_run (h : OwnI w base v d) (hc : IsI w a cap c) (hb : d.length + c.length ≤ 1000000) (hbase : base ≤ w.heap.size) (ty : TypeId) :
    ∃ v' w', (Builtin.append_ #[22, 22] ty #[v, .slice a c.length cap]).run Tryd.prog w = .ok v' w' ∧ OwnI w' base v' (d ++ c) ∧ w.grownBy w' v.ownBlock ∧ ∀ k, v'.ownBlock = some k → v.ownBlock = some k ∨ w.heap.size ≤ k := by
  obtain ⟨i, hi, hz, hs, hby⟩ := infoI
  by_cases e : a = none
  · subst e
    obtain rfl : c = [] := by
      cases c with
      | nil => rfl
      | cons x c => obtain ⟨b, off, h1, _⟩ := hc.elem 0 x rfl; cases h1
    refine ⟨v, w, ?_, by rw [List.append_nil]; exact h, ⟨rfl, rfl, rfl, Nat.le_refl _, fun _ _ _ => rfl⟩, fun k hk => .inl hk⟩
    rcases h.2 with ⟨rfl, h0⟩ | ⟨g, cap', cur, rfl, _, _, hnc, _⟩
    · simp [Builtin.append_, run_underlying Tryd.underlying22, sizeOf, typeInfo, hi, Builtin.lenOf, Builtin.firstCells]
    · simp [Builtin.append_, run_underlying Tryd.underlying22, sizeOf, typeInfo, hi, Builtin.lenOf, Builtin.firstCells, hnc, storeCells]
  · obtain ⟨ad, rfl⟩ := Option.ne_none_iff_exists'.1 e
    obtain ⟨v', w', h1, h2, h3, h4, h5⟩ := run_append_own_at (P := Tryd.prog) w base 22 ty 3 i _ 1 8 Tryd.underlying22 hi hz hs hby rfl (by omega) v d.length (cz d) h ad c.length cap (cz c) (by simp)
      (fun j u hj => by
        rw [List.getElem?_map] at hj
        obtain ⟨x, hx, rfl⟩ := Option.map_eq_some_iff.1 hj
        obtain ⟨b, off, e, _, h1⟩ := hc.elem j x hx
        cases e
        rw [← h1, Addr.add_lit]) (cz_one c) (by unfold maxLen; omega) (by omega) hbase
    refine ⟨v', w', h1, ?_, h3, ?_⟩
    · unfold OwnI
      rw [List.length_append, cz, List.map_append]
      exact h2
    · intro k hk
      rcases h5 with h5 | h5
      · exact .inl (by rw [← h5]; exact hk)
      · rw [h5] at hk
        injection hk with hk
        exact .inr (by omega)
end Go.Proofs.YtpenjncbodcbnaaDoor

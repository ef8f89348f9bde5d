/- Slices whose elements lie in so many cells each: what one holds, one of a call's own, append of one more. -/
import Derived.WalkKit
import Derived.Test.YtpenojbfeocjaaaDoorProg
import Derived.Lib.AppendZeros
import Derived.Lib.AppendZerosOnto
import Derived.Maps.AppendAt
import Derived.OwnWalk
import Derived.Laws.OwnMore
import Derived.Below
import Derived.Deep.QuietTactic
import Derived.BigQuiet
namespace Go.Proofs.YtpenojbfeocjaaaDoor
open Go.RowKit Go.Lib
set_option linter.unusedVariables false

/-- A kind of rows: how an element lies in its cells. -/
structure RowT (α : Type) where
  enc : α → List Value
  k : Nat
  et : TypeId
  st : TypeId
  z : Value
  nb : Nat
  kpos : 0 < k
  len : ∀ x, (enc x).length = k
  one : ∀ x, ∀ u ∈ enc x, u.oneCell' = true
  und : Tryd.prog.underlying st = some (.slice et)
  info : ∃ i, Tryd.prog.info? et = some i ∧ i.zero = some z ∧ i.size = k ∧ i.bytes = nb
  zs : z.cells.size = k
  small : nb ≤ 1000

section
variable {α : Type} {R : RowT α} {w w' : World} {a : Option Addr} {cap base : Nat} {d c : List α} {v : Value}

/-- The elements' cells, one behind the other. -/
def RowT.flat (R : RowT α) (d : List α) : List Value := d.flatMap R.enc
theorem flat_nil (R : RowT α) : R.flat [] = [] := rfl
theorem flat_cons (x : α) (d : List α) : R.flat (x :: d) = R.enc x ++ R.flat d := rfl
theorem flat_append (c d : List α) : R.flat (c ++ d) = R.flat c ++ R.flat d := by simp [RowT.flat]
theorem flat_len (d : List α) : (R.flat d).length = d.length * R.k := by
  induction d with
  | nil => simp [RowT.flat]
  | cons x d ih => rw [flat_cons, List.length_append, ih, R.len, List.length_cons, Nat.succ_mul]; omega
theorem flat_one (d : List α) : ∀ u ∈ R.flat d, u.oneCell' = true := by
  intro u hu
  obtain ⟨x, _, h⟩ := List.mem_flatMap.1 hu
  exact R.one x u h
theorem flat_at (d : List α) : ∀ (i : Nat) (x : α), d[i]? = some x → ∀ j u, (R.enc x)[j]? = some u → (R.flat d)[i * R.k + j]? = some u := by
  induction d with
  | nil => intro i x h; simp at h
  | cons y d ih =>
    intro i x h j u hu
    cases i with
    | zero =>
      simp at h; subst h
      have := (List.getElem?_eq_some_iff.1 hu).1
      rw [flat_cons, Nat.zero_mul, Nat.zero_add, List.getElem?_append_left this, hu]
    | succ i =>
      have := ih i x (by simpa using h) j u hu
      rw [flat_cons, List.getElem?_append_right (by rw [R.len, Nat.succ_mul]; omega), R.len, ← this]
      congr 1
      rw [Nat.succ_mul]; omega

/-- A slice at a, of capacity cap, that holds d. -/
structure IsG (R : RowT α) (w : World) (a : Option Addr) (cap : Nat) (d : List α) : Prop where
  le : d.length ≤ cap
  big : cap ≤ maxLen
  elem : ∀ j u, (R.flat d)[j]? = some u → ∃ b off, a = some ⟨b, off, none⟩ ∧ b < w.heap.size ∧ w.cell? ⟨b, off + j, none⟩ = some u

theorem IsG.nil (R : RowT α) (w : World) : IsG R w none 0 [] := ⟨by simp, by simp, fun i x h => by simp [flat_nil] at h⟩
theorem IsG.below (h : IsG R w a cap d) (hw : Below w.heap.size w w') : IsG R w' a cap d :=
  ⟨h.le, h.big, fun j u hu => by
    obtain ⟨b, off, e, hb, h1⟩ := h.elem j u hu
    exact ⟨b, off, e, by have := hw.size; omega, (hw.cell (p := ⟨b, off + j, none⟩) hb).trans h1⟩⟩
theorem IsG.len (h : IsG R w a cap d) : d.length ≤ 9223372036854775807 := by
  have h1 := h.le
  have h2 := h.big
  unfold maxLen at h2
  omega
/-- One element of it. -/
theorem IsG.at (h : IsG R w a cap d) {i : Nat} {x : α} (hi : d[i]? = some x) : ∃ b off, a = some ⟨b, off, none⟩ ∧ b < w.heap.size ∧ ∀ j u, (R.enc x)[j]? = some u → w.cell? ⟨b, off + (i * R.k + j), none⟩ = some u := by
  have h0 : 0 < (R.enc x).length := by rw [R.len]; exact R.kpos
  obtain ⟨b, off, e, hb, _⟩ := h.elem _ _ (flat_at d i x hi 0 _ (List.getElem?_eq_getElem h0))
  refine ⟨b, off, e, hb, fun j u hu => ?_⟩
  obtain ⟨b', off', e', _, hc⟩ := h.elem _ _ (flat_at d i x hi j u hu)
  rw [e] at e'
  cases e'
  exact hc
/-- What is behind the first. -/
theorem IsG.tail (h : IsG R w (some ⟨base, 0, none⟩) cap d) (hd : 0 < d.length) : IsG R w (if cap = 1 then some ⟨base, 0, none⟩ else some ⟨base, R.k, none⟩) (cap - 1) d.tail := by
  refine ⟨by have := h.le; simp; omega, by have := h.big; unfold maxLen at *; omega, fun j u hu => ?_⟩
  cases d with
  | nil => simp at hd
  | cons x d =>
    have hl := (List.getElem?_eq_some_iff.1 hu).1
    rw [flat_len, List.tail_cons] at hl
    have h1 : (R.flat (x :: d))[R.k + j]? = some u := by
      rw [flat_cons, List.getElem?_append_right (by rw [R.len]; omega), R.len, Nat.add_sub_cancel_left]
      exact hu
    obtain ⟨b, off, e, hb, hc⟩ := h.elem _ _ h1
    have hle := h.le
    have : cap ≠ 1 := by
      intro e; subst e
      have : d.length = 0 := by rw [List.length_cons] at hle; omega
      rw [this] at hl; omega
    cases e
    refine ⟨base, R.k, by rw [if_neg this], hb, ?_⟩
    rw [Nat.zero_add] at hc
    exact hc

/-- A slice of the call's own: it may be appended to. -/
def OwnG (R : RowT α) (w : World) (base : Nat) (v : Value) (d : List α) : Prop := w.ownsRow base R.et R.k v d.length (R.flat d)
theorem OwnG.nil (R : RowT α) (w : World) (base : Nat) : OwnG R w base (.slice none 0 0) [] := World.ownsRow_nil w base _ _
theorem OwnG.isG (h : OwnG R w base v d) : ∃ a cap, v = .slice a d.length cap ∧ IsG R w a cap d := by
  obtain ⟨h1, h2⟩ := h
  rcases h2 with ⟨rfl, h0⟩ | ⟨g, cap, cur, rfl, hb, hg, hn, hc, hs, ht⟩
  · obtain rfl : d = [] := List.length_eq_zero_iff.1 h0
    exact ⟨none, 0, rfl, IsG.nil R w⟩
  · have own : OwnG R w base (.slice (some ⟨g, 0, none⟩) d.length cap) d := ⟨h1, .inr ⟨g, cap, cur, rfl, hb, hg, hn, hc, hs, ht⟩⟩
    refine ⟨some ⟨g, 0, none⟩, cap, rfl, hn, hc, fun j u hu => ?_⟩
    have hj := (List.getElem?_eq_some_iff.1 hu).1
    rw [flat_len] at hj
    refine ⟨g, 0, rfl, lt_of_block hg, ?_⟩
    rw [Nat.zero_add, World.ownsRow.cellAt own j hj, hu]
theorem OwnG.made (w : World) (cur : Array Value) (cap : Nat) (hb : base ≤ w.heap.size) (hm : cap ≤ maxLen) (hs : cur.size = cap * R.k) : OwnG R (w.alloc (.cells cur R.et)) base (.slice (some ⟨w.heap.size, 0, none⟩) 0 cap) [] :=
  World.ownsRow_made w cur cap hb hm hs
theorem OwnG.low (h : OwnG R w base v d) {b' : Nat} (hb : b' ≤ base) : OwnG R w b' v d := by
  obtain ⟨h1, h2⟩ := h
  refine ⟨h1, ?_⟩
  rcases h2 with h2 | ⟨g, cap, cur, r1, r2, r3⟩
  · exact .inl h2
  · exact .inr ⟨g, cap, cur, r1, by omega, r3⟩
theorem OwnG.below (h : OwnG R w base v d) (hw : Below w.heap.size w w') : OwnG R w' base v d := by
  obtain ⟨h1, h2⟩ := h
  refine ⟨h1, ?_⟩
  rcases h2 with h2 | ⟨g, cap, cur, r1, r2, r3, r4⟩
  · exact .inl h2
  · exact .inr ⟨g, cap, cur, r1, r2, (hw.block g (lt_of_block r3)).trans r3, r4⟩
theorem bel1 (w : World) (o : Obj) : Below w.heap.size w (w.alloc o) := (Below.refl _ _).alloc (Nat.le_refl _) _
theorem alloc_sz (w : World) (o : Obj) : (w.alloc o).heap.size = w.heap.size + 1 := by unfold World.alloc; simp
theorem Below.tr {u v w : World} (h : Below u.heap.size u v) (k : Below v.heap.size v w) : Below u.heap.size u w := h.trans (k.mono h.size)
theorem cell_fresh (w : World) (cs : Array Value) (t : TypeId) (j : Nat) : (w.alloc (.cells cs t)).cell? ⟨w.heap.size, j, none⟩ = cs[j]? := cell_of_row _ _ _ cs t (0, 0) (heap_alloc_new w _)

/-- One more at the end of a slice of the call's own. -/
theorem OwnG.push (o : OwnG R w base v d) (x : α) (hd : d.length < 1000000) (hb : base ≤ w.heap.size) (ty : TypeId) :
    ∃ v' w', (Builtin.append_ #[R.st, R.st] ty #[v, .slice (some ⟨w.heap.size, 0, none⟩) 1 1]).run Tryd.prog (w.alloc (.cells (R.enc x).toArray R.et)) = .ok v' w' ∧ OwnG R w' base v' (d ++ [x]) ∧ Below base w w' := by
  obtain ⟨i, hi, hz, hs, hby⟩ := R.info
  have b1 := bel1 w (.cells (R.enc x).toArray R.et)
  have o1 := o.below b1
  have sz : (d.length + 1) * R.nb ≤ 1000000 * 1000 := Nat.mul_le_mul (by omega) R.small
  obtain ⟨v', w', h1, h2, h3, h4⟩ := run_append_own (P := Tryd.prog) (w.alloc (.cells (R.enc x).toArray R.et)) base R.st ty R.et i _ R.k R.nb R.und hi hz hs hby R.zs R.kpos v d.length (R.flat d) o1 ⟨w.heap.size, 0, none⟩ 1 1 (R.enc x) (by rw [R.len, Nat.one_mul])
    (fun j u hu => by
      rw [Addr.add_lit, Nat.zero_add, cell_fresh, List.getElem?_toArray, hu]) (R.one x) (by unfold maxLen; omega) (by omega) (by have := b1.size; omega)
  refine ⟨v', w', h1, ?_, ?_⟩
  · unfold OwnG
    rw [List.length_append, List.length_singleton, flat_append, show R.flat [x] = R.enc x by simp [RowT.flat]]
    exact h2
  · exact (b1.mono hb).grown h3 (by have := b1.size; omega) (fun k hk => (World.ownsRow.lt o1 k hk).1)
end

/-- An append whose run is known. -/
theorem wpList_app {ops : Array Oper} {rest : List Oper} {o : Oper} {a : Act} {Q : Exit → Act → World → Prop} (w : World) (hgd : o.guard = none) (s x : Operand) (t : TypeId)
    (ho : o.op = .call { callee := .builtin .append, args := #[s, x], argTypes := #[t, t] }) (vs vx : Value) (hs : a.eval s = vs) (hx : a.eval x = vx)
    (v' : Value) (w' : World) (hr : (Builtin.append_ #[t, t] o.type #[vs, vx]).run Tryd.prog w = .ok v' w') (h : wpList Tryd.prog ops Q rest (a.put o.dst v') w') : wpList Tryd.prog ops Q (o :: rest) a w := by
  refine wpList_plain hgd fun K hK => ?_
  exact Lib.wp_append_run w s x t t ho vs vx hs hx v' w' hr (hK _ _ h)

end Go.Proofs.YtpenojbfeocjaaaDoor

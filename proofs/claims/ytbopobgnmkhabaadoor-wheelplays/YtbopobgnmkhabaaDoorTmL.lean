/- Slices of entries: what one holds, a part of it, one of a call's own, and append. -/
import Derived.Test.YtbopobgnmkhabaaDoorTmG
import Derived.Lib.AppendZeros
import Derived.Laws.OwnMore
import Derived.Below
namespace Go.Proofs.YtbopobgnmkhabaaDoor
open Go.RowKit Go.Lib Go.Sort
set_option linter.unusedVariables false

/-- The entries' cells, one behind the other. -/
def flat (d : List Ent) : List Value := d.flatMap encE
@[simp] theorem flat_nil : flat [] = [] := rfl
theorem flat_cons (x : Ent) (d : List Ent) : flat (x :: d) = .int .u64 x.1 :: .int .i64 x.2 :: flat d := rfl
theorem flat_append (c d : List Ent) : flat (c ++ d) = flat c ++ flat d := by simp [flat]
theorem flat_len (d : List Ent) : (flat d).length = d.length * 2 := by
  induction d with
  | nil => rfl
  | cons x d ih => simp only [flat_cons, List.length_cons, ih]; omega
theorem flat_one (d : List Ent) : ∀ u ∈ flat d, u.oneCell' = true := by
  intro u hu
  obtain ⟨x, _, h⟩ := List.mem_flatMap.1 hu
  exact encE_one x u h
theorem flat_at (d : List Ent) : ∀ (i : Nat) (x : Ent), d[i]? = some x → (flat d)[i * 2]? = some (.int .u64 x.1) ∧ (flat d)[i * 2 + 1]? = some (.int .i64 x.2) := by
  induction d with
  | nil => intro i x h; simp at h
  | cons y d ih =>
    intro i x h
    cases i with
    | zero => simp at h; subst h; exact ⟨rfl, rfl⟩
    | succ i =>
      obtain ⟨h1, h2⟩ := ih i x (by simpa using h)
      rw [show (i + 1) * 2 = i * 2 + 1 + 1 by omega, flat_cons]
      exact ⟨by simpa using h1, by simpa using h2⟩
/-- Cell by cell. -/
theorem flat_get (d : List Ent) (f : Nat → Option Value) (h : ∀ i x, d[i]? = some x → f (i * 2) = some (.int .u64 x.1) ∧ f (i * 2 + 1) = some (.int .i64 x.2)) : ∀ j u, (flat d)[j]? = some u → f j = some u := by
  intro j u hj
  have hl : j < (flat d).length := (List.getElem?_eq_some_iff.1 hj).1
  rw [flat_len] at hl
  obtain ⟨x, hx⟩ : ∃ x, d[j / 2]? = some x := ⟨_, List.getElem?_eq_getElem (by omega)⟩
  obtain ⟨h1, h2⟩ := h _ x hx
  obtain ⟨g1, g2⟩ := flat_at d _ x hx
  by_cases e : j = j / 2 * 2
  · rw [← e] at h1 g1; rw [h1, ← g1, hj]
  · have e' : j / 2 * 2 + 1 = j := by omega
    rw [e'] at h2 g2; rw [h2, ← g2, hj]

/-- A slice at a, of capacity cap, that holds d. -/
structure IsL (w : World) (a : Option Addr) (cap : Nat) (d : List Ent) : Prop where
  le : d.length ≤ cap
  big : cap ≤ maxLen
  elem : ∀ i x, d[i]? = some x → ∃ b off, a = some ⟨b, off, none⟩ ∧ b < w.heap.size ∧ w.cell? ⟨b, off + i * 2, none⟩ = some (.int .u64 x.1) ∧ w.cell? ⟨b, off + i * 2 + 1, none⟩ = some (.int .i64 x.2)

variable {w w' : World} {a : Option Addr} {cap base : Nat} {d c : List Ent} {v : Value}

theorem IsL.nil (w : World) : IsL w none 0 [] := ⟨by simp, by simp, fun i x h => by simp at h⟩
theorem IsL.below (h : IsL w a cap d) (hw : Below w.heap.size w w') : IsL w' a cap d :=
  ⟨h.le, h.big, fun i x hx => by
    obtain ⟨b, off, e, hb, h1, h2⟩ := h.elem i x hx
    exact ⟨b, off, e, by have := hw.size; omega, (hw.cell (p := ⟨b, off + i * 2, none⟩) hb).trans h1, (hw.cell (p := ⟨b, off + i * 2 + 1, none⟩) hb).trans h2⟩⟩
theorem IsL.len (h : IsL w a cap d) : d.length ≤ 9223372036854775807 := by
  have h1 := h.le
  have h2 := h.big
  unfold maxLen at h2
  omega
/-- The first k. -/
theorem IsL.take (h : IsL w a cap d) (k : Nat) : IsL w a cap (d.take k) :=
  ⟨by have := h.le; simp; omega, h.big, fun i x hx => h.elem i x (by
    rw [List.getElem?_take] at hx
    split at hx
    · exact hx
    · cases hx)⟩
/-- What is behind the first k. -/
theorem IsL.drop (h : IsL w a cap d) (k : Nat) (hk : k ≤ d.length) : IsL w (if cap = k then a else a.map (·.add (k * 2))) (cap - k) (d.drop k) :=
  ⟨by have := h.le; simp; omega, by have := h.big; unfold maxLen at *; omega, fun i x hx => by
    rw [List.getElem?_drop] at hx
    obtain ⟨b, off, e, hb, h1, h2⟩ := h.elem _ x hx
    have hl := (List.getElem?_eq_some_iff.1 hx).1
    have := h.le
    refine ⟨b, off + k * 2, ?_, hb, ?_, ?_⟩
    · rw [if_neg (by omega), e, Option.map_some, Addr.add_lit]
    · rw [← h1]; congr 2; omega
    · rw [← h2]; congr 2; omega⟩

theorem IsL.tail {b off l : Nat} {y : Ent} (h : IsL w (some ⟨b, off, none⟩) l (y :: d)) : (l = 1 → IsL w (some ⟨b, off, none⟩) 0 d) ∧ (l ≠ 1 → IsL w (some ⟨b, off + 2, none⟩) (l - 1) d) := by
  have h1 := h.drop 1 (by simp)
  refine ⟨fun e => ?_, fun e => ?_⟩
  · subst e; simpa using h1
  · rw [if_neg e, Option.map_some, Addr.add_lit] at h1; simpa using h1

/-- A slice of the call's own: it may be appended to. -/
def OwnE (w : World) (base : Nat) (v : Value) (d : List Ent) : Prop := w.ownsRow base 33 2 v d.length (flat d)
theorem OwnE.nil (w : World) (base : Nat) : OwnE w base (.slice none 0 0) [] := World.ownsRow_nil w base _ _
theorem OwnE.isL (h : OwnE w base v d) : ∃ a cap, v = .slice a d.length cap ∧ IsL w a cap d := by
  obtain ⟨h1, h2⟩ := h
  rcases h2 with ⟨rfl, h0⟩ | ⟨g, cap, cur, rfl, hb, hg, hn, hc, hs, ht⟩
  · obtain rfl : d = [] := List.length_eq_zero_iff.1 h0
    exact ⟨none, 0, rfl, IsL.nil w⟩
  · have own : OwnE w base (.slice (some ⟨g, 0, none⟩) d.length cap) d := ⟨h1, .inr ⟨g, cap, cur, rfl, hb, hg, hn, hc, hs, ht⟩⟩
    refine ⟨some ⟨g, 0, none⟩, cap, rfl, hn, hc, fun i x hx => ?_⟩
    have hi : i < d.length := (List.getElem?_eq_some_iff.1 hx).1
    obtain ⟨g1, g2⟩ := flat_at d i x hx
    refine ⟨g, 0, rfl, lt_of_block hg, ?_, ?_⟩
    · rw [Nat.zero_add, World.ownsRow.cellAt own (i * 2) (by omega), g1]
    · rw [Nat.zero_add, World.ownsRow.cellAt own (i * 2 + 1) (by omega), g2]
/-- A slice that was made, with nothing in it. -/
theorem OwnE.made (w : World) (cur : Array Value) (cap : Nat) (hb : base ≤ w.heap.size) (hm : cap ≤ maxLen) (hs : cur.size = cap * 2) : OwnE (w.alloc (.cells cur 33)) base (.slice (some ⟨w.heap.size, 0, none⟩) 0 cap) [] :=
  World.ownsRow_made w cur cap hb hm hs
/-- A slice of one. -/
theorem OwnE.one (w : World) (x : Ent) (hb : base ≤ w.heap.size) : OwnE (w.alloc (.cells #[.int .u64 x.1, .int .i64 x.2] 33)) base (.slice (some ⟨w.heap.size, 0, none⟩) 1 1) [x] :=
  World.ownsRow_lit w #[.int .u64 x.1, .int .i64 x.2] 1 hb (by unfold maxLen; omega) rfl
theorem IsL.one (w : World) (x : Ent) : IsL (w.alloc (.cells #[.int .u64 x.1, .int .i64 x.2] 33)) (some ⟨w.heap.size, 0, none⟩) 1 [x] := by
  obtain ⟨a, cap, e, h⟩ := (OwnE.one w x (base := 0) (Nat.zero_le _)).isL
  cases e
  exact h
theorem OwnE.drewN (h : OwnE w base v d) (q : Nat) : OwnE (w.drewN q) base v d := h
theorem OwnE.low (h : OwnE w base v d) {b' : Nat} (hb : b' ≤ base) : OwnE w b' v d := by
  obtain ⟨h1, h2⟩ := h
  refine ⟨h1, ?_⟩
  rcases h2 with h2 | ⟨g, cap, cur, r1, r2, r3⟩
  · exact .inl h2
  · exact .inr ⟨g, cap, cur, r1, by omega, r3⟩
/-- What is laid or turned elsewhere does not touch it. -/
theorem OwnE.below (h : OwnE w base v d) (hw : Below w.heap.size w w') : OwnE w' base v d := by
  obtain ⟨h1, h2⟩ := h
  refine ⟨h1, ?_⟩
  rcases h2 with h2 | ⟨g, cap, cur, r1, r2, r3, r4⟩
  · exact .inl h2
  · exact .inr ⟨g, cap, cur, r1, r2, (hw.block g (lt_of_block r3)).trans r3, r4⟩

theorem infoE : ∃ i, Tryd.prog.info? 33 = some i ∧ i.zero = some (.agg #[.int .u64 0, .int .i64 0]) ∧ i.size = 2 ∧ i.bytes = 16 := by
  have h : (Tryd.prog.info? 33).map (fun i => (i.zero, i.size, i.bytes)) = some (some (.agg #[.int .u64 0, .int .i64 0]), 2, 16) := by kernel_rfl
  obtain ⟨i, h1, h2⟩ := Option.map_eq_some_iff.1 h
  simp at h2
  exact ⟨i, h1, h2.1, h2.2.1, h2.2.2⟩

/-- append(v, c...), v of the call's own. -/
theorem app_run (h : OwnE w base v d) (hc : IsL w a cap c) (hb : d.length + c.length ≤ 1000000) (hbase : base ≤ w.heap.size) (ty : TypeId) :
    ∃ v' w', (Builtin.append_ #[28, 28] ty #[v, .slice a c.length cap]).run Tryd.prog w = .ok v' w' ∧ OwnE w' base v' (d ++ c) ∧ w.grownBy w' v.ownBlock := by
  obtain ⟨i, hi, hz, hs, hby⟩ := infoE
  by_cases e : a = none
  · subst e
    obtain rfl : c = [] := by
      cases c with
      | nil => rfl
      | cons x c => obtain ⟨b, off, h1, _⟩ := hc.elem 0 x rfl; cases h1
    refine ⟨v, w, ?_, by rw [List.append_nil]; exact h, ⟨rfl, rfl, rfl, Nat.le_refl _, fun _ _ _ => rfl⟩⟩
    rcases h.2 with ⟨rfl, h0⟩ | ⟨g, cap', cur, rfl, _, _, hnc, _⟩
    · simp [Builtin.append_, run_underlying Tryd.underlying28, sizeOf, typeInfo, hi, Builtin.lenOf, Builtin.firstCells]
    · simp [Builtin.append_, run_underlying Tryd.underlying28, sizeOf, typeInfo, hi, Builtin.lenOf, Builtin.firstCells, hnc, storeCells]
  · obtain ⟨ad, rfl⟩ := Option.ne_none_iff_exists'.1 e
    obtain ⟨v', w', h1, h2, h3, h4⟩ := run_append_own (P := Tryd.prog) w base 28 ty 33 i _ 2 16 Tryd.underlying28 hi hz hs hby rfl (by omega) v d.length (flat d) h ad c.length cap (flat c) (by rw [flat_len])
      (flat_get c _ (fun i x hx => by
        obtain ⟨b, off, e, _, h1, h2⟩ := hc.elem i x hx
        cases e
        exact ⟨by rw [← h1, Addr.add_lit], by rw [← h2, Addr.add_lit, Nat.add_assoc]⟩)) (flat_one c) (by unfold maxLen; omega) (by omega) hbase
    refine ⟨v', w', h1, ?_, h3⟩
    unfold OwnE
    rw [List.length_append, flat_append]
    exact h2
theorem OwnE.grown (h : OwnE w base v d) {u : World} (hu : Below base u w) (hg : w.grownBy w' v.ownBlock) (hbase : base ≤ w.heap.size) : Below base u w' :=
  hu.grown hg hbase (fun k hk => (World.ownsRow.lt h k hk).1)

/-- Its row, as a sort sees it. -/
theorem OwnE.row (h : OwnE w base (.slice a d.length cap) d) (hd : d ≠ []) : ∃ g, a = some ⟨g, 0, none⟩ ∧ base ≤ g ∧ RE w g 0 d.toArray := by
  have hl : 0 < d.length := List.length_pos_iff.2 hd
  rcases h.2 with ⟨h1, h0⟩ | ⟨g, cap', cur, h1, hb, hg, hn, hc, hs, ht⟩
  · omega
  · simp only [Value.slice.injEq, true_and] at h1
    obtain ⟨rfl, rfl⟩ := h1
    refine ⟨g, rfl, hb, encE_len, encE_one, ?_, lt_of_block hg⟩
    intro j hj
    have hj' : j < d.length * 2 := by simpa using hj
    rw [get_flatK _ _ _ _ (by simpa using hj')]
    have hx : d[j / 2]? = some (d[j / 2]'(by omega)) := List.getElem?_eq_getElem (by omega)
    have e1 : d.toArray[j / 2]! = d[j / 2]'(by omega) := by rw [getElem!_pos d.toArray (j / 2) (by simpa using (by omega : j / 2 < d.length))]; rfl
    obtain ⟨g1, g2⟩ := flat_at d _ _ hx
    constructor
    · rw [Nat.zero_add, World.ownsRow.cellAt h j hj', e1]
      by_cases e : j = j / 2 * 2
      · have : j % 2 = 0 := by omega
        rw [← e] at g1
        rw [g1, this]; rfl
      · have e' : j / 2 * 2 + 1 = j := by omega
        have : j % 2 = 1 := by omega
        rw [e'] at g2
        rw [g2, this]; rfl
    · simp [World.frozen?, hg]
/-- .. and back from it. -/
theorem se_isL {w0 W : World} {blk : Nat} {d0 dk : Array Ent} (S : SE w0 blk 0 dk W) (R : RE w0 blk 0 d0) (hs : dk.size = d0.size) (hc : dk.size ≤ cap) (hb : cap ≤ maxLen) : IsL W (some ⟨blk, 0, none⟩) cap dk.toList := by
  refine ⟨by simpa using hc, hb, fun i x hx => ?_⟩
  have hi : i < dk.size := by simpa using (List.getElem?_eq_some_iff.1 hx).1
  have e : dk[i]! = x := by
    rw [getElem!_pos dk i hi]
    have := (List.getElem?_eq_some_iff.1 hx).2
    simpa using this
  have h0 := se_c0 S R hs hi
  have h1 := se_c1 S R hs hi
  rw [e] at h0 h1
  exact ⟨blk, 0, rfl, S.lt R.hblk, h0, h1⟩
/-- .. and back from it, as one of the call's own. -/
theorem se_own {w0 W : World} {blk : Nat} {dk : Array Ent} (S : SE w0 blk 0 dk W) (R : RE w0 blk 0 d.toArray) (o : OwnE w0 base (.slice (some ⟨blk, 0, none⟩) d.length cap) d) (hs : dk.size = d.length) :
    OwnE W base (.slice (some ⟨blk, 0, none⟩) dk.toList.length cap) dk.toList := by
  obtain ⟨h1, h2⟩ := o
  rcases h2 with ⟨h2, _⟩ | ⟨g, cap', cur, e, hb, hg, hn, hc, hz, ht⟩
  · simp at h2
  · simp only [Value.slice.injEq, Option.some.injEq, Addr.mk.injEq, and_true, true_and] at e
    obtain ⟨rfl, rfl⟩ := e
    have L := se_isL S R (cap := cap) (by simpa using hs) (by omega) hc
    obtain ⟨n, os, rfl⟩ := S
    have hW : (sortWorldK encE 2 w0 blk 0 n dk os).heap[blk]? = some (.cells (putCells id 0 (flatK encE 2 dk) cur) 33 (0, 0)) := by
      unfold sortWorldK
      rw [heap_grow_old _ _ (by rw [size_putRowK]; exact R.hblk)]
      show (w0.heap.modify blk _)[blk]? = _
      rw [Array.getElem?_modify, if_pos rfl, hg]
      rfl
    have hz' : (putCells id 0 (flatK encE 2 dk) cur).size = cap * 2 := by simp [putCells, hz]
    refine ⟨by rw [flat_len], .inr ⟨blk, cap, _, rfl, hb, hW, by simp; omega, hc, hz', ?_⟩⟩
    have hlen : dk.toList.length = dk.size := by simp
    apply List.ext_getElem?
    intro j
    by_cases hj : j < dk.toList.length * 2
    · have hu : (flat dk.toList)[j]? = some ((flat dk.toList)[j]'(by rw [flat_len]; exact hj)) := List.getElem?_eq_getElem _
      have := flat_get dk.toList (fun j => (sortWorldK encE 2 w0 blk 0 n dk os).cell? ⟨blk, j, none⟩) (fun i x hx => by
        obtain ⟨b, off, e, _, c1, c2⟩ := L.elem i x hx
        cases e
        simp only [Nat.zero_add] at c1 c2
        exact ⟨c1, c2⟩) j _ hu
      rw [hu, ← this, cell_of_row _ _ _ _ _ _ hW, List.getElem?_take_of_lt hj]
      simp
    · rw [List.getElem?_eq_none (by simp; omega), List.getElem?_eq_none (by rw [flat_len]; omega)]
theorem se_below {w0 W : World} {blk off B : Nat} {dk : Array Ent} (S : SE w0 blk off dk W) (hB : B ≤ blk) (hb : B ≤ w0.heap.size) : Below B w0 W := by
  obtain ⟨n, os, rfl⟩ := S
  refine ⟨rfl, rfl, rfl, SWK.le ⟨n, os, rfl⟩, fun k hk => ?_⟩
  unfold sortWorldK
  rw [heap_grow_old _ _ (by rw [size_putRowK]; show k < w0.heap.size; omega)]
  show (w0.heap.modify blk _)[k]? = _
  rw [Array.getElem?_modify, if_neg (by omega)]
end Go.Proofs.YtbopobgnmkhabaaDoor

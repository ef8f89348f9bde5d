import Derived.Test.YtdcacbjmbfppeaaGreatJB
import Derived.Lib.AppendZeros
import Derived.Laws.OwnMore
import Derived.Below
import Derived.Test.YtdcacbjmbfppeaaGreatJC
import Derived.Test.YtdcacbjmbfppeaaGreatJA
import Derived.Lib.SliceRun
import Derived.Deep.LoopGhost
/- Slices of entries: what one holds, a part of it, one of a call's own, and append. -/
namespace Go.Proofs.YtdcacbjmbfppeaaGreat
open Go.RowKit Go.Lib Go.Sort
set_option linter.unusedVariables false

/-- The entries' cells, one behind the other. -/
def flat (d : List Ent) : List Value := d.flatMap encE
@[simp] theorem flat_nil : flat [] = [] := rfl
theorem flat_cons (x : Ent) (d : List Ent) : flat (x :: d) = .int .u64 x.1 :: .int .i64 x.2 :: flat d := rfl
theorem flat_append (c d : List Ent) : flat (c ++ d) = flat c ++ flat d := by simp [flat]
theorem flat_len (d : List Ent) : (flat d).length = d.length * 2 := by
  induction d with
  | nil => rfl
  | cons x d ih => simp only [flat_cons, List.length_cons, ih]; omega
theorem flat_one (d : List Ent) : ∀ u ∈ flat d, u.oneCell' = true := by
  intro u hu
  obtain ⟨x, _, h⟩ := List.mem_flatMap.1 hu
  exact encE_one x u h
theorem flat_at (d : List Ent) : ∀ (i : Nat) (x : Ent), d[i]? = some x → (flat d)[i * 2]? = some (.int .u64 x.1) ∧ (flat d)[i * 2 + 1]? = some (.int .i64 x.2) := by
  induction d with
  | nil => intro i x h; simp at h
  | cons y d ih =>
    intro i x h
    cases i with
    | zero => simp at h; subst h; exact ⟨rfl, rfl⟩
    | succ i =>
      obtain ⟨h1, h2⟩ := ih i x (by simpa using h)
      rw [show (i + 1) * 2 = i * 2 + 1 + 1 by omega, flat_cons]
      exact ⟨by simpa using h1, by simpa using h2⟩
/-- Cell by cell. -/
theorem flat_get (d : List Ent) (f : Nat → Option Value) (h : ∀ i x, d[i]? = some x → f (i * 2) = some (.int .u64 x.1) ∧ f (i * 2 + 1) = some (.int .i64 x.2)) : ∀ j u, (flat d)[j]? = some u → f j = some u := by
  intro j u hj
  have hl : j < (flat d).length := (List.getElem?_eq_some_iff.1 hj).1
  rw [flat_len] at hl
  obtain ⟨x, hx⟩ : ∃ x, d[j / 2]? = some x := ⟨_, List.getElem?_eq_getElem (by omega)⟩
  obtain ⟨h1, h2⟩ := h _ x hx
  obtain ⟨g1, g2⟩ := flat_at d _ x hx
  by_cases e : j = j / 2 * 2
  · rw [← e] at h1 g1; rw [h1, ← g1, hj]
  · have e' : j / 2 * 2 + 1 = j := by omega
    rw [e'] at h2 g2; rw [h2, ← g2, hj]

/-- A slice at a, of capacity cap, that holds d. -/
structure IsL (w : World) (a : Option Addr) (cap : Nat) (d : List Ent) : Prop where
  le : d.length ≤ cap
  big : cap ≤ maxLen
  elem : ∀ i x, d[i]? = some x → ∃ b off, a = some ⟨b, off, none⟩ ∧ b < w.heap.size ∧ w.cell? ⟨b, off + i * 2, none⟩ = some (.int .u64 x.1) ∧ w.cell? ⟨b, off + i * 2 + 1, none⟩ = some (.int .i64 x.2)

variable {w w' : World} {a : Option Addr} {cap base : Nat} {d c : List Ent} {v : Value}

theorem IsL.nil (w : World) : IsL w none 0 [] := ⟨by simp, by simp, fun i x h => by simp at h⟩
theorem IsL.below (h : IsL w a cap d) (hw : Below w.heap.size w w') : IsL w' a cap d :=
  ⟨h.le, h.big, fun i x hx => by
    obtain ⟨b, off, e, hb, h1, h2⟩ := h.elem i x hx
    exact ⟨b, off, e, by have := hw.size; omega, (hw.cell (p := ⟨b, off + i * 2, none⟩) hb).trans h1, (hw.cell (p := ⟨b, off + i * 2 + 1, none⟩) hb).trans h2⟩⟩
theorem IsL.len (h : IsL w a cap d) : d.length ≤ 9223372036854775807 := by
  have h1 := h.le
  have h2 := h.big
  unfold maxLen at h2
  omega
/-- The first k. -/
theorem IsL.take (h : IsL w a cap d) (k : Nat) : IsL w a cap (d.take k) :=
  ⟨by have := h.le; simp; omega, h.big, fun i x hx => h.elem i x (by
    rw [List.getElem?_take] at hx
    split at hx
    · exact hx
    · cases hx)⟩
/-- What is behind the first k. -/
theorem IsL.drop (h : IsL w a cap d) (k : Nat) (hk : k ≤ d.length) : IsL w (if cap = k then a else a.map (·.add (k * 2))) (cap - k) (d.drop k) :=
  ⟨by have := h.le; simp; omega, by have := h.big; unfold maxLen at *; omega, fun i x hx => by
    rw [List.getElem?_drop] at hx
    obtain ⟨b, off, e, hb, h1, h2⟩ := h.elem _ x hx
    have hl := (List.getElem?_eq_some_iff.1 hx).1
    have := h.le
    refine ⟨b, off + k * 2, ?_, hb, ?_, ?_⟩
    · rw [if_neg (by omega), e, Option.map_some, Addr.add_lit]
    · rw [← h1]; congr 2; omega
    · rw [← h2]; congr 2; omega⟩

theorem IsL.tail {b off l : Nat} {y : Ent} (h : IsL w (some ⟨b, off, none⟩) l (y :: d)) : (l = 1 → IsL w (some ⟨b, off, none⟩) 0 d) ∧ (l ≠ 1 → IsL w (some ⟨b, off + 2, none⟩) (l - 1) d) := by
  have h1 := h.drop 1 (by simp)
  refine ⟨fun e => ?_, fun e => ?_⟩
  · subst e; simpa using h1
  · rw [if_neg e, Option.map_some, Addr.add_lit] at h1; simpa using h1

/-- A slice of the call's own: it may be appended to. -/
def OwnE (w : World) (base : Nat) (v : Value) (d : List Ent) : Prop := w.ownsRow base 34 2 v d.length (flat d)
theorem OwnE.nil (w : World) (base : Nat) : OwnE w base (.slice none 0 0) [] := World.ownsRow_nil w base _ _
theorem OwnE.isL (h : OwnE w base v d) : ∃ a cap, v = .slice a d.length cap ∧ IsL w a cap d := by
  obtain ⟨h1, h2⟩ := h
  rcases h2 with ⟨rfl, h0⟩ | ⟨g, cap, cur, rfl, hb, hg, hn, hc, hs, ht⟩
  · obtain rfl : d = [] := List.length_eq_zero_iff.1 h0
    exact ⟨none, 0, rfl, IsL.nil w⟩
  · have own : OwnE w base (.slice (some ⟨g, 0, none⟩) d.length cap) d := ⟨h1, .inr ⟨g, cap, cur, rfl, hb, hg, hn, hc, hs, ht⟩⟩
    refine ⟨some ⟨g, 0, none⟩, cap, rfl, hn, hc, fun i x hx => ?_⟩
    have hi : i < d.length := (List.getElem?_eq_some_iff.1 hx).1
    obtain ⟨g1, g2⟩ := flat_at d i x hx
    refine ⟨g, 0, rfl, lt_of_block hg, ?_, ?_⟩
    · rw [Nat.zero_add, World.ownsRow.cellAt own (i * 2) (by omega), g1]
    · rw [Nat.zero_add, World.ownsRow.cellAt own (i * 2 + 1) (by omega), g2]
/-- A slice that was made, with nothing in it. -/
theorem OwnE.made (w : World) (cur : Array Value) (cap : Nat) (hb : base ≤ w.heap.size) (hm : cap ≤ maxLen) (hs : cur.size = cap * 2) : OwnE (w.alloc (.cells cur 34)) base (.slice (some ⟨w.heap.size, 0, none⟩) 0 cap) [] :=
  World.ownsRow_made w cur cap hb hm hs
/-- A slice of one. -/
theorem OwnE.one (w : World) (x : Ent) (hb : base ≤ w.heap.size) : OwnE (w.alloc (.cells #[.int .u64 x.1, .int .i64 x.2] 34)) base (.slice (some ⟨w.heap.size, 0, none⟩) 1 1) [x] :=
  World.ownsRow_lit w #[.int .u64 x.1, .int .i64 x.2] 1 hb (by unfold maxLen; omega) rfl
theorem IsL.one (w : World) (x : Ent) : IsL (w.alloc (.cells #[.int .u64 x.1, .int .i64 x.2] 34)) (some ⟨w.heap.size, 0, none⟩) 1 [x] := by
  obtain ⟨a, cap, e, h⟩ := (OwnE.one w x (base := 0) (Nat.zero_le _)).isL
  cases e
  exact h
theorem OwnE.drewN (h : OwnE w base v d) (q : Nat) : OwnE (w.drewN q) base v d := h
theorem OwnE.low (h : OwnE w base v d) {b' : Nat} (hb : b' ≤ base) : OwnE w b' v d := by
  obtain ⟨h1, h2⟩ := h
  refine ⟨h1, ?_⟩
  rcases h2 with h2 | ⟨g, cap, cur, r1, r2, r3⟩
  · exact .inl h2
  · exact .inr ⟨g, cap, cur, r1, by omega, r3⟩
/-- What is laid or turned elsewhere does not touch it. -/
theorem OwnE.below (h : OwnE w base v d) (hw : Below w.heap.size w w') : OwnE w' base v d := by
  obtain ⟨h1, h2⟩ := h
  refine ⟨h1, ?_⟩
  rcases h2 with h2 | ⟨g, cap, cur, r1, r2, r3, r4⟩
  · exact .inl h2
  · exact .inr ⟨g, cap, cur, r1, r2, (hw.block g (lt_of_block r3)).trans r3, r4⟩

theorem infoE : ∃ i, Tryz.prog.info? 34 = some i ∧ i.zero = some (.agg #[.int .u64 0, .int .i64 0]) ∧ i.size = 2 ∧ i.bytes = 16 := by
  have h : (Tryz.prog.info? 34).map (fun i => (i.zero, i.size, i.bytes)) = some (some (.agg #[.int .u64 0, .int .i64 0]), 2, 16) := by kernel_rfl
  obtain ⟨i, h1, h2⟩ := Option.map_eq_some_iff.1 h
  simp at h2
  exact ⟨i, h1, h2.1, h2.2.1, h2.2.2⟩

/-- append(v, c...), v of the call's own. -/
theorem app_run (h : OwnE w base v d) (hc : IsL w a cap c) (hb : d.length + c.length ≤ 1000000) (hbase : base ≤ w.heap.size) (ty : TypeId) :
    ∃ v' w', (Builtin.append_ #[45, 45] ty #[v, .slice a c.length cap]).run Tryz.prog w = .ok v' w' ∧ OwnE w' base v' (d ++ c) ∧ w.grownBy w' v.ownBlock := by
  obtain ⟨i, hi, hz, hs, hby⟩ := infoE
  by_cases e : a = none
  · subst e
    obtain rfl : c = [] := by
      cases c with
      | nil => rfl
      | cons x c => obtain ⟨b, off, h1, _⟩ := hc.elem 0 x rfl; cases h1
    refine ⟨v, w, ?_, by rw [List.append_nil]; exact h, ⟨rfl, rfl, rfl, Nat.le_refl _, fun _ _ _ => rfl⟩⟩
    rcases h.2 with ⟨rfl, h0⟩ | ⟨g, cap', cur, rfl, _, _, hnc, _⟩
    · simp [Builtin.append_, run_underlying Tryz.underlying45, sizeOf, typeInfo, hi, Builtin.lenOf, Builtin.firstCells]
    · simp [Builtin.append_, run_underlying Tryz.underlying45, sizeOf, typeInfo, hi, Builtin.lenOf, Builtin.firstCells, hnc, storeCells]
  · obtain ⟨ad, rfl⟩ := Option.ne_none_iff_exists'.1 e
    obtain ⟨v', w', h1, h2, h3, h4⟩ := run_append_own (P := Tryz.prog) w base 45 ty 34 i _ 2 16 Tryz.underlying45 hi hz hs hby rfl (by omega) v d.length (flat d) h ad c.length cap (flat c) (by rw [flat_len])
      (flat_get c _ (fun i x hx => by
        obtain ⟨b, off, e, _, h1, h2⟩ := hc.elem i x hx
        cases e
        exact ⟨by rw [← h1, Addr.add_lit], by rw [← h2, Addr.add_lit, Nat.add_assoc]⟩)) (flat_one c) (by unfold maxLen; omega) (by omega) hbase
    refine ⟨v', w', h1, ?_, h3⟩
    unfold OwnE
    rw [List.length_append, flat_append]
    exact h2
theorem OwnE.grown (h : OwnE w base v d) {u : World} (hu : Below base u w) (hg : w.grownBy w' v.ownBlock) (hbase : base ≤ w.heap.size) : Below base u w' :=
  hu.grown hg hbase (fun k hk => (World.ownsRow.lt h k hk).1)

/-- Its row, as a sort sees it. -/
theorem OwnE.row (h : OwnE w base (.slice a d.length cap) d) (hd : d ≠ []) : ∃ g, a = some ⟨g, 0, none⟩ ∧ base ≤ g ∧ RE w g 0 d.toArray := by
  have hl : 0 < d.length := List.length_pos_iff.2 hd
  rcases h.2 with ⟨h1, h0⟩ | ⟨g, cap', cur, h1, hb, hg, hn, hc, hs, ht⟩
  · omega
  · simp only [Value.slice.injEq, true_and] at h1
    obtain ⟨rfl, rfl⟩ := h1
    refine ⟨g, rfl, hb, encE_len, encE_one, ?_, lt_of_block hg⟩
    intro j hj
    have hj' : j < d.length * 2 := by simpa using hj
    rw [get_flatK _ _ _ _ (by simpa using hj')]
    have hx : d[j / 2]? = some (d[j / 2]'(by omega)) := List.getElem?_eq_getElem (by omega)
    have e1 : d.toArray[j / 2]! = d[j / 2]'(by omega) := by rw [getElem!_pos d.toArray (j / 2) (by simpa using (by omega : j / 2 < d.length))]; rfl
    obtain ⟨g1, g2⟩ := flat_at d _ _ hx
    constructor
    · rw [Nat.zero_add, World.ownsRow.cellAt h j hj', e1]
      by_cases e : j = j / 2 * 2
      · have : j % 2 = 0 := by omega
        rw [← e] at g1
        rw [g1, this]; rfl
      · have e' : j / 2 * 2 + 1 = j := by omega
        have : j % 2 = 1 := by omega
        rw [e'] at g2
        rw [g2, this]; rfl
    · simp [World.frozen?, hg]
/-- .. and back from it. -/
theorem se_isL {w0 W : World} {blk : Nat} {d0 dk : Array Ent} (S : SE w0 blk 0 dk W) (R : RE w0 blk 0 d0) (hs : dk.size = d0.size) (hc : dk.size ≤ cap) (hb : cap ≤ maxLen) : IsL W (some ⟨blk, 0, none⟩) cap dk.toList := by
  refine ⟨by simpa using hc, hb, fun i x hx => ?_⟩
  have hi : i < dk.size := by simpa using (List.getElem?_eq_some_iff.1 hx).1
  have e : dk[i]! = x := by
    rw [getElem!_pos dk i hi]
    have := (List.getElem?_eq_some_iff.1 hx).2
    simpa using this
  have h0 := se_c0 S R hs hi
  have h1 := se_c1 S R hs hi
  rw [e] at h0 h1
  exact ⟨blk, 0, rfl, S.lt R.hblk, h0, h1⟩
/-- .. and back from it, as one of the call's own. -/
theorem se_own {w0 W : World} {blk : Nat} {dk : Array Ent} (S : SE w0 blk 0 dk W) (R : RE w0 blk 0 d.toArray) (o : OwnE w0 base (.slice (some ⟨blk, 0, none⟩) d.length cap) d) (hs : dk.size = d.length) :
    OwnE W base (.slice (some ⟨blk, 0, none⟩) dk.toList.length cap) dk.toList := by
  obtain ⟨h1, h2⟩ := o
  rcases h2 with ⟨h2, _⟩ | ⟨g, cap', cur, e, hb, hg, hn, hc, hz, ht⟩
  · simp at h2
  · simp only [Value.slice.injEq, Option.some.injEq, Addr.mk.injEq, and_true, true_and] at e
    obtain ⟨rfl, rfl⟩ := e
    have L := se_isL S R (cap := cap) (by simpa using hs) (by omega) hc
    obtain ⟨n, os, rfl⟩ := S
    have hW : (sortWorldK encE 2 w0 blk 0 n dk os).heap[blk]? = some (.cells (putCells id 0 (flatK encE 2 dk) cur) 34 (0, 0)) := by
      unfold sortWorldK
      rw [heap_grow_old _ _ (by rw [size_putRowK]; exact R.hblk)]
      show (w0.heap.modify blk _)[blk]? = _
      rw [Array.getElem?_modify, if_pos rfl, hg]
      rfl
    have hz' : (putCells id 0 (flatK encE 2 dk) cur).size = cap * 2 := by simp [putCells, hz]
    refine ⟨by rw [flat_len], .inr ⟨blk, cap, _, rfl, hb, hW, by simp; omega, hc, hz', ?_⟩⟩
    have hlen : dk.toList.length = dk.size := by simp
    apply List.ext_getElem?
    intro j
    by_cases hj : j < dk.toList.length * 2
    · have hu : (flat dk.toList)[j]? = some ((flat dk.toList)[j]'(by rw [flat_len]; exact hj)) := List.getElem?_eq_getElem _
      have := flat_get dk.toList (fun j => (sortWorldK encE 2 w0 blk 0 n dk os).cell? ⟨blk, j, none⟩) (fun i x hx => by
        obtain ⟨b, off, e, _, c1, c2⟩ := L.elem i x hx
        cases e
        simp only [Nat.zero_add] at c1 c2
        exact ⟨c1, c2⟩) j _ hu
      rw [hu, ← this, cell_of_row _ _ _ _ _ _ hW, List.getElem?_take_of_lt hj]
      simp
    · rw [List.getElem?_eq_none (by simp; omega), List.getElem?_eq_none (by rw [flat_len]; omega)]
theorem se_below {w0 W : World} {blk off B : Nat} {dk : Array Ent} (S : SE w0 blk off dk W) (hB : B ≤ blk) (hb : B ≤ w0.heap.size) : Below B w0 W := by
  obtain ⟨n, os, rfl⟩ := S
  refine ⟨rfl, rfl, rfl, SWK.le ⟨n, os, rfl⟩, fun k hk => ?_⟩
  unfold sortWorldK
  rw [heap_grow_old _ _ (by rw [size_putRowK]; show k < w0.heap.size; omega)]
  show (w0.heap.modify blk _)[k]? = _
  rw [Array.getElem?_modify, if_neg (by omega)]
end Go.Proofs.YtdcacbjmbfppeaaGreat

/- slices.Clone at entries; entry.Sort. -/
namespace Go.Proofs.YtdcacbjmbfppeaaGreat
open Go.RowKit Go.Lib Go.Sort
set_option linter.unusedVariables false

/-- A new slice that holds d; nothing old has turned. -/
def Made (w : World) (d : List Ent) (r : Ending) (w' : World) : Prop := ∃ a cap, r = .returned (.slice a d.length cap) ∧ OwnE w' w.heap.size (.slice a d.length cap) d ∧ Below w.heap.size w w'
/-- The same, where nobody will append to it. -/
def Gives (w : World) (d : List Ent) (r : Ending) (w' : World) : Prop := ∃ a cap, r = .returned (.slice a d.length cap) ∧ IsL w' a cap d ∧ Below w.heap.size w w'
theorem Made.gives {w w' : World} {d : List Ent} {r : Ending} (h : Made w d r w') : Gives w d r w' := by
  obtain ⟨a, cap, h1, h2, h3⟩ := h
  obtain ⟨a', cap', e, h4⟩ := h2.isL
  cases e
  exact ⟨a, cap, h1, h4, h3⟩

set_option maxHeartbeats 400000 in
theorem clone_any (a : Option Addr) (cap : Nat) (d : List Ent) (w : World) (h : IsL w a cap d) (hd : d.length ≤ 1000000) :
    Calls Tryz.prog 79 #[.slice a d.length cap] w (Made w d) := by
  have hl := h.len
  have q22 : ∀ (w : World) (a : Option Addr) (n c n' c' : Nat), (binOp .eql 45 (.slice a n c) (.slice none n' c')).run Tryz.prog w = .ok (.bool a.isNone) w := fun w a n c n' c' => Lib.run_eql_slice_nil w _ _ a n c n' c' Tryz.underlying45
  by_cases ha : a = none
  · subst ha
    obtain rfl : d = [] := by
      cases d with
      | nil => rfl
      | cons x d => obtain ⟨b, off, e, _⟩ := h.elem 0 x rfl; cases e
    go_enter Tryz.func79, Tryz.ntmps79
    go_wp2
    go_ret
    exact ⟨none, 0, rfl, OwnE.nil _ _, Below.refl _ _⟩
  · obtain ⟨ad, rfl⟩ := Option.ne_none_iff_exists'.1 ha
    obtain ⟨v', w', hr, own, gr⟩ := app_run (d := []) (c := d) (OwnE.made w #[] 0 (Nat.le_refl _) (by omega) rfl) (h.below ((Below.refl _ _).alloc (Nat.le_refl _) _)) (by simpa using hd) (by simp) 45
    have B : Aside (Below w.heap.size w w') := OwnE.grown (OwnE.made w #[] 0 (Nat.le_refl _) (by omega) rfl) ((Below.refl _ _).alloc (Nat.le_refl _) _) gr (by simp)
    have O : Aside (OwnE w' w.heap.size v' d) := own
    clear own gr h
    go_enter Tryz.func79, Tryz.ntmps79
    go_wp2_with (at_builtin; refine Lib.wpList_append_run _ rfl _ _ 45 45 rfl _ _ rfl rfl v' w' hr ?_)
    go_ret
    obtain ⟨a', cap', e, _⟩ := O.out.isL
    subst e
    exact ⟨a', cap', rfl, O.out, B.out⟩

set_option maxHeartbeats 400000 in
theorem stableFunc_none (p : Option Addr) (cap : Nat) (w : World) :
    Calls Tryz.prog 80 #[.slice p 0 cap, .func (.func 81) #[] #[]] w fun e w' => e = .returned (.tuple #[]) ∧ w' = w := by
  go_enter Tryz.func80, Tryz.ntmps80
  go_wp2_with fail
  refine (stable_none p cap _ w).mono ?_
  rintro e w1 ⟨rfl, rfl⟩
  go_wp2
  go_end0
  exact ⟨rfl, rfl⟩

set_option maxHeartbeats 400000 in
theorem stableFunc_any (blk off cap : Nat) (d : Array Ent) (w : World) (R : RE w blk off d) (hsz : d.size < 288230376151711744) :
    Calls Tryz.prog 80 #[.slice (some ⟨blk, off, none⟩) d.size cap, .func (.func 81) #[] #[]] w fun e w' => e = .returned (.tuple #[]) ∧
      ∃ d' : Array Ent, SE w blk off d' w' ∧ PermIn 0 d.size d d' ∧ SortedIn ltE 0 d.size d' := by
  have st := stable_any blk off cap d w R hsz
  clear R
  go_enter Tryz.func80, Tryz.ntmps80
  go_wp2_with fail
  refine st.mono ?_
  rintro e w1 ⟨rfl, d1, s1, p1, o1⟩
  have X : Aside (∃ d' : Array Ent, SE w blk off d' w1 ∧ PermIn 0 d.size d d' ∧ SortedIn ltE 0 d.size d') := ⟨d1, s1, p1, o1⟩
  clear s1 p1 o1
  go_wp2
  go_end0
  exact ⟨rfl, X.out⟩

set_option maxHeartbeats 400000 in
theorem sort_made (a : Option Addr) (cap : Nat) (d : List Ent) (w : World) (h : IsL w a cap d) (hd : d.length ≤ 1000000) :
    Calls Tryz.prog 56 #[.slice a d.length cap] w (Made w (sortE d)) := by
  have cl := clone_any a cap d w h hd
  go_enter Tryz.func56, Tryz.ntmps56
  go_wp2_with fail
  refine cl.mono ?_
  rintro e w1 ⟨a1, cap1, rfl, o1, b1⟩
  obtain ⟨a2, cap2, e2, l1⟩ := o1.isL
  cases e2
  by_cases hn : d = []
  · subst hn
    go_wp2_with fail
    refine (stableFunc_none a1 cap1 w1).mono ?_
    rintro e w2 ⟨rfl, rfl⟩
    have L : Aside (OwnE w2 w.heap.size (.slice a1 (sortE []).length cap1) (sortE [])) := by rw [sortE_id Srt.nil]; exact o1
    clear l1 o1
    go_wp2
    go_ret
    exact ⟨a1, cap1, by rw [sortE_len]; rfl, L.out, b1⟩
  · obtain ⟨g, rfl, hg, R⟩ := o1.row hn
    have st := stableFunc_any g 0 cap1 d.toArray w1 R (by simpa using (by omega : d.length < 288230376151711744))
    simp only [List.size_toArray] at st
    have l2 := l1.le
    have l3 := l1.big
    go_wp2_with fail
    refine st.mono ?_
    rintro e w2 ⟨rfl, d2, s2, p2, o2⟩
    have ez : d2.size = d.length := by simpa using p2.1
    have eq : d2.toList = sortE d := by
      have := sorted_unique_holds (lt := ltE) swoE totE d.toArray d2 (by simpa using p2) (by simpa using o2)
      exact this
    have L : Aside (OwnE w2 w.heap.size (.slice (some ⟨g, 0, none⟩) (sortE d).length cap1) (sortE d)) := by
      rw [← eq]
      exact se_own s2 R o1 ez
    have B : Aside (Below w.heap.size w w2) := b1.trans (se_below s2 hg (by have := b1.size; omega))
    clear s2 p2 o2 R l1 o1 b1 st
    go_wp2
    go_ret
    exact ⟨_, cap1, by rw [sortE_len]; rfl, L.out, B.out⟩
theorem sort_any (a : Option Addr) (cap : Nat) (d : List Ent) (w : World) (h : IsL w a cap d) (hd : d.length ≤ 1000000) :
    Calls Tryz.prog 56 #[.slice a d.length cap] w (Gives w (sortE d)) := (sort_made a cap d w h hd).mono fun _ _ h => Made.gives h
end Go.Proofs.YtdcacbjmbfppeaaGreat

/- sort.Search over a function that only reads: a place where its answer turns. -/
namespace Go.Proofs.YtdcacbjmbfppeaaGreat
open Go.RowKit Go.Lib Go.Sort
set_option linter.unusedVariables false

end Go.Proofs.YtdcacbjmbfppeaaGreat

/- The calls that only read slices of entries: Sorted, Smaller, Place; the document's Sorted, Same, Has, Place. -/
namespace Go.Proofs.YtdcacbjmbfppeaaGreat
open Go.RowKit Go.Lib Go.Sort
set_option linter.unusedVariables false

theorem less_grown (x y : Ent) (w : World) (n : Nat) (os : Array Obj) :
    Calls Tryz.prog 76 #[.agg #[.int .u64 x.1, .int .i64 x.2], .agg #[.int .u64 y.1, .int .i64 y.2]] (grow (w.drewN n) os) fun e w' => e = .returned (.bool (ltE x y)) ∧ ∃ p : GrownBy, w' = grow (w.drewN p.n) p.os :=
  Calls.grown_of (less_any x y _)
theorem refLess_grown (x y : Ent) (w : World) (n : Nat) (os : Array Obj) :
    Calls Tryz.prog 40 #[.agg #[.int .u64 x.1, .int .i64 x.2], .agg #[.int .u64 y.1, .int .i64 y.2]] (grow (w.drewN n) os) fun e w' => e = .returned (.bool (ltE x y)) ∧ ∃ p : GrownBy, w' = grow (w.drewN p.n) p.os :=
  Calls.grown_of (refLess_any x y _)
/-- Entry i, in every world that has grown. -/
theorem IsL.at {w : World} {a : Option Addr} {cap : Nat} {d : List Ent} (h : IsL w a cap d) {i : Nat} (hi : i < d.length) : ∃ b off, a = some ⟨b, off, none⟩ ∧ ∀ W, Grown w W → ∀ n os, (grow (W.drewN n) os).cell? ⟨b, off + i * 2, none⟩ = some (.int .u64 d[i].1) ∧ (grow (W.drewN n) os).cell? ⟨b, off + i * 2 + 1, none⟩ = some (.int .i64 d[i].2) := by
  obtain ⟨b, off, e, hb, h1, h2⟩ := h.elem i d[i] (List.getElem?_eq_getElem hi)
  refine ⟨b, off, e, fun W hW n os => ?_⟩
  have g : Grown w (grow (W.drewN n) os) := hW.trans ⟨n, os, rfl⟩
  exact ⟨(g.below.cell (p := ⟨b, off + i * 2, none⟩) hb).trans h1, (g.below.cell (p := ⟨b, off + i * 2 + 1, none⟩) hb).trans h2⟩


set_option maxHeartbeats 2000000 in
set_option maxRecDepth 100000 in
theorem sorted_any (a : Option Addr) (cap : Nat) (d : List Ent) (w : World) (h : IsL w a cap d) :
    Calls Tryz.prog 118 #[.slice a d.length cap] w fun e w' => e = .returned (.bool (srtB d)) ∧ Grown w w' := by
  have hl := h.len
  have H : Aside _ := h
  have mx := mixed
  clear h
  go_enter Tryz.func118, Tryz.ntmps118
  go_wp2
  go_loopg [3] (d.length + 1) (fun kx s3 wr => ∃ k : Nat, s3 = .int .i64 (k + 1 : Nat) ∧ (k < d.length ∨ k = 0) ∧ d.length - k ≤ kx ∧ Aside (Grown w wr) ∧ Aside (∀ i (hi : i + 1 < d.length), i < k → ltE d[i + 1] (d[i]'(by omega)) = false))
  case atStart => exact ⟨0, rfl, .inr rfl, by omega, Grown.refl w, (fun i _ h => absurd h (by omega) : ∀ i (hi : i + 1 < d.length), i < 0 → ltE d[i + 1] (d[i]'(by omega)) = false)⟩
  case round =>
    obtain ⟨k, rfl, hk, hkx, G, A⟩ := hrel
    by_cases hlt : k + 1 < d.length
    · have hz : (k : Int) + 1 < (d.length : Int) := by omega
      have hz0 : (k : Int) < (d.length : Int) := by omega
      have e1 : ((k : Int) + 1).toNat = k + 1 := by omega
      have p1 : (0 : Int) ≤ (k : Int) + 1 := by omega
      have wk : IntKind.i64.wrap (k : Int) = (k : Int) := by rw [IntKind.wrap_i64]; omega
      obtain ⟨b, off, ha, hc⟩ := H.out.at hlt
      obtain ⟨b', off', ha', hc'⟩ := H.out.at (show k < d.length by omega)
      obtain ⟨rfl, rfl⟩ : b' = b ∧ off' = off := by rw [ha] at ha'; cases ha'; exact ⟨rfl, rfl⟩
      subst ha
      have c1 := fun n os => (hc wr G.out n os).1
      have c2 := fun n os => (hc wr G.out n os).2
      have c3 := fun n os => (hc' wr G.out n os).1
      have c4 := fun n os => (hc' wr G.out n os).2
      clear hc hc' ha'
      obtain ⟨x, hx⟩ : ∃ x, d[k + 1] = x := ⟨_, rfl⟩
      obtain ⟨y, hy⟩ : ∃ y, d[k]'(by omega) = y := ⟨_, rfl⟩
      rw [hx] at c1 c2
      rw [hy] at c3 c4
      have HX : Hid _ := hx
      have HY : Hid _ := hy
      clear hx hy
      have lg := less_grown x y wr
      cases hL : ltE x y with
      | true =>
        simp only [hL] at lg
        go_wp2_with fail
        go_quiet_grown (first | (go_at_call 76; exact lg _ _))
        have G2 : Aside (Grown w (grow (wr.drewN nq) osq)) := G.out.trans ⟨nq, osq, rfl⟩
        clear c1 c2 c3 c4 G
        generalize grow (wr.drewN nq) osq = w2 at G2 ⊢
        go_wp2
        go_ret
        have := srtB_false (d := d) k hlt (by rw [HX.out, HY.out]; exact hL)
        exact ⟨by rw [this]; rfl, G2.out⟩
      | false =>
        simp only [hL] at lg
        go_wp2_with fail
        go_quiet_grown (first | (go_at_call 76; exact lg _ _))
        have G2 : Aside (Grown w (grow (wr.drewN nq) osq)) := G.out.trans ⟨nq, osq, rfl⟩
        clear c1 c2 c3 c4 G
        generalize grow (wr.drewN nq) osq = w2 at G2 ⊢
        go_wp2
        go_roundg (d.length - (k + 1))
        case measure => omega
        case rel =>
          refine ⟨k + 1, by go_num, by omega, Nat.le_refl _, G2, (fun i hi hik => ?_ : ∀ i (hi : i + 1 < d.length), i < k + 1 → ltE d[i + 1] (d[i]'(by omega)) = false)⟩
          by_cases e : i = k
          · subst e; rw [HX.out, HY.out]; exact hL
          · exact A.out i hi (by omega)
    · have hz : ¬ (k : Int) + 1 < (d.length : Int) := by omega
      go_wp2
      go_ret
      have := srtB_true (d := d) (fun i hi => A.out i hi (by omega))
      exact ⟨by rw [this]; rfl, G.out⟩

end Go.Proofs.YtdcacbjmbfppeaaGreat

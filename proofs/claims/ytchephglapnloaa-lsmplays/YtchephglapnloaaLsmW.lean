/- An own list in the heap: a row of blocks of falling levels; what a call may turn, by types. -/
import Derived.Test.YtchephglapnloaaEntM
import Derived.Test.YtchephglapnloaaBlkP
namespace Go.Proofs.Ytchephglapnloaa
open Go.RowKit Go.Lib Go.Sort
set_option linter.unusedVariables false

/-- Nothing but rows of these types has turned; memory may have grown. -/
structure Kept (S : TypeId → Prop) (w w' : World) : Prop where
  size : w.heap.size ≤ w'.heap.size
  block : ∀ (k : Nat) (cs : Array Value) (T : TypeId) (fr : Nat × Nat), w.heap[k]? = some (Obj.cells cs T fr) → ¬ S T → w'.heap[k]? = w.heap[k]?
theorem Kept.refl (S : TypeId → Prop) (w : World) : Kept S w w := ⟨Nat.le_refl _, fun _ _ _ _ _ _ => rfl⟩
theorem Kept.trans {S : TypeId → Prop} {u v w : World} (h : Kept S u v) (g : Kept S v w) : Kept S u w :=
  ⟨Nat.le_trans h.size g.size, fun k cs T fr hk hT => (g.block k cs T fr ((h.block k cs T fr hk hT).trans hk) hT).trans (h.block k cs T fr hk hT)⟩
theorem Kept.of_below {S : TypeId → Prop} {w w' : World} (h : Below w.heap.size w w') : Kept S w w' :=
  ⟨h.size, fun k cs T fr hk _ => h.block k (lt_of_block hk)⟩
theorem Kept.step {S : TypeId → Prop} {u v w : World} (h : Kept S u v) (g : Below v.heap.size v w) : Kept S u w := h.trans (Kept.of_below g)
theorem Kept.own {S : TypeId → Prop} {w w' : World} {base n k : Nat} {T : TypeId} {v : Value} {vs : List Value} (h : Kept S w w') (hT : ¬ S T) (o : w.ownsRow base T k v n vs) : w'.ownsRow base T k v n vs := by
  obtain ⟨h1, h2⟩ := o
  refine ⟨h1, ?_⟩
  rcases h2 with h2 | ⟨g, cap, cur, r1, r2, r3, r4⟩
  · exact .inl h2
  · exact .inr ⟨g, cap, cur, r1, r2, (h.block g _ _ _ r3 hT).trans r3, r4⟩
/-- A cell set in a row of such a type. -/
theorem Kept.set {S : TypeId → Prop} {w : World} {b : Nat} {cs : Array Value} {T : TypeId} {fr : Nat × Nat} (hb : w.heap[b]? = some (.cells cs T fr)) (hT : S T) {o : Nat} {sp} (u : Value) : Kept S w (w.setCell ⟨b, o, sp⟩ u) := by
  refine ⟨by simp [World.setCell], fun k ds U fr' hk hU => ?_⟩
  have : k ≠ b := by
    rintro rfl
    rw [hb] at hk
    simp only [Option.some.injEq, Obj.cells.injEq] at hk
    rw [← hk.2.1] at hU
    exact hU hT
  have := Below.heap_setCell w ⟨b, o, sp⟩ u k
  exact this ‹_›

/-- A block, and where its list lies. -/
structure Bk where
  d : List Ent
  p : Option Addr
  q : Nat
def encB (b : Bk) : List Value := [.int .i64 (lv b.d), .slice b.p b.d.length b.q]
def flatB (bs : List Bk) : List Value := bs.flatMap encB
@[simp] theorem flatB_nil : flatB [] = [] := rfl
theorem flatB_cons (b : Bk) (bs : List Bk) : flatB (b :: bs) = .int .i64 (lv b.d) :: .slice b.p b.d.length b.q :: flatB bs := rfl
theorem flatB_append (cs bs : List Bk) : flatB (cs ++ bs) = flatB cs ++ flatB bs := by simp [flatB]
theorem flatB_len : ∀ (bs : List Bk), (flatB bs).length = bs.length * 2
  | [] => rfl
  | b :: bs => by simp only [flatB_cons, List.length_cons, flatB_len bs]; omega
theorem flatB_one (bs : List Bk) : ∀ u ∈ flatB bs, u.oneCell' = true := by
  intro u hu
  obtain ⟨x, _, h⟩ := List.mem_flatMap.1 hu
  simp [encB] at h
  rcases h with rfl | rfl <;> rfl
theorem flatB_at : ∀ (bs : List Bk) (i : Nat) (b : Bk), bs[i]? = some b → (flatB bs)[i * 2]? = some (.int .i64 (lv b.d)) ∧ (flatB bs)[i * 2 + 1]? = some (.slice b.p b.d.length b.q)
  | [], i, b, h => by simp at h
  | x :: bs, 0, b, h => by simp at h; subst h; exact ⟨rfl, rfl⟩
  | x :: bs, i + 1, b, h => by
    obtain ⟨h1, h2⟩ := flatB_at bs i b (by simpa using h)
    rw [show (i + 1) * 2 = i * 2 + 1 + 1 by omega, flatB_cons]
    exact ⟨by simpa using h1, by simpa using h2⟩
theorem flatB_take (bs : List Bk) (k : Nat) : (flatB bs).take (k * 2) = flatB (bs.take k) := by
  by_cases h : k ≤ bs.length
  · conv => lhs; rw [← List.take_append_drop k bs, flatB_append]
    rw [List.take_append_of_le_length (by rw [flatB_len, List.length_take]; omega), List.take_of_length_le (by rw [flatB_len, List.length_take]; omega)]
  · rw [List.take_of_length_le (by rw [flatB_len]; omega), List.take_of_length_le (by omega)]
theorem flatB_drop (bs : List Bk) (k : Nat) : (flatB bs).drop (k * 2) = flatB (bs.drop k) := by
  by_cases h : k ≤ bs.length
  · conv => lhs; rw [← List.take_append_drop k bs, flatB_append]
    have : (flatB (bs.take k)).length = k * 2 := by rw [flatB_len, List.length_take]; omega
    rw [List.drop_append, List.drop_eq_nil_of_le (by omega), this]
    simp
  · rw [List.drop_eq_nil_of_le (by rw [flatB_len]; omega), List.drop_eq_nil_of_le (by omega)]
    rfl

/-- A row of the call's own of these blocks; their lists are of the call's own too. -/
structure RowB (T : TypeId) (w : World) (base : Nat) (v : Value) (bs : List Bk) : Prop where
  row : w.ownsRow base T 2 v bs.length (flatB bs)
  own : ∀ b ∈ bs, OwnE w base (.slice b.p b.d.length b.q) b.d
theorem RowB.nil (T : TypeId) (w : World) (base : Nat) : RowB T w base (.slice none 0 0) [] := ⟨World.ownsRow_nil w base _ _, fun b h => by simp at h⟩
theorem own_below {w w' : World} {base n k : Nat} {T : TypeId} {v : Value} {vs : List Value} (h : w.ownsRow base T k v n vs) (hw : Below w.heap.size w w') : w'.ownsRow base T k v n vs :=
  (Kept.of_below (S := fun _ => False) hw).own (fun h => h) h
theorem RowB.below {T : TypeId} {w w' : World} {base : Nat} {v : Value} {bs : List Bk} (h : RowB T w base v bs) (hw : Below w.heap.size w w') : RowB T w' base v bs :=
  ⟨own_below h.row hw, fun b hb => (h.own b hb).below hw⟩
theorem RowB.kept {S : TypeId → Prop} {T : TypeId} {w w' : World} {base : Nat} {v : Value} {bs : List Bk} (h : RowB T w base v bs) (hw : Kept S w w') (h1 : ¬ S T) (h2 : ¬ S 28) : RowB T w' base v bs :=
  ⟨hw.own h1 h.row, fun b hb => hw.own h2 (h.own b hb)⟩
theorem RowB.slice {T : TypeId} {w : World} {base : Nat} {v : Value} {bs : List Bk} (h : RowB T w base v bs) : ∃ a cap, v = .slice a bs.length cap ∧ bs.length ≤ cap ∧ cap ≤ maxLen := by
  rcases h.row.2 with ⟨h1, h0⟩ | ⟨g, cap, cur, h1, _, _, hn, hc, _⟩
  · exact ⟨none, 0, by rw [h1, h0], by omega, by simp [maxLen]⟩
  · exact ⟨some ⟨g, 0, none⟩, cap, h1, hn, hc⟩
/-- One of its blocks. -/
theorem RowB.at {T : TypeId} {w : World} {base n cap : Nat} {a : Option Addr} {bs : List Bk} (h : RowB T w base (.slice a n cap) bs) {i : Nat} (hi : i < bs.length) :
    ∃ g, a = some ⟨g, 0, none⟩ ∧ base ≤ g ∧ g < w.heap.size ∧ w.cell? ⟨g, i * 2, none⟩ = some (.int .i64 (lv bs[i].d)) ∧ w.cell? ⟨g, i * 2 + 1, none⟩ = some (.slice bs[i].p bs[i].d.length bs[i].q) := by
  rcases h.row.2 with ⟨h1, h0⟩ | ⟨g, cap', cur, h1, hb, hg, hn, hc, hs, ht⟩
  · omega
  · injection h1 with e1 e2 e3
    subst e1 e2 e3
    obtain ⟨f1, f2⟩ := flatB_at bs i bs[i] (List.getElem?_eq_getElem hi)
    exact ⟨g, rfl, hb, lt_of_block hg, by rw [World.ownsRow.cellAt h.row (i * 2) (by omega), f1], by rw [World.ownsRow.cellAt h.row (i * 2 + 1) (by omega), f2]⟩
theorem RowB.isBs {T : TypeId} {w : World} {base n cap : Nat} {a : Option Addr} {bs : List Bk} (h : RowB T w base (.slice a n cap) bs) : IsBs w a (bs.map Bk.d) := by
  obtain ⟨a', cap', e, h1, h2⟩ := h.slice
  unfold maxLen at h2
  refine ⟨by rw [List.length_map]; omega, fun i d hd => ?_⟩
  rw [List.getElem?_map] at hd
  obtain ⟨b, hb, rfl⟩ := Option.map_eq_some_iff.1 hd
  obtain ⟨hi, hb'⟩ := List.getElem?_eq_some_iff.1 hb
  obtain ⟨g, e1, _, hg, c0, c1⟩ := h.at hi
  rw [hb'] at c0 c1
  exact ⟨g, 0, b.p, b.q, lv b.d, e1, hg, by rw [Nat.zero_add]; exact c0, by rw [Nat.zero_add]; exact c1, (h.own b (List.mem_of_getElem? hb)).is⟩

/-- An own list at b: its blocks hold these lists. TL, TB: the types of the structure and of its blocks. -/
def LsmT (TL TB : TypeId) (w : World) (base b : Nat) (ls : List (List Ent)) : Prop :=
  ∃ (a : Option Addr) (cap : Nat) (bs : List Bk), bs.map Bk.d = ls ∧ base ≤ b ∧ w.heap[b]? = some (.cells #[.slice a bs.length cap] TL (0, 0)) ∧ RowB TB w base (.slice a bs.length cap) bs
theorem LsmT.below {TL TB : TypeId} {w w' : World} {base b : Nat} {ls : List (List Ent)} (h : LsmT TL TB w base b ls) (hw : Below w.heap.size w w') : LsmT TL TB w' base b ls := by
  obtain ⟨a, cap, bs, h1, h2, h3, h4⟩ := h
  exact ⟨a, cap, bs, h1, h2, (hw.block b (lt_of_block h3)).trans h3, h4.below hw⟩
theorem LsmT.kept {S : TypeId → Prop} {TL TB : TypeId} {w w' : World} {base b : Nat} {ls : List (List Ent)} (h : LsmT TL TB w base b ls) (hw : Kept S w w') (h0 : ¬ S TL) (h1 : ¬ S TB) (h2 : ¬ S 28) : LsmT TL TB w' base b ls := by
  obtain ⟨a, cap, bs, e1, e2, e3, e4⟩ := h
  exact ⟨a, cap, bs, e1, e2, (hw.block b _ _ _ e3 h0).trans e3, e4.kept hw h1 h2⟩
theorem LsmT.lt {TL TB : TypeId} {w : World} {base b : Nat} {ls : List (List Ent)} (h : LsmT TL TB w base b ls) : base ≤ b ∧ b < w.heap.size := by
  obtain ⟨a, cap, bs, h1, h2, h3, h4⟩ := h
  exact ⟨h2, lt_of_block h3⟩
/-- What its cell holds. -/
theorem LsmT.open {TL TB : TypeId} {w : World} {base b : Nat} {ls : List (List Ent)} (h : LsmT TL TB w base b ls) :
    ∃ (a : Option Addr) (cap : Nat), w.cell? ⟨b, 0, none⟩ = some (.slice a ls.length cap) ∧ ls.length ≤ cap ∧ cap ≤ maxLen ∧ b < w.heap.size ∧ base ≤ b ∧ IsBs w a ls ∧
      ∃ bs : List Bk, bs.map Bk.d = ls ∧ RowB TB w base (.slice a ls.length cap) bs := by
  obtain ⟨a, cap, bs, rfl, h2, h3, h4⟩ := h
  obtain ⟨a', cap', e, k1, k2⟩ := h4.slice
  injection e with e1 e2 e3
  subst e3
  rw [List.length_map]
  exact ⟨a, cap, by rw [cell_of_row _ _ _ _ _ _ h3]; rfl, k1, k2, lt_of_block h3, h2, h4.isBs, bs, rfl, h4⟩
theorem setCell_row {w : World} {b : Nat} {cs : Array Value} {T : TypeId} {fr : Nat × Nat} (h : w.heap[b]? = some (.cells cs T fr)) (u : Value) : (w.setCell ⟨b, 0, none⟩ u).heap[b]? = some (.cells (cs.setIfInBounds 0 u) T fr) := by
  rw [setCell_eq_setRow w b 0 cs T fr u h]
  exact setRow_heap w b cs _ T fr h
theorem RowB.setCell {T : TypeId} {w : World} {base b : Nat} {v : Value} {bs : List Bk} (h : RowB T w base v bs) {cs : Array Value} {TL : TypeId} {fr : Nat × Nat} (hb : w.heap[b]? = some (.cells cs TL fr)) (h1 : T ≠ TL) (h2 : 28 ≠ TL) (u : Value) : RowB T (w.setCell ⟨b, 0, none⟩ u) base v bs :=
  h.kept (S := fun X => X = TL) (Kept.set (S := fun X => X = TL) hb rfl u) h1 h2
/-- The cell of an own list set to another row. -/
theorem LsmT.set {TL TB : TypeId} {w : World} {base b : Nat} {v : Value} {bs : List Bk} (h0 : base ≤ b) (hb : w.heap[b]? = some (.cells #[v] TL (0, 0))) (h1 : TB ≠ TL) (h2 : 28 ≠ TL) {a : Option Addr} {cap n : Nat} (hn : bs.length = n) (h : RowB TB w base (.slice a n cap) bs) :
    LsmT TL TB (w.setCell ⟨b, 0, none⟩ (.slice a n cap)) base b (bs.map Bk.d) := by
  subst hn
  exact ⟨a, cap, bs, rfl, h0, by rw [setCell_row hb]; rfl, h.setCell hb h1 h2 _⟩
end Go.Proofs.Ytchephglapnloaa

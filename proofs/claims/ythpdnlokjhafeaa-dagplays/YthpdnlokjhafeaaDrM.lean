/- The document's dag in the heap: rows, each a number and a list. -/
import Derived.Test.YthpdnlokjhafeaaDgO
namespace Go.Proofs.Ythpdnlokjhafeaa
open Go.RowKit Go.Lib
set_option linter.unusedVariables false

/-- A row: who waits, the slice of whom it waits for, and what that holds. -/
structure Rw where
  id : Int
  v : Value
  ps : List Int
def fl (R : List Rw) : List Value := R.flatMap fun r => [.int .i64 r.id, r.v]
theorem fl_cons (r : Rw) (R : List Rw) : fl (r :: R) = .int .i64 r.id :: r.v :: fl R := rfl
theorem fl_append (c d : List Rw) : fl (c ++ d) = fl c ++ fl d := by simp [fl]
theorem fl_len (d : List Rw) : (fl d).length = d.length * 2 := by
  induction d with
  | nil => rfl
  | cons x d ih => simp only [fl_cons, List.length_cons, ih]; omega
theorem fl_at (d : List Rw) : ∀ (i : Nat) (x : Rw), d[i]? = some x → (fl d)[i * 2]? = some (.int .i64 x.id) ∧ (fl d)[i * 2 + 1]? = some x.v := by
  induction d with
  | nil => intro i x h; simp at h
  | cons y d ih =>
    intro i x h
    cases i with
    | zero => simp at h; subst h; exact ⟨rfl, rfl⟩
    | succ i =>
      obtain ⟨h1, h2⟩ := ih i x (by simpa using h)
      rw [show (i + 1) * 2 = i * 2 + 1 + 1 by omega, fl_cons]
      exact ⟨by simpa using h1, by simpa using h2⟩
theorem fl_get (d : List Rw) (f : Nat → Option Value) (h : ∀ i x, d[i]? = some x → f (i * 2) = some (.int .i64 x.id) ∧ f (i * 2 + 1) = some x.v) : ∀ j u, (fl d)[j]? = some u → f j = some u := by
  intro j u hj
  have hl : j < (fl d).length := (List.getElem?_eq_some_iff.1 hj).1
  rw [fl_len] at hl
  obtain ⟨x, hx⟩ : ∃ x, d[j / 2]? = some x := ⟨_, List.getElem?_eq_getElem (by omega)⟩
  obtain ⟨h1, h2⟩ := h _ x hx
  obtain ⟨g1, g2⟩ := fl_at d _ x hx
  by_cases e : j = j / 2 * 2
  · rw [← e] at h1 g1; rw [h1, ← g1, hj]
  · have e' : j / 2 * 2 + 1 = j := by omega
    rw [e'] at h2 g2; rw [h2, ← g2, hj]
variable {w w' u : World} {X X' Y Y' Z : Nat → Prop} {a : Option Addr} {cap n base : Nat} {v : Value}
/-- A slice that lies in Y and holds d. -/
def Sl (w : World) (Y : Nat → Prop) (v : Value) (d : List Int) : Prop := ∃ a cap, v = .slice a d.length cap ∧ IsI w a cap d ∧ (d ≠ [] → ∀ b off, a = some ⟨b, off, none⟩ → Y b ∧ b < w.heap.size)
theorem Sl.fr {d : List Int} (h : Sl w Y v d) (hf : Fr Z w w') (hz : ∀ k, Y k → ¬ Z k) : Sl w' Y v d := by
  obtain ⟨a, cap, e, q, hy⟩ := h
  refine ⟨a, cap, e, ⟨q.le, q.big, fun i x hx => ?_⟩, fun hd b off ha => ⟨(hy hd b off ha).1, by have := (hy hd b off ha).2; have := hf.size; omega⟩⟩
  obtain ⟨b, off, ea, hb, hc⟩ := q.elem i x hx
  have hd : d ≠ [] := fun e => by rw [e] at hx; simp at hx
  refine ⟨b, off, ea, by have := hf.size; omega, ?_⟩
  rw [← hc]
  exact World.cell?_of_block (hf.block b hb (hz b (hy hd b off ea).1))
theorem Sl.mono {d : List Int} (h : Sl w Y v d) (hy : ∀ k, Y k → Y' k) : Sl w Y' v d := by
  obtain ⟨a, cap, e, q, h⟩ := h
  exact ⟨a, cap, e, q, fun hd b off ha => ⟨hy b (h hd b off ha).1, (h hd b off ha).2⟩⟩
theorem Sl.below {d : List Int} (h : Sl w Y v d) (hb : Below w.heap.size w w') : Sl w' Y v d := h.fr (Fr.below (X := fun _ => False) hb) (fun _ _ => id)
theorem OwnI.sl {d : List Int} (o : OwnI w base v d) (hy : ∀ k, v.ownBlock = some k → Y k) : Sl w Y v d := by
  obtain ⟨a, cap, e, q⟩ := o.isI
  refine ⟨a, cap, e, q, fun hd b off ha => ?_⟩
  subst e ha
  exact ⟨hy b rfl, (o.rowLt rfl).2⟩
/-- Rows at a. -/
structure IsR (w : World) (Y : Nat → Prop) (a : Option Addr) (cap : Nat) (R : List Rw) : Prop where
  le : R.length ≤ cap
  big : cap ≤ maxLen
  elem : ∀ i r, R[i]? = some r → ∃ b off, a = some ⟨b, off, none⟩ ∧ b < w.heap.size ∧ Y b ∧ w.cell? ⟨b, off + i * 2, none⟩ = some (.int .i64 r.id) ∧ w.cell? ⟨b, off + i * 2 + 1, none⟩ = some r.v
theorem IsR.nil (w : World) (Y : Nat → Prop) : IsR w Y none 0 [] := ⟨by simp, by simp, fun i x h => by simp at h⟩
theorem IsR.fr {R : List Rw} (h : IsR w Y a cap R) (hf : Fr Z w w') (hz : ∀ k, Y k → ¬ Z k) : IsR w' Y a cap R :=
  ⟨h.le, h.big, fun i r hr => by
    obtain ⟨b, off, e, hb, hy, h1, h2⟩ := h.elem i r hr
    have eb := hf.block b hb (hz b hy)
    exact ⟨b, off, e, by have := hf.size; omega, hy, (World.cell?_of_block (a := ⟨b, off + i * 2, none⟩) eb).trans h1, (World.cell?_of_block (a := ⟨b, off + i * 2 + 1, none⟩) eb).trans h2⟩⟩
theorem IsR.mono {R : List Rw} (h : IsR w Y a cap R) (hy : ∀ k, Y k → Y' k) : IsR w Y' a cap R :=
  ⟨h.le, h.big, fun i r hr => by
    obtain ⟨b, off, e, hb, h0, h1, h2⟩ := h.elem i r hr
    exact ⟨b, off, e, hb, hy b h0, h1, h2⟩⟩
theorem IsR.take {R : List Rw} (h : IsR w Y a cap R) (k : Nat) : IsR w Y a cap (R.take k) :=
  ⟨by have := h.le; simp; omega, h.big, fun i x hx => h.elem i x (by
    rw [List.getElem?_take] at hx
    split at hx
    · exact hx
    · cases hx)⟩
theorem IsR.drop {R : List Rw} (h : IsR w Y a cap R) (k : Nat) (hk : k ≤ R.length) : IsR w Y (if cap = k then a else a.map (·.add (k * 2))) (cap - k) (R.drop k) :=
  ⟨by have := h.le; simp; omega, by have := h.big; unfold maxLen at *; omega, fun i x hx => by
    rw [List.getElem?_drop] at hx
    obtain ⟨b, off, e, hb, hy, h1, h2⟩ := h.elem _ x hx
    have hl := (List.getElem?_eq_some_iff.1 hx).1
    have := h.le
    refine ⟨b, off + k * 2, ?_, hb, hy, ?_, ?_⟩
    · rw [if_neg (by omega), e, Option.map_some, Addr.add_lit]
    · rw [← h1]; congr 2; omega
    · rw [← h2]; congr 2; omega⟩
/-- Rows of the call's own. -/
def OwnR (w : World) (base : Nat) (v : Value) (R : List Rw) : Prop := w.ownsRow base 55 2 v R.length (fl R)
theorem OwnR.nil (w : World) (base : Nat) : OwnR w base (.slice none 0 0) [] := World.ownsRow_nil w base _ _
theorem OwnR.empty (w : World) (hb : base ≤ w.heap.size) : OwnR (w.alloc (.cells #[] 55)) base (.slice (some ⟨w.heap.size, 0, none⟩) 0 0) [] := World.ownsRow_made w #[] 0 hb (Nat.zero_le _) rfl
theorem OwnR.one (w : World) (r : Rw) (hb : base ≤ w.heap.size) : OwnR (w.alloc (.cells #[.int .i64 r.id, r.v] 55)) base (.slice (some ⟨w.heap.size, 0, none⟩) 1 1) [r] :=
  World.ownsRow_lit w #[.int .i64 r.id, r.v] 1 hb (by unfold maxLen; omega) rfl
theorem OwnR.rowLt {R : List Rw} (h : OwnR w base v R) {k : Nat} (hk : v.ownBlock = some k) : base ≤ k ∧ k < w.heap.size := World.ownsRow.lt h k hk
theorem OwnR.of_block {R : List Rw} (h : OwnR w base v R) (hk : ∀ k, v.ownBlock = some k → w'.heap[k]? = w.heap[k]?) : OwnR w' base v R := by
  obtain ⟨h1, h2⟩ := h
  refine ⟨h1, ?_⟩
  rcases h2 with h2 | ⟨g, cap, cur, r1, r2, r3, r4⟩
  · exact .inl h2
  · exact .inr ⟨g, cap, cur, r1, r2, (hk g (by rw [r1]; rfl)).trans r3, r4⟩
theorem OwnR.fr {R : List Rw} (h : OwnR w base v R) (hf : Fr Z w w') (hz : ∀ k, v.ownBlock = some k → ¬ Z k) : OwnR w' base v R := h.of_block fun k hk => hf.block k (h.rowLt hk).2 (hz k hk)
theorem OwnR.below {R : List Rw} (h : OwnR w base v R) (hb : Below w.heap.size w w') : OwnR w' base v R := h.of_block fun k hk => hb.block k (h.rowLt hk).2
theorem OwnR.rowT {R : List Rw} (h : OwnR w base v R) {k : Nat} (hk : v.ownBlock = some k) : ∃ cs, w.heap[k]? = some (.cells cs 55 (0, 0)) := by
  obtain ⟨h1, h2⟩ := h
  rcases h2 with ⟨rfl, _⟩ | ⟨g, cap, cur, r1, r2, r3, r4⟩
  · cases hk
  · rw [r1] at hk
    injection hk with hk
    subst hk
    exact ⟨cur, r3⟩
theorem OwnR.shape {R : List Rw} (h : OwnR w base v R) : ∃ a cap, v = .slice a R.length cap ∧ ((a = none ∧ cap = 0 ∧ R = []) ∨ ∃ g, a = some ⟨g, 0, none⟩) := by
  rcases h.2 with ⟨rfl, h0⟩ | ⟨g, cap, cur, rfl, _⟩
  · obtain rfl : R = [] := List.length_eq_zero_iff.1 h0
    exact ⟨none, 0, rfl, .inl ⟨rfl, rfl, rfl⟩⟩
  · exact ⟨_, cap, rfl, .inr ⟨g, rfl⟩⟩
theorem OwnR.isR {R : List Rw} (h : OwnR w base v R) (hy : ∀ k, v.ownBlock = some k → Y k) : ∃ a cap, v = .slice a R.length cap ∧ IsR w Y a cap R := by
  have own := h
  obtain ⟨h1, h2⟩ := h
  rcases h2 with ⟨rfl, h0⟩ | ⟨g, cap, cur, rfl, hb, hg, hn, hc, hs, ht⟩
  · obtain rfl : R = [] := List.length_eq_zero_iff.1 h0
    exact ⟨none, 0, rfl, IsR.nil w Y⟩
  · refine ⟨some ⟨g, 0, none⟩, cap, rfl, hn, hc, fun i x hx => ?_⟩
    have hi : i < R.length := (List.getElem?_eq_some_iff.1 hx).1
    obtain ⟨g1, g2⟩ := fl_at R i x hx
    refine ⟨g, 0, rfl, lt_of_block hg, hy g rfl, ?_, ?_⟩
    · rw [Nat.zero_add, World.ownsRow.cellAt own (i * 2) (by omega), g1]
    · rw [Nat.zero_add, World.ownsRow.cellAt own (i * 2 + 1) (by omega), g2]
theorem infoR : ∃ i, Try.prog.info? 55 = some i ∧ i.zero = some (.agg #[.int .i64 0, .slice none 0 0]) ∧ i.size = 2 ∧ i.bytes = 32 := by
  have h : (Try.prog.info? 55).map (fun i => (i.zero, i.size, i.bytes)) = some (some (.agg #[.int .i64 0, .slice none 0 0]), 2, 32) := by kernel_rfl
  obtain ⟨i, h1, h2⟩ := Option.map_eq_some_iff.1 h
  simp at h2
  exact ⟨i, h1, h2.1, h2.2.1, h2.2.2⟩
theorem fl_one {R : List Rw} (h : ∀ r ∈ R, r.v.oneCell' = true) : ∀ u ∈ fl R, u.oneCell' = true := by
  intro u hu
  obtain ⟨x, hx, hh⟩ := List.mem_flatMap.1 hu
  simp at hh
  rcases hh with rfl | rfl
  · rfl
  · exact h x hx
/-- append(v, c...) of rows. -/
theorem appR {R C : List Rw} (h : OwnR w base v R) (hc : IsR w Y a cap C) (h1 : ∀ r ∈ C, r.v.oneCell' = true) (hb : R.length + C.length ≤ 1000000) (hbase : base ≤ w.heap.size) (ty : TypeId) :
    ∃ v' w', (Builtin.append_ #[35, 35] ty #[v, .slice a C.length cap]).run Try.prog w = .ok v' w' ∧ OwnR w' base v' (R ++ C) ∧ w.grownBy w' v.ownBlock ∧ ∀ k, v'.ownBlock = some k → v.ownBlock = some k ∨ w.heap.size ≤ k := by
  obtain ⟨i, hi, hz, hs, hby⟩ := infoR
  by_cases e : a = none
  · subst e
    obtain rfl : C = [] := by
      cases C with
      | nil => rfl
      | cons x c => obtain ⟨b, off, h1, _⟩ := hc.elem 0 x rfl; cases h1
    refine ⟨v, w, ?_, by rw [List.append_nil]; exact h, ⟨rfl, rfl, rfl, Nat.le_refl _, fun _ _ _ => rfl⟩, fun k hk => .inl hk⟩
    rcases h.2 with ⟨rfl, h0⟩ | ⟨g, cap', cur, rfl, _, _, hnc, _⟩
    · simp [Builtin.append_, run_underlying Try.underlying35, sizeOf, typeInfo, hi, Builtin.lenOf, Builtin.firstCells]
    · simp [Builtin.append_, run_underlying Try.underlying35, sizeOf, typeInfo, hi, Builtin.lenOf, Builtin.firstCells, hnc, storeCells]
  · obtain ⟨ad, rfl⟩ := Option.ne_none_iff_exists'.1 e
    obtain ⟨v', w', k1, k2, k3, k4, k5⟩ := run_append_own_at (P := Try.prog) w base 35 ty 55 i _ 2 32 Try.underlying35 hi hz hs hby rfl (by omega) v R.length (fl R) h ad C.length cap (fl C) (by rw [fl_len])
      (fl_get C _ (fun i x hx => by
        obtain ⟨b, off, e, _, _, q1, q2⟩ := hc.elem i x hx
        cases e
        exact ⟨by rw [← q1, Addr.add_lit], by rw [← q2, Addr.add_lit, Nat.add_assoc]⟩)) (fl_one h1) (by unfold maxLen; omega) (by omega) hbase
    refine ⟨v', w', k1, ?_, k3, ?_⟩
    · unfold OwnR
      rw [List.length_append, fl_append]
      exact k2
    · intro k hk
      rcases k5 with h5 | h5
      · exact .inl (by rw [← h5]; exact hk)
      · rw [h5] at hk
        injection hk with hk
        exact .inr (by omega)
/-- The whole: at F its head; Y where it is read. -/
structure RD (w : World) (Y : Nat → Prop) (F : Nat) (R : List Rw) : Prop where
  head : ∃ a cap, w.heap[F]? = some (.cells #[.slice a R.length cap] 37 (0, 0)) ∧ IsR w Y a cap R ∧ ((a = none ∧ cap = 0 ∧ R = []) ∨ ∃ g, a = some ⟨g, 0, none⟩)
  pre : ∀ r ∈ R, Sl w Y r.v r.ps
  yf : ¬ Y F
theorem RD.fr {R : List Rw} {F : Nat} (h : RD w Y F R) (hf : Fr Z w w') (hz : ∀ k, Y k → ¬ Z k) (hF : ¬ Z F) : RD w' Y F R := by
  obtain ⟨a, cap, e, q, sh⟩ := h.head
  exact ⟨⟨a, cap, (hf.block F (lt_of_block e) hF).trans e, q.fr hf hz, sh⟩, fun r hr => (h.pre r hr).fr hf hz, h.yf⟩
theorem RD.below {R : List Rw} {F : Nat} (h : RD w Y F R) (hb : Below w.heap.size w w') : RD w' Y F R := h.fr (Fr.below (X := fun _ => False) hb) (fun _ _ => id) id
theorem RD.lt {R : List Rw} {F : Nat} (h : RD w Y F R) : F < w.heap.size := by
  obtain ⟨a, cap, e, q⟩ := h.head
  exact lt_of_block e
theorem Sl.one {d : List Int} (h : Sl w Y v d) : v.oneCell' = true := by
  obtain ⟨a, cap, rfl, _⟩ := h
  rfl
end Go.Proofs.Ythpdnlokjhafeaa

/- Rows of blocks of a call's own, and append to them. -/
import Derived.Test.YtoknpinlphbeoaaBlkR
namespace Go.Proofs.Ytoknpinlphbeoaa
open Go.RowKit Go.Lib Go.Sort
set_option linter.unusedVariables false

theorem OwnE.kept' {w w' : World} {base : Nat} {v : Value} {d : List Ent} {row : Option Nat} (h : OwnE w base v d) (hg : w.grownBy w' row) (hne : v.ownBlock = none ∨ v.ownBlock ≠ row) : OwnE w' base v d := World.ownsRow.kept h hg hne
/-- Rows of unlike types are unlike rows. -/
theorem rowT_apart {w : World} {base base' : Nat} {T T' : TypeId} {k k' n n' : Nat} {v u : Value} {vs us : List Value} (hT : T ≠ T') (h : w.ownsRow base T k v n vs) (h' : w.ownsRow base' T' k' u n' us) : v.ownBlock = none ∨ v.ownBlock ≠ u.ownBlock := by
  rcases h.2 with ⟨rfl, _⟩ | ⟨g, cap, cur, rfl, _, hg, _⟩
  · exact .inl rfl
  · right
    intro e
    rcases h'.2 with ⟨rfl, _⟩ | ⟨g', cap', cur', rfl, _, hg', _⟩
    · simp [Value.ownBlock] at e
    · simp only [Value.ownBlock, Option.some.injEq] at e
      subst e
      rw [hg] at hg'
      simp only [Option.some.injEq, Obj.cells.injEq] at hg'
      exact hT hg'.2.1
theorem rowT_below {w w' : World} {base n k : Nat} {T : TypeId} {v : Value} {vs : List Value} (h : w.ownsRow base T k v n vs) (hw : Below w.heap.size w w') : w'.ownsRow base T k v n vs := by
  obtain ⟨h1, h2⟩ := h
  refine ⟨h1, ?_⟩
  rcases h2 with h2 | ⟨g, cap, cur, r1, r2, r3, r4⟩
  · exact .inl h2
  · exact .inr ⟨g, cap, cur, r1, r2, (hw.block g (lt_of_block r3)).trans r3, r4⟩

/-- A slice of the call's own whose blocks hold these lists, each of the call's own. -/
def OwnBs (T : TypeId) (w : World) (base : Nat) (v : Value) (ls : List (List Ent)) : Prop :=
  ∃ vs : List Value, w.ownsRow base T 2 v ls.length vs ∧ ∀ (i : Nat) (d : List Ent), ls[i]? = some d → ∃ m p q, vs[i * 2]? = some (Value.int .i64 m) ∧ vs[i * 2 + 1]? = some (Value.slice p d.length q) ∧ OwnE w base (.slice p d.length q) d
theorem OwnBs.nil (T : TypeId) (w : World) (base : Nat) : OwnBs T w base (.slice none 0 0) [] := ⟨[], World.ownsRow_nil w base _ _, fun i d h => by simp at h⟩
theorem OwnBs.below {T : TypeId} {w w' : World} {base : Nat} {v : Value} {ls : List (List Ent)} (h : OwnBs T w base v ls) (hw : Below w.heap.size w w') : OwnBs T w' base v ls := by
  obtain ⟨vs, h1, h2⟩ := h
  refine ⟨vs, rowT_below h1 hw, fun i d hd => ?_⟩
  obtain ⟨m, p, q, h3, h4, h5⟩ := h2 i d hd
  exact ⟨m, p, q, h3, h4, h5.below hw⟩
/-- What is appended to a row of another type does not touch it. -/
theorem OwnBs.kept {T T' : TypeId} {w w' : World} {base : Nat} {v u : Value} {ls ks : List (List Ent)} (h : OwnBs T w base v ls) (h' : OwnBs T' w base u ks) (hg : w.grownBy w' u.ownBlock) (h1 : T ≠ T') (h2 : 35 ≠ T') : OwnBs T w' base v ls := by
  obtain ⟨vs, g1, g2⟩ := h
  obtain ⟨us, k1, k2⟩ := h'
  refine ⟨vs, World.ownsRow.kept g1 hg (rowT_apart h1 g1 k1), fun i d hd => ?_⟩
  obtain ⟨m, p, q, h3, h4, h5⟩ := g2 i d hd
  exact ⟨m, p, q, h3, h4, h5.kept' hg (rowT_apart h2 h5 k1)⟩
theorem OwnBs.isBs {T : TypeId} {w : World} {base : Nat} {v : Value} {ls : List (List Ent)} (h : OwnBs T w base v ls) : ∃ a cap, v = .slice a ls.length cap ∧ IsBs w a ls := by
  obtain ⟨vs, h1, h2⟩ := h
  have own := h1
  rcases h1.2 with ⟨rfl, h0⟩ | ⟨g, cap, cur, rfl, hb, hg, hn, hc, hs, ht⟩
  · obtain rfl : ls = [] := List.length_eq_zero_iff.1 h0
    exact ⟨none, 0, rfl, IsBs.nil w⟩
  · unfold maxLen at hc
    refine ⟨some ⟨g, 0, none⟩, cap, rfl, by omega, fun i d hd => ?_⟩
    have hi : i < ls.length := (List.getElem?_eq_some_iff.1 hd).1
    obtain ⟨m, p, q, h3, h4, h5⟩ := h2 i d hd
    refine ⟨g, 0, p, q, m, rfl, lt_of_block hg, ?_, ?_, h5.is⟩
    · rw [Nat.zero_add, World.ownsRow.cellAt own (i * 2) (by omega), h3]
    · rw [Nat.zero_add, World.ownsRow.cellAt own (i * 2 + 1) (by omega), h4]
theorem OwnBs.is {T : TypeId} {w : World} {base n cap : Nat} {a : Option Addr} {ls : List (List Ent)} (h : OwnBs T w base (.slice a n cap) ls) : IsBs w a ls := by
  obtain ⟨a', cap', e, l⟩ := h.isBs
  injection e with e1 e2 e3
  subst e1
  exact l

theorem infoB : ∃ i, Try.prog.info? 26 = some i ∧ i.zero = some (.agg #[.int .i64 0, .slice none 0 0]) ∧ i.size = 2 ∧ i.bytes = 32 := by
  have h : (Try.prog.info? 26).map (fun i => (i.zero, i.size, i.bytes)) = some (some (.agg #[.int .i64 0, .slice none 0 0]), 2, 32) := by kernel_rfl
  obtain ⟨i, h1, h2⟩ := Option.map_eq_some_iff.1 h
  simp at h2
  exact ⟨i, h1, h2.1, h2.2.1, h2.2.2⟩
/-- append(v, block): one block more. -/
theorem appB {w : World} {base g : Nat} {v : Value} {ls : List (List Ent)} {p : Option Addr} {q N k : Nat} {m : Int} {d : List Ent} (h : OwnBs 26 w base v ls) (hd : OwnE w base (.slice p N q) d) (hN : d.length = N) (hk : ls.length = k) (c0 : w.cell? ⟨g, 0, none⟩ = some (.int .i64 m)) (c1 : w.cell? ⟨g, 1, none⟩ = some (.slice p N q))
    (hb : k ≤ 100000) (hbase : base ≤ w.heap.size) (ty : TypeId) :
    ∃ r t w', (Builtin.append_ #[41, 41] ty #[v, .slice (some ⟨g, 0, none⟩) 1 1]).run Try.prog w = .ok (.slice r (k + 1) t) w' ∧ OwnBs 26 w' base (.slice r (k + 1) t) (ls ++ [d]) ∧ (∀ u, Below base u w → Below base u w') ∧ w.grownBy w' v.ownBlock := by
  obtain ⟨vs, h1, h2⟩ := h
  obtain ⟨i, hi, hz, hs, hby⟩ := infoB
  subst hN hk
  obtain ⟨v', w', k1, k2, k3, k4⟩ := run_append_own (P := Try.prog) w base 41 ty 26 i _ 2 32 Try.underlying41 hi hz hs hby rfl (by omega) v ls.length vs h1 ⟨g, 0, none⟩ 1 1 [.int .i64 m, .slice p d.length q] rfl
    (fun j u hj => by
      have : j = 0 ∨ j = 1 := by have := (List.getElem?_eq_some_iff.1 hj).1; simp at this; omega
      rcases this with rfl | rfl
      · simp at hj; subst hj; exact c0
      · simp at hj; subst hj; exact c1) (by intro u hu; simp at hu; rcases hu with rfl | rfl <;> rfl) (by unfold maxLen; omega) (by omega) hbase
  have hl : vs.length = ls.length * 2 := h1.1
  have own : OwnBs 26 w' base v' (ls ++ [d]) := by
    refine ⟨vs ++ [.int .i64 m, .slice p d.length q], by simpa using k2, fun j x hx => ?_⟩
    by_cases hj : j < ls.length
    · rw [List.getElem?_append_left hj] at hx
      obtain ⟨m', p', q', h0, h3, h4⟩ := h2 j x hx
      exact ⟨m', p', q', by rw [List.getElem?_append_left (by omega)]; exact h0, by rw [List.getElem?_append_left (by omega)]; exact h3, h4.kept' k3 (rowT_apart (by decide) h4 h1)⟩
    · have hj2 : j < (ls ++ [d]).length := (List.getElem?_eq_some_iff.1 hx).1
      simp at hj2
      obtain rfl : j = ls.length := by omega
      simp at hx
      subst hx
      exact ⟨m, p, q, by rw [← hl]; simp, by rw [← hl]; simp, hd.kept' k3 (rowT_apart (by decide) hd h1)⟩
  obtain ⟨r, t, e, _⟩ := own.isBs
  rw [List.length_append] at e
  simp only [List.length_singleton] at e
  subst e
  exact ⟨r, t, w', k1, own, fun u hu => hu.grown k3 hbase (fun k hk => (World.ownsRow.lt h1 k hk).1), k3⟩

theorem infoR : ∃ i, Try.prog.info? 45 = some i ∧ i.zero = some (.agg #[.int .i64 0, .slice none 0 0]) ∧ i.size = 2 ∧ i.bytes = 32 := by
  have h : (Try.prog.info? 45).map (fun i => (i.zero, i.size, i.bytes)) = some (some (.agg #[.int .i64 0, .slice none 0 0]), 2, 32) := by kernel_rfl
  obtain ⟨i, h1, h2⟩ := Option.map_eq_some_iff.1 h
  simp at h2
  exact ⟨i, h1, h2.1, h2.2.1, h2.2.2⟩
/-- append(v, block): one block more. -/
theorem appR {w : World} {base g : Nat} {v : Value} {ls : List (List Ent)} {p : Option Addr} {q N k : Nat} {m : Int} {d : List Ent} (h : OwnBs 45 w base v ls) (hd : OwnE w base (.slice p N q) d) (hN : d.length = N) (hk : ls.length = k) (c0 : w.cell? ⟨g, 0, none⟩ = some (.int .i64 m)) (c1 : w.cell? ⟨g, 1, none⟩ = some (.slice p N q))
    (hb : k ≤ 100000) (hbase : base ≤ w.heap.size) (ty : TypeId) :
    ∃ r t w', (Builtin.append_ #[51, 51] ty #[v, .slice (some ⟨g, 0, none⟩) 1 1]).run Try.prog w = .ok (.slice r (k + 1) t) w' ∧ OwnBs 45 w' base (.slice r (k + 1) t) (ls ++ [d]) ∧ (∀ u, Below base u w → Below base u w') ∧ w.grownBy w' v.ownBlock := by
  obtain ⟨vs, h1, h2⟩ := h
  obtain ⟨i, hi, hz, hs, hby⟩ := infoR
  subst hN hk
  obtain ⟨v', w', k1, k2, k3, k4⟩ := run_append_own (P := Try.prog) w base 51 ty 45 i _ 2 32 Try.underlying51 hi hz hs hby rfl (by omega) v ls.length vs h1 ⟨g, 0, none⟩ 1 1 [.int .i64 m, .slice p d.length q] rfl
    (fun j u hj => by
      have : j = 0 ∨ j = 1 := by have := (List.getElem?_eq_some_iff.1 hj).1; simp at this; omega
      rcases this with rfl | rfl
      · simp at hj; subst hj; exact c0
      · simp at hj; subst hj; exact c1) (by intro u hu; simp at hu; rcases hu with rfl | rfl <;> rfl) (by unfold maxLen; omega) (by omega) hbase
  have hl : vs.length = ls.length * 2 := h1.1
  have own : OwnBs 45 w' base v' (ls ++ [d]) := by
    refine ⟨vs ++ [.int .i64 m, .slice p d.length q], by simpa using k2, fun j x hx => ?_⟩
    by_cases hj : j < ls.length
    · rw [List.getElem?_append_left hj] at hx
      obtain ⟨m', p', q', h0, h3, h4⟩ := h2 j x hx
      exact ⟨m', p', q', by rw [List.getElem?_append_left (by omega)]; exact h0, by rw [List.getElem?_append_left (by omega)]; exact h3, h4.kept' k3 (rowT_apart (by decide) h4 h1)⟩
    · have hj2 : j < (ls ++ [d]).length := (List.getElem?_eq_some_iff.1 hx).1
      simp at hj2
      obtain rfl : j = ls.length := by omega
      simp at hx
      subst hx
      exact ⟨m, p, q, by rw [← hl]; simp, by rw [← hl]; simp, hd.kept' k3 (rowT_apart (by decide) hd h1)⟩
  obtain ⟨r, t, e, _⟩ := own.isBs
  rw [List.length_append] at e
  simp only [List.length_singleton] at e
  subst e
  exact ⟨r, t, w', k1, own, fun u hu => hu.grown k3 hbase (fun k hk => (World.ownsRow.lt h1 k hk).1), k3⟩

theorem flat_le : ∀ (ls : List (List Ent)), (∀ d ∈ ls, d.length ≤ 40) → ls.flatten.length ≤ 40 * ls.length
  | [], _ => by simp
  | d :: ls, h => by
    have h1 := h d (by simp)
    have h2 := flat_le ls (fun x hx => h x (by simp [hx]))
    simp only [List.flatten_cons, List.length_append, List.length_cons]
    omega
end Go.Proofs.Ytoknpinlphbeoaa

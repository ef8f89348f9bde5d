/- A row of lists of a call's own, and append to it; slices of slices that came in. -/
import Derived.Test.YtdcacbjmbfppeaaGreatJH
namespace Go.Proofs.YtdcacbjmbfppeaaGreat
open Go.RowKit Go.Lib Go.Sort
set_option linter.unusedVariables false

/-- A slice of the call's own that holds these lists, each of the call's own. -/
def OwnS (w : World) (base : Nat) (v : Value) (ls : List (List Ent)) : Prop :=
  ∃ vs : List Value, w.ownsRow base 45 1 v ls.length vs ∧ ∀ (i : Nat) (d : List Ent), ls[i]? = some d → ∃ p q, vs[i]? = some (Value.slice p d.length q) ∧ OwnE w base (.slice p d.length q) d
theorem OwnS.nil (w : World) (base : Nat) : OwnS w base (.slice none 0 0) [] := ⟨[], World.ownsRow_nil w base _ _, fun i d h => by simp at h⟩
theorem OwnE.kept {w w' : World} {base : Nat} {v : Value} {d : List Ent} {row : Option Nat} (h : OwnE w base v d) (hg : w.grownBy w' row) (hne : v.ownBlock = none ∨ v.ownBlock ≠ row) : OwnE w' base v d := World.ownsRow.kept h hg hne
theorem row_below {w w' : World} {base n : Nat} {v : Value} {vs : List Value} (h : w.ownsRow base 45 1 v n vs) (hw : Below w.heap.size w w') : w'.ownsRow base 45 1 v n vs := by
  obtain ⟨h1, h2⟩ := h
  refine ⟨h1, ?_⟩
  rcases h2 with h2 | ⟨g, cap, cur, r1, r2, r3, r4⟩
  · exact .inl h2
  · exact .inr ⟨g, cap, cur, r1, r2, (hw.block g (lt_of_block r3)).trans r3, r4⟩
theorem OwnS.below {w w' : World} {base : Nat} {v : Value} {ls : List (List Ent)} (h : OwnS w base v ls) (hw : Below w.heap.size w w') : OwnS w' base v ls := by
  obtain ⟨vs, h1, h2⟩ := h
  refine ⟨vs, row_below h1 hw, fun i d hd => ?_⟩
  obtain ⟨p, q, h3, h4⟩ := h2 i d hd
  exact ⟨p, q, h3, h4.below hw⟩
/-- A row of entries is no row of slices. -/
theorem rows_apart {w : World} {base : Nat} {v u : Value} {d : List Ent} {n : Nat} {vs : List Value} (h : OwnE w base u d) (h' : w.ownsRow base 45 1 v n vs) : u.ownBlock = none ∨ u.ownBlock ≠ v.ownBlock := by
  rcases h.2 with ⟨rfl, _⟩ | ⟨g, cap, cur, rfl, _, hg, _⟩
  · exact .inl rfl
  · right
    intro e
    rcases h'.2 with ⟨rfl, _⟩ | ⟨g', cap', cur', rfl, _, hg', _⟩
    · simp [Value.ownBlock] at e
    · simp only [Value.ownBlock, Option.some.injEq] at e
      subst e
      rw [hg] at hg'
      simp at hg'
theorem OwnS.isLL {w : World} {base : Nat} {v : Value} {ls : List (List Ent)} (h : OwnS w base v ls) : ∃ a cap, v = .slice a ls.length cap ∧ IsLL w a ls := by
  obtain ⟨vs, h1, h2⟩ := h
  have own := h1
  rcases h1.2 with ⟨rfl, h0⟩ | ⟨g, cap, cur, rfl, hb, hg, hn, hc, hs, ht⟩
  · obtain rfl : ls = [] := List.length_eq_zero_iff.1 h0
    exact ⟨none, 0, rfl, by simp, fun i d hd => by simp at hd⟩
  · unfold maxLen at hc
    refine ⟨some ⟨g, 0, none⟩, cap, rfl, by omega, fun i d hd => ?_⟩
    have hi : i < ls.length := (List.getElem?_eq_some_iff.1 hd).1
    obtain ⟨p, q, h3, h4⟩ := h2 i d hd
    obtain ⟨a', c', e, l⟩ := h4.isL
    injection e with e1 e2 e3
    subst e1 e3
    refine ⟨g, 0, p, q, rfl, lt_of_block hg, ?_, l⟩
    rw [Nat.zero_add, World.ownsRow.cellAt own i (by omega), h3]

theorem infoS : ∃ i, Tryz.prog.info? 45 = some i ∧ i.zero = some (.slice none 0 0) ∧ i.size = 1 ∧ i.bytes = 24 := by
  have h : (Tryz.prog.info? 45).map (fun i => (i.zero, i.size, i.bytes)) = some (some (.slice none 0 0), 1, 24) := by kernel_rfl
  obtain ⟨i, h1, h2⟩ := Option.map_eq_some_iff.1 h
  simp at h2
  exact ⟨i, h1, h2.1, h2.2.1, h2.2.2⟩

/-- append(v, d): one list more. -/
theorem apps_run {w : World} {base g : Nat} {v : Value} {ls : List (List Ent)} {p : Option Addr} {q : Nat} {d : List Ent} (h : OwnS w base v ls) (hd : OwnE w base (.slice p d.length q) d) (hc : w.cell? ⟨g, 0, none⟩ = some (.slice p d.length q))
    (hb : ls.length ≤ 1000000) (hbase : base ≤ w.heap.size) (ty : TypeId) :
    ∃ r t w', (Builtin.append_ #[64, 64] ty #[v, .slice (some ⟨g, 0, none⟩) 1 1]).run Tryz.prog w = .ok (.slice r (ls.length + 1) t) w' ∧ OwnS w' base (.slice r (ls.length + 1) t) (ls ++ [d]) ∧ (∀ u, Below base u w → Below base u w') ∧ w.grownBy w' v.ownBlock := by
  obtain ⟨vs, h1, h2⟩ := h
  obtain ⟨i, hi, hz, hs, hby⟩ := infoS
  obtain ⟨v', w', k1, k2, k3, k4⟩ := run_append_own (P := Tryz.prog) w base 64 ty 45 i _ 1 24 Tryz.underlying64 hi hz hs hby rfl (by omega) v ls.length vs h1 ⟨g, 0, none⟩ 1 1 [.slice p d.length q] rfl
    (fun j u hj => by
      obtain ⟨rfl, rfl⟩ : j = 0 ∧ u = .slice p d.length q := by
        cases j with
        | zero => simp at hj; exact ⟨rfl, hj.symm⟩
        | succ j => simp at hj
      exact hc) (by intro u hu; simp at hu; subst hu; rfl) (by unfold maxLen; omega) (by omega) hbase
  have hl : vs.length = ls.length := by have := h1.1; omega
  have own : OwnS w' base v' (ls ++ [d]) := by
    refine ⟨vs ++ [.slice p d.length q], by simpa using k2, fun j x hx => ?_⟩
    by_cases hj : j < ls.length
    · rw [List.getElem?_append_left hj] at hx
      obtain ⟨p', q', h3, h4⟩ := h2 j x hx
      exact ⟨p', q', by rw [List.getElem?_append_left (by omega)]; exact h3, h4.kept k3 (rows_apart h4 h1)⟩
    · have hj2 : j < (ls ++ [d]).length := (List.getElem?_eq_some_iff.1 hx).1
      simp at hj2
      obtain rfl : j = ls.length := by omega
      simp at hx
      subst hx
      exact ⟨p, q, by rw [← hl]; simp, hd.kept k3 (rows_apart hd h1)⟩
  obtain ⟨r, t, e, _⟩ := own.isLL
  rw [List.length_append] at e
  simp only [List.length_singleton] at e
  subst e
  exact ⟨r, t, w', k1, own, (fun u hu => hu.grown k3 hbase (fun k hk => (World.ownsRow.lt h1 k hk).1)), k3⟩

/-- A row is no block of another type. -/
theorem own_ne {w : World} {base n k R : Nat} {U V : TypeId} {v : Value} {vs : List Value} {cs : Array Value} (h : w.ownsRow base U k v n vs) (hR : w.heap[R]? = some (.cells cs V (0, 0))) (hne : U ≠ V) : some R ≠ v.ownBlock := by
  intro e
  rcases h.2 with ⟨rfl, _⟩ | ⟨g, cap, cur, rfl, _, hg, _⟩
  · simp [Value.ownBlock] at e
  · simp only [Value.ownBlock, Option.some.injEq] at e
    subst e
    rw [hR] at hg
    simp only [Option.some.injEq, Obj.cells.injEq] at hg
    exact hne hg.2.1.symm
end Go.Proofs.YtdcacbjmbfppeaaGreat

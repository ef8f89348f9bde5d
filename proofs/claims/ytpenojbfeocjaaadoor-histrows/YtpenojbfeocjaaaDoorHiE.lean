/- The rows of HistRows as plain lists; several events more at the end of a row of the call's own; parts of a row; one task behind the other. -/
import Derived.Test.YtpenojbfeocjaaaDoorHiB
namespace Go.Proofs.YtpenojbfeocjaaaDoor
open Go.RowKit Go.Lib Go.WideMaps Go.Maps
set_option linter.unusedVariables false
set_option maxRecDepth 10000

section
variable {α : Type} {R : RowT α} {w w' : World} {a : Option Addr} {cap base : Nat} {d c : List α} {v : Value}
/-- Several more at the end of a slice of the call's own. -/
theorem OwnG.pushL (o : OwnG R w base v d) (xs : List α) (hd : d.length + xs.length ≤ 1000000) (hb : base ≤ w.heap.size) (ty : TypeId) :
    ∃ v' w', (Builtin.append_ #[R.st, R.st] ty #[v, .slice (some ⟨w.heap.size, 0, none⟩) xs.length xs.length]).run Tryd.prog (w.alloc (.cells (R.flat xs).toArray R.et)) = .ok v' w' ∧ OwnG R w' base v' (d ++ xs) ∧ Below base w w' := by
  obtain ⟨i, hi, hz, hs, hby⟩ := R.info
  have b1 := bel1 w (.cells (R.flat xs).toArray R.et)
  have o1 := o.below b1
  have sz : (d.length + xs.length) * R.nb ≤ 1000000 * 1000 := Nat.mul_le_mul (by omega) R.small
  obtain ⟨v', w', h1, h2, h3, h4⟩ := run_append_own (P := Tryd.prog) (w.alloc (.cells (R.flat xs).toArray R.et)) base R.st ty R.et i _ R.k R.nb R.und hi hz hs hby R.zs R.kpos v d.length (R.flat d) o1 ⟨w.heap.size, 0, none⟩ xs.length xs.length (R.flat xs) (by rw [flat_len])
    (fun j u hu => by
      rw [Addr.add_lit, Nat.zero_add, cell_fresh, List.getElem?_toArray, hu]) (flat_one xs) (by unfold maxLen; omega) (by omega) (by have := b1.size; omega)
  refine ⟨v', w', h1, ?_, ?_⟩
  · unfold OwnG
    rw [List.length_append, flat_append]
    exact h2
  · exact (b1.mono hb).grown h3 (by have := b1.size; omega) (fun k hk => (World.ownsRow.lt o1 k hk).1)
/-- A whole slice more at the end. -/
theorem appG (h : OwnG R w base v d) (hc : IsG R w a cap c) (hb : d.length + c.length ≤ 1000000) (hbase : base ≤ w.heap.size) (ty : TypeId) :
    ∃ v' w', (Builtin.append_ #[R.st, R.st] ty #[v, .slice a c.length cap]).run Tryd.prog w = .ok v' w' ∧ OwnG R w' base v' (d ++ c) ∧ Below base w w' := by
  obtain ⟨i, hi, hz, hs, hby⟩ := R.info
  by_cases e : a = none
  · subst e
    obtain rfl : c = [] := by
      cases c with
      | nil => rfl
      | cons x c => obtain ⟨b, off, h1, _⟩ := hc.at (i := 0) (x := x) rfl; cases h1
    refine ⟨v, w, ?_, by rw [List.append_nil]; exact h, Below.refl _ _⟩
    rcases h.2 with ⟨rfl, h0⟩ | ⟨g, cap', cur, rfl, _, _, hnc, _⟩
    · simp [Builtin.append_, run_underlying R.und, sizeOf, typeInfo, hi, Builtin.lenOf, Builtin.firstCells]
    · simp [Builtin.append_, run_underlying R.und, sizeOf, typeInfo, hi, Builtin.lenOf, Builtin.firstCells, hnc, storeCells]
  · obtain ⟨ad, rfl⟩ := Option.ne_none_iff_exists'.1 e
    have sz : (d.length + c.length) * R.nb ≤ 1000000 * 1000 := Nat.mul_le_mul (by omega) R.small
    obtain ⟨v', w', h1, h2, h3, h4⟩ := run_append_own (P := Tryd.prog) w base R.st ty R.et i _ R.k R.nb R.und hi hz hs hby R.zs R.kpos v d.length (R.flat d) h ad c.length cap (R.flat c) (by rw [flat_len])
      (fun j u hj => by
        obtain ⟨b, off, e, _, h1⟩ := hc.elem j u hj
        cases e
        rw [← h1, Addr.add_lit]) (flat_one c) (by unfold maxLen; omega) (by omega) hbase
    refine ⟨v', w', h1, ?_, ?_⟩
    · unfold OwnG
      rw [List.length_append, flat_append]
      exact h2
    · exact (Below.refl _ _).grown h3 hbase (fun k hk => (World.ownsRow.lt h k hk).1)
theorem OwnG.zero (R : RowT α) (w : World) (hb : base ≤ w.heap.size) : OwnG R (w.alloc (.cells #[] R.et)) base (.slice (some ⟨w.heap.size, 0, none⟩) 0 0) [] :=
  World.ownsRow_lit w #[] 0 hb (by unfold maxLen; omega) (by simp)
theorem IsG.take (h : IsG R w a cap d) (n : Nat) : IsG R w a cap (d.take n) := by
  refine ⟨by have := h.le; rw [List.length_take]; omega, h.big, fun j u hu => ?_⟩
  refine h.elem j u ?_
  have hj := (List.getElem?_eq_some_iff.1 hu).1
  rw [← hu]
  have : R.flat d = R.flat (d.take n) ++ R.flat (d.drop n) := by rw [← flat_append, List.take_append_drop]
  rw [this, List.getElem?_append_left hj]
theorem IsG.drop (h : IsG R w a cap d) (k : Nat) (hk : k ≤ d.length) : IsG R w (if cap = k then a else a.map (·.add (k * R.k))) (cap - k) (d.drop k) := by
  refine ⟨by have := h.le; rw [List.length_drop]; omega, by have := h.big; unfold maxLen at *; omega, fun j u hu => ?_⟩
  have hj := (List.getElem?_eq_some_iff.1 hu).1
  rw [flat_len, List.length_drop] at hj
  have e : R.flat d = R.flat (d.take k) ++ R.flat (d.drop k) := by rw [← flat_append, List.take_append_drop]
  have el : (R.flat (d.take k)).length = k * R.k := by rw [flat_len, List.length_take, Nat.min_eq_left hk]
  have h1 : (R.flat d)[k * R.k + j]? = some u := by
    rw [e, List.getElem?_append_right (by omega), el, Nat.add_sub_cancel_left]
    exact hu
  obtain ⟨b, off, ea, hb, hc⟩ := h.elem _ _ h1
  have : cap ≠ k := by
    intro e2
    have := h.le
    have : d.length - k = 0 := by omega
    rw [this] at hj; omega
  refine ⟨b, off + k * R.k, by rw [if_neg this, ea, Option.map_some, Addr.add_lit], hb, ?_⟩
  rw [Nat.add_assoc]
  exact hc
end
/-! ## The rows -/
/-- A task is made, released, claimed and done. -/
def task (i : Nat) : List EvR := [⟨1, -1, ((i + 1 : Nat) : Int), 0, i, 0⟩, ⟨2, 0, ((i + 1 : Nat) : Int), i, i, 0⟩, ⟨3, 0, ((i + 1 : Nat) : Int), i, i, 0⟩, ⟨4, 0, ((i + 1 : Nat) : Int), 0, i + 1, 0⟩]
def rowsH : Nat → List EvR
  | 0 => []
  | n + 1 => rowsH n ++ task n
/-- One left out. -/
def cutH (k : Nat) (d : List EvR) : List EvR := d.take k ++ d.drop (k + 1)
theorem rowsH_len (n : Nat) : (rowsH n).length = 4 * n := by
  induction n with
  | zero => rfl
  | succ n ih => show (rowsH n ++ task n).length = _; rw [List.length_append, ih]; show 4 * n + 4 = _; omega
theorem rowsH_ok {n : Nat} (hn : n ≤ 100) : ∀ x ∈ rowsH n, x.ok := by
  induction n with
  | zero => intro x hx; cases hx
  | succ n ih =>
    intro x hx
    rcases List.mem_append.1 hx with hx | hx
    · exact ih (by omega) x hx
    · simp only [task, List.mem_cons, List.not_mem_nil, or_false] at hx
      unfold EvR.ok
      rcases hx with rfl | rfl | rfl | rfl <;> refine ⟨⟨?_, ?_⟩, ⟨?_, ?_⟩, ⟨?_, ?_⟩, ?_, ?_, ?_⟩ <;> simp only <;> omega
theorem cutH_ok {n k : Nat} (hn : n ≤ 100) : ∀ x ∈ cutH k (rowsH n), x.ok := fun x hx => by
  rcases List.mem_append.1 hx with hx | hx
  · exact rowsH_ok hn x (List.mem_of_mem_take hx)
  · exact rowsH_ok hn x (List.mem_of_mem_drop hx)
theorem cutH_len {n k : Nat} (hk : k < 4 * n) : (cutH k (rowsH n)).length = 4 * n - 1 := by
  unfold cutH
  rw [List.length_append, List.length_take, List.length_drop, rowsH_len]; omega
theorem clH (n : Nat) : clL (rowsH n) = (List.range n).map fun (i : Nat) => ((i : Int), ((i + 1 : Nat) : Int)) := by
  induction n with
  | zero => rfl
  | succ n ih =>
    show clL (rowsH n ++ task n) = _
    rw [List.range_succ, List.map_append, ← ih]
    unfold clL
    rw [List.flatMap_append]
    rfl
theorem clH_len (n : Nat) : (clL (rowsH n)).length = n := by rw [clH]; simp
theorem clH_srt (n : Nat) : ∀ i x y, (clL (rowsH n))[i]? = some x → (clL (rowsH n))[i + 1]? = some y → ltP y x = false := by
  intro i x y hx hy
  rw [clH, List.getElem?_map] at hx hy
  obtain ⟨a, ha, rfl⟩ := Option.map_eq_some_iff.1 hx
  obtain ⟨b, hb, rfl⟩ := Option.map_eq_some_iff.1 hy
  obtain ⟨_, ha⟩ := List.getElem?_eq_some_iff.1 ha
  obtain ⟨_, hb⟩ := List.getElem?_eq_some_iff.1 hb
  rw [List.getElem_range] at ha hb
  subst ha hb
  unfold ltP
  simp only
  rw [if_neg (by omega)]
  exact decide_eq_false (by omega)
theorem reads_app (s : RwR) (c d : List EvR) : reads s (c ++ d) = reads (reads s c) d := by unfold reads; rw [List.foldl_append]
theorem task_g (s : RwR) (i : Nat) (h : s.g = fun _ => none) : (reads s (task i)).g = fun _ => none := by
  funext p
  simp [reads, task, RwR.read, RwR.tick, RwR.mark, RwR.turn, RwR.left, RwR.now1, RwR.come1, RwR.lastR, upd, h]
theorem rowsH_g (n : Nat) : (reads rw0 (rowsH n)).g = fun _ => none := by
  induction n with
  | zero => rfl
  | succ n ih => show (reads rw0 (rowsH n ++ task n)).g = _; rw [reads_app]; exact task_g _ _ ih
end Go.Proofs.YtpenojbfeocjaaaDoor

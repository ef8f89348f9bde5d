/- slices.Clone, slices.Sort, slices.Compact at ints; dag.rising. -/
import Derived.Test.YthpdnlokjhafeaaDgShelf
import Derived.Test.YthpdnlokjhafeaaDgL
namespace Go.Proofs.Ythpdnlokjhafeaa
open Go.RowKit Go.Lib Go.Sort Go.Shelf
set_option linter.unusedVariables false

variable {w w' : World} {a : Option Addr} {cap base : Nat} {d c : List Int} {v : Value}
/-- In order. -/
def sortI (d : List Int) : List Int := d.mergeSort fun x y => decide (x ≤ y)
theorem sortI_len (d : List Int) : (sortI d).length = d.length := List.length_mergeSort ..
theorem sortI_mem (d : List Int) (x : Int) : x ∈ sortI d ↔ x ∈ d := List.mem_mergeSort
theorem sortI_le (d : List Int) : (sortI d).Pairwise (· ≤ ·) := by
  have := List.pairwise_mergeSort (le := fun x y : Int => decide (x ≤ y)) (fun a b c h1 h2 => by simp at *; omega) (fun a b => by simp; omega) d
  exact this.imp (fun h => by simpa using h)
theorem sortI_nodup (d : List Int) (h : d.Nodup) : (sortI d).Nodup := ((List.mergeSort_perm d _).nodup_iff).2 h
/-- Rising: each less than the next. -/
abbrev Up (d : List Int) : Prop := d.Pairwise (· < ·)
theorem sortI_up {d : List Int} (h : d.Nodup) : Up (sortI d) := by
  have h1 := sortI_le d
  have h2 := sortI_nodup d h
  exact (h1.and h2).imp (fun ⟨a, b⟩ => by omega)
theorem Up.nodup {d : List Int} (h : Up d) : d.Nodup := h.imp (fun h => by omega)
/-- What rises is told by what is in it. -/
theorem Up.ext : ∀ {c d : List Int}, Up c → Up d → (∀ x, x ∈ c ↔ x ∈ d) → c = d
  | [], [], _, _, _ => rfl
  | [], y :: d, _, _, h => absurd ((h y).2 (by simp)) (by simp)
  | x :: c, [], _, _, h => absurd ((h x).1 (by simp)) (by simp)
  | x :: c, y :: d, h1, h2, h => by
    obtain ⟨a1, b1⟩ := List.pairwise_cons.1 h1
    obtain ⟨a2, b2⟩ := List.pairwise_cons.1 h2
    have e : x = y := by
      have q1 := (h x).1 (by simp)
      have q2 := (h y).2 (by simp)
      rcases List.mem_cons.1 q1 with q1 | q1
      · exact q1
      · rcases List.mem_cons.1 q2 with q2 | q2
        · exact q2.symm
        · have := a1 _ q2; have := a2 _ q1; omega
    subst e
    refine congrArg (x :: ·) (Up.ext b1 b2 fun z => ⟨fun hz => ?_, fun hz => ?_⟩)
    · rcases List.mem_cons.1 ((h z).1 (by simp [hz])) with e | e
      · have := a1 _ hz; omega
      · exact e
    · rcases List.mem_cons.1 ((h z).2 (by simp [hz])) with e | e
      · have := a2 _ hz; omega
      · exact e

set_option maxHeartbeats 1000000 in
theorem clone_any (h : IsI w a cap d) (hl : d.length ≤ 1000000) : Calls Try.prog 30 #[.slice a d.length cap] w fun e w' => ∃ v', e = .returned v' ∧ OwnI w' w.heap.size v' d ∧ Below w.heap.size w w' := by
  have hle := h.le
  have hbig := h.big
  by_cases hd : d = []
  · subst hd
    cases a with
    | none =>
      have hc := Any.slices_Clone_int_nil layClone 0 cap w
      change Calls Try.prog 30 _ _ _ at hc
      refine hc.mono ?_
      rintro e w' ⟨rfl, rfl⟩
      exact ⟨_, rfl, OwnI.nil _ _, Below.refl _ _⟩
    | some x =>
      obtain ⟨i, hi, hz, hs, hby⟩ := infoI
      have hr : ∀ (g : Nat) (u : World), (Builtin.append_ #[24, 24] 24 #[.slice (some ⟨g, 0, none⟩) 0 0, .slice (some x) 0 cap]).run Try.prog u = .ok (.slice (some ⟨g, 0, none⟩) 0 0) u := fun g u => by
        have := run_firstCells_some (P := Try.prog) u i.size 0 x 0 cap [] (by simp) (fun j u hj => by simp at hj)
        simp [Builtin.append_, run_underlying Try.underlying24, sizeOf, typeInfo, hi, Builtin.lenOf, this, storeCells]
      have q22 : ∀ (w : World) (a : Option Addr) (n c n' c' : Nat), (binOp .eql 24 (.slice a n c) (.slice none n' c')).run Try.prog w = .ok (.bool a.isNone) w := fun w a n c n' c' => Lib.run_eql_slice_nil w _ _ a n c n' c' Try.underlying24
      go_enter Try.func30, Try.ntmps30
      go_wp2
      go_ret
      exact ⟨_, rfl, OwnI.lit w [] (Nat.le_refl _) (by simp), (Below.refl _ _).alloc (Nat.le_refl _) _⟩
  · obtain ⟨x, r, rfl⟩ := List.exists_cons_of_ne_nil hd
    obtain ⟨b, off, rfl, _, _⟩ := h.elem 0 x rfl
    have hc := Any.slices_Clone_int layClone b off (x :: r).length cap (x :: r) w (Nat.le_refl _) (by omega) (fun j hj => by
      obtain ⟨b', off', e, _, h1⟩ := h.at hj
      cases e
      exact h1)
    change Calls Try.prog 30 _ _ _ at hc
    refine hc.mono ?_
    rintro e w' ⟨v', rfl, ho, _, hb⟩
    rw [List.take_length] at ho
    exact ⟨v', rfl, ho, hb⟩
theorem OwnI.of_cells {g : Nat} {cur : Array Value} (hb : base ≤ g) (hl : d.length ≤ cap) (hm : cap ≤ maxLen) (hg : w.heap[g]? = some (.cells cur 3 (0, 0))) (hs : cur.size = cap) (hc : ∀ (j : Nat) (x : Int), d[j]? = some x → cur[j]? = some (Value.int .i64 x)) :
    OwnI w base (.slice (some ⟨g, 0, none⟩) d.length cap) d := by
  refine ⟨by simp, .inr ⟨g, cap, cur, rfl, hb, hg, hl, hm, by omega, ?_⟩⟩
  apply List.ext_getElem?
  intro j
  rw [Nat.mul_one]
  by_cases hj : j < d.length
  · rw [List.getElem?_take_of_lt hj]
    have e : d[j]? = some d[j] := List.getElem?_eq_getElem hj
    rw [cz_at e, ← hc j _ e]
    simp
  · rw [List.getElem?_eq_none (by simp; omega), List.getElem?_eq_none (by simp; omega)]
/-- Its row, as the library sees it. -/
theorem OwnI.holds {g : Nat} (h : OwnI w base (.slice (some ⟨g, 0, none⟩) d.length cap) d) : Holds (Value.int .i64) w g 0 d.toArray := by
  intro j hj
  have hj' : j < d.length := by simpa using hj
  have e : d[j]? = some d[j] := List.getElem?_eq_getElem hj'
  refine ⟨?_, by rw [Nat.zero_add]; exact h.frozen j⟩
  rw [Nat.zero_add, World.ownsRow.cellAt h j (by omega), cz_at e, getElem!_pos d.toArray j hj]
  simp
/-- .. and back from it, filled anew. -/
theorem OwnI.put {g : Nat} (h : OwnI w base (.slice (some ⟨g, 0, none⟩) d.length cap) d) (n : Nat) (f : List Int) (hf : f.length = d.length) (os : Array Obj) (k : Nat) (hk : c.length ≤ f.length) (hc : ∀ (j : Nat) (x : Int), c[j]? = some x → f[j]? = some x) :
    OwnI (grow (putRow (Value.int .i64) (Sort.ahead w n) g 0 f.toArray) os) base (.slice (some ⟨g, 0, none⟩) c.length cap) c ∧ w.grownBy (grow (putRow (Value.int .i64) (Sort.ahead w n) g 0 f.toArray) os) (some g) := by
  have hT := h
  obtain ⟨h1, h2⟩ := h
  rcases h2 with ⟨h2, _⟩ | ⟨g', cap', cur, e, hb, hg, hn, hcp, hz, ht⟩
  · simp at h2
  · simp only [Value.slice.injEq, Option.some.injEq, Addr.mk.injEq, and_true, true_and] at e
    obtain ⟨rfl, rfl⟩ := e
    have hlt : g < w.heap.size := lt_of_block hg
    have hW : (grow (putRow (Value.int .i64) (Sort.ahead w n) g 0 f.toArray) os).heap[g]? = some (.cells (putCells (Value.int .i64) 0 f.toArray cur) 3 (0, 0)) := by
      rw [heap_grow_old _ _ (by simpa [putRow, mapBlock, Sort.ahead] using hlt)]
      show (w.heap.modify g _)[g]? = _
      rw [Array.getElem?_modify, if_pos rfl, hg]
      rfl
    refine ⟨OwnI.of_cells hb (by omega) hcp hW (by simp [putCells]; omega) (fun j x hx => ?_), ⟨rfl, rfl, rfl, by simp [grow, putRow, mapBlock, Sort.ahead], fun i hi hne => ?_⟩⟩
    · have hj := (List.getElem?_eq_some_iff.1 (hc j x hx)).1
      have hcs : j < cur.size := by omega
      have e := hc j x hx
      have e2 : f.toArray[j]! = x := by
        rw [getElem!_pos f.toArray j (by simpa using hj)]
        simpa using (List.getElem?_eq_some_iff.1 e).2
      simp [putCells, hcs, hj]
      simpa using (List.getElem?_eq_some_iff.1 e).2
    · rw [heap_grow_old _ _ (by simpa [putRow, mapBlock, Sort.ahead] using hi)]
      show (w.heap.modify g _)[i]? = _
      rw [Array.getElem?_modify, if_neg (fun e => hne (by rw [e]))]
theorem sort_any (h : OwnI w base v d) (hl : d.length < 4611686018427387904) : Calls Try.prog 31 #[v] w fun e w' => e = .returned (.tuple #[]) ∧ OwnI w' base v (sortI d) ∧ w.grownBy w' v.ownBlock := by
  by_cases hd : d = []
  · subst hd
    obtain ⟨a, cap, rfl, _⟩ := h.isI
    have hc := Any.slices_Sort_int_none laySort a cap w
    change Calls Try.prog 31 _ _ _ at hc
    refine hc.mono ?_
    rintro e w' ⟨rfl, rfl⟩
    exact ⟨rfl, by simpa [sortI] using h, ⟨rfl, rfl, rfl, Nat.le_refl _, fun _ _ _ => rfl⟩⟩
  · obtain ⟨g, cap, rfl⟩ := h.addr hd
    have hc : Calls Try.prog (laySort_ren.f 189) _ _ _ := calls_of_every_depth fun D => AnyS.slices_Sort_int_in laySort D g 0 cap d w h.holds (h.rowLt rfl).2 hl
    change Calls Try.prog 31 _ _ _ at hc
    refine hc.mono ?_
    rintro e w' ⟨rfl, n, os, rfl⟩
    obtain ⟨q1, q2⟩ := h.put (c := sortI d) n (sortI d) (sortI_len d) os 0 (Nat.le_refl _) (fun _ _ h => h)
    rw [sortI_len] at q1
    exact ⟨rfl, q1, q2⟩
/-- Equal ones that stand next to each other, once. -/
theorem compact_any (h : OwnI w base v d) : Calls Try.prog 24 #[v] w fun e w' => ∃ v', e = .returned v' ∧ OwnI w' base v' (Lib.compact d) ∧ w.grownBy w' v.ownBlock := by
  have hcl : (Lib.compact d).length ≤ d.length := by
    unfold Lib.compact Lib.compactUpTo
    rw [List.length_map]
    exact Nat.le_trans (List.length_filter_le _ _) (by simp)
  by_cases hd : d = []
  · subst hd
    obtain ⟨a, cap, rfl, _⟩ := h.isI
    have hc := Any.slices_Compact_int_empty layCompact a cap w
    change Calls Try.prog 24 _ _ _ at hc
    refine hc.mono ?_
    rintro e w' ⟨rfl, rfl⟩
    exact ⟨_, rfl, h, ⟨rfl, rfl, rfl, Nat.le_refl _, fun _ _ _ => rfl⟩⟩
  · obtain ⟨g, cap, rfl⟩ := h.addr hd
    have hI := h.isIv
    have hc := Any.slices_Compact_int layCompact g 0 cap d w h.holds hI.len hI.le
    change Calls Try.prog 24 _ _ _ at hc
    refine hc.mono ?_
    rintro e w' ⟨rfl, q, rfl⟩
    obtain ⟨q1, q2⟩ := h.put (c := Lib.compact d) q (Lib.compact d ++ List.replicate (d.length - (Lib.compact d).length) 0) (by simp; omega) #[] 0 (by simp) (fun j x hx => by
      rw [List.getElem?_append_left (List.getElem?_eq_some_iff.1 hx).1]; exact hx)
    rw [grow_empty] at q1 q2
    exact ⟨_, rfl, q1, q2⟩
theorem compact_mem (d : List Int) (h : d.Pairwise (· ≤ ·)) : Up (Lib.compact d) ∧ ∀ x, x ∈ Lib.compact d ↔ x ∈ d := by
  have at_ : ∀ i j, i ≤ j → j < d.length → d.toArray[i]! ≤ d.toArray[j]! := fun i j hij hj => by
    rw [getElem!_pos d.toArray i (by simp; omega), getElem!_pos d.toArray j (by simpa using hj)]
    rcases Nat.lt_or_ge i j with c | c
    · exact List.pairwise_iff_getElem.1 h i j (by omega) hj c
    · obtain rfl : i = j := by omega
      exact Int.le_refl _
  have mem : ∀ x, x ∈ Lib.compact d ↔ ∃ i, i < d.length ∧ Lib.keeps d.toArray i = true ∧ d.toArray[i]! = x := fun x => by
    unfold Lib.compact Lib.compactUpTo
    simp [List.mem_map, List.mem_filter, and_assoc]
  refine ⟨?_, fun x => ?_⟩
  · unfold Lib.compact Lib.compactUpTo Up
    rw [List.pairwise_map]
    have hp : (List.range d.length).Pairwise (· < ·) := List.pairwise_lt_range
    refine (hp.filter _).imp_of_mem (fun {i j} hi hj hij => ?_)
    obtain ⟨hj1, hj2⟩ := List.mem_filter.1 hj
    have hj1 := List.mem_range.1 hj1
    unfold Lib.keeps at hj2
    have hj2 := of_decide_eq_true hj2
    have a1 := at_ i (j - 1) (by omega) (by omega)
    have a2 := at_ (j - 1) j (by omega) hj1
    rcases hj2 with hj2 | hj2
    · omega
    · omega
  · rw [mem]
    constructor
    · rintro ⟨i, hi, _, rfl⟩
      rw [getElem!_pos d.toArray i (by simpa using hi)]
      simp
    · intro hx
      obtain ⟨i, hi, rfl⟩ := List.getElem_of_mem hx
      have go : ∀ i, (hi : i < d.length) → ∃ k, k < d.length ∧ Lib.keeps d.toArray k = true ∧ d.toArray[k]! = d.toArray[i]! := fun i => by
        induction i with
        | zero => exact fun hi => ⟨0, hi, by simp [Lib.keeps], rfl⟩
        | succ i ih =>
          intro hi
          by_cases c : d.toArray[i + 1]! = d.toArray[i]!
          · obtain ⟨k, h1, h2, h3⟩ := ih (by omega)
            exact ⟨k, h1, h2, h3.trans c.symm⟩
          · exact ⟨i + 1, hi, by unfold Lib.keeps; exact decide_eq_true (.inr (by simpa using c)), rfl⟩
      obtain ⟨k, h1, h2, h3⟩ := go i hi
      refine ⟨k, h1, h2, h3.trans ?_⟩
      rw [getElem!_pos d.toArray i (by simpa using hi)]
      simp
set_option maxHeartbeats 1000000 in
theorem rising_any (h : IsI w a cap d) (hl : d.length ≤ 1000000) : Calls Try.prog 25 #[.slice a d.length cap] w fun e w' => ∃ v', e = .returned v' ∧ OwnI w' w.heap.size v' (sortI d) ∧ Below w.heap.size w w' := by
  have hc := clone_any h hl
  go_enter Try.func25, Try.ntmps25
  go_wp2_with fail
  refine hc.mono ?_
  rintro e w1 ⟨v1, rfl, o1, b1⟩
  have hs := sort_any o1 (by omega)
  clear hc
  go_wp2_with fail
  refine hs.mono ?_
  rintro e w2 ⟨rfl, o2, g2⟩
  have b2 : Below w.heap.size w w2 := b1.grown g2 b1.size (fun k hk => (o1.rowLt hk).1)
  clear hs g2
  go_wp2_with fail
  go_ret
  exact ⟨_, rfl, o2, b2⟩
end Go.Proofs.Ythpdnlokjhafeaa

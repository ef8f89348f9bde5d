/- slices.Insert at timers where there is no room, and wherever; slices.Clone. -/
import Derived.Test.YtbopobgnmkhabaaDoorTmI
namespace Go.Proofs.YtbopobgnmkhabaaDoor
open Go.RowKit Go.Lib Go.Sort
set_option linter.unusedVariables false

set_option maxHeartbeats 4000000 in
set_option maxRecDepth 100000 in
theorem insert_full (g off i base G : Nat) (d : List Ent) (x : Ent) (w : World) (h : RowF w base g off d.length d) (hi : i < d.length) (hN : d.length ≤ 100000)
    (hG : w.heap[G]? = some (.cells #[.int .u64 x.1, .int .i64 x.2] 33 (0, 0))) (hbase : base ≤ w.heap.size) :
    Calls Tryd.prog 34 #[.slice (some ⟨g, off, none⟩) d.length d.length, .int .i64 i, .slice (some ⟨G, 0, none⟩) 1 1] w (InsF w base (.slice (some ⟨g, off, none⟩) d.length d.length) (d.take i ++ x :: d.drop i)) := by
  obtain ⟨inf, hinf, hzr, hsz, hby⟩ := infoE
  have hgl := h.lt
  have hGl := lt_of_block hG
  obtain ⟨n, hn⟩ : ∃ n, d.length = n := ⟨_, rfl⟩
  obtain ⟨S, hS⟩ : ∃ S, w.heap.size = S := ⟨_, rfl⟩
  obtain ⟨X0, hX0⟩ : ∃ X, flat (d.take i) = X := ⟨_, rfl⟩
  obtain ⟨X1, hX1⟩ : ∃ X, flat (d.drop i) = X := ⟨_, rfl⟩
  obtain ⟨Y, hY⟩ : ∃ Y, flat [x] = Y := ⟨_, rfl⟩
  have l0 : X0.length = i * 2 := by rw [← hX0, flat_len, List.length_take]; omega
  have l1 : X1.length = (n - i) * 2 := by rw [← hX1, flat_len, List.length_drop, hn]
  have lY : Y.length = 2 := by rw [← hY]; rfl
  obtain ⟨C, hC⟩ : ∃ C, grownCap w (i + (n + 1 - i)) n 33 = C := ⟨_, rfl⟩
  have hC1 : n + 1 ≤ C := by rw [← hC]; have := grownCap_ge w (i + (n + 1 - i)) n 33; omega
  have hC2 : C ≤ maxLen := by rw [← hC]; exact grownCap_le_maxLen w _ n _ (by unfold maxLen; omega)
  have hz2 : (Value.agg #[.int .u64 0, .int .i64 0]).cells = #[.int .u64 0, .int .i64 0] := rfl
  obtain ⟨cur1, hcur1⟩ : ∃ c, X0.toArray ++ Builtin.zeroCells #[.int .u64 0, .int .i64 0] (n + 1 - i) ++ Builtin.zeroCells #[.int .u64 0, .int .i64 0] (C - (i + (n + 1 - i))) = c := ⟨_, rfl⟩
  have s1 : cur1.size = C * 2 := by
    rw [← hcur1]
    simp only [Array.size_append, List.size_toArray, size_zeroCells, l0]
    show i * 2 + (n + 1 - i) * 2 + (C - (i + (n + 1 - i))) * 2 = C * 2
    omega
  have t1 : cur1.toList.take (i * 2) = X0 := by
    rw [← hcur1]
    simp only [Array.toList_append, List.append_assoc]
    rw [← l0]
    exact List.take_left
  obtain ⟨w1, hw1⟩ : ∃ W, w.drew.alloc (.cells cur1 33) = W := ⟨_, rfl⟩
  have hold : (Builtin.firstCells inf.size i (.slice (some ⟨g, off, none⟩) i n)).run Tryd.prog w.drew = .ok X0.toArray w.drew := by
    refine run_firstCells_some _ _ _ _ _ _ _ (by rw [l0, hsz]) (fun j v hj => ?_)
    have hjl := (List.getElem?_eq_some_iff.1 hj).1
    rw [Addr.add_lit]
    show w.cell? _ = _
    rw [h.cell j (by omega), ← hj, ← hX0, flat_take, List.getElem?_take_of_lt (by omega)]
  have hap : ∀ ty, (Builtin.append_ #[28, 3] ty #[.slice (some ⟨g, off, none⟩) i n, .int .i64 ((n : Int) + 1 - (i : Int))]).run Tryd.prog w = .ok (.slice (some ⟨S, 0, none⟩) (n + 1) C) w1 := fun ty => by
    have := Lib.run_append_grow_zeros (P := Tryd.prog) w 28 3 ty 33 inf _ .i64 .i64 Tryd.underlying28 Tryd.underlying3 hinf hzr (some ⟨g, off, none⟩) i n X0 hold (n + 1 - i) (by omega) (by omega) (by omega) (by omega) (by rw [hby]; omega) (by rw [hby]; exact growslice_fits (by omega) (by omega))
    rw [hz2, hC, hcur1, hS, show i + (n + 1 - i) = n + 1 by omega, hw1] at this
    rw [show (n : Int) + 1 - (i : Int) = ((n + 1 - i : Nat) : Int) by omega]
    exact this
  have b1 : Below w.heap.size w w1 := by rw [← hw1]; exact ((Below.refl _ _).drew).alloc (Nat.le_refl _) _
  have g1 : w1.heap[S]? = some (.cells cur1 33 (0, 0)) := by rw [← hw1, ← hS]; exact heap_alloc_new w.drew _
  have hG1 := (b1.block G hGl).trans hG
  have R1 : RowF w1 base g off d.length d := h.of_block (b1.block g hgl)
  have hcs : cur1.toList.length = C * 2 := by simpa using s1
  have hcp1 : ∀ ty dc, (Builtin.copy_ #[28, 28] ty #[.slice (some ⟨S, i * 2, none⟩) (n + 1 - i) dc, .slice (some ⟨G, 0, none⟩) 1 1]).run Tryd.prog w1 = .ok (goInt 1) (w1.setRow S (splice cur1.toList (i * 2) Y).toArray) := fun ty dc => by
    have e : Nat.min 1 (n + 1 - i) = 1 := by show min _ _ = _; omega
    have := run_copy2 w1 ty S (i * 2) (n + 1 - i) dc ⟨G, 0, none⟩ 1 1 _ Y g1 (by rw [e, lY]) (fun j v hj => by
      have : j = 0 ∨ j = 1 := by have := (List.getElem?_eq_some_iff.1 hj).1; omega
      rw [Addr.add_lit, Nat.zero_add, cell_of_row _ _ _ _ _ _ hG1, ← hj, ← hY]
      rcases this with rfl | rfl <;> rfl) (by rw [s1, lY]; omega) (by rw [← hY]; exact flat_one _)
    rw [e] at this
    exact this
  have hSg : g ≠ S := by omega
  obtain ⟨w2, hw2⟩ : ∃ w2, w1.setRow S (splice cur1.toList (i * 2) Y).toArray = w2 := ⟨_, rfl⟩
  have g2 : w2.heap[S]? = some (.cells (splice cur1.toList (i * 2) Y).toArray 33 (0, 0)) := by rw [← hw2]; exact setRow_heap w1 _ _ _ _ _ g1
  have R2 : RowF w2 base g off d.length d := R1.of_block (by rw [← hw2]; exact setRow_other w1 S g _ hSg)
  have gw2 : w.grownBy w2 none := by rw [← hw2]; exact grown_set _ (grown_below _ b1) (.inr (by omega))
  simp only [hw2] at hcp1
  have m1 : (splice cur1.toList (i * 2) Y).length = C * 2 := by rw [length_splice _ _ _ (by rw [lY, hcs]; omega), hcs]
  have hcp2 : ∀ ty dc sc, (Builtin.copy_ #[28, 28] ty #[.slice (some ⟨S, (i + 1) * 2, none⟩) (n + 1 - (i + 1)) dc, .slice (some ⟨g, off + i * 2, none⟩) (n - i) sc]).run Tryd.prog w2.drew = .ok (goInt ((n - i : Nat) : Int)) (w2.drew.setRow S (splice (splice cur1.toList (i * 2) Y) ((i + 1) * 2) X1).toArray) := fun ty dc sc => by
    have e : Nat.min (n - i) (n + 1 - (i + 1)) = n - i := by show min _ _ = _; omega
    have := run_copy2 w2.drew ty S ((i + 1) * 2) (n + 1 - (i + 1)) dc ⟨g, off + i * 2, none⟩ (n - i) sc _ X1 g2 (by rw [e, l1]) (fun j v hj => by
      have hjl := (List.getElem?_eq_some_iff.1 hj).1
      rw [Addr.add_lit]
      show w2.cell? _ = _
      rw [Nat.add_assoc, R2.cell (i * 2 + j) (by omega), ← hj, ← hX1, flat_drop, List.getElem?_drop]) (by simp only [List.size_toArray]; rw [m1, l1]; omega) (by rw [← hX1]; exact flat_one _)
    rw [e] at this
    exact this
  obtain ⟨w3, hw3⟩ : ∃ w3, w2.drew.setRow S (splice (splice cur1.toList (i * 2) Y) ((i + 1) * 2) X1).toArray = w3 := ⟨_, rfl⟩
  have g3 : w3.heap[S]? = some (.cells (splice (splice cur1.toList (i * 2) Y) ((i + 1) * 2) X1).toArray 33 (0, 0)) := by rw [← hw3]; exact setRow_heap w2.drew _ _ _ _ _ g2
  have gw3 : w.grownBy w3 none := by rw [← hw3]; exact grown_set _ (grown_trans gw2 (grown_below _ ((Below.refl _ _).drew))) (.inr (by omega))
  simp only [hw3] at hcp2
  have le : (d.take i ++ x :: d.drop i).length = n + 1 := by simp; omega
  have hfin : RowF w3 base S 0 C (d.take i ++ x :: d.drop i) := by
    refine ⟨by omega, by omega, by omega, hC2, [], splice (splice cur1.toList (i * 2) Y) ((i + 1) * 2) X1, g3, rfl, by rw [length_splice _ _ _ (by rw [l1, m1]; omega), m1], ?_⟩
    have e1 : flat (d.take i ++ x :: d.drop i) = X0 ++ (Y ++ X1) := by rw [← hX0, ← hY, ← hX1, ← flat_append, ← flat_append]; rfl
    rw [le, e1, ← t1]
    show List.take _ ((splice cur1.toList (i * 2) Y).take ((i + 1) * 2) ++ (X1 ++ (splice cur1.toList (i * 2) Y).drop ((i + 1) * 2 + X1.length))) = _
    have e2 : (splice cur1.toList (i * 2) Y).take ((i + 1) * 2) = cur1.toList.take (i * 2) ++ Y := by
      unfold splice
      rw [← List.append_assoc, List.take_append_of_le_length (by rw [List.length_append, List.length_take, hcs, lY]; omega), List.take_of_length_le (by rw [List.length_append, List.length_take, hcs, lY]; omega)]
    rw [e2, ← List.append_assoc, List.take_append_of_le_length (by simp [lY, l1, s1]; omega), List.take_of_length_le (by simp [lY, l1, s1]; omega), List.append_assoc]
  have F : Aside (InsF w base (.slice (some ⟨g, off, none⟩) n n) (d.take i ++ x :: d.drop i) (.returned (.slice (some ⟨S, 0, none⟩) (n + 1) C)) w3) :=
    ⟨_, rfl, .inr ⟨S, 0, C, by rw [le], hfin⟩, ⟨gw3.os, gw3.tape, gw3.output, gw3.size, fun k hk _ => gw3.block k hk (by simp)⟩, fun k hk => .inr (by rw [hfin.rowB] at hk; injection hk with hk; omega)⟩
  have mx := mixed
  rw [hn] at hi hN ⊢
  have z1 : ¬ ((i : Int) = (n : Int)) := by omega
  have z2 : ((i : Int) == (n : Int)) = false := by simp; omega
  have z3 : (i : Int) ≤ (n : Int) := by omega
  have z4 : ¬ n = i := by omega
  have z5 : ¬ C = i := by omega
  have z6 : (n : Int) < (n : Int) + 1 := by omega
  have z7 : ¬ C = i + 1 := by omega
  have z8 : (i : Int) ≤ (n : Int) + 1 := by omega
  have z9 : (i : Int) + 1 ≤ (n : Int) + 1 := by omega
  have z10 : ((i : Int) + 1).toNat = i + 1 := by omega
  have z11 : (0 : Int) ≤ (i : Int) + 1 := by omega
  have z13 : IntKind.i64.wrap ((i : Int) + 1) = (i : Int) + 1 := by rw [IntKind.wrap_i64]; omega
  have z14 : IntKind.i64.wrap ((n : Int) + 1) = (n : Int) + 1 := by rw [IntKind.wrap_i64]; omega
  have z15 : IntKind.i64.wrap ((n : Int) + 1 - (i : Int)) = (n : Int) + 1 - (i : Int) := by rw [IntKind.wrap_i64]; omega
  have hC3 : (C : Int) ≤ 9223372036854775807 := by unfold maxLen at hC2; omega
  clear h hG hcs hX1 hX0 hY l1 l0 lY b1 g1 hG1 m1 hw1 g2 hw2 hfin hinf hn g3 hw3 s1 t1 hcur1 hC hC2 hzr R1 R2 gw2 gw3 le hold
  go_enter Tryd.func34, Tryd.ntmps34
  go_wp2_with (first
    | (at_builtin; refine Lib.wpList_append_run w rfl _ _ 28 3 rfl _ _ rfl rfl _ _ (hap _) ?_)
    | (at_builtin; refine wpList_copy_run2 w1 rfl _ _ 28 28 rfl _ _ rfl rfl (hcp1 _ _) ?_))
  go_region_law_o (refine step_copy_run2 w2.drew rfl _ _ 28 28 rfl _ _ (by simp [Act.eval, Act.put]; rfl) (by simp [Act.eval, Act.put]; rfl) (hcp2 _ _ _) ?_)
  go_wp2
  go_ret
  exact F.out

/-- Wherever, and whether there is room or not. -/
theorem insert_any (v : Value) (base i G : Nat) (d : List Ent) (x : Ent) (w : World) (h : OwnF w base v d) (hi : i ≤ d.length) (hN : d.length ≤ 100000)
    (hG : w.heap[G]? = some (.cells #[.int .u64 x.1, .int .i64 x.2] 33 (0, 0))) (hne : rowB v ≠ some G) (hbase : base ≤ w.heap.size) :
    Calls Tryd.prog 34 #[v, .int .i64 i, .slice (some ⟨G, 0, none⟩) 1 1] w (InsF w base v (d.take i ++ x :: d.drop i)) := by
  by_cases c : i = d.length
  · subst c
    rw [List.take_of_length_le (Nat.le_refl _), List.drop_eq_nil_of_le (Nat.le_refl _)]
    exact insert_end v base G d x w h (by rw [cell_of_row _ _ _ _ _ _ hG]; rfl) (by rw [cell_of_row _ _ _ _ _ _ hG]; rfl) (lt_of_block hG) hN hbase
  · rcases h with ⟨rfl, _⟩ | ⟨g, off, cap, rfl, hr⟩
    · simp at hi c; omega
    · have hle := hr.le
      by_cases hroom : d.length < cap
      · exact insert_mid g off cap i base G d x w hr (by omega) hroom hG (fun e => hne (by rw [hr.rowB, e]))
      · obtain rfl : cap = d.length := by omega
        exact insert_full g off i base G d x w hr (by omega) hN hG hbase

set_option maxHeartbeats 400000 in
theorem clone_any (v : Value) (base : Nat) (d : List Ent) (w : World) (h : OwnF w base v d) (hd : d.length ≤ 100000) :
    Calls Tryd.prog 46 #[v] w fun r w' => ∃ v', r = .returned v' ∧ OwnF w' w.heap.size v' d ∧ Below w.heap.size w w' ∧ ∀ k, rowB v' = some k → w.heap.size ≤ k := by
  have q22 : ∀ (w : World) (a : Option Addr) (n c n' c' : Nat), (binOp .eql 28 (.slice a n c) (.slice none n' c')).run Tryd.prog w = .ok (.bool a.isNone) w := fun w a n c n' c' => Lib.run_eql_slice_nil w _ _ a n c n' c' Tryd.underlying28
  obtain ⟨a, cap, rfl, ha, hc1, hc2, hL⟩ := h.isL
  rcases ha with ⟨rfl, rfl⟩ | ⟨g, off, rfl⟩
  · obtain rfl : d = [] := List.length_eq_zero_iff.1 (by omega)
    go_enter Tryd.func46, Tryd.ntmps46
    go_wp2
    go_ret
    exact ⟨_, rfl, OwnF.nil _ _, Below.refl _ _, fun k hk => by cases hk⟩
  · obtain ⟨v', w', hr, o, k1, k2⟩ := appF (d := []) (c := d) (OwnF.zero (w.alloc (.cells #[] 33)) w.heap.size w.heap.size 0) (hL.below ((Below.refl _ _).alloc (Nat.le_refl _) _)) (by simp; omega) (by simp) 28
    have F : Aside (OwnF w' w.heap.size v' d ∧ Below w.heap.size w w' ∧ ∀ k, rowB v' = some k → w.heap.size ≤ k) := by
      refine ⟨o, ((Below.refl _ _).alloc (Nat.le_refl _) _).trans ⟨k1.os, k1.tape, k1.output, k1.size, fun k hk => k1.block k (by simp; omega) (fun e => by cases e)⟩, fun k hk => ?_⟩
      rcases k2 k hk with h | h
      · cases h
      · simp at h; omega
    clear o k1 k2 h hL
    go_enter Tryd.func46, Tryd.ntmps46
    go_wp2_with (at_builtin; refine Lib.wpList_append_run _ rfl _ _ 28 28 rfl _ _ rfl rfl v' w' hr ?_)
    go_ret
    exact ⟨_, rfl, F.out⟩
end Go.Proofs.YtbopobgnmkhabaaDoor

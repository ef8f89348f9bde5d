/- slices.Insert at blocks: one of them, where there is no room. -/
import Derived.Test.YtboccihcomaaoaaShrI
namespace Go.Proofs.Ytboccihcomaaoaa
open Go.RowKit Go.Lib Go.Sort
set_option linter.unusedVariables false

/-- append(s, make([]T, n)...) onto a row that has no room for them. -/
theorem run_append_grow_zeros {P : Program} (w : World) (t tn ty e : TypeId) (i : TypeInfo) (z : Value) (k kn : IntKind) (ht : P.underlying t = some (.slice e)) (htn : P.underlying tn = some (.int kn)) (hi : P.info? e = some i) (hz : i.zero = some z)
    (b : Addr) (sLen sCap : Nat) (olds : List Value) (hlo : olds.length = sLen * i.size) (holds : ∀ j v, olds[j]? = some v → w.cell? (b.add j) = some v)
    (n : Nat) (h0 : 0 < n) (hs : 0 < i.size) (hg : sCap < sLen + n) (h63 : ((sLen + n : Nat) : Int) ≤ 9223372036854775807) (h48 : n * i.bytes ≤ 281474976710656) (hfit : Builtin.nextslicecap (sLen + n) sCap * i.bytes ≤ 281474976710656) :
    (Builtin.append_ #[t, tn] ty #[.slice (some b) sLen sCap, .int k n]).run P w =
      .ok (.slice (some ⟨w.heap.size, 0, none⟩) (sLen + n) (grownCap w (sLen + n) sCap e))
        (w.drew.alloc (.cells (olds.toArray ++ Builtin.zeroCells z.cells n ++ Builtin.zeroCells z.cells (grownCap w (sLen + n) sCap e - (sLen + n))) e)) := by
  have hn : n ≠ 0 := by omega
  have hnn : ¬ (sLen + n ≤ sCap) := by omega
  have hw : IntKind.i64.wrap (n : Int) = n := by rw [IntKind.wrap_i64]; omega
  have h63' : ¬ (9223372036854775807 < ((sLen : Int) + (n : Int))) := by omega
  have h48' : ¬ (281474976710656 < Builtin.nextslicecap (sLen + n) sCap * i.bytes) := by omega
  have h48i : ¬ (281474976710656 < (n : Int) * (i.bytes : Int)) := by
    rw [← Int.natCast_mul]
    omega
  have hneg : ¬ ((n : Int) < 0) := by omega
  have hns : ¬ (n * i.size = 0) := Nat.mul_ne_zero hn (by omega)
  have hfo := run_firstCells_some (P := P) w.drew i.size sLen b sLen sCap olds hlo (by simpa using holds)
  simp [Builtin.append_, run_underlying ht, run_underlying htn, sizeOf, typeInfo, zeroValue, hi, hz, asInt, asIntOf, hw, hnn, hneg, hns, h63', h48', h48i, Question.forced, hfo, newRow, grownCap]

set_option maxHeartbeats 4000000 in
set_option maxRecDepth 100000 in
theorem insert_full (a : Option Addr) (n i base G : Nat) (bs : List Bk) (b : Bk) (w : World) (h : RowB 34 w base (.slice a n n) bs) (hn : bs.length = n) (hi : i < n) (hN : n ≤ 100000) (hb : OwnE w base (.slice b.p b.d.length b.q) b.d)
    (hG : w.heap[G]? = some (.cells #[.int .i64 (lv b.d), .slice b.p b.d.length b.q] 34 (0, 0))) (hbase : base ≤ w.heap.size) :
    Calls Try.prog 54 #[.slice a n n, .int .i64 i, .slice (some ⟨G, 0, none⟩) 1 1] w fun r w' => ∃ a' cap', r = .returned (.slice a' (n + 1) cap') ∧ TurnsB w base (.slice a n n) (.slice a' (n + 1) cap') (bs.take i ++ b :: bs.drop i) w' := by
  obtain ⟨inf, hinf, hzr, hsz, hby⟩ := info62
  have hrow : w.ownsRow base 34 2 (.slice a n n) n (flatB bs) := by have := h.row; rw [hn] at this; exact this
  rcases hrow.2 with ⟨h1, h0⟩ | ⟨g, cap', cur, h1, hbg, hg, hnc, hc, hs, ht⟩
  · omega
  injection h1 with e1 e2 e3
  clear e2
  subst e1 e3
  have hgl := lt_of_block hg
  have hGl := lt_of_block hG
  obtain ⟨S, hS⟩ : ∃ S, w.heap.size = S := ⟨_, rfl⟩
  obtain ⟨X0, hX0⟩ : ∃ X, flatB (bs.take i) = X := ⟨_, rfl⟩
  obtain ⟨X1, hX1⟩ : ∃ X, flatB (bs.drop i) = X := ⟨_, rfl⟩
  obtain ⟨Y, hY⟩ : ∃ Y, flatB [b] = Y := ⟨_, rfl⟩
  have l0 : X0.length = i * 2 := by rw [← hX0, flatB_len, List.length_take]; omega
  have l1 : X1.length = (n - i) * 2 := by rw [← hX1, flatB_len, List.length_drop, hn]
  have lY : Y.length = 2 := by rw [← hY]; rfl
  obtain ⟨C, hC⟩ : ∃ C, grownCap w (i + (n + 1 - i)) n 34 = C := ⟨_, rfl⟩
  have hC1 : n + 1 ≤ C := by rw [← hC]; have := grownCap_ge w (i + (n + 1 - i)) n 34; omega
  have hC2 : C ≤ maxLen := by rw [← hC]; exact grownCap_le_maxLen w _ n _ (by unfold maxLen; omega)
  have hz2 : (Value.agg #[.int .i64 0, .slice none 0 0]).cells = #[.int .i64 0, .slice none 0 0] := rfl
  obtain ⟨cur1, hcur1⟩ : ∃ c, X0.toArray ++ Builtin.zeroCells #[.int .i64 0, .slice none 0 0] (n + 1 - i) ++ Builtin.zeroCells #[.int .i64 0, .slice none 0 0] (C - (i + (n + 1 - i))) = c := ⟨_, rfl⟩
  have s1 : cur1.size = C * 2 := by
    rw [← hcur1]
    simp only [Array.size_append, List.size_toArray, size_zeroCells, l0]
    show i * 2 + (n + 1 - i) * 2 + (C - (i + (n + 1 - i))) * 2 = C * 2
    omega
  have t1 : cur1.toList.take (i * 2) = X0 := by
    rw [← hcur1]
    simp only [Array.toList_append, List.append_assoc]
    rw [← l0]
    exact List.take_left
  obtain ⟨w1, hw1⟩ : ∃ W, w.drew.alloc (.cells cur1 34) = W := ⟨_, rfl⟩
  have hap : ∀ ty, (Builtin.append_ #[28, 3] ty #[.slice (some ⟨g, 0, none⟩) i n, .int .i64 ((n : Int) + 1 - (i : Int))]).run Try.prog w = .ok (.slice (some ⟨S, 0, none⟩) (n + 1) C) w1 := fun ty => by
    have := run_append_grow_zeros (P := Try.prog) w 28 3 ty 34 inf _ .i64 .i64 Try.underlying28 Try.underlying3 hinf hzr ⟨g, 0, none⟩ i n X0 (by rw [l0, hsz]) (fun j v hj => by
      have hjl := (List.getElem?_eq_some_iff.1 hj).1
      rw [Addr.add_lit, Nat.zero_add, World.ownsRow.cellAt hrow j (by omega), ← hj, ← hX0, ← flatB_take, List.getElem?_take, if_pos (by omega)]) (n + 1 - i) (by omega) (by omega) (by omega) (by omega) (by rw [hby]; omega) (by rw [hby]; exact growslice_fits (by omega) (by omega))
    rw [hz2, hC, hcur1, hS, show i + (n + 1 - i) = n + 1 by omega, hw1] at this
    rw [show (n : Int) + 1 - (i : Int) = ((n + 1 - i : Nat) : Int) by omega]
    exact this
  have b1 : Below w.heap.size w w1 := by rw [← hw1]; exact ((Below.refl _ _).drew).alloc (Nat.le_refl _) _
  have g1 : w1.heap[S]? = some (.cells cur1 34 (0, 0)) := by rw [← hw1, ← hS]; exact heap_alloc_new w.drew _
  have hG1 := (b1.block G hGl).trans hG
  have hg1 := (b1.block g hgl).trans hg
  have hcs : cur1.toList.length = C * 2 := by simpa using s1
  have hcp1 : ∀ ty dc, (Builtin.copy_ #[28, 28] ty #[.slice (some ⟨S, i * 2, none⟩) (n + 1 - i) dc, .slice (some ⟨G, 0, none⟩) 1 1]).run Try.prog w1 = .ok (goInt 1) (w1.setRow S (splice cur1.toList (i * 2) Y).toArray) := fun ty dc => by
    have e : Nat.min 1 (n + 1 - i) = 1 := by show min _ _ = _; omega
    have := run_copy2 w1 ty S (i * 2) (n + 1 - i) dc ⟨G, 0, none⟩ 1 1 _ Y g1 (by rw [e, lY]) (fun j v hj => by
      have : j = 0 ∨ j = 1 := by have := (List.getElem?_eq_some_iff.1 hj).1; omega
      rw [Addr.add_lit, Nat.zero_add, cell_of_row _ _ _ _ _ _ hG1, ← hj, ← hY]
      rcases this with rfl | rfl <;> rfl) (by rw [s1, lY]; omega) (by rw [← hY]; exact flatB_one _)
    rw [e] at this
    exact this
  obtain ⟨b2, k2, g2⟩ := setRow_ends (S := fun T => T = 34) (w := w1) (base := S) (cur' := (splice cur1.toList (i * 2) Y).toArray) g1 (Nat.le_refl _) rfl
  obtain ⟨w2, hw2⟩ : ∃ w2, w1.setRow S (splice cur1.toList (i * 2) Y).toArray = w2 := ⟨_, rfl⟩
  simp only [hw2] at hcp1
  rw [hw2] at b2 k2 g2
  have m1 : (splice cur1.toList (i * 2) Y).length = C * 2 := by rw [length_splice _ _ _ (by rw [lY, hcs]; omega), hcs]
  have hg2 : w2.drew.heap[g]? = some (.cells cur 34 (0, 0)) := (b2.block g (by omega)).trans hg1
  have hcp2 : ∀ ty dc sc, (Builtin.copy_ #[28, 28] ty #[.slice (some ⟨S, (i + 1) * 2, none⟩) (n + 1 - (i + 1)) dc, .slice (some ⟨g, i * 2, none⟩) (n - i) sc]).run Try.prog w2.drew = .ok (goInt ((n - i : Nat) : Int)) (w2.drew.setRow S (splice (splice cur1.toList (i * 2) Y) ((i + 1) * 2) X1).toArray) := fun ty dc sc => by
    have e : Nat.min (n - i) (n + 1 - (i + 1)) = n - i := by show min _ _ = _; omega
    have := run_copy2 w2.drew ty S ((i + 1) * 2) (n + 1 - (i + 1)) dc ⟨g, i * 2, none⟩ (n - i) sc _ X1 g2 (by rw [e, l1]) (fun j v hj => by
      have hjl := (List.getElem?_eq_some_iff.1 hj).1
      rw [Addr.add_lit, cell_of_row _ _ _ _ _ _ hg2, ← cell_of_row w g _ _ _ _ hg]
      rw [World.ownsRow.cellAt hrow (i * 2 + j) (by omega), ← hj, ← hX1, ← flatB_drop, List.getElem?_drop]) (by simp only [List.size_toArray]; rw [m1, l1]; omega) (by rw [← hX1]; exact flatB_one _)
    rw [e] at this
    exact this
  obtain ⟨b3, k3, g3⟩ := setRow_ends (S := fun T => T = 34) (w := w2.drew) (base := S) (cur' := (splice (splice cur1.toList (i * 2) Y) ((i + 1) * 2) X1).toArray) g2 (Nat.le_refl _) rfl
  obtain ⟨w3, hw3⟩ : ∃ w3, w2.drew.setRow S (splice (splice cur1.toList (i * 2) Y) ((i + 1) * 2) X1).toArray = w3 := ⟨_, rfl⟩
  simp only [hw3] at hcp2
  rw [hw3] at b3 k3 g3
  have bw : Below w.heap.size w w3 := (b1.trans (by rw [hS]; exact b2)).trans (Below.trans ((Below.refl _ _).drew) (by rw [hS]; exact b3))
  have hfin : TurnsB w base (.slice (some ⟨g, 0, none⟩) n n) (.slice (some ⟨S, 0, none⟩) (n + 1) C) (bs.take i ++ b :: bs.drop i) w3 := by
    refine ⟨⟨?_, fun x hx => ?_⟩, ⟨bw.os, bw.tape, bw.output, bw.size, fun k hk _ => bw.block k hk⟩⟩
    · have le : (bs.take i ++ b :: bs.drop i).length = n + 1 := by simp; omega
      rw [le]
      refine ⟨by rw [flatB_len, le], .inr ⟨S, C, _, rfl, by omega, g3, hC1, hC2, ?_, ?_⟩⟩
      · simp only [List.size_toArray]
        rw [length_splice _ _ _ (by rw [l1, m1]; omega), m1]
      · have e1 : flatB (bs.take i ++ b :: bs.drop i) = X0 ++ (Y ++ X1) := by rw [← hX0, ← hY, ← hX1, ← flatB_append, ← flatB_append]; rfl
        rw [e1, ← t1]
        show List.take _ ((splice cur1.toList (i * 2) Y).take ((i + 1) * 2) ++ (X1 ++ (splice cur1.toList (i * 2) Y).drop ((i + 1) * 2 + X1.length))) = _
        have e2 : (splice cur1.toList (i * 2) Y).take ((i + 1) * 2) = cur1.toList.take (i * 2) ++ Y := by
          unfold splice
          rw [← List.append_assoc, List.take_append_of_le_length (by rw [List.length_append, List.length_take, hcs, lY]; omega), List.take_of_length_le (by rw [List.length_append, List.length_take, hcs, lY]; omega)]
        rw [e2, ← List.append_assoc, List.take_append_of_le_length (by simp [lY, l1, s1]; omega), List.take_of_length_le (by simp [lY, l1, s1]; omega), List.append_assoc]
    · rcases List.mem_append.1 hx with hx | hx
      · exact (h.own x (List.mem_of_mem_take hx)).below bw
      · rcases List.mem_cons.1 hx with rfl | hx
        · exact hb.below bw
        · exact (h.own x (List.mem_of_mem_drop hx)).below bw
  have F : Aside (TurnsB w base (.slice (some ⟨g, 0, none⟩) n n) (.slice (some ⟨S, 0, none⟩) (n + 1) C) (bs.take i ++ b :: bs.drop i) w3) := hfin
  have mx := mixed
  have z1 : ¬ ((i : Int) = (n : Int)) := by omega
  have z2 : ((i : Int) == (n : Int)) = false := by simp; omega
  have z3 : (i : Int) ≤ (n : Int) := by omega
  have z4 : ¬ n = i := by omega
  have z5 : ¬ C = i := by omega
  have z6 : (n : Int) < (n : Int) + 1 := by omega
  have z7 : ¬ C = i + 1 := by omega
  have z8 : (i : Int) ≤ (n : Int) + 1 := by omega
  have z9 : (i : Int) + 1 ≤ (n : Int) + 1 := by omega
  have z10 : ((i : Int) + 1).toNat = i + 1 := by omega
  have z11 : (0 : Int) ≤ (i : Int) + 1 := by omega
  have z13 : IntKind.i64.wrap ((i : Int) + 1) = (i : Int) + 1 := by rw [IntKind.wrap_i64]; omega
  have z14 : IntKind.i64.wrap ((n : Int) + 1) = (n : Int) + 1 := by rw [IntKind.wrap_i64]; omega
  have z15 : IntKind.i64.wrap ((n : Int) + 1 - (i : Int)) = (n : Int) + 1 - (i : Int) := by rw [IntKind.wrap_i64]; omega
  have hC3 : (C : Int) ≤ 9223372036854775807 := by unfold maxLen at hC2; omega
  clear h hrow hg hs ht hG hcs hX1 hX0 hY l1 l0 lY b1 g1 hG1 m1 hw1 b2 k2 g2 hw2 bw hfin hinf hn hb b3 k3 g3 hw3 hg1 hg2 s1 t1 hcur1 hC hC2 hzr
  go_enter Try.func54, Try.ntmps54
  go_wp2_with (first
    | (at_builtin; refine Lib.wpList_append_run w rfl _ _ 28 3 rfl _ _ rfl rfl _ _ (hap _) ?_)
    | (at_builtin; refine wpList_copy_run2 w1 rfl _ _ 28 28 rfl _ _ rfl rfl (hcp1 _ _) ?_))
  go_region_law_o (refine step_copy_run2 w2.drew rfl _ _ 28 28 rfl _ _ (by simp [Act.eval, Act.put]; rfl) (by simp [Act.eval, Act.put]; rfl) (hcp2 _ _ _) ?_)
  go_wp2
  go_ret
  exact ⟨_, _, rfl, F.out⟩

/-- Wherever, and whether there is room or not. -/
theorem insS_any (a : Option Addr) (n cap i base G : Nat) (bs : List Bk) (b : Bk) (w : World) (h : RowB 34 w base (.slice a n cap) bs) (hn : bs.length = n) (hi : i ≤ n) (hb : OwnE w base (.slice b.p b.d.length b.q) b.d)
    (hG : w.heap[G]? = some (.cells #[.int .i64 (lv b.d), .slice b.p b.d.length b.q] 34 (0, 0))) (hGa : a ≠ some ⟨G, 0, none⟩) (hN : n ≤ 100000) (hbase : base ≤ w.heap.size) :
    Calls Try.prog 54 #[.slice a n cap, .int .i64 i, .slice (some ⟨G, 0, none⟩) 1 1] w fun r w' => ∃ a' cap', r = .returned (.slice a' (n + 1) cap') ∧ TurnsB w base (.slice a n cap) (.slice a' (n + 1) cap') (bs.take i ++ b :: bs.drop i) w' := by
  by_cases c : i = n ∨ n < cap
  · exact insB_any a n cap i base G bs b w h hn hi c hb hG hGa hN hbase
  · obtain ⟨a', cap', e, h1, h2⟩ := h.slice
    injection e with _ _ e3
    obtain rfl : cap = n := by omega
    exact insert_full a cap i base G bs b w h hn (by omega) hN hb hG hbase
end Go.Proofs.Ytboccihcomaaoaa

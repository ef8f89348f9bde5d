/- queue: New. -/
import Derived.Test.YtdcacbjmbfppeaaGreatQ8
namespace Go.Proofs.YtdcacbjmbfppeaaGreat
open Go.RowKit Go.Lib Go.Sort
set_option linter.unusedVariables false

set_option maxHeartbeats 400000 in
theorem qnew_out1 (n k : Int) (w : World) (h : n < 1 ∨ 8 < n) :
    Calls Tryz.prog 5 #[.int .i64 n, .int .i64 k] w fun r w' => r = .returned (.tuple #[.pointer none, .int .i64 1]) ∧ w' = w := by
  have sn := slNew_out n w h
  go_enter Tryz.func5, Tryz.ntmps5
  go_wp2_with fail
  refine sn.mono ?_
  rintro r w1 ⟨rfl, rfl⟩
  go_wp2
  go_ret2
  exact ⟨rfl, rfl⟩
set_option maxHeartbeats 400000 in
theorem qnew_out2 (n : Nat) (k : Int) (w : World) (h1 : 1 ≤ n) (h2 : n ≤ 8) (h : k < 0 ∨ 16 < k) :
    Calls Tryz.prog 5 #[.int .i64 n, .int .i64 k] w fun r w' => r = .returned (.tuple #[.pointer none, .int .i64 1]) ∧ Below w.heap.size w w' := by
  have sn := slNew_in n w _ rfl h1 h2
  rcases h with h | h
  · go_enter Tryz.func5, Tryz.ntmps5
    go_wp2_with fail
    refine sn.mono ?_
    rintro r w1 ⟨rfl, _, b1, _⟩
    have B1 : Aside (Below w.heap.size w w1) := b1
    clear b1 sn
    go_wp2
    go_ret2
    exact ⟨rfl, B1.out⟩
  · have h0 : ¬ k < 0 := by omega
    go_enter Tryz.func5, Tryz.ntmps5
    go_wp2_with fail
    refine sn.mono ?_
    rintro r w1 ⟨rfl, _, b1, _⟩
    have B1 : Aside (Below w.heap.size w w1) := b1
    clear b1 sn
    go_wp2
    go_ret2
    exact ⟨rfl, B1.out⟩

/-- What holds at the head of New's loop: k own lists are made. -/
structure NewI (w : World) (S T K k : Nat) (a : Option Addr) (cap : Nat) (L : Nat → Nat) (wr : World) : Prop where
  low : Below S w wr
  head : wr.heap[S + 3]? = some (.cells #[.int .i64 K, ptr (S + 1), .slice a k cap, ptr (S + 2), .map none] 59 (0, 0))
  slt : Slt wr (S + 1) S T (fun _ => Pl.zero)
  shr : ShrA wr (S + 2) 0 [] none
  row : wr.ownsRow (S + 4) 60 1 (.slice a k cap) k ((List.range k).map fun i => ptr (L i))
  own : ∀ i, i < k → LsmA wr S (L i) [] none
  inj : ∀ i j, i < k → j < k → L i = L j → i = j
theorem infoP : ∃ i, Tryz.prog.info? 60 = some i ∧ i.zero = some (.pointer none) ∧ i.size = 1 ∧ i.bytes = 8 := by
  have h : (Tryz.prog.info? 60).map (fun i => (i.zero, i.size, i.bytes)) = some (some (.pointer none), 1, 8) := by kernel_rfl
  obtain ⟨i, h1, h2⟩ := Option.map_eq_some_iff.1 h
  simp at h2
  exact ⟨i, h1, h2.1, h2.2.1, h2.2.2⟩
theorem que_set2 {w : World} {B : Nat} {x0 x1 x2 x3 x4 : Value} {U : TypeId} (h : w.heap[B]? = some (.cells #[x0, x1, x2, x3, x4] U (0, 0))) (v : Value) : (w.setCell ⟨B, 2, none⟩ v).heap[B]? = some (.cells #[x0, x1, v, x3, x4] U (0, 0)) := by
  simp [World.setCell, Array.getElem?_modify, h]
theorem que_set4 {w : World} {B : Nat} {x0 x1 x2 x3 x4 : Value} {U : TypeId} (h : w.heap[B]? = some (.cells #[x0, x1, x2, x3, x4] U (0, 0))) (v : Value) : (w.setCell ⟨B, 4, none⟩ v).heap[B]? = some (.cells #[x0, x1, x2, x3, v] U (0, 0)) := by
  simp [World.setCell, Array.getElem?_modify, h]
theorem que_cells {w : World} {B : Nat} {x0 x1 x2 x3 x4 : Value} {U : TypeId} (h : w.heap[B]? = some (.cells #[x0, x1, x2, x3, x4] U (0, 0))) : w.cell? ⟨B, 2, none⟩ = some x2 ∧ w.cell? ⟨B, 4, none⟩ = some x4 := ⟨by rw [cell_of_row _ _ _ _ _ _ h]; rfl, by rw [cell_of_row _ _ _ _ _ _ h]; rfl⟩
/-- One round of New. -/
theorem NewI.step {w wr : World} {S T K k cap : Nat} {a : Option Addr} {L : Nat → Nat} (h : NewI w S T K k a cap L wr) (hk : k ≤ 100) (hS : S ≤ w.heap.size) (R : Nat) (hR : wr.heap.size = R) (ty : TypeId) (X : World) (hX : (wr.drew.alloc (.cells #[.slice none 0 0] 102)).alloc (.cells #[ptr R] 60) = X) :
    ∃ r t' w4, (Builtin.append_ #[56, 56] ty #[.slice a k cap, .slice (some ⟨R + 1, 0, none⟩) 1 1]).run Tryz.prog X = .ok (.slice r (k + 1) t') w4 ∧
      w4.cell? ⟨S + 3, 2, none⟩ = some (.slice a k cap) ∧ w4.frozen? ⟨S + 3, 2, none⟩ = false ∧ NewI w S T K (k + 1) r t' (lset L k R) (w4.setCell ⟨S + 3, 2, none⟩ (.slice r (k + 1) t')) := by
  have b1 : Below wr.heap.size wr X := by rw [← hX]; exact ((Below.refl wr.heap.size wr).drew.alloc (Nat.le_refl _) _).alloc (by show wr.heap.size ≤ (wr.alloc _).heap.size; simp) _
  have xz : X.heap.size = R + 2 := by rw [← hX, ← hR]; show ((wr.alloc _).alloc _).heap.size = _; simp
  have xR : X.heap[R]? = some (.cells #[.slice none 0 0] 102 (0, 0)) := by
    rw [← hX, ← hR]
    exact (Below.heap_alloc _ _ _ (by show wr.heap.size < (wr.alloc _).heap.size; simp)).trans (heap_alloc_new wr.drew _)
  have xP : X.heap[R + 1]? = some (.cells #[ptr R] 60 (0, 0)) := by
    have := heap_alloc_new (wr.drew.alloc (.cells #[.slice none 0 0] 102)) (.cells #[ptr R] 60)
    rw [show (wr.drew.alloc (.cells #[.slice none 0 0] 102)).heap.size = R + 1 by show (wr.alloc _).heap.size = _; simp [hR], hX] at this
    exact this
  have S3 : S + 3 < wr.heap.size := lt_of_block h.head
  obtain ⟨i, hi, hz, hs, hby⟩ := infoP
  have hrowX := own_below h.row b1
  obtain ⟨v', w4, k1, k2, k3, k4⟩ := run_append_own (P := Tryz.prog) X (S + 4) 56 ty 60 i _ 1 8 Tryz.underlying56 hi hz hs hby rfl (by omega) _ k _ hrowX ⟨R + 1, 0, none⟩ 1 1 [ptr R] rfl
    (fun j u hj => by
      obtain ⟨rfl, rfl⟩ : j = 0 ∧ u = ptr R := by
        cases j with
        | zero => simp at hj; exact ⟨rfl, hj.symm⟩
        | succ j => simp at hj
      show X.cell? ⟨R + 1, 0 + 0, none⟩ = _
      rw [cell_of_row _ _ _ _ _ _ xP]; rfl) (by intro u hu; simp at hu; subst hu; rfl) (by unfold maxLen; omega) (by omega) (by omega)
  have e : ∃ r t', v' = .slice r (k + 1) t' := by
    rcases k2.2 with ⟨e, e0⟩ | ⟨g, cap', cur, e, _⟩
    · omega
    · exact ⟨_, _, e⟩
  obtain ⟨r, t', rfl⟩ := e
  have ne : ∀ {j : Nat} {ds : Array Value} {U : TypeId}, X.heap[j]? = some (.cells ds U (0, 0)) → U ≠ 60 → some j ≠ (Value.slice a k cap).ownBlock := fun hj hU => own_ne hrowX hj (fun e => hU e.symm)
  have hB4 := (k3.block (S + 3) (by omega) (ne ((b1.block _ S3).trans h.head) (by decide))).trans ((b1.block _ S3).trans h.head)
  have nS : ∀ {j : Nat} {ds : Array Value} {U : TypeId}, w4.heap[j]? = some (.cells ds U (0, 0)) → U ≠ 59 → j ≠ S + 3 := fun hj hU => ne_type hj hB4 hU
  obtain ⟨sc, hsc⟩ := h.slt.rowT
  obtain ⟨hc, hhc⟩ := h.shr.head
  refine ⟨r, t', w4, k1, (que_cells hB4).1, by simp [World.frozen?, hB4], ?_⟩
  have f1 : Fr (fun j => some j = (Value.slice a k cap).ownBlock) X w4 := ⟨k3.size, fun j hj hx => k3.block j hj hx⟩
  have f2 : Fr (fun j => j = S + 3) w4 (w4.setCell ⟨S + 3, 2, none⟩ (.slice r (k + 1) t')) := ⟨by simp [World.setCell], fun j hj hx => Below.heap_setCell w4 ⟨S + 3, 2, none⟩ _ j hx⟩
  have keep : ∀ {j : Nat} {ds : Array Value} {U : TypeId}, X.heap[j]? = some (.cells ds U (0, 0)) → U ≠ 60 → U ≠ 59 → (w4.setCell ⟨S + 3, 2, none⟩ (.slice r (k + 1) t')).heap[j]? = X.heap[j]? := fun {j} {ds} {U} hj h1 h2 => by
    have q1 := k3.block j (lt_of_block hj) (ne hj h1)
    exact (f2.2 j (lt_of_block (q1.trans hj)) (nS (q1.trans hj) h2)).trans q1
  have lk : ∀ (j : Nat), LsmA X S j [] none → LsmA (w4.setCell ⟨S + 3, 2, none⟩ (.slice r (k + 1) t')) S j [] none := fun j hj => by
    obtain ⟨cap', bs, e1, e2, e3, e4⟩ := hj
    have : bs = [] := List.map_eq_nil_iff.1 e1
    subst this
    refine ⟨cap', [], rfl, e2, (keep e3 (by decide) (by decide)).trans e3, ?_⟩
    rcases e4.row.2 with ⟨q, _⟩ | ⟨g, c9, cur, q, _⟩
    · rw [q]; exact RowB.nil _ _ _
    · injection q with q; cases q
  refine ⟨?_, que_set2 hB4 _, ?_, ?_, ?_, fun i hi => ?_, fun i j hi hj hij => ?_⟩
  · have b2 : Below S w X := h.low.trans (b1.mono (by omega))
    have b3 : Below S X w4 := ⟨k3.os, k3.tape, k3.output, k3.size, fun j hj => k3.block j (by omega) (fun e => by have := (World.ownsRow.lt hrowX j e.symm).1; omega)⟩
    exact (b2.trans b3).setCell (by show S ≤ S + 3; omega) _
  · have hs1 := (b1.block _ h.slt.blt).trans h.slt.head
    have hs2 := (b1.block _ h.slt.rlt).trans hsc
    exact h.slt.of_blocks ((keep hs1 (by decide) (by decide)).trans (b1.block _ h.slt.blt)) ((keep hs2 (by decide) (by decide)).trans (b1.block _ h.slt.rlt))
  · have hs1 := (b1.block _ (lt_of_block hhc)).trans hhc
    obtain ⟨n, c9, e1, bs, e2, e3, e4⟩ := h.shr
    have : bs = [] := List.map_eq_nil_iff.1 e2
    subst this
    refine ⟨n, c9, ((keep hs1 (by decide) (by decide)).trans (b1.block _ (lt_of_block hhc))).trans e1, [], rfl, e3, ?_⟩
    rcases e4.row.2 with ⟨q, _⟩ | ⟨g, c9, cur, q, _⟩
    · rw [q]; exact RowB.nil _ _ _
    · injection q with q; cases q
  · have k2' := own_fr k2 f2 (fun g cs hg _ => nS hg (by decide))
    have e : ((List.range (k + 1)).map fun i => ptr (lset L k R i)) = ((List.range k).map fun i => ptr (L i)) ++ [ptr R] := by
      rw [List.range_succ, List.map_append]
      have e9 : ((List.range k).map fun i => ptr (lset L k R i)) = (List.range k).map fun i => ptr (L i) := List.map_congr_left fun i hi => by
        rw [lset_ne _ _ (by have := List.mem_range.1 hi; omega)]
      rw [e9]
      show _ ++ [ptr (lset L k R k)] = _
      rw [lset_same]
    rw [e]
    exact k2'
  · by_cases e : i = k
    · subst e
      rw [lset_same]
      exact lk R ⟨0, [], rfl, by omega, xR, RowB.nil _ _ _⟩
    · rw [lset_ne _ _ e]
      exact lk _ ((h.own i (by omega)).below b1)
  · have lt : ∀ q, q < k → L q < R := fun q hq => by
      obtain ⟨cs, hc⟩ := (h.own q hq).head
      rw [← hR]; exact lt_of_block hc
    by_cases e1 : i = k
    · by_cases e2 : j = k
      · omega
      · subst e1
        rw [lset_same, lset_ne _ _ e2] at hij
        have := lt j (by omega)
        omega
    · by_cases e2 : j = k
      · subst e2
        rw [lset_same, lset_ne _ _ e1] at hij
        have := lt i (by omega)
        omega
      · rw [lset_ne _ _ e1, lset_ne _ _ e2] at hij
        exact h.inj i j (by omega) (by omega) hij

/-- What New leaves. -/
def NewIs (w : World) (T K : Nat) (r : Ending) (w' : World) : Prop := ∃ A : QAd, r = .returned (.tuple #[ptr A.B, .int .i64 0]) ∧ Que w' w.heap.size A T K newQ ∧ Below w.heap.size w w'
theorem NewI.done {w wr w' : World} {S T K cap : Nat} {a : Option Addr} {L : Nat → Nat} (h : NewI w S T K T a cap L wr) (h1 : 1 ≤ T) (hS : w.heap.size = S) (OR : Nat) (ha : a = some ⟨OR, 0, none⟩) (M QC : Nat) (TC : Nat → Nat) (b : Below wr.heap.size wr w')
    (tb : Tab w' M (tabF ⟨S + 3, S + 1, S, OR, cap, L, S + 2, M, QC, TC⟩ T)) (qc : w'.heap[QC]? = some (.cells #[ptr (S + 3)] 23 (0, 0))) (tc : ∀ i, i < T → w'.heap[TC i]? = some (.cells #[.int .i64 i] 3 (0, 0))) :
    w'.cell? ⟨S + 3, 4, none⟩ = some (.map none) ∧ w'.frozen? ⟨S + 3, 4, none⟩ = false ∧ NewIs w T K (.returned (.tuple #[ptr (S + 3), .int .i64 0])) (w'.setCell ⟨S + 3, 4, none⟩ (.map (some M))) := by
  have hB := (b.block _ (lt_of_block h.head)).trans h.head
  subst ha
  refine ⟨(que_cells hB).2, by simp [World.frozen?, hB], ⟨S + 3, S + 1, S, OR, cap, L, S + 2, M, QC, TC⟩, rfl, ⟨fun _ => none, none, ?_⟩, ?_⟩
  · have f : Fr (fun j => j = S + 3) w' (w'.setCell ⟨S + 3, 4, none⟩ (.map (some M))) := ⟨by simp [World.setCell], fun j hj hx => Below.heap_setCell w' ⟨S + 3, 4, none⟩ _ j hx⟩
    have nS : ∀ {j : Nat} {ds : Array Value} {U : TypeId}, w'.heap[j]? = some (.cells ds U (0, 0)) → U ≠ 59 → ¬ j = S + 3 := fun hj hU => ne_type hj hB hU
    have kp : ∀ {j : Nat} {ds : Array Value} {U : TypeId}, w'.heap[j]? = some (.cells ds U (0, 0)) → U ≠ 59 → (w'.setCell ⟨S + 3, 4, none⟩ (.map (some M))).heap[j]? = w'.heap[j]? := fun hj hU => f.2 _ (lt_of_block hj) (nS hj hU)
    have slt := h.slt.below b
    have shr := h.shr.below b
    obtain ⟨sc, hsc⟩ := slt.rowT
    obtain ⟨hc, hhc⟩ := shr.head
    have hrow := own_below h.row b
    refine ⟨⟨que_set4 hB _, ?_, ?_, (kp qc (by decide)).trans qc, fun i hi => (kp (tc i hi) (by decide)).trans (tc i hi)⟩, slt.of_blocks (kp slt.head (by decide)) (kp hsc (by decide)), fun i hi => ?_, ?_, h.inj, fun i j hi hj hij x hx => by (cases hx), fun i hi x hx => by (cases hx), by show w.heap.size ≤ S; omega, by show w.heap.size ≤ S + 2; omega⟩
    · rcases hrow.2 with ⟨e, e0⟩ | ⟨g, cap', cur, e, _, hg, hn, hc', hs, ht⟩
      · omega
      · injection e with e1 _ e3
        injection e1 with e1
        injection e1 with e1
        subst e1 e3
        refine ⟨cur, (kp hg (by decide)).trans hg, fun i hi => ?_⟩
        have := World.ownsRow.cellAt hrow i (by omega)
        rw [cell_of_row _ _ _ _ _ _ hg] at this
        simp only [List.getElem?_map, List.getElem?_range hi, Option.map_some] at this
        simpa using this
    · refine tb.of_block (f.2 _ tb.lt fun e => ?_)
      obtain ⟨es, c, hm⟩ := tb.isMap
      have e' : M = S + 3 := e
      rw [e', hB] at hm
      cases hm
    · have li := (h.own i hi).below b
      rw [hS]
      obtain ⟨cs, hcs⟩ := li.head
      exact li.fr f (nS hcs (by decide)) (fun k hk => by cases hk) (fun k es he => nS he (by decide))
    · exact shr.fr f (nS hhc (by decide)) (fun k hk => by cases hk) (fun k es he => nS he (by decide))
  · rw [hS]
    exact (h.low.trans (b.mono (by have := lt_of_block h.head; omega))).setCell (by show S ≤ S + 3; omega) _

set_option maxHeartbeats 8000000 in
set_option maxRecDepth 100000 in
theorem qnew_in (T K : Nat) (w : World) (h1 : 1 ≤ T) (h8 : T ≤ 8) (hK : K ≤ 16) :
    Calls Tryz.prog 5 #[.int .i64 T, .int .i64 K] w (NewIs w T K) := by
  obtain ⟨S, hS⟩ : ∃ S, w.heap.size = S := ⟨_, rfl⟩
  have sn := slNew_in T w S hS h1 h8
  have HS : Hid _ := hS
  have g1 : ¬ (K : Int) < 0 := by omega
  have g2 : ¬ (16 : Int) < (K : Int) := by omega
  clear hS
  go_enter Tryz.func5, Tryz.ntmps5
  go_wp2_with fail
  refine sn.mono ?_
  rintro r w1 ⟨rfl, sl1, b1, z1⟩
  have nw := snew_any w1
  obtain ⟨w2, hw2⟩ : ∃ x, w1.alloc (.cells #[.int .u64 0, .slice none 0 0] 100) = x := ⟨_, rfl⟩
  have bw2 : Below w1.heap.size w1 w2 := by rw [← hw2]; exact (Below.refl _ _).alloc (Nat.le_refl _) _
  have z2 : w2.heap.size = S + 3 := by rw [← hw2]; simp [z1]
  have h2 : w2.heap[S + 2]? = some (.cells #[.int .u64 0, .slice none 0 0] 100 (0, 0)) := by rw [← hw2, ← z1]; exact heap_alloc_new w1 _
  obtain ⟨w3, hw3⟩ : ∃ x, w2.alloc (.cells #[.int .i64 K, ptr (S + 1), .slice none 0 0, ptr (S + 2), .map none] 59) = x := ⟨_, rfl⟩
  have bw3 : Below w2.heap.size w2 w3 := by rw [← hw3]; exact (Below.refl _ _).alloc (Nat.le_refl _) _
  have h3 : w3.heap[S + 3]? = some (.cells #[.int .i64 K, ptr (S + 1), .slice none 0 0, ptr (S + 2), .map none] 59 (0, 0)) := by rw [← hw3, ← z2]; exact heap_alloc_new w2 _
  have I3 : Aside (NewI w S T K 0 none 0 (fun _ => 0) w3) := by
    refine ⟨b1.trans ((bw2.trans (bw3.mono bw2.size)).mono (by omega)), h3, (sl1.below bw2).below bw3, ⟨0, 0, (bw3.block _ (by omega)).trans h2, [], rfl, rfl, RowB.nil _ _ _⟩, World.ownsRow_nil _ _ _ _, fun i hi => absurd hi (by omega), fun i j hi => absurd hi (by omega)⟩
  rw [z1] at nw
  have HW2 : Hid _ := hw2
  have HW3 : Hid _ := hw3
  have Z2 : Hid _ := z2
  clear sl1 b1 bw2 bw3 h2 h3 hw3 sn
  go_wp2_with fail
  refine nw.mono ?_
  rintro r wx ⟨rfl, hwx⟩
  rw [hw2] at hwx
  subst hwx
  clear hw2 nw
  go_wp2_with fail
  rw [HW3.out]
  go_loopg [29] T (fun kx s29 wr => ∃ (k cap : Nat) (a : Option Addr) (L : Nat → Nat), s29 = .int .i64 k ∧ k ≤ T ∧ T - k ≤ kx ∧ Aside (NewI w S T K k a cap L wr))
  case atStart => exact ⟨0, 0, none, fun _ => 0, rfl, by omega, by omega, I3⟩
  case round =>
    clear I3
    obtain ⟨k, cap, a, L, rfl, hk, hkx, I⟩ := hrel
    by_cases hlt : k < T
    · have hz : (k : Int) < (T : Int) := by omega
      obtain ⟨R, hR⟩ : ∃ R, wr.heap.size = R := ⟨_, rfl⟩
      obtain ⟨r, t', w4, hr, q2, q3, i4⟩ := I.out.step (by omega) (by have := HS.out; omega) R hR 56 _ rfl
      have I4 : Aside (NewI w S T K (k + 1) r t' (lset L k R) (w4.setCell ⟨S + 3, 2, none⟩ (.slice r (k + 1) t'))) := i4
      have c2 := (que_cells I.out.head).1
      have Sl : S + 3 < wr.heap.size := lt_of_block I.out.head
      have ln := lnew_any wr.drew
      rw [show wr.drew.heap.size = R from hR] at ln
      have e0 : wr.drew.cell? ⟨S + 3, 2, none⟩ = some (.slice a k cap) := c2
      have e1 : (wr.drew.alloc (.cells #[.slice none 0 0] 102)).cell? ⟨S + 3, 2, none⟩ = some (.slice a k cap) := (cell_old wr.drew _ 2 Sl).trans c2
      have e2 : ((wr.drew.alloc (.cells #[.slice none 0 0] 102)).alloc (.cells #[ptr R] 60)).cell? ⟨S + 3, 2, none⟩ = some (.slice a k cap) := (cell_old _ _ 2 (by show S + 3 < (wr.alloc _).heap.size; simp; omega)).trans e1
      have mx := mixed
      clear i4
      go_wp2_with fail
      refine anyE_start (S := (fun v => v.cell? ⟨S + 3, 2, none⟩ = some (.slice a k cap))) (L := 10) (by kernel_rfl) ?_
      refine anyE_take (i := 0) (oi := { dst := some 31, op := Op.move (Operand.tmp 8), type := 23, pos := "queue.go:43", after := #[], guard := none }) (v := ?_) rfl (by kernel_rfl) (by kernel_rfl) (by kernel_rfl) (by kernel_rfl) (fun _ _ _ h => h) (Or.inl ⟨by rfl, ?_⟩) (e0) ?_
      rotate_left
      · (intro w hSw; (try dsimp only at hSw); go_simp; try with_reducible rfl)
      simp only [Act.put, List.setIfInBounds_toArray, List.set_cons_zero, List.set_cons_succ]
      refine anyE_take (i := 1) (oi := { dst := some 32, op := Op.move (Operand.tmp 8), type := 23, pos := "queue.go:43", after := #[], guard := none }) (v := ?_) rfl (by kernel_rfl) (by kernel_rfl) (by kernel_rfl) (by kernel_rfl) (fun _ _ _ h => h) (Or.inl ⟨by rfl, ?_⟩) (e0) ?_
      rotate_left
      · (intro w hSw; (try dsimp only at hSw); go_simp; try with_reducible rfl)
      simp only [Act.put, List.setIfInBounds_toArray, List.set_cons_zero, List.set_cons_succ]
      refine anyE_take (i := 2) (oi := { dst := some 33, op := Op.nilCheck (Operand.tmp 32), type := 0, pos := "queue.go:43", after := #[{ on := 1, ground := Ground.data }], guard := none }) (v := ?_) rfl (by kernel_rfl) (by kernel_rfl) (by kernel_rfl) (by kernel_rfl) (fun _ _ _ h => h) (Or.inl ⟨by rfl, ?_⟩) (e0) ?_
      rotate_left
      · (intro w hSw; (try dsimp only at hSw); go_simp; try with_reducible rfl)
      simp only [Act.put, List.setIfInBounds_toArray, List.set_cons_zero, List.set_cons_succ]
      refine anyE_take (i := 3) (oi := { dst := some 34, op := Op.fieldAddr 59 (Operand.tmp 33) 2, type := 0, pos := "queue.go:43", after := #[{ on := 2, ground := Ground.data }], guard := none }) (v := ?_) rfl (by kernel_rfl) (by kernel_rfl) (by kernel_rfl) (by kernel_rfl) (fun _ _ _ h => h) (Or.inl ⟨by rfl, ?_⟩) (e0) ?_
      rotate_left
      · (intro w hSw; (try dsimp only at hSw); go_simp; try with_reducible rfl)
      simp only [Act.put, List.setIfInBounds_toArray, List.set_cons_zero, List.set_cons_succ]
      refine anyE_take (i := 4) (oi := { dst := some 35, op := Op.load 56 (Operand.tmp 34), type := 56, pos := "queue.go:43", after := #[{ on := 3, ground := Ground.data }], guard := none }) (v := ?_) rfl (by kernel_rfl) (by kernel_rfl) (by kernel_rfl) (by kernel_rfl) (fun _ _ _ h => h) (Or.inl ⟨by rfl, ?_⟩) (e0) ?_
      rotate_left
      · (intro w hSw; (try dsimp only at hSw); go_simp; try with_reducible rfl)
      simp only [Act.put, List.setIfInBounds_toArray, List.set_cons_zero, List.set_cons_succ]
      refine anyE_ready (rs := [5]) (by kernel_rfl) (by simp) ?_
      refine AllE.cons (o := { dst := some 36, op := Op.call { callee := Callee.value (Operand.func 26), args := #[], argTypes := #[] }, type := 60, pos := "queue.go:43", after := #[], guard := none }) rfl (fun Kt hKt => ?_) ?_
      · go_simp
        (with_reducible refine Calls.mono ln ?_)
        rintro r2 w2 ⟨rfl, rfl⟩
        go_wp2_with fail
        refine hKt.out _ _ (fun _ => e1) ?_
        clear hKt Kt
        try simp only [Act.put, List.setIfInBounds_toArray, List.set_cons_zero, List.set_cons_succ]
        refine anyE_ready (rs := [6]) (by kernel_rfl) (by simp) ?_
        refine AllE.cons (o := { dst := some 37, op := Op.buildSlice 56 1 #[(0, Operand.tmp 36)], type := 56, pos := "queue.go:43", after := #[{ on := 5, ground := Ground.data }], guard := none }) rfl (fun Kt hKt => ?_) ?_
        · go_simp
          refine hKt.out _ _ (fun _ => e2) ?_
          clear hKt Kt
          try simp only [Act.put, List.setIfInBounds_toArray, List.set_cons_zero, List.set_cons_succ]
          refine anyE_ready (rs := [7]) (by kernel_rfl) (by simp) ?_
          refine AllE.cons (o := { dst := some 38, op := Op.call { callee := Callee.builtin Builtin.append, args := #[Operand.tmp 35, Operand.tmp 37], argTypes := #[56, 56] }, type := 56, pos := "queue.go:43", after := #[{ on := 4, ground := Ground.data }, { on := 6, ground := Ground.data }, { on := 5, ground := Ground.chain }], guard := none }) rfl (fun Kt hKt => ?_) ?_
          · refine step_app _ (by rfl) _ _ 56 56 (by rfl) (.slice a k cap) (.slice (some ⟨R + 1, 0, none⟩) 1 1) (by rfl) (by rfl) (.slice r (k + 1) t') w4 hr ?_
            refine hKt.out _ _ (fun _ => q2) ?_
            clear hKt Kt
            try simp only [Act.put, List.setIfInBounds_toArray, List.set_cons_zero, List.set_cons_succ]
            refine anyE_ready (rs := [8]) (by kernel_rfl) (by simp) ?_
            refine AllE.cons (o := { dst := some 39, op := Op.nilCheck (Operand.tmp 31), type := 0, pos := "queue.go:43", after := #[{ on := 0, ground := Ground.data }, { on := 0, ground := Ground.phase }, { on := 1, ground := Ground.phase }, { on := 2, ground := Ground.phase }, { on := 3, ground := Ground.phase }, { on := 4, ground := Ground.phase }, { on := 5, ground := Ground.phase }, { on := 6, ground := Ground.phase }, { on := 7, ground := Ground.phase }], guard := none }) rfl (fun Kt hKt => ?_) ?_
            · go_simp
              refine hKt.out _ _ (fun _ => q2) ?_
              clear hKt Kt
              try simp only [Act.put, List.setIfInBounds_toArray, List.set_cons_zero, List.set_cons_succ]
              refine anyE_ready (rs := [9]) (by kernel_rfl) (by simp) ?_
              refine AllE.cons (o := { dst := some 40, op := Op.fieldAddr 59 (Operand.tmp 39) 2, type := 0, pos := "queue.go:43", after := #[{ on := 8, ground := Ground.data }, { on := 0, ground := Ground.phase }, { on := 1, ground := Ground.phase }, { on := 2, ground := Ground.phase }, { on := 3, ground := Ground.phase }, { on := 4, ground := Ground.phase }, { on := 5, ground := Ground.phase }, { on := 6, ground := Ground.phase }, { on := 7, ground := Ground.phase }], guard := none }) rfl (fun Kt hKt => ?_) ?_
              · go_simp
                refine hKt.out _ _ (fun _ => q2) ?_
                clear hKt Kt
                try simp only [Act.put, List.setIfInBounds_toArray, List.set_cons_zero, List.set_cons_succ]
                refine anyE_ready (rs := [10]) (by kernel_rfl) (by simp) ?_
                refine AllE.cons (o := { dst := none, op := Op.store 56 (Operand.tmp 40) (Operand.tmp 38), type := 0, pos := "queue.go:43", after := #[{ on := 9, ground := Ground.data }, { on := 7, ground := Ground.data }, { on := 7, ground := Ground.chain }, { on := 0, ground := Ground.phase }, { on := 1, ground := Ground.phase }, { on := 2, ground := Ground.phase }, { on := 3, ground := Ground.phase }, { on := 4, ground := Ground.phase }, { on := 5, ground := Ground.phase }, { on := 6, ground := Ground.phase }, { on := 7, ground := Ground.phase }], guard := none }) rfl (fun Kt hKt => ?_) ?_
                · go_simp
                  refine hKt.out _ _ (fun h => absurd rfl h) ?_
                  clear hKt Kt
                  try simp only [Act.put, List.setIfInBounds_toArray, List.set_cons_zero, List.set_cons_succ]
                  refine anyE_done (by kernel_rfl) ?_ _
                  go_wp2
                  go_roundg (T - (k + 1))
                  case measure => omega
                  case rel => exact ⟨k + 1, t', r, lset L k R, by go_num, by omega, Nat.le_refl _, I4⟩
                exact AllE.nil
              exact AllE.nil
            exact AllE.nil
          exact AllE.nil
        exact AllE.nil
      exact AllE.nil
    · have hz : ¬ (k : Int) < (T : Int) := by omega
      obtain rfl : k = T := by omega
      obtain ⟨OR, ha⟩ : ∃ OR, a = some ⟨OR, 0, none⟩ := by
        rcases I.out.row.2 with ⟨e, e0⟩ | ⟨g, c', cur, e, _⟩
        · omega
        · injection e with e1; exact ⟨g, e1⟩
      have hrow : ∀ i, i < k → wr.cell? ⟨OR, i, none⟩ = some (ptr (L i)) := fun i hi => by
        have := World.ownsRow.cellAt (by rw [← ha]; exact I.out.row) i (by omega)
        rw [this]
        simp [hi]
      have hor : OR < wr.heap.size := by
        rcases I.out.row.2 with ⟨e, e0⟩ | ⟨g, c', cur, e, _, hg, _⟩
        · omega
        · injection e with e1; rw [ha] at e1; injection e1 with e1; injection e1 with e1; rw [e1]; exact lt_of_block hg
      have hh := I.out.head
      rw [ha] at hh
      have tbl := table_any wr ⟨S + 3, S + 1, S, OR, cap, L, S + 2, 0, 0, fun _ => 0⟩ k _ _ hh hrow hor h8
      have HA : Hid _ := ha
      clear hh hrow hor ha
      go_wp2_with fail
      refine tbl.mono ?_
      rintro r w5 ⟨M, QC, TC, rfl, b5, tb5, qc5, tc5⟩
      obtain ⟨f1, f2, fin⟩ := I.out.done h1 HS.out OR HA.out M QC TC b5 tb5 qc5 tc5
      have FIN : Aside (NewIs w k K (.returned (.tuple #[ptr (S + 3), .int .i64 0])) (w5.setCell ⟨S + 3, 4, none⟩ (.map (some M)))) := fin
      clear fin tb5 qc5 tc5 b5 tbl
      go_wp2
      go_ret2
      exact FIN.out
end Go.Proofs.YtdcacbjmbfppeaaGreat

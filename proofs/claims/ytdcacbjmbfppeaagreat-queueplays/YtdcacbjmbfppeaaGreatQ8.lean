/- queue: the table, New. -/
import Derived.Test.YtdcacbjmbfppeaaGreatQP
import Derived.Test.YtdcacbjmbfppeaaGreatOwnSq
import Derived.Laws.EntriesVeiled
import Derived.Carry
import Derived.Deep.LoopGhost
import Derived.BigRegion
import Derived.Deep.DeepCutAuto
import Derived.Deep.Cut
namespace Go.Proofs.YtdcacbjmbfppeaaGreat
open Go.RowKit Go.Lib Go.Sort Go.Maps
set_option linter.unusedVariables false

/-- What the table leads to when k threads are laid in. -/
theorem tabF_succ (A : QAd) (k R : Nat) : ∀ p t, fput (fput (tabF A k) 1 k (pSlot { A with TC := lset A.TC k R } k)) 2 k (pOwn A k) p t = tabF { A with TC := lset A.TC k R } (k + 1) p t := by
  intro p t
  unfold fput
  by_cases e2 : p = 2 ∧ t = (k : Int)
  · obtain ⟨rfl, rfl⟩ := e2
    rw [if_pos ⟨rfl, rfl⟩]
    unfold tabF
    rw [if_neg (by omega), if_neg (by omega), if_pos (by omega)]
    simp [pOwn]
  · rw [if_neg e2]
    by_cases e1 : p = 1 ∧ t = (k : Int)
    · obtain ⟨rfl, rfl⟩ := e1
      rw [if_pos ⟨rfl, rfl⟩]
      unfold tabF
      rw [if_neg (by omega), if_pos (by omega)]
      simp
    · rw [if_neg e1]
      unfold tabF
      by_cases c3 : p = 3 ∧ t = 0
      · rw [if_pos c3, if_pos c3]; rfl
      · rw [if_neg c3, if_neg c3]
        by_cases c1 : p = 1 ∧ 0 ≤ t ∧ t < (k : Int)
        · rw [if_pos c1, if_pos (by omega)]
          have : t.toNat ≠ k := by omega
          unfold pSlot
          rw [show ({ A with TC := lset A.TC k R } : QAd).TC t.toNat = A.TC t.toNat from lset_ne _ _ this]
        · have r1 : ¬ (p = 1 ∧ 0 ≤ t ∧ t < ((k + 1 : Nat) : Int)) := by omega
          rw [if_neg c1, if_neg r1]
          by_cases c2 : p = 2 ∧ 0 ≤ t ∧ t < (k : Int)
          · have r2 : p = 2 ∧ 0 ≤ t ∧ t < ((k + 1 : Nat) : Int) := by omega
            rw [if_pos c2, if_pos r2]; rfl
          · have r2 : ¬ (p = 2 ∧ 0 ≤ t ∧ t < ((k + 1 : Nat) : Int)) := by omega
            rw [if_neg c2, if_neg r2]
theorem tabF_zero (A : QAd) : ∀ p t, fput (fun _ _ => none) 3 0 (pShared A) p t = tabF A 0 p t := by
  intro p t
  unfold fput tabF
  by_cases c3 : p = 3 ∧ t = 0
  · rw [if_pos c3, if_pos c3]
  · rw [if_neg c3, if_neg c3, if_neg (by omega), if_neg (by omega)]
/-- What table tells. -/
def TableIs (w : World) (A : QAd) (T : Nat) (r : Ending) (w' : World) : Prop := ∃ (M QC : Nat) (TC : Nat → Nat), r = .returned (.map (some M)) ∧ Below w.heap.size w w' ∧ Tab w' M (tabF { A with M := M, QC := QC, TC := TC } T) ∧ w'.heap[QC]? = some (.cells #[ptr A.B] 23 (0, 0)) ∧ (∀ i, i < T → w'.heap[TC i]? = some (.cells #[.int .i64 i] 3 (0, 0)))

set_option maxHeartbeats 4000000 in
set_option maxRecDepth 100000 in
theorem table_any (w : World) (A : QAd) (T : Nat) (x0 x4 : Value) (hB : w.heap[A.B]? = some (.cells #[x0, ptr A.SB, .slice (some ⟨A.OR, 0, none⟩) T A.oc, ptr A.HB, x4] 59 (0, 0)))
    (hrow : ∀ i, i < T → w.cell? ⟨A.OR, i, none⟩ = some (ptr (A.L i))) (hor : A.OR < w.heap.size) (h8 : T ≤ 8) :
    Calls Tryz.prog 27 #[ptr A.B] w (TableIs w A T) := by
  obtain ⟨S, hS⟩ : ∃ S, w.heap.size = S := ⟨_, rfl⟩
  obtain ⟨u, hu⟩ : ∃ u, w.alloc (.cells #[ptr A.B] 23) = u := ⟨_, rfl⟩
  have bu : Below w.heap.size w u := by rw [← hu]; exact (Below.refl _ _).alloc (Nat.le_refl _) _
  have us : u.heap[S]? = some (.cells #[ptr A.B] 23 (0, 0)) := by rw [← hu, ← hS]; exact heap_alloc_new w _
  have uz : u.heap.size = S + 1 := by rw [← hu, ← hS]; simp
  have hBl := lt_of_block hB
  have KC : Aside (∀ W : World, (∀ k, k < u.heap.size → W.heap[k]? = u.heap[k]?) → W.cell? ⟨S, 0, none⟩ = some (ptr A.B) ∧ W.cell? ⟨A.B, 1, none⟩ = some (ptr A.SB) ∧ W.cell? ⟨A.B, 2, none⟩ = some (.slice (some ⟨A.OR, 0, none⟩) T A.oc) ∧ W.cell? ⟨A.B, 3, none⟩ = some (ptr A.HB) ∧ ∀ i, i < T → W.cell? ⟨A.OR, i, none⟩ = some (ptr (A.L i))) := fun W hW => by
    have b1 := ((hW A.B (by omega)).trans (bu.block A.B hBl)).trans hB
    have b2 := (hW S (by omega)).trans us
    refine ⟨by rw [cell_of_row _ _ _ _ _ _ b2]; rfl, by rw [cell_of_row _ _ _ _ _ _ b1]; rfl, by rw [cell_of_row _ _ _ _ _ _ b1]; rfl, by rw [cell_of_row _ _ _ _ _ _ b1]; rfl, fun i hi => ?_⟩
    have b3 := (hW A.OR (by omega)).trans (bu.block A.OR hor)
    exact (World.cell?_of_block (a := ⟨A.OR, i, none⟩) b3).trans (hrow i hi)
  have hmm := @run_makeMap Tryz.prog
  have hmf : ∀ (fn : Fn) (first cap : Array Value) (w : World), (Instr.makeFunc fn first cap).run Tryz.prog w = .ok (.func fn first cap) w := fun _ _ _ _ => rfl
  obtain ⟨w1, st1, tb1, gr1⟩ := (show TabN (u.alloc (.map #[] 0)).drew u.heap.size 0 (fun _ _ => none) from (TabN.made u).kept rfl).store (by omega) (p := 3) (t := 0) (show (Lit.int .i64 3).wf = true by decide) (show (Lit.int .i64 0).wf = true by decide) (pShared A)
  obtain ⟨c0, c1, c2, c3, _⟩ := KC.out u (fun k hk => rfl)
  unfold pShared at st1
  rw [uz] at st1 tb1 gr1
  have hk1 : ∀ k, k < u.heap.size → (u.alloc (.map #[] 0)).drew.heap[k]? = u.heap[k]? := fun k hk => Below.heap_alloc u _ k hk
  have hk2 : ∀ k, k < u.heap.size → w1.heap[k]? = u.heap[k]? := fun k hk => (gr1.block k (by show k < (u.alloc (.map #[] 0)).heap.size; simp; omega) (by intro e; injection e with e; omega)).trans (hk1 k hk)
  have hk3 : ∀ k, k < u.heap.size → (u.alloc (.map #[] 0)).heap[k]? = u.heap[k]? := fun k hk => Below.heap_alloc u _ k hk
  have HU : Hid _ := hu
  have BU : Aside (Below w.heap.size w u) := bu
  have US : Aside (u.heap[S]? = some (.cells #[ptr A.B] 23 (0, 0))) := us
  clear hB hrow us bu hu
  go_enter Tryz.func27, Tryz.ntmps27
  have mx := mixed
  go_upto_region 1 with fail
  rw [HU.out]
  go_cut [3] (fun s3 wx => s3 = .map (some (S + 1)) ∧ wx = w1)
  case first =>
    go_region_held3 (fun W => W.cell? ⟨S, 0, none⟩ = some (ptr A.B) ∧ W.cell? ⟨A.B, 3, none⟩ = some (ptr A.HB)) (first | with_reducible exact ⟨c0, c3⟩ | with_reducible exact ⟨(KC.out _ hk1).1, (KC.out _ hk1).2.2.2.1⟩ | with_reducible exact ⟨(KC.out _ hk2).1, (KC.out _ hk2).2.2.2.1⟩ | with_reducible exact ⟨(KC.out _ hk3).1, (KC.out _ hk3).2.2.2.1⟩ | exact ⟨c0, c3⟩)
      (fail)
    all_goals go_wp2_with fail
    all_goals go_meet
    all_goals exact ⟨rfl, rfl⟩
  case rest =>
    obtain ⟨rfl, rfl⟩ := hcut
    have wt0 : ∀ k : Nat, k < T → wfI (k : Int) := fun k hk => by unfold wfI; simp [Lit.wf, IntKind.min, IntKind.max, IntKind.bits, IntKind.signed]; omega
    have B1 : Below u.heap.size u wc := ⟨gr1.os, gr1.tape, gr1.output, by have := gr1.size; have h : (u.alloc (.map #[] 0)).drew.heap.size = u.heap.size + 1 := (by show (u.alloc (.map #[] 0)).heap.size = _; simp); omega, hk2⟩
    have T0 : TabN wc (S + 1) 1 (tabF { A with M := S + 1, QC := S, TC := A.TC } 0) := tb1.congr (tabF_zero { A with M := S + 1, QC := S, TC := A.TC })
    obtain ⟨i0, i1, i2, i3, i4⟩ := KC.out wc hk2
    have I0 : Aside (∃ TC, TabN wc (S + 1) (2 * 0 + 1) (tabF { A with M := S + 1, QC := S, TC := TC } 0) ∧ Below u.heap.size u wc ∧ ∀ i, i < 0 → wc.heap[TC i]? = some (.cells #[.int .i64 i] 3 (0, 0))) := ⟨A.TC, T0, B1, fun i hi => absurd hi (by omega)⟩
    clear tb1 gr1 st1 hk1 hk2 hk3 c0 c1 c2 c3 T0 B1
    go_wp2_with fail
    go_loopg [25] T (fun kx s25 wr => ∃ (k : Nat), s25 = .int .i64 k ∧ k ≤ T ∧ T - k ≤ kx ∧ Aside (∃ TC, TabN wr (S + 1) (2 * k + 1) (tabF { A with M := S + 1, QC := S, TC := TC } k) ∧ Below u.heap.size u wr ∧ ∀ i, i < k → wr.heap[TC i]? = some (.cells #[.int .i64 i] 3 (0, 0))))
    case atStart => exact ⟨0, rfl, by omega, by omega, I0⟩
    case round =>
      clear I0 i0 i1 i2 i3 i4
      obtain ⟨k, rfl, hk, hkx, I⟩ := hrel
      obtain ⟨TC, tb, bb, tc⟩ := I.out
      by_cases hlt : k < T
      · have hz : (k : Int) < (T : Int) := by omega
        obtain ⟨i0, i1, i2, i3, i4⟩ := KC.out wr bb.block
        have i5 := i4 k hlt
        obtain ⟨R, hR⟩ : ∃ R, wr.heap.size = R := ⟨_, rfl⟩
        obtain ⟨u4, hu4⟩ : ∃ x, wr.alloc (.cells #[.int .i64 k] 3) = x := ⟨_, rfl⟩
        have bu4 : Below wr.heap.size wr u4 := by rw [← hu4]; exact (Below.refl _ _).alloc (Nat.le_refl _) _
        have us4 : u4.heap[R]? = some (.cells #[.int .i64 k] 3 (0, 0)) := by rw [← hu4, ← hR]; exact heap_alloc_new wr _
        have tb4 : TabN u4.drew (S + 1) (2 * k + 1) (tabF { A with M := S + 1, QC := S, TC := TC } k) := tb.kept (bu4.block (S + 1) tb.lt)
        obtain ⟨w5, st5, tb5, gr5⟩ := tb4.store (by omega) (p := 1) (t := k) (show (Lit.int .i64 1).wf = true by decide) (wt0 k hlt) (pSlot { A with M := S + 1, QC := S, TC := lset TC k R } k)
        obtain ⟨w6, st6, tb6, gr6⟩ := tb5.store (by omega) (p := 2) (t := k) (show (Lit.int .i64 2).wf = true by decide) (wt0 k hlt) (pOwn { A with M := S + 1, QC := S, TC := TC } k)
        have RS : S + 1 < R := by rw [← hR]; exact tb.lt
        have ru4 : R < u4.heap.size := lt_of_block us4
        have us5 : w5.heap[R]? = some (.cells #[.int .i64 k] 3 (0, 0)) := (gr5.block R ru4 (by intro e; injection e with e; omega)).trans us4
        have us6 : w6.heap[R]? = some (.cells #[.int .i64 k] 3 (0, 0)) := (gr6.block R (lt_of_block us5) (by intro e; injection e with e; omega)).trans us5
        have b4 : Below u.heap.size u u4 := bb.trans (bu4.mono bb.size)
        have b5 : Below u.heap.size u w5 := b4.trans ⟨gr5.os, gr5.tape, gr5.output, gr5.size, fun j hj => gr5.block j (by show j < u4.heap.size; have := b4.size; omega) (by intro e; injection e with e; omega)⟩
        have b6 : Below u.heap.size u w6 := b5.trans ⟨gr6.os, gr6.tape, gr6.output, gr6.size, fun j hj => gr6.block j (by have := b5.size; omega) (by intro e; injection e with e; omega)⟩
        have I6 : Aside (∃ TC, TabN w6 (S + 1) (2 * (k + 1) + 1) (tabF { A with M := S + 1, QC := S, TC := TC } (k + 1)) ∧ Below u.heap.size u w6 ∧ ∀ i, i < k + 1 → w6.heap[TC i]? = some (.cells #[.int .i64 i] 3 (0, 0))) := by
          refine ⟨lset TC k R, tb6.congr (tabF_succ { A with M := S + 1, QC := S, TC := TC } k R), b6, fun i hi => ?_⟩
          by_cases e : i = k
          · subst e; rw [lset_same]; exact us6
          · rw [lset_ne _ _ e]
            have h1 := tc i (by omega)
            have l1 := lt_of_block h1
            have h2 := (bu4.block _ l1).trans h1
            have ne : TC i ≠ S + 1 := fun e => by
              rw [e] at h1
              obtain ⟨es, c, hm⟩ := (tb.tab (by omega)).isMap
              rw [h1] at hm
              cases hm
            have h3 := (gr5.block (TC i) (lt_of_block h2) (by intro e; injection e with e; exact ne e)).trans h2
            exact (gr6.block (TC i) (lt_of_block h3) (by intro e; injection e with e; exact ne e)).trans h3
        obtain ⟨j0, j1, j2, j3, _⟩ := KC.out u4 b4.block
        obtain ⟨m0, m1, m2, m3, _⟩ := KC.out u4.drew b4.block
        obtain ⟨n0, n1, n2, n3, _⟩ := KC.out w5 b5.block
        have x4 : u4.cell? ⟨R, 0, none⟩ = some (.int .i64 k) := by rw [cell_of_row _ _ _ _ _ _ us4]; rfl
        have x4d : u4.drew.cell? ⟨R, 0, none⟩ = some (.int .i64 k) := x4
        have x5 : w5.cell? ⟨R, 0, none⟩ = some (.int .i64 k) := by rw [cell_of_row _ _ _ _ _ _ us5]; rfl
        unfold pSlot at st5
        rw [show (QAd.TC { A with M := S + 1, QC := S, TC := lset TC k R } k) = R from lset_same _ _ _] at st5
        unfold pOwn at st6
        have HU4 : Hid _ := hu4
        clear tb tc bb tb4 tb5 tb6 gr5 gr6 us4 us5 us6 b4 b5 b6 hu4 i4 bu4 I
        go_upto_region 5 with fail
        rw [HU4.out]
        go_cut [30] (fun s30 wx => wx = w5)
        case first =>
          go_region_held3 (fun W => W.cell? ⟨S, 0, none⟩ = some (ptr A.B) ∧ W.cell? ⟨A.B, 1, none⟩ = some (ptr A.SB) ∧ W.cell? ⟨R, 0, none⟩ = some (.int .i64 k)) (first | with_reducible exact ⟨j0, j1, x4⟩ | with_reducible exact ⟨m0, m1, x4d⟩ | with_reducible exact ⟨n0, n1, x5⟩)
            (fail)
          all_goals go_wp2_with fail
          all_goals go_meet
          all_goals exact rfl
        case rest =>
          subst hcut
          go_wp2
          go_roundg (T - (k + 1))
          case measure => omega
          case rel => exact ⟨k + 1, by go_num, by omega, Nat.le_refl _, I6⟩
      · have hz : ¬ (k : Int) < (T : Int) := by omega
        have ek : k = T := by omega
        have FIN : Aside (TableIs w A T (.returned (.map (some (S + 1)))) wr) := by
          refine ⟨S + 1, S, TC, rfl, BU.out.trans (bb.mono BU.out.size), ?_, (bb.block S (lt_of_block US.out)).trans US.out, ?_⟩
          · rw [← ek]; exact tb.tab (by omega)
          · rw [← ek]; exact tc
        clear tb bb tc I ek
        go_wp2
        go_ret
        exact FIN.out
end Go.Proofs.YtdcacbjmbfppeaaGreat

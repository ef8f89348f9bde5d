/- awake of layer 10. -/
import Derived.Test.YtdcacbjmbfppeaaGreatQB
namespace Go.Proofs.YtdcacbjmbfppeaaGreat
open Go.RowKit Go.Lib Go.Sort
set_option linter.unusedVariables false

theorem sort_one (x : Ent) : sortE [x] = [x] := sortE_id (by simp [Srt])
def aw1 : QSt := putQ 1 newQ 0 (5, 1)
def aw2 : QSt := putQ 1 aw1 0 (3, 2)
theorem aw1_view : View 2 aw1 (lset (fun _ => []) 0 [(5, 1)]) (fun _ => []) [] := by
  have h : View 2 (settleQ 1 newQ 0) (fun _ => []) (fun _ => []) [] := by rw [(View.new 2).settle_no (by omega) rfl]; exact View.new 2
  exact h.put (5, 1)
theorem aw2_view : View 2 aw2 (lset (fun _ => []) 0 [(3, 2)]) (lset (fun _ => []) 0 [(5, 1)]) [] := by
  have h := aw1_view.settle_fit (K := 1) (t := 0) (e := (5, 1)) (by omega) rfl (by simp)
  have h2 := h.put (3, 2)
  rw [lset_lset, lset_lset] at h2
  simp only [List.nil_append, sort_one] at h2
  exact h2
theorem aw_least : leastQ aw2 2 = some (0, (3, 2)) := by
  unfold leastQ
  rw [aw2_view.lists]
  rfl
theorem aw_where : whereQ aw2 2 1 = (2, 0) := by
  have : firstHas aw2 2 1 = some 2 := by
    refine find_range (by omega) ?_ (fun i hi => ?_)
    · rw [aw2_view.spot]; rfl
    · have : i = 0 ∨ i = 1 := by omega
      rcases this with rfl | rfl <;> (rw [aw2_view.spot]; rfl)
  unfold whereQ
  rw [this]
  rfl
theorem aw_len : lenQ aw2 2 = 2 := by
  rw [aw2_view.lenQ, flat_one1 (by omega), flat_one1 (by omega)]
  rfl
set_option maxHeartbeats 4000000 in
set_option maxRecDepth 100000 in
theorem qawake_any (w : World) : Calls Tryz.prog 7 #[] w fun e w' => e = .returned (.bool true) ∧ Below w.heap.size w w' := by
  have nw := qnew_in 2 1 w (by omega) (by omega) (by omega)
  have o0 := newQ_ok 1 2
  have o1 : QOk 1 2 1 aw1 := put_ok o0 (by omega) (by omega) _
  have o2 : QOk 1 2 2 aw2 := put_ok o1 (by omega) (by omega) _
  go_enter Tryz.func7, Tryz.ntmps7
  go_wp2_with fail
  refine nw.mono ?_
  rintro r w1 ⟨A, rfl, q1, b1⟩
  have p1 := put_in w1 w.heap.size A 2 1 0 newQ 0 5 1 q1 o0 (by omega) (by omega) (by omega) b1.size
  have B1 : Aside (Below w.heap.size w w1) := b1
  clear nw b1 q1
  go_wp2_with fail
  refine p1.mono ?_
  rintro r w2 ⟨rfl, q2, wt2⟩
  have p2 := put_in w2 w.heap.size A 2 1 1 aw1 0 3 2 q2 o1 (by omega) (by omega) (by omega) (Nat.le_trans B1.out.size wt2.size)
  have B2 : Aside (Below w.heap.size w w2) := B1.out.trans wt2.low
  clear p1 q2 wt2
  go_wp2_with fail
  refine p2.mono ?_
  rintro r w3 ⟨rfl, q3, wt3⟩
  have B3 : Aside (Below w.heap.size w w3) := B2.out.trans wt3.low
  have Q3 : Aside (Que w3 w.heap.size A 2 1 aw2) := q3
  have le := qleast_any w3 w.heap.size A 2 1 2 aw2 q3 o2 (by omega) (by omega) (by omega) (by omega)
  rw [aw_least] at le
  have LE : Calls Tryz.prog 28 #[ptr A.B] w3 fun r w' => r = .returned (.tuple #[.agg #[.int .u64 3, .int .i64 2], .bool true]) ∧ Below w3.heap.size w3 w' := le
  clear p2 q3 wt3 le
  go_wp2_with fail
  refine LE.mono ?_
  rintro r w4 ⟨rfl, b4⟩
  obtain ⟨S4, hS4⟩ : ∃ S, w4.heap.size = S := ⟨_, rfl⟩
  obtain ⟨u4, hu4⟩ : ∃ u, w4.alloc (.cells #[.int .u64 3, .int .i64 2] 34) = u := ⟨_, rfl⟩
  have bu4 : Below w4.heap.size w4 u4 := by rw [← hu4]; exact (Below.refl _ _).alloc (Nat.le_refl _) _
  have us4 : u4.heap[S4]? = some (.cells #[.int .u64 3, .int .i64 2] 34 (0, 0)) := by rw [← hu4, ← hS4]; exact heap_alloc_new w4 _
  have b34 : Below w3.heap.size w3 u4 := b4.trans (bu4.mono b4.size)
  have B4 : Aside (Below w.heap.size w u4) := B3.out.trans (b34.mono B3.out.size)
  have Q4 : Aside (Que u4 w.heap.size A 2 1 aw2) := Q3.out.below b34
  have wh := where_any u4 w.heap.size A 2 1 2 aw2 1 Q4.out o2 (by omega) (by omega) (by omega) (by omega)
  rw [aw_where] at wh
  have HU4 : Hid _ := hu4
  have US4 : Aside (u4.heap[S4]? = some (.cells #[.int .u64 3, .int .i64 2] 34 (0, 0))) := us4
  clear LE b4 bu4 us4 hu4 b34
  go_wp2_with fail
  rw [HU4.out]
  refine wh.mono ?_
  rintro r w5 ⟨rfl, b5⟩
  have us5 := (b5.block S4 (lt_of_block US4.out)).trans US4.out
  obtain ⟨y0, y1⟩ := ent0 us5
  have ln := qlen_any w5 w.heap.size A 2 1 2 aw2 (Q4.out.below b5) o2 (by omega) (by omega) (by omega)
  rw [aw_len] at ln
  have B5 : Aside (Below w.heap.size w w5) := B4.out.trans (b5.mono B4.out.size)
  clear wh b5 us5
  go_wp2_with fail
  refine ln.mono ?_
  rintro r w6 ⟨rfl, b6⟩
  have B6 : Aside (Below w.heap.size w w6) := B5.out.trans (b6.mono B5.out.size)
  clear ln b6
  go_wp2
  go_ret
  exact ⟨rfl, B6.out⟩
end Go.Proofs.YtdcacbjmbfppeaaGreat

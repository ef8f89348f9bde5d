/- awake of layer 9. -/
import Derived.Test.YtfecobeiibdpcaaSltD
namespace Go.Proofs.Ytfecobeiibdpcaa
open Go.RowKit Go.Lib Go.Sort
set_option linter.unusedVariables false

set_option maxHeartbeats 2000000 in
set_option maxRecDepth 100000 in
theorem slAwake_any (w : World) : Calls Try.prog 11 #[] w fun e w' => e = .returned (.bool true) ∧ Below w.heap.size w w' := by
  obtain ⟨S, hS⟩ : ∃ S, w.heap.size = S := ⟨_, rfl⟩
  have nw := slNew_in 2 w S hS (by omega) (by omega)
  rw [hS]
  clear hS
  go_enter Try.func11, Try.ntmps11
  go_wp2_with fail
  refine nw.mono ?_
  rintro e w1 ⟨rfl, s1, b1, z1⟩
  have p1 := slPut_ok w1 (S + 1) S 2 _ 0 5 1 0 s1 (by omega) rfl rfl (by omega)
  clear nw
  go_wp2_with fail
  refine p1.mono ?_
  rintro e w2 ⟨rfl, s2, g2⟩
  have p2 := slPut_full w2 (S + 1) S 2 _ 0 6 2 s2 (by omega) rfl
  clear p1
  go_wp2_with fail
  refine p2.mono ?_
  rintro e w3 ⟨rfl, b3⟩
  have s3 := s2.below b3
  have p3 := slTake_ok w3 (S + 1) S 2 _ 0 5 1 1 s3 (by omega) rfl (by omega)
  clear p2
  go_wp2_with fail
  refine p3.mono ?_
  rintro e w4 ⟨rfl, s4, g4⟩
  have p4 := slTake_no (w4.alloc (.cells #[.int .u64 5, .int .i64 1] 33)) (S + 1) S 2 _ 0 1 (s4.alloc _) (by omega) (.inl rfl)
  have D4 : Aside (Below S w w4) := b1.trans (below_gr (gr_trans (gr_trans g2 (gr_below b3 _)) g4) (Nat.le_refl _) (by omega))
  clear p3 g2 b3 g4 s1 s2 s3 b1 z1
  go_wp2_with fail
  refine p4.mono ?_
  rintro e w5 ⟨rfl, b5⟩
  have s5 := (s4.alloc (.cells #[.int .u64 5, .int .i64 1] 33)).below b5
  have hx : w5.heap[w4.heap.size]? = some (.cells #[.int .u64 5, .int .i64 1] 33 (0, 0)) := (b5.block _ (by simp)).trans (heap_alloc_new w4 _)
  have x1 : w5.cell? ⟨w4.heap.size, 1, none⟩ = some (.int .i64 1) := by rw [cell_of_row _ _ _ _ _ _ hx]; rfl
  have xl : w4.heap.size < w5.heap.size := lt_of_block hx
  have p5 := slThreads_any (w5.alloc (.cells #[.int .u64 0, .int .i64 0] 33)) (S + 1) S 2 _ (s5.alloc _)
  have D5 : Aside (Below S w (w5.alloc (.cells #[.int .u64 0, .int .i64 0] 33))) := by
    have := D4.out.size
    have h4 := s4.rlt
    exact ((D4.out.alloc (by omega) _).trans (b5.mono (by simp; omega))).alloc (by omega) _
  clear p4 b5 s4 s5 hx D4
  go_wp2_with fail
  refine p5.mono ?_
  rintro e w6 ⟨rfl, rfl⟩
  go_wp2_with fail
  go_ret
  exact ⟨rfl, D5.out⟩
end Go.Proofs.Ytfecobeiibdpcaa

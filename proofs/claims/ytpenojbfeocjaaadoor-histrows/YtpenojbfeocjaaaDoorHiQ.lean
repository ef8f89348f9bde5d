/- Contracts: isTimely, mayTurn, mayCome. -/
import Derived.Test.YtpenojbfeocjaaaDoorHiO
namespace Go.Proofs.YtpenojbfeocjaaaDoor
open Go.RowKit Go.Lib Go.WideMaps Go.Maps
set_option linter.unusedVariables false
set_option maxRecDepth 10000

def RwR.timely (s : RwR) (e : EvR) : Bool := decide (e.k = 10) || (decide (e.c = s.cl) && decide (s.now ≤ e.n))
theorem bel_drewN {B : Nat} {a w : World} (h : Below B a w) (n : Nat) : Below B a (w.drewN n) := ⟨h.os, h.tape, h.output, h.size, h.block⟩
section
variable {w w' : World} {R L M c : Nat} {s : RwR}
set_option maxHeartbeats 4000000 in
set_option maxRecDepth 100000 in
theorem timely_any (I : RowI w R L M s c) (e : EvR) : Calls Tryd.prog 11 #[.pointer (some ⟨R, 0, none⟩), evV e] w fun r w' => r = .returned (.bool (s.timely e)) ∧ Below w.heap.size w w' := by
  obtain ⟨X, hX⟩ : ∃ X, w.heap.size = X := ⟨_, rfl⟩
  obtain ⟨u1, hu1⟩ : ∃ u, w.alloc (.cells #[.int .i64 e.k, .int .i64 e.t, .int .i64 e.i, .int .u64 e.y, .int .u64 e.c, .int .u64 e.n] 27) = u := ⟨_, rfl⟩
  have b1 : Below w.heap.size w u1 := by rw [← hu1]; exact bel1 _ _
  have E : EBx u1 X e := by rw [← hu1, ← hX]; exact EBx.made w e
  have B : Aside (Below w.heap.size w u1) := b1
  obtain ⟨a0, a1, a2, a3, a4, a5⟩ := (I.below b1).cells
  obtain ⟨E0, E1, E2, E3, E4, E5⟩ := E
  have alt := World.block_lt_of_cell? _ _ a0
  have HX : Aside _ := hX
  have HU : Aside _ := hu1
  obtain ⟨V, hV⟩ : ∃ v, s.timely e = v := ⟨_, rfl⟩
  have HV : Aside _ := hV
  rw [hV]
  unfold evV
  clear b1 hX hu1 I hV
  go_enter Tryd.func11, Tryd.ntmps11
  go_upto_region 1 with fail
  rw [HU.out, HX.out]
  clear HU HX
  by_cases h1 : e.k = 10
  · go_quiet (fail)
    go_wp2
    go_ret
    refine ⟨?_, bel_drewN B.out _⟩
    have := HV.out
    unfold RwR.timely at this
    rw [← this, decide_eq_true h1]
    rfl
  · have hb : (e.k == 10) = false := by simp [h1]
    by_cases h2 : (e.c : Int) = s.cl
    · by_cases h3 : (e.n : Int) ≥ s.now
      · go_quiet (fail)
        go_wp2
        go_ret
        refine ⟨?_, bel_drewN B.out _⟩
        have := HV.out
        unfold RwR.timely at this
        rw [← this, decide_eq_false h1, decide_eq_true (show e.c = s.cl by omega), decide_eq_true (show s.now ≤ e.n by omega)]
        rfl
      · go_quiet (fail)
        go_wp2
        go_ret
        refine ⟨?_, bel_drewN B.out _⟩
        have := HV.out
        unfold RwR.timely at this
        rw [← this, decide_eq_false h1, decide_eq_true (show e.c = s.cl by omega), decide_eq_false (show ¬ s.now ≤ e.n by omega)]
        rfl
    · go_quiet (fail)
      go_wp2
      go_ret
      refine ⟨?_, bel_drewN B.out _⟩
      have := HV.out
      unfold RwR.timely at this
      rw [← this, decide_eq_false h1, decide_eq_false (show ¬ e.c = s.cl by omega)]
      rfl
/-- None that was made. -/
theorem come_no (I : RowI w R L M s c) (e : EvR) (h1 : e.k ≠ 1) (h8 : e.k ≠ 8) (h9 : e.k ≠ 9) (hr : ¬ (1 ≤ e.i ∧ e.i ≤ s.made)) : Calls Tryd.prog 12 #[.pointer (some ⟨R, 0, none⟩), evV e] w fun r w' => r = .returned (.bool false) ∧ Below w.heap.size w w' := by
  obtain ⟨X, hX⟩ : ∃ X, w.heap.size = X := ⟨_, rfl⟩
  obtain ⟨u1, hu1⟩ : ∃ u, w.alloc (.cells #[.int .i64 e.k, .int .i64 e.t, .int .i64 e.i, .int .u64 e.y, .int .u64 e.c, .int .u64 e.n] 27) = u := ⟨_, rfl⟩
  have b1 : Below w.heap.size w u1 := by rw [← hu1]; exact bel1 _ _
  have E : EBx u1 X e := by rw [← hu1, ← hX]; exact EBx.made w e
  have B : Aside (Below w.heap.size w u1) := b1
  obtain ⟨a0, a1, a2, a3, a4, a5⟩ := (I.below b1).cells
  obtain ⟨E0, E1, E2, E3, E4, E5⟩ := E
  have alt := World.block_lt_of_cell? _ _ a0
  have HX : Aside _ := hX
  have HU : Aside _ := hu1
  have W : ∀ v, Calls Tryd.prog 20 #[.int .i64 e.i, .int .i64 1, .int .i64 s.made] v fun r w' => r = .returned (.bool false) ∧ w' = v := fun v => within_is (by
    cases h : (decide (1 ≤ e.i) && decide (e.i ≤ s.made)) with
    | false => rfl
    | true => simp at h; exact absurd h hr) v
  have WA : Aside _ := W
  unfold evV
  clear b1 hX hu1 I hr W
  go_enter Tryd.func12, Tryd.ntmps12
  go_upto_region 8 with fail
  rw [HU.out, HX.out]
  clear HU HX
  go_quiet ((go_at_call 20; exact Calls.quiet_of_same (WA.out _)))
  go_wp2
  go_ret
  exact ⟨rfl, bel_drewN B.out _⟩
end
end Go.Proofs.YtpenojbfeocjaaaDoor

/- Contracts: mayCome. -/
import Derived.Test.YtpenojbfeocjaaaDoorHiW
namespace Go.Proofs.YtpenojbfeocjaaaDoor
open Go.RowKit Go.Lib Go.WideMaps Go.Maps
set_option linter.unusedVariables false
set_option maxRecDepth 10000

/-- May this event be the next one? -/
def RwR.come (s : RwR) (e : EvR) : Bool :=
  if e.k = 1 then !s.shut && (decide (e.i = s.made + 1) && decide (e.i ≤ 200)) else if e.k = 8 then true else if e.k = 9 then !s.shut else (decide (1 ≤ e.i) && decide (e.i ≤ s.made)) && s.mturn e
section
variable {w w' : World} {R L M c : Nat} {s : RwR}
theorem t8 {X : Nat} {e : EvR} {V : World} (E : EBx V X e) (I : RowI V R L M s c) :
    V.cell? ⟨X, 0, none⟩ = some (.int .i64 e.k) ∧ V.cell? ⟨X, 1, none⟩ = some (.int .i64 e.t) ∧ V.cell? ⟨X, 2, none⟩ = some (.int .i64 e.i) ∧ V.cell? ⟨X, 3, none⟩ = some (.int .u64 e.y) ∧ V.cell? ⟨X, 4, none⟩ = some (.int .u64 e.c) ∧ V.cell? ⟨X, 5, none⟩ = some (.int .u64 e.n) ∧ V.cell? ⟨R, 2, none⟩ = some (.int .i64 s.made) := ⟨E.c0, E.c1, E.c2, E.c3, E.c4, E.c5, I.cells.2.2.1⟩
set_option maxHeartbeats 8000000 in
set_option maxRecDepth 100000 in
theorem come_in (I : RowI w R L M s c) (e : EvR) (hi : wfI e.i) (hy : wfU e.y) (h1 : e.k ≠ 1) (h8 : e.k ≠ 8) (h9 : e.k ≠ 9) (hr1 : 1 ≤ e.i) (hr2 : e.i ≤ s.made) : Calls Tryd.prog 12 #[.pointer (some ⟨R, 0, none⟩), evV e] w fun r w' => r = .returned (.bool (s.mturn e)) ∧ Below w.heap.size w w' := by
  obtain ⟨X, hX⟩ : ∃ X, w.heap.size = X := ⟨_, rfl⟩
  obtain ⟨u1, hu1⟩ : ∃ u, w.alloc (.cells #[.int .i64 e.k, .int .i64 e.t, .int .i64 e.i, .int .u64 e.y, .int .u64 e.c, .int .u64 e.n] 27) = u := ⟨_, rfl⟩
  have b1 : Below w.heap.size w u1 := by rw [← hu1]; exact bel1 _ _
  have E1 : EBx u1 X e := by rw [← hu1, ← hX]; exact EBx.made w e
  have I1 : RowI u1 R L M s c := I.below b1
  have B : Aside (Below w.heap.size w u1) := b1
  have HX : Aside _ := hX
  have HU : Aside _ := hu1
  have P := mturn_any (I1.drew) e hi hy
  obtain ⟨V, hV⟩ : ∃ v, s.mturn e = v := ⟨_, rfl⟩
  rw [hV] at P ⊢
  unfold evV at P ⊢
  obtain ⟨_, d0, d1, d2, d3, d4, d5⟩ := id E1
  clear hX hu1 b1 I hi hy hV
  go_enter Tryd.func12, Tryd.ntmps12
  go_upto_region 1 with fail
  rw [HU.out, HX.out]
  go_upto_region 8 with fail
  clear d0 d1 d2 d3 d4 d5
  refine wp_region_held_drew (S := (fun V : World => V.cell? ⟨X, 0, none⟩ = some (.int .i64 e.k) ∧ V.cell? ⟨X, 1, none⟩ = some (.int .i64 e.t) ∧ V.cell? ⟨X, 2, none⟩ = some (.int .i64 e.i) ∧ V.cell? ⟨X, 3, none⟩ = some (.int .u64 e.y) ∧ V.cell? ⟨X, 4, none⟩ = some (.int .u64 e.c) ∧ V.cell? ⟨X, 5, none⟩ = some (.int .u64 e.n) ∧ V.cell? ⟨R, 2, none⟩ = some (.int .i64 s.made))) (by kernel_rfl) (t8 E1.drew I1.drew) (fun hHeld => ?_)
  refine wpAnyH_take (i := 0) (oi := { dst := some 38, op := Op.fieldAddr 27 (Operand.tmp 3) 2, type := 0, pos := "hist.go:76", after := #[], guard := none }) (v := ?_) rfl (by kernel_rfl) (by kernel_rfl) (by kernel_rfl) (fun _ _ _ h => h) (Or.inl ⟨by rfl, ?_⟩) (by assumption) ?_
  rotate_left
  · (intro w hSw; (try dsimp only at hSw); go_simp; try with_reducible rfl)
  simp only [Act.put, List.setIfInBounds_toArray, List.set_cons_zero, List.set_cons_succ]
  refine wpAnyH_take (i := 1) (oi := { dst := some 39, op := Op.load 3 (Operand.tmp 38), type := 3, pos := "hist.go:76", after := #[{ on := 0, ground := Ground.data }], guard := none }) (v := ?_) rfl (by kernel_rfl) (by kernel_rfl) (by kernel_rfl) (fun _ _ _ h => h) (Or.inl ⟨by rfl, ?_⟩) (by assumption) ?_
  rotate_left
  · (intro w hSw; (try dsimp only at hSw); go_simp; try with_reducible rfl)
  simp only [Act.put, List.setIfInBounds_toArray, List.set_cons_zero, List.set_cons_succ]
  refine wpAnyH_take (i := 2) (oi := { dst := some 40, op := Op.move (Operand.tmp 0), type := 37, pos := "hist.go:76", after := #[], guard := none }) (v := ?_) rfl (by kernel_rfl) (by kernel_rfl) (by kernel_rfl) (fun _ _ _ h => h) (Or.inl ⟨by rfl, ?_⟩) (by assumption) ?_
  rotate_left
  · (intro w hSw; (try dsimp only at hSw); go_simp; try with_reducible rfl)
  simp only [Act.put, List.setIfInBounds_toArray, List.set_cons_zero, List.set_cons_succ]
  refine wpAnyH_take (i := 3) (oi := { dst := some 41, op := Op.nilCheck (Operand.tmp 40), type := 0, pos := "hist.go:76", after := #[{ on := 2, ground := Ground.data }], guard := none }) (v := ?_) rfl (by kernel_rfl) (by kernel_rfl) (by kernel_rfl) (fun _ _ _ h => h) (Or.inl ⟨by rfl, ?_⟩) (by assumption) ?_
  rotate_left
  · (intro w hSw; (try dsimp only at hSw); go_simp; try with_reducible rfl)
  simp only [Act.put, List.setIfInBounds_toArray, List.set_cons_zero, List.set_cons_succ]
  refine wpAnyH_take (i := 4) (oi := { dst := some 42, op := Op.fieldAddr 55 (Operand.tmp 41) 2, type := 0, pos := "hist.go:76", after := #[{ on := 3, ground := Ground.data }], guard := none }) (v := ?_) rfl (by kernel_rfl) (by kernel_rfl) (by kernel_rfl) (fun _ _ _ h => h) (Or.inl ⟨by rfl, ?_⟩) (by assumption) ?_
  rotate_left
  · (intro w hSw; (try dsimp only at hSw); go_simp; try with_reducible rfl)
  simp only [Act.put, List.setIfInBounds_toArray, List.set_cons_zero, List.set_cons_succ]
  refine wpAnyH_take (i := 5) (oi := { dst := some 43, op := Op.load 3 (Operand.tmp 42), type := 3, pos := "hist.go:76", after := #[{ on := 4, ground := Ground.data }], guard := none }) (v := ?_) rfl (by kernel_rfl) (by kernel_rfl) (by kernel_rfl) (fun _ _ _ h => h) (Or.inl ⟨by rfl, ?_⟩) (by assumption) ?_
  rotate_left
  · (intro w hSw; (try dsimp only at hSw); go_simp; try with_reducible rfl)
  simp only [Act.put, List.setIfInBounds_toArray, List.set_cons_zero, List.set_cons_succ]
  refine wpAnyH_ready (rs := [6]) (by kernel_rfl) (by simp) ?_
  refine AllReadyH.cons (o := { dst := some 44, op := Op.call { callee := Callee.value (Operand.func 20), args := #[Operand.tmp 39, Operand.const (Value.int IntKind.i64 1), Operand.tmp 43], argTypes := #[3, 3, 3] }, type := 4, pos := "hist.go:76", after := #[{ on := 1, ground := Ground.data }, { on := 5, ground := Ground.data }], guard := none }) rfl (fun Kt hKt => ?_) AllReadyH.nil
  go_simp
  (with_reducible refine Calls.mono (within_yes hr1 hr2 _) ?_)
  rintro r v1 ⟨rfl, rfl⟩
  go_wp2_with fail
  refine hKt.out _ _ (t8 E1.drew I1.drew) (fun hHeld => ?_)
  clear hKt Kt
  try simp only [Act.put, List.setIfInBounds_toArray, List.set_cons_zero, List.set_cons_succ]
  refine wpAnyH_take (i := 7) (oi := { dst := some 45, op := Op.move (Operand.tmp 44), type := 4, pos := "hist.go:76", after := #[{ on := 6, ground := Ground.data }, { on := 6, ground := Ground.chain }], guard := none }) (v := ?_) rfl (by kernel_rfl) (by kernel_rfl) (by kernel_rfl) (fun _ _ _ h => h) (Or.inl ⟨by rfl, ?_⟩) (by assumption) ?_
  rotate_left
  · (intro w hSw; (try dsimp only at hSw); go_simp; try with_reducible rfl)
  simp only [Act.put, List.setIfInBounds_toArray, List.set_cons_zero, List.set_cons_succ]
  refine wpAnyH_take (i := 8) (oi := { dst := some 46, op := Op.move (Operand.tmp 0), type := 37, pos := "hist.go:76", after := #[{ on := 7, ground := Ground.guard }], guard := some (7, true) }) (v := ?_) rfl (by kernel_rfl) (by kernel_rfl) (by kernel_rfl) (fun _ _ _ h => h) (Or.inl ⟨by rfl, ?_⟩) (by assumption) ?_
  rotate_left
  · (intro w hSw; (try dsimp only at hSw); go_simp; try with_reducible rfl)
  simp only [Act.put, List.setIfInBounds_toArray, List.set_cons_zero, List.set_cons_succ]
  refine wpAnyH_take (i := 9) (oi := { dst := some 47, op := Op.load 27 (Operand.tmp 3), type := 27, pos := "hist.go:76", after := #[{ on := 7, ground := Ground.guard }], guard := some (7, true) }) (v := ?_) rfl (by kernel_rfl) (by kernel_rfl) (by kernel_rfl) (fun _ _ _ h => h) (Or.inl ⟨by rfl, ?_⟩) (by assumption) ?_
  rotate_left
  · (intro w hSw; (try dsimp only at hSw); go_simp; try with_reducible rfl)
  simp only [Act.put, List.setIfInBounds_toArray, List.set_cons_zero, List.set_cons_succ]
  refine wpAnyH_ready (rs := [10]) (by kernel_rfl) (by simp) ?_
  refine AllReadyH.cons (o := { dst := some 48, op := Op.call { callee := Callee.value (Operand.func 21), args := #[Operand.tmp 46, Operand.tmp 47], argTypes := #[37, 27] }, type := 4, pos := "hist.go:76", after := #[{ on := 8, ground := Ground.data }, { on := 9, ground := Ground.data }, { on := 7, ground := Ground.chain }, { on := 7, ground := Ground.guard }], guard := some (7, true) }) rfl (fun Kt hKt => ?_) AllReadyH.nil
  go_simp
  (with_reducible refine Calls.mono P ?_)
  rintro r v2 ⟨rfl, bb⟩
  have B2 : Aside (Below w.heap.size w v2) := B.out.drew.trans (bb.mono B.out.drew.size)
  have E2 : EBx v2 X e := E1.drew.below bb
  have I2 : RowI v2 R L M s c := I1.drew.below bb
  clear bb
  go_wp2_with fail
  refine hKt.out _ _ (t8 E2 I2) (fun hHeld => ?_)
  clear hKt Kt
  try simp only [Act.put, List.setIfInBounds_toArray, List.set_cons_zero, List.set_cons_succ]
  refine wpAnyH_take (i := 11) (oi := { dst := some 49, op := Op.pick (Operand.tmp 45) (Operand.tmp 48) (Operand.const (Value.bool false)), type := 4, pos := "hist.go:76", after := #[{ on := 7, ground := Ground.data }, { on := 10, ground := Ground.data }], guard := none }) (v := ?_) rfl (by kernel_rfl) (by kernel_rfl) (by kernel_rfl) (fun _ _ _ h => h) (Or.inl ⟨by rfl, ?_⟩) (by assumption) ?_
  rotate_left
  · (intro w hSw; (try dsimp only at hSw); go_simp; try with_reducible rfl)
  simp only [Act.put, List.setIfInBounds_toArray, List.set_cons_zero, List.set_cons_succ]
  refine wpAnyH_take (i := 12) (oi := { dst := some 4, op := Op.assign (Operand.tmp 49), type := 4, pos := "hist.go:76", after := #[{ on := 11, ground := Ground.data }, { on := 10, ground := Ground.chain }, { on := 0, ground := Ground.phase }, { on := 1, ground := Ground.phase }, { on := 2, ground := Ground.phase }, { on := 3, ground := Ground.phase }, { on := 4, ground := Ground.phase }, { on := 5, ground := Ground.phase }, { on := 6, ground := Ground.phase }, { on := 7, ground := Ground.phase }, { on := 8, ground := Ground.phase }, { on := 9, ground := Ground.phase }, { on := 10, ground := Ground.phase }, { on := 11, ground := Ground.phase }], guard := none }) (v := ?_) rfl (by kernel_rfl) (by kernel_rfl) (by kernel_rfl) (fun _ _ _ h => h) (Or.inl ⟨by rfl, ?_⟩) (by assumption) ?_
  rotate_left
  · (intro w hSw; (try dsimp only at hSw); go_simp; try with_reducible rfl)
  simp only [Act.put, List.setIfInBounds_toArray, List.set_cons_zero, List.set_cons_succ]
  refine wpAnyH_done (by kernel_rfl) ?_ _
  go_wp2_with fail
  go_ret
  exact ⟨rfl, B2.out⟩
set_option maxHeartbeats 8000000 in
set_option maxRecDepth 100000 in
theorem come_make (I : RowI w R L M s c) (e : EvR) (h1 : e.k = 1) : Calls Tryd.prog 12 #[.pointer (some ⟨R, 0, none⟩), evV e] w fun r w' => r = .returned (.bool (!s.shut && (decide (e.i = s.made + 1) && decide (e.i ≤ 200)))) ∧ Below w.heap.size w w' := by
  obtain ⟨X, hX⟩ : ∃ X, w.heap.size = X := ⟨_, rfl⟩
  obtain ⟨u1, hu1⟩ : ∃ u, w.alloc (.cells #[.int .i64 e.k, .int .i64 e.t, .int .i64 e.i, .int .u64 e.y, .int .u64 e.c, .int .u64 e.n] 27) = u := ⟨_, rfl⟩
  have b1 : Below w.heap.size w u1 := by rw [← hu1]; exact bel1 _ _
  have E1 : EBx u1 X e := by rw [← hu1, ← hX]; exact EBx.made w e
  have I1 : RowI u1 R L M s c := I.below b1
  have B : Aside (Below w.heap.size w u1) := b1
  have HX : Aside _ := hX
  have HU : Aside _ := hu1
  have K1 : Aside _ := h1
  obtain ⟨_, d0, d1, d2, d3, d4, d5⟩ := id E1
  obtain ⟨a0, a1, a2, a3, a4, a5⟩ := I1.cells
  have alt := World.block_lt_of_cell? _ _ a0
  have rg := I1.rg
  have hwr : IntKind.i64.wrap (s.made + 1) = s.made + 1 := by rw [IntKind.wrap_i64]; omega
  obtain ⟨V, hV⟩ : ∃ v, (!s.shut && (decide (e.i = s.made + 1) && decide (e.i ≤ 200))) = v := ⟨_, rfl⟩
  have HV : Aside _ := hV
  rw [hV]
  unfold evV
  clear h1 hX hu1 b1 I hV I1 E1 rg
  go_enter Tryd.func12, Tryd.ntmps12
  go_upto_region 1 with fail
  rw [HU.out, HX.out]
  have h1 := K1.out
  go_upto_region 3 with fail
  cases hs : s.shut with
  | true =>
    rw [hs] at a5
    go_quiet (fail)
    go_wp2
    go_ret
    exact ⟨by rw [← HV.out, hs]; rfl, bel_drewN B.out _⟩
  | false =>
    rw [hs] at a5
    by_cases h2 : e.i = s.made + 1
    · have h2' : (e.i == s.made + 1) = true := by simp [h2]
      by_cases h3 : e.i ≤ 200
      · have h3' : decide (e.i ≤ 200) = true := decide_eq_true h3
        have NV : V = true := by rw [← HV.out, hs, decide_eq_true h2, h3']; rfl
        clear h2
        go_quiet (fail)
        go_wp2
        go_ret
        exact ⟨rfl, bel_drewN B.out _⟩
      · have h3' : decide (e.i ≤ 200) = false := decide_eq_false h3
        have NV : V = false := by rw [← HV.out, hs, decide_eq_true h2, h3']; rfl
        clear h2
        go_quiet (fail)
        go_wp2
        go_ret
        exact ⟨rfl, bel_drewN B.out _⟩
    · have h2' : (e.i == s.made + 1) = false := by simp [h2]
      have NV : V = false := by rw [← HV.out, hs, decide_eq_false h2]; rfl
      go_quiet (fail)
      go_wp2
      go_ret
      exact ⟨rfl, bel_drewN B.out _⟩
set_option maxHeartbeats 8000000 in
set_option maxRecDepth 100000 in
theorem come_tick (I : RowI w R L M s c) (e : EvR) (h8 : e.k = 8) : Calls Tryd.prog 12 #[.pointer (some ⟨R, 0, none⟩), evV e] w fun r w' => r = .returned (.bool true) ∧ Below w.heap.size w w' := by
  obtain ⟨X, hX⟩ : ∃ X, w.heap.size = X := ⟨_, rfl⟩
  obtain ⟨u1, hu1⟩ : ∃ u, w.alloc (.cells #[.int .i64 e.k, .int .i64 e.t, .int .i64 e.i, .int .u64 e.y, .int .u64 e.c, .int .u64 e.n] 27) = u := ⟨_, rfl⟩
  have b1 : Below w.heap.size w u1 := by rw [← hu1]; exact bel1 _ _
  have E1 : EBx u1 X e := by rw [← hu1, ← hX]; exact EBx.made w e
  have I1 : RowI u1 R L M s c := I.below b1
  have B : Aside (Below w.heap.size w u1) := b1
  have HX : Aside _ := hX
  have HU : Aside _ := hu1
  have K1 : Aside _ := h8
  obtain ⟨_, d0, d1, d2, d3, d4, d5⟩ := id E1
  unfold evV
  clear h8 hX hu1 b1 I I1 E1
  go_enter Tryd.func12, Tryd.ntmps12
  go_upto_region 1 with fail
  rw [HU.out, HX.out]
  have h8 := K1.out
  go_wp2_with fail
  go_ret
  exact ⟨rfl, B.out⟩
set_option maxHeartbeats 8000000 in
set_option maxRecDepth 100000 in
theorem come_close (I : RowI w R L M s c) (e : EvR) (h9 : e.k = 9) : Calls Tryd.prog 12 #[.pointer (some ⟨R, 0, none⟩), evV e] w fun r w' => r = .returned (.bool (!s.shut)) ∧ Below w.heap.size w w' := by
  obtain ⟨X, hX⟩ : ∃ X, w.heap.size = X := ⟨_, rfl⟩
  obtain ⟨u1, hu1⟩ : ∃ u, w.alloc (.cells #[.int .i64 e.k, .int .i64 e.t, .int .i64 e.i, .int .u64 e.y, .int .u64 e.c, .int .u64 e.n] 27) = u := ⟨_, rfl⟩
  have b1 : Below w.heap.size w u1 := by rw [← hu1]; exact bel1 _ _
  have E1 : EBx u1 X e := by rw [← hu1, ← hX]; exact EBx.made w e
  have I1 : RowI u1 R L M s c := I.below b1
  have B : Aside (Below w.heap.size w u1) := b1
  have HX : Aside _ := hX
  have HU : Aside _ := hu1
  have K1 : Aside _ := h9
  obtain ⟨_, d0, d1, d2, d3, d4, d5⟩ := id E1
  obtain ⟨a0, a1, a2, a3, a4, a5⟩ := I1.cells
  have alt := World.block_lt_of_cell? _ _ a0
  unfold evV
  clear h9 hX hu1 b1 I I1 E1
  go_enter Tryd.func12, Tryd.ntmps12
  go_upto_region 1 with fail
  rw [HU.out, HX.out]
  have h9 := K1.out
  go_wp2_with fail
  go_ret
  exact ⟨rfl, B.out⟩
theorem come_any (I : RowI w R L M s c) (e : EvR) (hi : wfI e.i) (hy : wfU e.y) : Calls Tryd.prog 12 #[.pointer (some ⟨R, 0, none⟩), evV e] w fun r w' => r = .returned (.bool (s.come e)) ∧ Below w.heap.size w w' := by
  unfold RwR.come
  by_cases h1 : e.k = 1
  · rw [if_pos h1]; exact come_make I e h1
  rw [if_neg h1]
  by_cases h8 : e.k = 8
  · rw [if_pos h8]; exact come_tick I e h8
  rw [if_neg h8]
  by_cases h9 : e.k = 9
  · rw [if_pos h9]; exact come_close I e h9
  rw [if_neg h9]
  by_cases hr : 1 ≤ e.i ∧ e.i ≤ s.made
  · rw [decide_eq_true hr.1, decide_eq_true hr.2]
    exact come_in I e hi hy h1 h8 h9 hr.1 hr.2
  · have : (decide (1 ≤ e.i) && decide (e.i ≤ s.made)) = false := by rw [Bool.and_eq_false_iff]; simp; omega
    rw [this]
    exact come_no I e h1 h8 h9 hr
end
end Go.Proofs.YtpenojbfeocjaaaDoor

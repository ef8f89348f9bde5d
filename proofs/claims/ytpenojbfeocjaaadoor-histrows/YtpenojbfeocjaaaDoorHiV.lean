/- Contracts: mayTurn, mayCome. -/
import Derived.Test.YtpenojbfeocjaaaDoorHiQ
namespace Go.Proofs.YtpenojbfeocjaaaDoor
open Go.RowKit Go.Lib Go.WideMaps Go.Maps
set_option linter.unusedVariables false
set_option maxRecDepth 10000

def ev0 : EvR := ⟨0, 0, 0, 0, 0, 0⟩
/-- The event that says how a task stands. -/
def RwR.lastR (s : RwR) (i : Int) : EvR := (s.f i).getD ev0
theorem zeroE (w : World) : (zeroValue 27).run Tryd.prog w = .ok (evV ev0) w := by kernel_rfl
theorem zeroN (w : World) : (zeroValue 42).run Tryd.prog w = .ok (enV (0, 0)) w := by kernel_rfl
theorem fldK (e : EvR) (w : World) : (Instr.field 27 (.agg #[.int .i64 e.k, .int .i64 e.t, .int .i64 e.i, .int .u64 e.y, .int .u64 e.c, .int .u64 e.n]) 0).run Tryd.prog w = .ok (.int .i64 e.k) w := by
  simp [Instr.field, asAgg, part, isAgg, run_underlying Tryd.underlying27, run_underlying Tryd.underlying3, go_sem]
theorem fldY (e : EvR) (w : World) : (Instr.field 27 (.agg #[.int .i64 e.k, .int .i64 e.t, .int .i64 e.i, .int .u64 e.y, .int .u64 e.c, .int .u64 e.n]) 3).run Tryd.prog w = .ok (.int .u64 e.y) w := by
  simp [Instr.field, asAgg, part, isAgg, run_underlying Tryd.underlying27, run_underlying Tryd.underlying25, go_sem]
section
variable {w w' : World} {R L M c : Nat} {s : RwR}
theorem RowI.look (I : RowI w R L M s c) {i : Int} (hi : wfI i) : (Instr.lookup 53 (.map (some L)) (.int .i64 i) false).run Tryd.prog w = .ok (evV (s.lastR i)) w := by
  obtain ⟨n, _, h⟩ := I.ml
  have := h.look (t := 53) Tryd.underlying53 (zeroE w) hi
  refine this.trans ?_
  unfold RwR.lastR
  cases s.f i <;> rfl
theorem RowI.lookOk (I : RowI w R L M s c) {y : Nat} {i : Int} (hy : wfU y) (hi : wfU (u64 i)) : (Instr.lookup 50 (.map (some M)) (.agg #[.int .u64 y, .int .u64 (u64 i)]) true).run Tryd.prog w = .ok (.tuple #[enV ((s.g (y, u64 i)).getD (0, 0)), .bool (s.g (y, u64 i)).isSome]) w := by
  obtain ⟨n, _, h⟩ := I.mr
  have := h.lookOk (t := 50) Tryd.underlying50 (zeroN w) (x := (y, u64 i)) ⟨hy, hi⟩
  refine this.trans ?_
  cases s.g (y, u64 i) <;> rfl
theorem RowI.drew (h : RowI w R L M s c) : RowI w.drew R L M s c := h.below (Below.refl _ _).drew
theorem u64_wf (i : Int) : wfU (u64 i) := wfU_of (by unfold u64; omega)
def RwR.waits (s : RwR) (i : Int) : Bool := decide ((s.lastR i).k = 0) || decide ((s.lastR i).k = 6)
/-- May this happen to a task that was made? -/
def RwR.mturn (s : RwR) (e : EvR) : Bool :=
  if e.k = 10 then true else if e.k = 2 then s.waits e.i else if e.k = 3 then (s.g (e.y, u64 e.i)).isSome else if e.k = 4 ∨ e.k = 5 ∨ e.k = 6 then decide ((s.lastR e.i).k = 3) else if e.k = 7 then s.waits e.i || decide ((s.lastR e.i).k = 2) else false
theorem st9 {X Z q1 : Nat} {q2 : Int} {b : Bool} {e : EvR} {V : World} (E : EBx V X e) (I : RowI V R L M s c) (h : wfU e.y ∧ u64 e.i = Z ∧ s.g (e.y, u64 e.i) = none ∧ b = false ∧ q1 = 0 ∧ q2 = 0 ∨ wfU e.y ∧ u64 e.i = Z ∧ s.g (e.y, u64 e.i) = some (q1, q2) ∧ b = true) :
    V.cell? ⟨X, 2, none⟩ = some (.int .i64 e.i) ∧ V.cell? ⟨X, 3, none⟩ = some (.int .u64 e.y) ∧ V.cell? ⟨R, 1, none⟩ = some (.map (some M)) ∧ (Instr.lookup 50 (.map (some M)) (.agg #[.int .u64 e.y, .int .u64 Z]) true).run Tryd.prog V = .ok (.tuple #[.agg #[.int .u64 q1, .int .i64 q2], .bool b]) V := by
  obtain ⟨a0, a1, a2, a3, a4, a5⟩ := I.cells
  refine ⟨E.c2, E.c3, a1, ?_⟩
  rcases h with ⟨hy, hz, hg, rfl, rfl, rfl⟩ | ⟨hy, hz, hg, rfl⟩
  · have := I.lookOk hy (u64_wf e.i)
    rw [hg, hz] at this
    exact this
  · have := I.lookOk hy (u64_wf e.i)
    rw [hg, hz] at this
    exact this
theorem st1 {X : Nat} {l e : EvR} {V : World} (E : EBx V X e) (I : RowI V R L M s c) (h : wfI e.i) (hl : s.lastR e.i = l) :
    V.cell? ⟨X, 2, none⟩ = some (.int .i64 e.i) ∧ V.cell? ⟨R, 0, none⟩ = some (.map (some L)) ∧ (Instr.lookup 53 (.map (some L)) (.int .i64 e.i) false).run Tryd.prog V = .ok (.agg #[.int .i64 l.k, .int .i64 l.t, .int .i64 l.i, .int .u64 l.y, .int .u64 l.c, .int .u64 l.n]) V := by
  obtain ⟨a0, a1, a2, a3, a4, a5⟩ := I.cells
  have := I.look h
  rw [hl] at this
  exact ⟨E.c2, a0, this⟩
set_option maxHeartbeats 16000000 in
set_option maxRecDepth 100000 in
theorem mturn_any (I : RowI w R L M s c) (e : EvR) (hi : wfI e.i) (hy : wfU e.y) : Calls Tryd.prog 21 #[.pointer (some ⟨R, 0, none⟩), evV e] w fun r w' => r = .returned (.bool (s.mturn e)) ∧ Below w.heap.size w w' := by
  obtain ⟨X, hX⟩ : ∃ X, w.heap.size = X := ⟨_, rfl⟩
  obtain ⟨u1, hu1⟩ : ∃ u, w.alloc (.cells #[.int .i64 e.k, .int .i64 e.t, .int .i64 e.i, .int .u64 e.y, .int .u64 e.c, .int .u64 e.n] 27) = u := ⟨_, rfl⟩
  have b1 : Below w.heap.size w u1 := by rw [← hu1]; exact bel1 _ _
  have E1 : EBx u1 X e := by rw [← hu1, ← hX]; exact EBx.made w e
  have I1 : RowI u1 R L M s c := I.below b1
  have B : Aside (Below w.heap.size w u1) := b1
  have HX : Aside _ := hX
  have HU : Aside _ := hu1
  obtain ⟨l, hl⟩ : ∃ l, s.lastR e.i = l := ⟨_, rfl⟩
  have HL : Aside _ := hl
  obtain ⟨Z, hZ⟩ : ∃ z, u64 e.i = z := ⟨_, rfl⟩
  have HZ : Aside _ := hZ
  obtain ⟨q1, q2, b, hqq⟩ : ∃ q1 q2 b, (wfU e.y ∧ u64 e.i = Z ∧ s.g (e.y, u64 e.i) = none ∧ b = false ∧ q1 = 0 ∧ q2 = 0 ∨ wfU e.y ∧ u64 e.i = Z ∧ s.g (e.y, u64 e.i) = some (q1, q2) ∧ b = true) := by
    cases hg : s.g (e.y, u64 e.i) with
    | none => exact ⟨0, 0, false, .inl ⟨hy, hZ, rfl, rfl, rfl, rfl⟩⟩
    | some q => exact ⟨q.1, q.2, true, .inr ⟨hy, hZ, rfl, rfl⟩⟩
  have QQ : Aside _ := hqq
  have BB : Aside (Below u1.heap.size u1 u1) := Below.refl _ _
  have WI : Aside (wfI e.i) := hi
  obtain ⟨V, hV⟩ : ∃ v, s.mturn e = v := ⟨_, rfl⟩
  have HV : Aside _ := hV
  have ff := fldK l
  have d0 := E1.c0
  have E1 : Aside (EBx u1 X e) := E1
  have I1 : Aside (RowI u1 R L M s c) := I1
  rw [hV]
  unfold evV
  clear hX hu1 b1 I hl hZ hqq hi hy hV
  go_enter Tryd.func21, Tryd.ntmps21
  go_upto_region 1 with fail
  rw [HU.out, HX.out]
  refine wp_region_held_drew (S := (fun V : World => V.cell? ⟨X, 2, none⟩ = some (.int .i64 e.i) ∧ V.cell? ⟨R, 0, none⟩ = some (.map (some L)) ∧ (Instr.lookup 53 (.map (some L)) (.int .i64 e.i) false).run Tryd.prog V = .ok (.agg #[.int .i64 l.k, .int .i64 l.t, .int .i64 l.i, .int .u64 l.y, .int .u64 l.c, .int .u64 l.n]) V)) (by kernel_rfl) (st1 (E1.out.below BB.out.drew) (I1.out.below BB.out.drew) WI.out HL.out) (fun hHeld => ?_)
  refine wpAnyH_take (i := 0) (oi := { dst := some 9, op := Op.move (Operand.tmp 0), type := 37, pos := "hist.go:81", after := #[], guard := none }) (v := ?_) rfl (by kernel_rfl) (by kernel_rfl) (by kernel_rfl) (fun _ _ _ h => h) (Or.inl ⟨by rfl, ?_⟩) (by assumption) ?_
  rotate_left
  · (intro w hSw; (try dsimp only at hSw); go_simp; try with_reducible rfl)
  simp only [Act.put, List.setIfInBounds_toArray, List.set_cons_zero, List.set_cons_succ]
  refine wpAnyH_take (i := 1) (oi := { dst := some 10, op := Op.nilCheck (Operand.tmp 9), type := 0, pos := "hist.go:81", after := #[{ on := 0, ground := Ground.data }], guard := none }) (v := ?_) rfl (by kernel_rfl) (by kernel_rfl) (by kernel_rfl) (fun _ _ _ h => h) (Or.inl ⟨by rfl, ?_⟩) (by assumption) ?_
  rotate_left
  · (intro w hSw; (try dsimp only at hSw); go_simp; try with_reducible rfl)
  simp only [Act.put, List.setIfInBounds_toArray, List.set_cons_zero, List.set_cons_succ]
  refine wpAnyH_take (i := 2) (oi := { dst := some 11, op := Op.fieldAddr 55 (Operand.tmp 10) 0, type := 0, pos := "hist.go:81", after := #[{ on := 1, ground := Ground.data }], guard := none }) (v := ?_) rfl (by kernel_rfl) (by kernel_rfl) (by kernel_rfl) (fun _ _ _ h => h) (Or.inl ⟨by rfl, ?_⟩) (by assumption) ?_
  rotate_left
  · (intro w hSw; (try dsimp only at hSw); go_simp; try with_reducible rfl)
  simp only [Act.put, List.setIfInBounds_toArray, List.set_cons_zero, List.set_cons_succ]
  refine wpAnyH_take (i := 3) (oi := { dst := some 12, op := Op.load 53 (Operand.tmp 11), type := 53, pos := "hist.go:81", after := #[{ on := 2, ground := Ground.data }], guard := none }) (v := ?_) rfl (by kernel_rfl) (by kernel_rfl) (by kernel_rfl) (fun _ _ _ h => h) (Or.inl ⟨by rfl, ?_⟩) (by assumption) ?_
  rotate_left
  · (intro w hSw; (try dsimp only at hSw); go_simp; try with_reducible rfl)
  simp only [Act.put, List.setIfInBounds_toArray, List.set_cons_zero, List.set_cons_succ]
  refine wpAnyH_take (i := 4) (oi := { dst := some 13, op := Op.fieldAddr 27 (Operand.tmp 3) 2, type := 0, pos := "hist.go:81", after := #[], guard := none }) (v := ?_) rfl (by kernel_rfl) (by kernel_rfl) (by kernel_rfl) (fun _ _ _ h => h) (Or.inl ⟨by rfl, ?_⟩) (by assumption) ?_
  rotate_left
  · (intro w hSw; (try dsimp only at hSw); go_simp; try with_reducible rfl)
  simp only [Act.put, List.setIfInBounds_toArray, List.set_cons_zero, List.set_cons_succ]
  refine wpAnyH_take (i := 5) (oi := { dst := some 14, op := Op.load 3 (Operand.tmp 13), type := 3, pos := "hist.go:81", after := #[{ on := 4, ground := Ground.data }], guard := none }) (v := ?_) rfl (by kernel_rfl) (by kernel_rfl) (by kernel_rfl) (fun _ _ _ h => h) (Or.inl ⟨by rfl, ?_⟩) (by assumption) ?_
  rotate_left
  · (intro w hSw; (try dsimp only at hSw); go_simp; try with_reducible rfl)
  simp only [Act.put, List.setIfInBounds_toArray, List.set_cons_zero, List.set_cons_succ]
  refine wpAnyH_take (i := 6) (oi := { dst := some 15, op := Op.lookup 53 (Operand.tmp 12) (Operand.tmp 14) false, type := 27, pos := "hist.go:81", after := #[{ on := 3, ground := Ground.data }, { on := 5, ground := Ground.data }], guard := none }) (v := ?_) rfl (by kernel_rfl) (by kernel_rfl) (by kernel_rfl) (fun _ _ _ h => h) (Or.inl ⟨by rfl, ?_⟩) (by assumption) ?_
  rotate_left
  · (intro w hSw; (try dsimp only at hSw); go_simp; try with_reducible rfl)
  simp only [Act.put, List.setIfInBounds_toArray, List.set_cons_zero, List.set_cons_succ]
  refine wpAnyH_take (i := 7) (oi := { dst := some 16, op := Op.field 27 (Operand.tmp 15) 0, type := 3, pos := "hist.go:81", after := #[{ on := 6, ground := Ground.data }], guard := none }) (v := ?_) rfl (by kernel_rfl) (by kernel_rfl) (by kernel_rfl) (fun _ _ _ h => h) (Or.inl ⟨by rfl, ?_⟩) (by assumption) ?_
  rotate_left
  · (intro w hSw; (try dsimp only at hSw); go_simp; try with_reducible rfl)
  simp only [Act.put, List.setIfInBounds_toArray, List.set_cons_zero, List.set_cons_succ]
  refine wpAnyH_take (i := 8) (oi := { dst := some 5, op := Op.assign (Operand.tmp 16), type := 3, pos := "hist.go:81", after := #[{ on := 7, ground := Ground.data }, { on := 0, ground := Ground.phase }, { on := 1, ground := Ground.phase }, { on := 2, ground := Ground.phase }, { on := 3, ground := Ground.phase }, { on := 4, ground := Ground.phase }, { on := 5, ground := Ground.phase }, { on := 6, ground := Ground.phase }, { on := 7, ground := Ground.phase }], guard := none }) (v := ?_) rfl (by kernel_rfl) (by kernel_rfl) (by kernel_rfl) (fun _ _ _ h => h) (Or.inl ⟨by rfl, ?_⟩) (by assumption) ?_
  rotate_left
  · (intro w hSw; (try dsimp only at hSw); go_simp; try with_reducible rfl)
  simp only [Act.put, List.setIfInBounds_toArray, List.set_cons_zero, List.set_cons_succ]
  refine wpAnyH_done (by kernel_rfl) ?_ _
  have BB : Aside (Below u1.heap.size u1 u1.drew) := BB.out.drew
  have d0 : u1.drew.cell? ⟨X, 0, none⟩ = some (.int .i64 e.k) := d0
  by_cases h0 : l.k = 0
  · go_upto_region 3 with fail
    by_cases k10 : e.k = 10
    · go_wp2_with fail
      go_ret
      refine ⟨by rw [← HV.out]; simp [RwR.mturn, k10], ?_⟩
      exact B.out.trans (BB.out.mono B.out.size)
    by_cases k2 : e.k = 2
    · go_wp2_with fail
      go_ret
      refine ⟨by rw [← HV.out]; simp [RwR.mturn, RwR.waits, HL.out, k2, h0], ?_⟩
      exact B.out.trans (BB.out.mono B.out.size)
    by_cases k3 : e.k = 3
    · go_upto_region 9 with fail
      have BB : Aside (Below u1.heap.size u1 u1.drew.drew) := BB.out.drew
      refine wp_region_held_drew (S := (fun V : World => V.cell? ⟨X, 2, none⟩ = some (.int .i64 e.i) ∧ V.cell? ⟨X, 3, none⟩ = some (.int .u64 e.y) ∧ V.cell? ⟨R, 1, none⟩ = some (.map (some M)) ∧ (Instr.lookup 50 (.map (some M)) (.agg #[.int .u64 e.y, .int .u64 Z]) true).run Tryd.prog V = .ok (.tuple #[.agg #[.int .u64 q1, .int .i64 q2], .bool b]) V)) (by kernel_rfl) (st9 (E1.out.below BB.out) (I1.out.below BB.out) QQ.out) (fun hHeld => ?_)
      refine wpAnyH_take (i := 0) (oi := { dst := some 33, op := Op.move (Operand.tmp 0), type := 37, pos := "hist.go:89", after := #[], guard := none }) (v := ?_) rfl (by kernel_rfl) (by kernel_rfl) (by kernel_rfl) (fun _ _ _ h => h) (Or.inl ⟨by rfl, ?_⟩) (by assumption) ?_
      rotate_left
      · (intro w hSw; (try dsimp only at hSw); go_simp; try with_reducible rfl)
      simp only [Act.put, List.setIfInBounds_toArray, List.set_cons_zero, List.set_cons_succ]
      refine wpAnyH_take (i := 1) (oi := { dst := some 34, op := Op.nilCheck (Operand.tmp 33), type := 0, pos := "hist.go:89", after := #[{ on := 0, ground := Ground.data }], guard := none }) (v := ?_) rfl (by kernel_rfl) (by kernel_rfl) (by kernel_rfl) (fun _ _ _ h => h) (Or.inl ⟨by rfl, ?_⟩) (by assumption) ?_
      rotate_left
      · (intro w hSw; (try dsimp only at hSw); go_simp; try with_reducible rfl)
      simp only [Act.put, List.setIfInBounds_toArray, List.set_cons_zero, List.set_cons_succ]
      refine wpAnyH_take (i := 2) (oi := { dst := some 35, op := Op.fieldAddr 55 (Operand.tmp 34) 1, type := 0, pos := "hist.go:89", after := #[{ on := 1, ground := Ground.data }], guard := none }) (v := ?_) rfl (by kernel_rfl) (by kernel_rfl) (by kernel_rfl) (fun _ _ _ h => h) (Or.inl ⟨by rfl, ?_⟩) (by assumption) ?_
      rotate_left
      · (intro w hSw; (try dsimp only at hSw); go_simp; try with_reducible rfl)
      simp only [Act.put, List.setIfInBounds_toArray, List.set_cons_zero, List.set_cons_succ]
      refine wpAnyH_take (i := 3) (oi := { dst := some 36, op := Op.load 50 (Operand.tmp 35), type := 50, pos := "hist.go:89", after := #[{ on := 2, ground := Ground.data }], guard := none }) (v := ?_) rfl (by kernel_rfl) (by kernel_rfl) (by kernel_rfl) (fun _ _ _ h => h) (Or.inl ⟨by rfl, ?_⟩) (by assumption) ?_
      rotate_left
      · (intro w hSw; (try dsimp only at hSw); go_simp; try with_reducible rfl)
      simp only [Act.put, List.setIfInBounds_toArray, List.set_cons_zero, List.set_cons_succ]
      refine wpAnyH_take (i := 4) (oi := { dst := some 37, op := Op.fieldAddr 27 (Operand.tmp 3) 3, type := 0, pos := "hist.go:89", after := #[], guard := none }) (v := ?_) rfl (by kernel_rfl) (by kernel_rfl) (by kernel_rfl) (fun _ _ _ h => h) (Or.inl ⟨by rfl, ?_⟩) (by assumption) ?_
      rotate_left
      · (intro w hSw; (try dsimp only at hSw); go_simp; try with_reducible rfl)
      simp only [Act.put, List.setIfInBounds_toArray, List.set_cons_zero, List.set_cons_succ]
      refine wpAnyH_take (i := 5) (oi := { dst := some 38, op := Op.load 25 (Operand.tmp 37), type := 25, pos := "hist.go:89", after := #[{ on := 4, ground := Ground.data }], guard := none }) (v := ?_) rfl (by kernel_rfl) (by kernel_rfl) (by kernel_rfl) (fun _ _ _ h => h) (Or.inl ⟨by rfl, ?_⟩) (by assumption) ?_
      rotate_left
      · (intro w hSw; (try dsimp only at hSw); go_simp; try with_reducible rfl)
      simp only [Act.put, List.setIfInBounds_toArray, List.set_cons_zero, List.set_cons_succ]
      refine wpAnyH_take (i := 6) (oi := { dst := some 39, op := Op.fieldAddr 27 (Operand.tmp 3) 2, type := 0, pos := "hist.go:89", after := #[], guard := none }) (v := ?_) rfl (by kernel_rfl) (by kernel_rfl) (by kernel_rfl) (fun _ _ _ h => h) (Or.inl ⟨by rfl, ?_⟩) (by assumption) ?_
      rotate_left
      · (intro w hSw; (try dsimp only at hSw); go_simp; try with_reducible rfl)
      simp only [Act.put, List.setIfInBounds_toArray, List.set_cons_zero, List.set_cons_succ]
      refine wpAnyH_take (i := 7) (oi := { dst := some 40, op := Op.load 3 (Operand.tmp 39), type := 3, pos := "hist.go:89", after := #[{ on := 6, ground := Ground.data }], guard := none }) (v := ?_) rfl (by kernel_rfl) (by kernel_rfl) (by kernel_rfl) (fun _ _ _ h => h) (Or.inl ⟨by rfl, ?_⟩) (by assumption) ?_
      rotate_left
      · (intro w hSw; (try dsimp only at hSw); go_simp; try with_reducible rfl)
      simp only [Act.put, List.setIfInBounds_toArray, List.set_cons_zero, List.set_cons_succ]
      refine wpAnyH_ready (rs := [8, 13]) (by kernel_rfl) (by simp) ?_
      refine AllReadyH.cons (o := { dst := some 41, op := Op.call { callee := Callee.value (Operand.func 32), args := #[Operand.tmp 38, Operand.tmp 40], argTypes := #[25, 3] }, type := 52, pos := "hist.go:89", after := #[{ on := 5, ground := Ground.data }, { on := 7, ground := Ground.data }], guard := none }) rfl (fun Kt hKt => ?_) (AllReadyH.cons (o := { dst := some 7, op := Op.alloc 42, type := 0, pos := "hist.go:89", after := #[], guard := none }) rfl (fun Kt hKt => ?_) AllReadyH.nil)
      · go_simp
        (with_reducible refine Calls.mono (placeOf_any e.y e.i _) ?_)
        rintro r v1 ⟨rfl, bb⟩
        unfold prV; dsimp only; rw [HZ.out]
        have BB : Aside (Below u1.heap.size u1 v1) := BB.out.trans (bb.mono (BB.out.size))
        clear bb
        go_wp2_with fail
        refine hKt.out _ _ (st9 (E1.out.below BB.out) (I1.out.below BB.out) QQ.out) (fun hHeld => ?_)
        clear hKt Kt
        try simp only [Act.put, List.setIfInBounds_toArray, List.set_cons_zero, List.set_cons_succ]
        refine wpAnyH_take (i := 9) (oi := { dst := some 42, op := Op.lookup 50 (Operand.tmp 36) (Operand.tmp 41) true, type := 72, pos := "hist.go:89", after := #[{ on := 3, ground := Ground.data }, { on := 8, ground := Ground.data }], guard := none }) (v := ?_) rfl (by kernel_rfl) (by kernel_rfl) (by kernel_rfl) (fun _ _ _ h => h) (Or.inl ⟨by rfl, ?_⟩) (by assumption) ?_
        rotate_left
        · (intro w hSw; (try dsimp only at hSw); go_simp; try with_reducible rfl)
        simp only [Act.put, List.setIfInBounds_toArray, List.set_cons_zero, List.set_cons_succ]
        refine wpAnyH_take (i := 10) (oi := { dst := some 32, op := Op.move (Operand.tmp 42), type := 72, pos := "hist.go:89", after := #[{ on := 9, ground := Ground.data }], guard := none }) (v := ?_) rfl (by kernel_rfl) (by kernel_rfl) (by kernel_rfl) (fun _ _ _ h => h) (Or.inl ⟨by rfl, ?_⟩) (by assumption) ?_
        rotate_left
        · (intro w hSw; (try dsimp only at hSw); go_simp; try with_reducible rfl)
        simp only [Act.put, List.setIfInBounds_toArray, List.set_cons_zero, List.set_cons_succ]
        refine wpAnyH_take (i := 11) (oi := { dst := some 43, op := Op.extract (Operand.tmp 32) 0, type := 42, pos := "hist.go:89", after := #[{ on := 10, ground := Ground.data }], guard := none }) (v := ?_) rfl (by kernel_rfl) (by kernel_rfl) (by kernel_rfl) (fun _ _ _ h => h) (Or.inl ⟨by rfl, ?_⟩) (by assumption) ?_
        rotate_left
        · (intro w hSw; (try dsimp only at hSw); go_simp; try with_reducible rfl)
        simp only [Act.put, List.setIfInBounds_toArray, List.set_cons_zero, List.set_cons_succ]
        refine wpAnyH_take (i := 12) (oi := { dst := some 44, op := Op.extract (Operand.tmp 32) 1, type := 4, pos := "hist.go:89", after := #[{ on := 10, ground := Ground.data }, { on := 14, ground := Ground.gcOnly Departure.lateStores }], guard := none }) (v := ?_) rfl (by kernel_rfl) (by kernel_rfl) (by kernel_rfl) (fun _ _ _ h => h) (Or.inl ⟨by rfl, ?_⟩) (by assumption) ?_
        rotate_left
        · (intro w hSw; (try dsimp only at hSw); go_simp; try with_reducible rfl)
        simp only [Act.put, List.setIfInBounds_toArray, List.set_cons_zero, List.set_cons_succ]
        refine wpAnyH_ready (rs := [13]) (by kernel_rfl) (by simp) ?_
        refine AllReadyH.cons (o := { dst := some 7, op := Op.alloc 42, type := 0, pos := "hist.go:89", after := #[], guard := none }) rfl (fun Kt hKt => ?_) AllReadyH.nil
        go_simp
        obtain ⟨T, hT⟩ : ∃ M, v1.heap.size = M := ⟨_, rfl⟩
        have HT : Aside _ := hT
        obtain ⟨v2, hv2⟩ : ∃ q, (v1.alloc (.cells #[.int .u64 0, .int .i64 0] 42)) = q := ⟨_, rfl⟩
        have b2 : Below v1.heap.size v1 v2 := by rw [← hv2]; exact (bel1 _ _)
        have tb : v2.heap[T]? = some (.cells #[.int .u64 0, .int .i64 0] 42 (0, 0)) := by rw [← hv2, ← hT]; exact heap_alloc_new _ _
        have t0 : v2.cell? ⟨T, 0, none⟩ = some (.int .u64 0) := by rw [cell_of_row _ _ _ _ _ _ tb]; rfl
        have t1 : v2.cell? ⟨T, 1, none⟩ = some (.int .i64 0) := by rw [cell_of_row _ _ _ _ _ _ tb]; rfl
        have tfz : ∀ o, v2.frozen? ⟨T, o, none⟩ = false := (fun o => by simp [World.frozen?, tb])
        have HTL : Aside (u1.heap.size ≤ T) := by show _ ≤ _; rw [← hT]; exact BB.out.size
        have BB : Aside (Below u1.heap.size u1 v2) := BB.out.trans (b2.mono (BB.out.size))
        have HV2 : Aside _ := hv2
        clear hT hv2 b2
        go_wp2_with fail
        rw [HT.out]
        rw [HV2.out]
        refine hKt.out _ _ (st9 (E1.out.below BB.out) (I1.out.below BB.out) QQ.out) (fun hHeld => ?_)
        clear hKt Kt
        try simp only [Act.put, List.setIfInBounds_toArray, List.set_cons_zero, List.set_cons_succ]
        refine wpAnyH_ready (rs := [14]) (by kernel_rfl) (by simp) ?_
        refine AllReadyH.cons (o := { dst := none, op := Op.store 42 (Operand.tmp 7) (Operand.tmp 43), type := 0, pos := "hist.go:89", after := #[{ on := 13, ground := Ground.data }, { on := 11, ground := Ground.data }, { on := 8, ground := Ground.chain }, { on := 0, ground := Ground.phase }, { on := 1, ground := Ground.phase }, { on := 2, ground := Ground.phase }, { on := 3, ground := Ground.phase }, { on := 4, ground := Ground.phase }, { on := 5, ground := Ground.phase }, { on := 6, ground := Ground.phase }, { on := 7, ground := Ground.phase }, { on := 8, ground := Ground.phase }, { on := 9, ground := Ground.phase }, { on := 10, ground := Ground.phase }, { on := 11, ground := Ground.phase }, { on := 12, ground := Ground.textOnly Departure.lateStores }, { on := 13, ground := Ground.phase }], guard := none }) rfl (fun Kt hKt => ?_) AllReadyH.nil
        go_simp
        have BB : Aside (Below u1.heap.size u1 ((v2.setCell ⟨T, 0, none⟩ (.int .u64 q1)).setCell ⟨T, 1, none⟩ (.int .i64 q2))) := (BB.out.setCell HTL.out _).setCell HTL.out _
        go_wp2_with fail
        refine hKt.out _ _ (st9 (E1.out.below BB.out) (I1.out.below BB.out) QQ.out) (fun hHeld => ?_)
        clear hKt Kt
        try simp only [Act.put, List.setIfInBounds_toArray, List.set_cons_zero, List.set_cons_succ]
        refine wpAnyH_take (i := 15) (oi := { dst := some 8, op := Op.assign (Operand.tmp 44), type := 4, pos := "hist.go:89", after := #[{ on := 12, ground := Ground.data }, { on := 14, ground := Ground.chain }, { on := 0, ground := Ground.phase }, { on := 1, ground := Ground.phase }, { on := 2, ground := Ground.phase }, { on := 3, ground := Ground.phase }, { on := 4, ground := Ground.phase }, { on := 5, ground := Ground.phase }, { on := 6, ground := Ground.phase }, { on := 7, ground := Ground.phase }, { on := 8, ground := Ground.phase }, { on := 9, ground := Ground.phase }, { on := 10, ground := Ground.phase }, { on := 11, ground := Ground.phase }, { on := 12, ground := Ground.phase }, { on := 13, ground := Ground.phase }, { on := 14, ground := Ground.phase }], guard := none }) (v := ?_) rfl (by kernel_rfl) (by kernel_rfl) (by kernel_rfl) (fun _ _ _ h => h) (Or.inl ⟨by rfl, ?_⟩) (by assumption) ?_
        rotate_left
        · (intro w hSw; (try dsimp only at hSw); go_simp; try with_reducible rfl)
        simp only [Act.put, List.setIfInBounds_toArray, List.set_cons_zero, List.set_cons_succ]
        refine wpAnyH_done (by kernel_rfl) ?_ _
        go_wp2_with fail
        go_ret
        refine ⟨by rw [← HV.out]; rcases QQ.out with ⟨_, _, q3, q4, _⟩ | ⟨_, _, q3, q4⟩ <;> simp [RwR.mturn, k3, q3, q4], ?_⟩
        exact B.out.trans (BB.out.mono B.out.size)
      · go_simp
        obtain ⟨T, hT⟩ : ∃ M, u1.heap.size = M := ⟨_, rfl⟩
        have HT : Aside _ := hT
        obtain ⟨v2, hv2⟩ : ∃ q, (u1.alloc (.cells #[.int .u64 0, .int .i64 0] 42)).drew.drew = q := ⟨_, rfl⟩
        have b2 : Below u1.heap.size u1 v2 := by rw [← hv2]; exact (bel1 _ _).drew.drew
        have tb : v2.heap[T]? = some (.cells #[.int .u64 0, .int .i64 0] 42 (0, 0)) := by rw [← hv2, ← hT]; exact heap_alloc_new _ _
        have t0 : v2.cell? ⟨T, 0, none⟩ = some (.int .u64 0) := by rw [cell_of_row _ _ _ _ _ _ tb]; rfl
        have t1 : v2.cell? ⟨T, 1, none⟩ = some (.int .i64 0) := by rw [cell_of_row _ _ _ _ _ _ tb]; rfl
        have tfz : ∀ o, v2.frozen? ⟨T, o, none⟩ = false := (fun o => by simp [World.frozen?, tb])
        have HTL : Aside (u1.heap.size ≤ T) := by show _ ≤ _; rw [← hT]; exact Nat.le_refl _
        have BB : Aside (Below u1.heap.size u1 v2) := b2
        have HV2 : Aside _ := hv2
        clear hT hv2 b2
        go_wp2_with fail
        rw [HT.out]
        rw [HV2.out]
        refine hKt.out _ _ (st9 (E1.out.below BB.out) (I1.out.below BB.out) QQ.out) (fun hHeld => ?_)
        clear hKt Kt
        try simp only [Act.put, List.setIfInBounds_toArray, List.set_cons_zero, List.set_cons_succ]
        refine wpAnyH_ready (rs := [8]) (by kernel_rfl) (by simp) ?_
        refine AllReadyH.cons (o := { dst := some 41, op := Op.call { callee := Callee.value (Operand.func 32), args := #[Operand.tmp 38, Operand.tmp 40], argTypes := #[25, 3] }, type := 52, pos := "hist.go:89", after := #[{ on := 5, ground := Ground.data }, { on := 7, ground := Ground.data }], guard := none }) rfl (fun Kt hKt => ?_) AllReadyH.nil
        go_simp
        (with_reducible refine Calls.mono (placeOf_any e.y e.i _) ?_)
        rintro r v1 ⟨rfl, bb⟩
        unfold prV; dsimp only; rw [HZ.out]
        have BB : Aside (Below u1.heap.size u1 v1) := BB.out.trans (bb.mono (BB.out.size))
        have tb := (bb.block _ (lt_of_block tb)).trans tb
        have t0 := (bb.cell (p := ⟨T, 0, none⟩) (World.block_lt_of_cell? _ _ t0)).trans t0
        have t1 := (bb.cell (p := ⟨T, 1, none⟩) (World.block_lt_of_cell? _ _ t1)).trans t1
        have tfz : ∀ o, v1.frozen? ⟨T, o, none⟩ = false := (fun o => by simp [World.frozen?, tb])
        clear bb
        go_wp2_with fail
        refine hKt.out _ _ (st9 (E1.out.below BB.out) (I1.out.below BB.out) QQ.out) (fun hHeld => ?_)
        clear hKt Kt
        try simp only [Act.put, List.setIfInBounds_toArray, List.set_cons_zero, List.set_cons_succ]
        refine wpAnyH_take (i := 9) (oi := { dst := some 42, op := Op.lookup 50 (Operand.tmp 36) (Operand.tmp 41) true, type := 72, pos := "hist.go:89", after := #[{ on := 3, ground := Ground.data }, { on := 8, ground := Ground.data }], guard := none }) (v := ?_) rfl (by kernel_rfl) (by kernel_rfl) (by kernel_rfl) (fun _ _ _ h => h) (Or.inl ⟨by rfl, ?_⟩) (by assumption) ?_
        rotate_left
        · (intro w hSw; (try dsimp only at hSw); go_simp; try with_reducible rfl)
        simp only [Act.put, List.setIfInBounds_toArray, List.set_cons_zero, List.set_cons_succ]
        refine wpAnyH_take (i := 10) (oi := { dst := some 32, op := Op.move (Operand.tmp 42), type := 72, pos := "hist.go:89", after := #[{ on := 9, ground := Ground.data }], guard := none }) (v := ?_) rfl (by kernel_rfl) (by kernel_rfl) (by kernel_rfl) (fun _ _ _ h => h) (Or.inl ⟨by rfl, ?_⟩) (by assumption) ?_
        rotate_left
        · (intro w hSw; (try dsimp only at hSw); go_simp; try with_reducible rfl)
        simp only [Act.put, List.setIfInBounds_toArray, List.set_cons_zero, List.set_cons_succ]
        refine wpAnyH_take (i := 11) (oi := { dst := some 43, op := Op.extract (Operand.tmp 32) 0, type := 42, pos := "hist.go:89", after := #[{ on := 10, ground := Ground.data }], guard := none }) (v := ?_) rfl (by kernel_rfl) (by kernel_rfl) (by kernel_rfl) (fun _ _ _ h => h) (Or.inl ⟨by rfl, ?_⟩) (by assumption) ?_
        rotate_left
        · (intro w hSw; (try dsimp only at hSw); go_simp; try with_reducible rfl)
        simp only [Act.put, List.setIfInBounds_toArray, List.set_cons_zero, List.set_cons_succ]
        refine wpAnyH_take (i := 12) (oi := { dst := some 44, op := Op.extract (Operand.tmp 32) 1, type := 4, pos := "hist.go:89", after := #[{ on := 10, ground := Ground.data }, { on := 14, ground := Ground.gcOnly Departure.lateStores }], guard := none }) (v := ?_) rfl (by kernel_rfl) (by kernel_rfl) (by kernel_rfl) (fun _ _ _ h => h) (Or.inl ⟨by rfl, ?_⟩) (by assumption) ?_
        rotate_left
        · (intro w hSw; (try dsimp only at hSw); go_simp; try with_reducible rfl)
        simp only [Act.put, List.setIfInBounds_toArray, List.set_cons_zero, List.set_cons_succ]
        refine wpAnyH_ready (rs := [14]) (by kernel_rfl) (by simp) ?_
        refine AllReadyH.cons (o := { dst := none, op := Op.store 42 (Operand.tmp 7) (Operand.tmp 43), type := 0, pos := "hist.go:89", after := #[{ on := 13, ground := Ground.data }, { on := 11, ground := Ground.data }, { on := 8, ground := Ground.chain }, { on := 0, ground := Ground.phase }, { on := 1, ground := Ground.phase }, { on := 2, ground := Ground.phase }, { on := 3, ground := Ground.phase }, { on := 4, ground := Ground.phase }, { on := 5, ground := Ground.phase }, { on := 6, ground := Ground.phase }, { on := 7, ground := Ground.phase }, { on := 8, ground := Ground.phase }, { on := 9, ground := Ground.phase }, { on := 10, ground := Ground.phase }, { on := 11, ground := Ground.phase }, { on := 12, ground := Ground.textOnly Departure.lateStores }, { on := 13, ground := Ground.phase }], guard := none }) rfl (fun Kt hKt => ?_) AllReadyH.nil
        go_simp
        have BB : Aside (Below u1.heap.size u1 ((v1.setCell ⟨T, 0, none⟩ (.int .u64 q1)).setCell ⟨T, 1, none⟩ (.int .i64 q2))) := (BB.out.setCell HTL.out _).setCell HTL.out _
        go_wp2_with fail
        refine hKt.out _ _ (st9 (E1.out.below BB.out) (I1.out.below BB.out) QQ.out) (fun hHeld => ?_)
        clear hKt Kt
        try simp only [Act.put, List.setIfInBounds_toArray, List.set_cons_zero, List.set_cons_succ]
        refine wpAnyH_take (i := 15) (oi := { dst := some 8, op := Op.assign (Operand.tmp 44), type := 4, pos := "hist.go:89", after := #[{ on := 12, ground := Ground.data }, { on := 14, ground := Ground.chain }, { on := 0, ground := Ground.phase }, { on := 1, ground := Ground.phase }, { on := 2, ground := Ground.phase }, { on := 3, ground := Ground.phase }, { on := 4, ground := Ground.phase }, { on := 5, ground := Ground.phase }, { on := 6, ground := Ground.phase }, { on := 7, ground := Ground.phase }, { on := 8, ground := Ground.phase }, { on := 9, ground := Ground.phase }, { on := 10, ground := Ground.phase }, { on := 11, ground := Ground.phase }, { on := 12, ground := Ground.phase }, { on := 13, ground := Ground.phase }, { on := 14, ground := Ground.phase }], guard := none }) (v := ?_) rfl (by kernel_rfl) (by kernel_rfl) (by kernel_rfl) (fun _ _ _ h => h) (Or.inl ⟨by rfl, ?_⟩) (by assumption) ?_
        rotate_left
        · (intro w hSw; (try dsimp only at hSw); go_simp; try with_reducible rfl)
        simp only [Act.put, List.setIfInBounds_toArray, List.set_cons_zero, List.set_cons_succ]
        refine wpAnyH_done (by kernel_rfl) ?_ _
        go_wp2_with fail
        go_ret
        refine ⟨by rw [← HV.out]; rcases QQ.out with ⟨_, _, q3, q4, _⟩ | ⟨_, _, q3, q4⟩ <;> simp [RwR.mturn, k3, q3, q4], ?_⟩
        exact B.out.trans (BB.out.mono B.out.size)
    by_cases k4 : e.k = 4
    · go_wp2_with fail
      go_ret
      refine ⟨by rw [← HV.out]; simp [RwR.mturn, HL.out, k4, h0], ?_⟩
      exact B.out.trans (BB.out.mono B.out.size)
    by_cases k5 : e.k = 5
    · go_wp2_with fail
      go_ret
      refine ⟨by rw [← HV.out]; simp [RwR.mturn, HL.out, k5, h0], ?_⟩
      exact B.out.trans (BB.out.mono B.out.size)
    by_cases k6 : e.k = 6
    · go_wp2_with fail
      go_ret
      refine ⟨by rw [← HV.out]; simp [RwR.mturn, HL.out, k6, h0], ?_⟩
      exact B.out.trans (BB.out.mono B.out.size)
    by_cases k7 : e.k = 7
    · go_wp2_with fail
      go_ret
      refine ⟨by rw [← HV.out]; simp [RwR.mturn, RwR.waits, HL.out, k7, h0], ?_⟩
      exact B.out.trans (BB.out.mono B.out.size)
    go_wp2_with fail
    go_ret
    refine ⟨by rw [← HV.out]; simp [RwR.mturn, k2, k3, k4, k5, k6, k7, k10], ?_⟩
    exact B.out.trans (BB.out.mono B.out.size)
  by_cases h6 : l.k = 6
  · go_upto_region 3 with fail
    by_cases k10 : e.k = 10
    · go_wp2_with fail
      go_ret
      refine ⟨by rw [← HV.out]; simp [RwR.mturn, k10], ?_⟩
      exact B.out.trans (BB.out.mono B.out.size)
    by_cases k2 : e.k = 2
    · go_wp2_with fail
      go_ret
      refine ⟨by rw [← HV.out]; simp [RwR.mturn, RwR.waits, HL.out, k2, h6], ?_⟩
      exact B.out.trans (BB.out.mono B.out.size)
    by_cases k3 : e.k = 3
    · go_upto_region 9 with fail
      have BB : Aside (Below u1.heap.size u1 u1.drew.drew) := BB.out.drew
      refine wp_region_held_drew (S := (fun V : World => V.cell? ⟨X, 2, none⟩ = some (.int .i64 e.i) ∧ V.cell? ⟨X, 3, none⟩ = some (.int .u64 e.y) ∧ V.cell? ⟨R, 1, none⟩ = some (.map (some M)) ∧ (Instr.lookup 50 (.map (some M)) (.agg #[.int .u64 e.y, .int .u64 Z]) true).run Tryd.prog V = .ok (.tuple #[.agg #[.int .u64 q1, .int .i64 q2], .bool b]) V)) (by kernel_rfl) (st9 (E1.out.below BB.out) (I1.out.below BB.out) QQ.out) (fun hHeld => ?_)
      refine wpAnyH_take (i := 0) (oi := { dst := some 33, op := Op.move (Operand.tmp 0), type := 37, pos := "hist.go:89", after := #[], guard := none }) (v := ?_) rfl (by kernel_rfl) (by kernel_rfl) (by kernel_rfl) (fun _ _ _ h => h) (Or.inl ⟨by rfl, ?_⟩) (by assumption) ?_
      rotate_left
      · (intro w hSw; (try dsimp only at hSw); go_simp; try with_reducible rfl)
      simp only [Act.put, List.setIfInBounds_toArray, List.set_cons_zero, List.set_cons_succ]
      refine wpAnyH_take (i := 1) (oi := { dst := some 34, op := Op.nilCheck (Operand.tmp 33), type := 0, pos := "hist.go:89", after := #[{ on := 0, ground := Ground.data }], guard := none }) (v := ?_) rfl (by kernel_rfl) (by kernel_rfl) (by kernel_rfl) (fun _ _ _ h => h) (Or.inl ⟨by rfl, ?_⟩) (by assumption) ?_
      rotate_left
      · (intro w hSw; (try dsimp only at hSw); go_simp; try with_reducible rfl)
      simp only [Act.put, List.setIfInBounds_toArray, List.set_cons_zero, List.set_cons_succ]
      refine wpAnyH_take (i := 2) (oi := { dst := some 35, op := Op.fieldAddr 55 (Operand.tmp 34) 1, type := 0, pos := "hist.go:89", after := #[{ on := 1, ground := Ground.data }], guard := none }) (v := ?_) rfl (by kernel_rfl) (by kernel_rfl) (by kernel_rfl) (fun _ _ _ h => h) (Or.inl ⟨by rfl, ?_⟩) (by assumption) ?_
      rotate_left
      · (intro w hSw; (try dsimp only at hSw); go_simp; try with_reducible rfl)
      simp only [Act.put, List.setIfInBounds_toArray, List.set_cons_zero, List.set_cons_succ]
      refine wpAnyH_take (i := 3) (oi := { dst := some 36, op := Op.load 50 (Operand.tmp 35), type := 50, pos := "hist.go:89", after := #[{ on := 2, ground := Ground.data }], guard := none }) (v := ?_) rfl (by kernel_rfl) (by kernel_rfl) (by kernel_rfl) (fun _ _ _ h => h) (Or.inl ⟨by rfl, ?_⟩) (by assumption) ?_
      rotate_left
      · (intro w hSw; (try dsimp only at hSw); go_simp; try with_reducible rfl)
      simp only [Act.put, List.setIfInBounds_toArray, List.set_cons_zero, List.set_cons_succ]
      refine wpAnyH_take (i := 4) (oi := { dst := some 37, op := Op.fieldAddr 27 (Operand.tmp 3) 3, type := 0, pos := "hist.go:89", after := #[], guard := none }) (v := ?_) rfl (by kernel_rfl) (by kernel_rfl) (by kernel_rfl) (fun _ _ _ h => h) (Or.inl ⟨by rfl, ?_⟩) (by assumption) ?_
      rotate_left
      · (intro w hSw; (try dsimp only at hSw); go_simp; try with_reducible rfl)
      simp only [Act.put, List.setIfInBounds_toArray, List.set_cons_zero, List.set_cons_succ]
      refine wpAnyH_take (i := 5) (oi := { dst := some 38, op := Op.load 25 (Operand.tmp 37), type := 25, pos := "hist.go:89", after := #[{ on := 4, ground := Ground.data }], guard := none }) (v := ?_) rfl (by kernel_rfl) (by kernel_rfl) (by kernel_rfl) (fun _ _ _ h => h) (Or.inl ⟨by rfl, ?_⟩) (by assumption) ?_
      rotate_left
      · (intro w hSw; (try dsimp only at hSw); go_simp; try with_reducible rfl)
      simp only [Act.put, List.setIfInBounds_toArray, List.set_cons_zero, List.set_cons_succ]
      refine wpAnyH_take (i := 6) (oi := { dst := some 39, op := Op.fieldAddr 27 (Operand.tmp 3) 2, type := 0, pos := "hist.go:89", after := #[], guard := none }) (v := ?_) rfl (by kernel_rfl) (by kernel_rfl) (by kernel_rfl) (fun _ _ _ h => h) (Or.inl ⟨by rfl, ?_⟩) (by assumption) ?_
      rotate_left
      · (intro w hSw; (try dsimp only at hSw); go_simp; try with_reducible rfl)
      simp only [Act.put, List.setIfInBounds_toArray, List.set_cons_zero, List.set_cons_succ]
      refine wpAnyH_take (i := 7) (oi := { dst := some 40, op := Op.load 3 (Operand.tmp 39), type := 3, pos := "hist.go:89", after := #[{ on := 6, ground := Ground.data }], guard := none }) (v := ?_) rfl (by kernel_rfl) (by kernel_rfl) (by kernel_rfl) (fun _ _ _ h => h) (Or.inl ⟨by rfl, ?_⟩) (by assumption) ?_
      rotate_left
      · (intro w hSw; (try dsimp only at hSw); go_simp; try with_reducible rfl)
      simp only [Act.put, List.setIfInBounds_toArray, List.set_cons_zero, List.set_cons_succ]
      refine wpAnyH_ready (rs := [8, 13]) (by kernel_rfl) (by simp) ?_
      refine AllReadyH.cons (o := { dst := some 41, op := Op.call { callee := Callee.value (Operand.func 32), args := #[Operand.tmp 38, Operand.tmp 40], argTypes := #[25, 3] }, type := 52, pos := "hist.go:89", after := #[{ on := 5, ground := Ground.data }, { on := 7, ground := Ground.data }], guard := none }) rfl (fun Kt hKt => ?_) (AllReadyH.cons (o := { dst := some 7, op := Op.alloc 42, type := 0, pos := "hist.go:89", after := #[], guard := none }) rfl (fun Kt hKt => ?_) AllReadyH.nil)
      · go_simp
        (with_reducible refine Calls.mono (placeOf_any e.y e.i _) ?_)
        rintro r v1 ⟨rfl, bb⟩
        unfold prV; dsimp only; rw [HZ.out]
        have BB : Aside (Below u1.heap.size u1 v1) := BB.out.trans (bb.mono (BB.out.size))
        clear bb
        go_wp2_with fail
        refine hKt.out _ _ (st9 (E1.out.below BB.out) (I1.out.below BB.out) QQ.out) (fun hHeld => ?_)
        clear hKt Kt
        try simp only [Act.put, List.setIfInBounds_toArray, List.set_cons_zero, List.set_cons_succ]
        refine wpAnyH_take (i := 9) (oi := { dst := some 42, op := Op.lookup 50 (Operand.tmp 36) (Operand.tmp 41) true, type := 72, pos := "hist.go:89", after := #[{ on := 3, ground := Ground.data }, { on := 8, ground := Ground.data }], guard := none }) (v := ?_) rfl (by kernel_rfl) (by kernel_rfl) (by kernel_rfl) (fun _ _ _ h => h) (Or.inl ⟨by rfl, ?_⟩) (by assumption) ?_
        rotate_left
        · (intro w hSw; (try dsimp only at hSw); go_simp; try with_reducible rfl)
        simp only [Act.put, List.setIfInBounds_toArray, List.set_cons_zero, List.set_cons_succ]
        refine wpAnyH_take (i := 10) (oi := { dst := some 32, op := Op.move (Operand.tmp 42), type := 72, pos := "hist.go:89", after := #[{ on := 9, ground := Ground.data }], guard := none }) (v := ?_) rfl (by kernel_rfl) (by kernel_rfl) (by kernel_rfl) (fun _ _ _ h => h) (Or.inl ⟨by rfl, ?_⟩) (by assumption) ?_
        rotate_left
        · (intro w hSw; (try dsimp only at hSw); go_simp; try with_reducible rfl)
        simp only [Act.put, List.setIfInBounds_toArray, List.set_cons_zero, List.set_cons_succ]
        refine wpAnyH_take (i := 11) (oi := { dst := some 43, op := Op.extract (Operand.tmp 32) 0, type := 42, pos := "hist.go:89", after := #[{ on := 10, ground := Ground.data }], guard := none }) (v := ?_) rfl (by kernel_rfl) (by kernel_rfl) (by kernel_rfl) (fun _ _ _ h => h) (Or.inl ⟨by rfl, ?_⟩) (by assumption) ?_
        rotate_left
        · (intro w hSw; (try dsimp only at hSw); go_simp; try with_reducible rfl)
        simp only [Act.put, List.setIfInBounds_toArray, List.set_cons_zero, List.set_cons_succ]
        refine wpAnyH_take (i := 12) (oi := { dst := some 44, op := Op.extract (Operand.tmp 32) 1, type := 4, pos := "hist.go:89", after := #[{ on := 10, ground := Ground.data }, { on := 14, ground := Ground.gcOnly Departure.lateStores }], guard := none }) (v := ?_) rfl (by kernel_rfl) (by kernel_rfl) (by kernel_rfl) (fun _ _ _ h => h) (Or.inl ⟨by rfl, ?_⟩) (by assumption) ?_
        rotate_left
        · (intro w hSw; (try dsimp only at hSw); go_simp; try with_reducible rfl)
        simp only [Act.put, List.setIfInBounds_toArray, List.set_cons_zero, List.set_cons_succ]
        refine wpAnyH_ready (rs := [13]) (by kernel_rfl) (by simp) ?_
        refine AllReadyH.cons (o := { dst := some 7, op := Op.alloc 42, type := 0, pos := "hist.go:89", after := #[], guard := none }) rfl (fun Kt hKt => ?_) AllReadyH.nil
        go_simp
        obtain ⟨T, hT⟩ : ∃ M, v1.heap.size = M := ⟨_, rfl⟩
        have HT : Aside _ := hT
        obtain ⟨v2, hv2⟩ : ∃ q, (v1.alloc (.cells #[.int .u64 0, .int .i64 0] 42)) = q := ⟨_, rfl⟩
        have b2 : Below v1.heap.size v1 v2 := by rw [← hv2]; exact (bel1 _ _)
        have tb : v2.heap[T]? = some (.cells #[.int .u64 0, .int .i64 0] 42 (0, 0)) := by rw [← hv2, ← hT]; exact heap_alloc_new _ _
        have t0 : v2.cell? ⟨T, 0, none⟩ = some (.int .u64 0) := by rw [cell_of_row _ _ _ _ _ _ tb]; rfl
        have t1 : v2.cell? ⟨T, 1, none⟩ = some (.int .i64 0) := by rw [cell_of_row _ _ _ _ _ _ tb]; rfl
        have tfz : ∀ o, v2.frozen? ⟨T, o, none⟩ = false := (fun o => by simp [World.frozen?, tb])
        have HTL : Aside (u1.heap.size ≤ T) := by show _ ≤ _; rw [← hT]; exact BB.out.size
        have BB : Aside (Below u1.heap.size u1 v2) := BB.out.trans (b2.mono (BB.out.size))
        have HV2 : Aside _ := hv2
        clear hT hv2 b2
        go_wp2_with fail
        rw [HT.out]
        rw [HV2.out]
        refine hKt.out _ _ (st9 (E1.out.below BB.out) (I1.out.below BB.out) QQ.out) (fun hHeld => ?_)
        clear hKt Kt
        try simp only [Act.put, List.setIfInBounds_toArray, List.set_cons_zero, List.set_cons_succ]
        refine wpAnyH_ready (rs := [14]) (by kernel_rfl) (by simp) ?_
        refine AllReadyH.cons (o := { dst := none, op := Op.store 42 (Operand.tmp 7) (Operand.tmp 43), type := 0, pos := "hist.go:89", after := #[{ on := 13, ground := Ground.data }, { on := 11, ground := Ground.data }, { on := 8, ground := Ground.chain }, { on := 0, ground := Ground.phase }, { on := 1, ground := Ground.phase }, { on := 2, ground := Ground.phase }, { on := 3, ground := Ground.phase }, { on := 4, ground := Ground.phase }, { on := 5, ground := Ground.phase }, { on := 6, ground := Ground.phase }, { on := 7, ground := Ground.phase }, { on := 8, ground := Ground.phase }, { on := 9, ground := Ground.phase }, { on := 10, ground := Ground.phase }, { on := 11, ground := Ground.phase }, { on := 12, ground := Ground.textOnly Departure.lateStores }, { on := 13, ground := Ground.phase }], guard := none }) rfl (fun Kt hKt => ?_) AllReadyH.nil
        go_simp
        have BB : Aside (Below u1.heap.size u1 ((v2.setCell ⟨T, 0, none⟩ (.int .u64 q1)).setCell ⟨T, 1, none⟩ (.int .i64 q2))) := (BB.out.setCell HTL.out _).setCell HTL.out _
        go_wp2_with fail
        refine hKt.out _ _ (st9 (E1.out.below BB.out) (I1.out.below BB.out) QQ.out) (fun hHeld => ?_)
        clear hKt Kt
        try simp only [Act.put, List.setIfInBounds_toArray, List.set_cons_zero, List.set_cons_succ]
        refine wpAnyH_take (i := 15) (oi := { dst := some 8, op := Op.assign (Operand.tmp 44), type := 4, pos := "hist.go:89", after := #[{ on := 12, ground := Ground.data }, { on := 14, ground := Ground.chain }, { on := 0, ground := Ground.phase }, { on := 1, ground := Ground.phase }, { on := 2, ground := Ground.phase }, { on := 3, ground := Ground.phase }, { on := 4, ground := Ground.phase }, { on := 5, ground := Ground.phase }, { on := 6, ground := Ground.phase }, { on := 7, ground := Ground.phase }, { on := 8, ground := Ground.phase }, { on := 9, ground := Ground.phase }, { on := 10, ground := Ground.phase }, { on := 11, ground := Ground.phase }, { on := 12, ground := Ground.phase }, { on := 13, ground := Ground.phase }, { on := 14, ground := Ground.phase }], guard := none }) (v := ?_) rfl (by kernel_rfl) (by kernel_rfl) (by kernel_rfl) (fun _ _ _ h => h) (Or.inl ⟨by rfl, ?_⟩) (by assumption) ?_
        rotate_left
        · (intro w hSw; (try dsimp only at hSw); go_simp; try with_reducible rfl)
        simp only [Act.put, List.setIfInBounds_toArray, List.set_cons_zero, List.set_cons_succ]
        refine wpAnyH_done (by kernel_rfl) ?_ _
        go_wp2_with fail
        go_ret
        refine ⟨by rw [← HV.out]; rcases QQ.out with ⟨_, _, q3, q4, _⟩ | ⟨_, _, q3, q4⟩ <;> simp [RwR.mturn, k3, q3, q4], ?_⟩
        exact B.out.trans (BB.out.mono B.out.size)
      · go_simp
        obtain ⟨T, hT⟩ : ∃ M, u1.heap.size = M := ⟨_, rfl⟩
        have HT : Aside _ := hT
        obtain ⟨v2, hv2⟩ : ∃ q, (u1.alloc (.cells #[.int .u64 0, .int .i64 0] 42)).drew.drew = q := ⟨_, rfl⟩
        have b2 : Below u1.heap.size u1 v2 := by rw [← hv2]; exact (bel1 _ _).drew.drew
        have tb : v2.heap[T]? = some (.cells #[.int .u64 0, .int .i64 0] 42 (0, 0)) := by rw [← hv2, ← hT]; exact heap_alloc_new _ _
        have t0 : v2.cell? ⟨T, 0, none⟩ = some (.int .u64 0) := by rw [cell_of_row _ _ _ _ _ _ tb]; rfl
        have t1 : v2.cell? ⟨T, 1, none⟩ = some (.int .i64 0) := by rw [cell_of_row _ _ _ _ _ _ tb]; rfl
        have tfz : ∀ o, v2.frozen? ⟨T, o, none⟩ = false := (fun o => by simp [World.frozen?, tb])
        have HTL : Aside (u1.heap.size ≤ T) := by show _ ≤ _; rw [← hT]; exact Nat.le_refl _
        have BB : Aside (Below u1.heap.size u1 v2) := b2
        have HV2 : Aside _ := hv2
        clear hT hv2 b2
        go_wp2_with fail
        rw [HT.out]
        rw [HV2.out]
        refine hKt.out _ _ (st9 (E1.out.below BB.out) (I1.out.below BB.out) QQ.out) (fun hHeld => ?_)
        clear hKt Kt
        try simp only [Act.put, List.setIfInBounds_toArray, List.set_cons_zero, List.set_cons_succ]
        refine wpAnyH_ready (rs := [8]) (by kernel_rfl) (by simp) ?_
        refine AllReadyH.cons (o := { dst := some 41, op := Op.call { callee := Callee.value (Operand.func 32), args := #[Operand.tmp 38, Operand.tmp 40], argTypes := #[25, 3] }, type := 52, pos := "hist.go:89", after := #[{ on := 5, ground := Ground.data }, { on := 7, ground := Ground.data }], guard := none }) rfl (fun Kt hKt => ?_) AllReadyH.nil
        go_simp
        (with_reducible refine Calls.mono (placeOf_any e.y e.i _) ?_)
        rintro r v1 ⟨rfl, bb⟩
        unfold prV; dsimp only; rw [HZ.out]
        have BB : Aside (Below u1.heap.size u1 v1) := BB.out.trans (bb.mono (BB.out.size))
        have tb := (bb.block _ (lt_of_block tb)).trans tb
        have t0 := (bb.cell (p := ⟨T, 0, none⟩) (World.block_lt_of_cell? _ _ t0)).trans t0
        have t1 := (bb.cell (p := ⟨T, 1, none⟩) (World.block_lt_of_cell? _ _ t1)).trans t1
        have tfz : ∀ o, v1.frozen? ⟨T, o, none⟩ = false := (fun o => by simp [World.frozen?, tb])
        clear bb
        go_wp2_with fail
        refine hKt.out _ _ (st9 (E1.out.below BB.out) (I1.out.below BB.out) QQ.out) (fun hHeld => ?_)
        clear hKt Kt
        try simp only [Act.put, List.setIfInBounds_toArray, List.set_cons_zero, List.set_cons_succ]
        refine wpAnyH_take (i := 9) (oi := { dst := some 42, op := Op.lookup 50 (Operand.tmp 36) (Operand.tmp 41) true, type := 72, pos := "hist.go:89", after := #[{ on := 3, ground := Ground.data }, { on := 8, ground := Ground.data }], guard := none }) (v := ?_) rfl (by kernel_rfl) (by kernel_rfl) (by kernel_rfl) (fun _ _ _ h => h) (Or.inl ⟨by rfl, ?_⟩) (by assumption) ?_
        rotate_left
        · (intro w hSw; (try dsimp only at hSw); go_simp; try with_reducible rfl)
        simp only [Act.put, List.setIfInBounds_toArray, List.set_cons_zero, List.set_cons_succ]
        refine wpAnyH_take (i := 10) (oi := { dst := some 32, op := Op.move (Operand.tmp 42), type := 72, pos := "hist.go:89", after := #[{ on := 9, ground := Ground.data }], guard := none }) (v := ?_) rfl (by kernel_rfl) (by kernel_rfl) (by kernel_rfl) (fun _ _ _ h => h) (Or.inl ⟨by rfl, ?_⟩) (by assumption) ?_
        rotate_left
        · (intro w hSw; (try dsimp only at hSw); go_simp; try with_reducible rfl)
        simp only [Act.put, List.setIfInBounds_toArray, List.set_cons_zero, List.set_cons_succ]
        refine wpAnyH_take (i := 11) (oi := { dst := some 43, op := Op.extract (Operand.tmp 32) 0, type := 42, pos := "hist.go:89", after := #[{ on := 10, ground := Ground.data }], guard := none }) (v := ?_) rfl (by kernel_rfl) (by kernel_rfl) (by kernel_rfl) (fun _ _ _ h => h) (Or.inl ⟨by rfl, ?_⟩) (by assumption) ?_
        rotate_left
        · (intro w hSw; (try dsimp only at hSw); go_simp; try with_reducible rfl)
        simp only [Act.put, List.setIfInBounds_toArray, List.set_cons_zero, List.set_cons_succ]
        refine wpAnyH_take (i := 12) (oi := { dst := some 44, op := Op.extract (Operand.tmp 32) 1, type := 4, pos := "hist.go:89", after := #[{ on := 10, ground := Ground.data }, { on := 14, ground := Ground.gcOnly Departure.lateStores }], guard := none }) (v := ?_) rfl (by kernel_rfl) (by kernel_rfl) (by kernel_rfl) (fun _ _ _ h => h) (Or.inl ⟨by rfl, ?_⟩) (by assumption) ?_
        rotate_left
        · (intro w hSw; (try dsimp only at hSw); go_simp; try with_reducible rfl)
        simp only [Act.put, List.setIfInBounds_toArray, List.set_cons_zero, List.set_cons_succ]
        refine wpAnyH_ready (rs := [14]) (by kernel_rfl) (by simp) ?_
        refine AllReadyH.cons (o := { dst := none, op := Op.store 42 (Operand.tmp 7) (Operand.tmp 43), type := 0, pos := "hist.go:89", after := #[{ on := 13, ground := Ground.data }, { on := 11, ground := Ground.data }, { on := 8, ground := Ground.chain }, { on := 0, ground := Ground.phase }, { on := 1, ground := Ground.phase }, { on := 2, ground := Ground.phase }, { on := 3, ground := Ground.phase }, { on := 4, ground := Ground.phase }, { on := 5, ground := Ground.phase }, { on := 6, ground := Ground.phase }, { on := 7, ground := Ground.phase }, { on := 8, ground := Ground.phase }, { on := 9, ground := Ground.phase }, { on := 10, ground := Ground.phase }, { on := 11, ground := Ground.phase }, { on := 12, ground := Ground.textOnly Departure.lateStores }, { on := 13, ground := Ground.phase }], guard := none }) rfl (fun Kt hKt => ?_) AllReadyH.nil
        go_simp
        have BB : Aside (Below u1.heap.size u1 ((v1.setCell ⟨T, 0, none⟩ (.int .u64 q1)).setCell ⟨T, 1, none⟩ (.int .i64 q2))) := (BB.out.setCell HTL.out _).setCell HTL.out _
        go_wp2_with fail
        refine hKt.out _ _ (st9 (E1.out.below BB.out) (I1.out.below BB.out) QQ.out) (fun hHeld => ?_)
        clear hKt Kt
        try simp only [Act.put, List.setIfInBounds_toArray, List.set_cons_zero, List.set_cons_succ]
        refine wpAnyH_take (i := 15) (oi := { dst := some 8, op := Op.assign (Operand.tmp 44), type := 4, pos := "hist.go:89", after := #[{ on := 12, ground := Ground.data }, { on := 14, ground := Ground.chain }, { on := 0, ground := Ground.phase }, { on := 1, ground := Ground.phase }, { on := 2, ground := Ground.phase }, { on := 3, ground := Ground.phase }, { on := 4, ground := Ground.phase }, { on := 5, ground := Ground.phase }, { on := 6, ground := Ground.phase }, { on := 7, ground := Ground.phase }, { on := 8, ground := Ground.phase }, { on := 9, ground := Ground.phase }, { on := 10, ground := Ground.phase }, { on := 11, ground := Ground.phase }, { on := 12, ground := Ground.phase }, { on := 13, ground := Ground.phase }, { on := 14, ground := Ground.phase }], guard := none }) (v := ?_) rfl (by kernel_rfl) (by kernel_rfl) (by kernel_rfl) (fun _ _ _ h => h) (Or.inl ⟨by rfl, ?_⟩) (by assumption) ?_
        rotate_left
        · (intro w hSw; (try dsimp only at hSw); go_simp; try with_reducible rfl)
        simp only [Act.put, List.setIfInBounds_toArray, List.set_cons_zero, List.set_cons_succ]
        refine wpAnyH_done (by kernel_rfl) ?_ _
        go_wp2_with fail
        go_ret
        refine ⟨by rw [← HV.out]; rcases QQ.out with ⟨_, _, q3, q4, _⟩ | ⟨_, _, q3, q4⟩ <;> simp [RwR.mturn, k3, q3, q4], ?_⟩
        exact B.out.trans (BB.out.mono B.out.size)
    by_cases k4 : e.k = 4
    · go_wp2_with fail
      go_ret
      refine ⟨by rw [← HV.out]; simp [RwR.mturn, HL.out, k4, h6], ?_⟩
      exact B.out.trans (BB.out.mono B.out.size)
    by_cases k5 : e.k = 5
    · go_wp2_with fail
      go_ret
      refine ⟨by rw [← HV.out]; simp [RwR.mturn, HL.out, k5, h6], ?_⟩
      exact B.out.trans (BB.out.mono B.out.size)
    by_cases k6 : e.k = 6
    · go_wp2_with fail
      go_ret
      refine ⟨by rw [← HV.out]; simp [RwR.mturn, HL.out, k6, h6], ?_⟩
      exact B.out.trans (BB.out.mono B.out.size)
    by_cases k7 : e.k = 7
    · go_wp2_with fail
      go_ret
      refine ⟨by rw [← HV.out]; simp [RwR.mturn, RwR.waits, HL.out, k7, h6], ?_⟩
      exact B.out.trans (BB.out.mono B.out.size)
    go_wp2_with fail
    go_ret
    refine ⟨by rw [← HV.out]; simp [RwR.mturn, k2, k3, k4, k5, k6, k7, k10], ?_⟩
    exact B.out.trans (BB.out.mono B.out.size)
  go_upto_region 3 with fail
  by_cases k10 : e.k = 10
  · go_wp2_with fail
    go_ret
    refine ⟨by rw [← HV.out]; simp [RwR.mturn, k10], ?_⟩
    exact B.out.trans (BB.out.mono B.out.size)
  by_cases k2 : e.k = 2
  · go_wp2_with fail
    go_ret
    refine ⟨by rw [← HV.out]; simp [RwR.mturn, RwR.waits, HL.out, k2, h0, h6], ?_⟩
    exact B.out.trans (BB.out.mono B.out.size)
  by_cases k3 : e.k = 3
  · go_upto_region 9 with fail
    have BB : Aside (Below u1.heap.size u1 u1.drew.drew) := BB.out.drew
    refine wp_region_held_drew (S := (fun V : World => V.cell? ⟨X, 2, none⟩ = some (.int .i64 e.i) ∧ V.cell? ⟨X, 3, none⟩ = some (.int .u64 e.y) ∧ V.cell? ⟨R, 1, none⟩ = some (.map (some M)) ∧ (Instr.lookup 50 (.map (some M)) (.agg #[.int .u64 e.y, .int .u64 Z]) true).run Tryd.prog V = .ok (.tuple #[.agg #[.int .u64 q1, .int .i64 q2], .bool b]) V)) (by kernel_rfl) (st9 (E1.out.below BB.out) (I1.out.below BB.out) QQ.out) (fun hHeld => ?_)
    refine wpAnyH_take (i := 0) (oi := { dst := some 33, op := Op.move (Operand.tmp 0), type := 37, pos := "hist.go:89", after := #[], guard := none }) (v := ?_) rfl (by kernel_rfl) (by kernel_rfl) (by kernel_rfl) (fun _ _ _ h => h) (Or.inl ⟨by rfl, ?_⟩) (by assumption) ?_
    rotate_left
    · (intro w hSw; (try dsimp only at hSw); go_simp; try with_reducible rfl)
    simp only [Act.put, List.setIfInBounds_toArray, List.set_cons_zero, List.set_cons_succ]
    refine wpAnyH_take (i := 1) (oi := { dst := some 34, op := Op.nilCheck (Operand.tmp 33), type := 0, pos := "hist.go:89", after := #[{ on := 0, ground := Ground.data }], guard := none }) (v := ?_) rfl (by kernel_rfl) (by kernel_rfl) (by kernel_rfl) (fun _ _ _ h => h) (Or.inl ⟨by rfl, ?_⟩) (by assumption) ?_
    rotate_left
    · (intro w hSw; (try dsimp only at hSw); go_simp; try with_reducible rfl)
    simp only [Act.put, List.setIfInBounds_toArray, List.set_cons_zero, List.set_cons_succ]
    refine wpAnyH_take (i := 2) (oi := { dst := some 35, op := Op.fieldAddr 55 (Operand.tmp 34) 1, type := 0, pos := "hist.go:89", after := #[{ on := 1, ground := Ground.data }], guard := none }) (v := ?_) rfl (by kernel_rfl) (by kernel_rfl) (by kernel_rfl) (fun _ _ _ h => h) (Or.inl ⟨by rfl, ?_⟩) (by assumption) ?_
    rotate_left
    · (intro w hSw; (try dsimp only at hSw); go_simp; try with_reducible rfl)
    simp only [Act.put, List.setIfInBounds_toArray, List.set_cons_zero, List.set_cons_succ]
    refine wpAnyH_take (i := 3) (oi := { dst := some 36, op := Op.load 50 (Operand.tmp 35), type := 50, pos := "hist.go:89", after := #[{ on := 2, ground := Ground.data }], guard := none }) (v := ?_) rfl (by kernel_rfl) (by kernel_rfl) (by kernel_rfl) (fun _ _ _ h => h) (Or.inl ⟨by rfl, ?_⟩) (by assumption) ?_
    rotate_left
    · (intro w hSw; (try dsimp only at hSw); go_simp; try with_reducible rfl)
    simp only [Act.put, List.setIfInBounds_toArray, List.set_cons_zero, List.set_cons_succ]
    refine wpAnyH_take (i := 4) (oi := { dst := some 37, op := Op.fieldAddr 27 (Operand.tmp 3) 3, type := 0, pos := "hist.go:89", after := #[], guard := none }) (v := ?_) rfl (by kernel_rfl) (by kernel_rfl) (by kernel_rfl) (fun _ _ _ h => h) (Or.inl ⟨by rfl, ?_⟩) (by assumption) ?_
    rotate_left
    · (intro w hSw; (try dsimp only at hSw); go_simp; try with_reducible rfl)
    simp only [Act.put, List.setIfInBounds_toArray, List.set_cons_zero, List.set_cons_succ]
    refine wpAnyH_take (i := 5) (oi := { dst := some 38, op := Op.load 25 (Operand.tmp 37), type := 25, pos := "hist.go:89", after := #[{ on := 4, ground := Ground.data }], guard := none }) (v := ?_) rfl (by kernel_rfl) (by kernel_rfl) (by kernel_rfl) (fun _ _ _ h => h) (Or.inl ⟨by rfl, ?_⟩) (by assumption) ?_
    rotate_left
    · (intro w hSw; (try dsimp only at hSw); go_simp; try with_reducible rfl)
    simp only [Act.put, List.setIfInBounds_toArray, List.set_cons_zero, List.set_cons_succ]
    refine wpAnyH_take (i := 6) (oi := { dst := some 39, op := Op.fieldAddr 27 (Operand.tmp 3) 2, type := 0, pos := "hist.go:89", after := #[], guard := none }) (v := ?_) rfl (by kernel_rfl) (by kernel_rfl) (by kernel_rfl) (fun _ _ _ h => h) (Or.inl ⟨by rfl, ?_⟩) (by assumption) ?_
    rotate_left
    · (intro w hSw; (try dsimp only at hSw); go_simp; try with_reducible rfl)
    simp only [Act.put, List.setIfInBounds_toArray, List.set_cons_zero, List.set_cons_succ]
    refine wpAnyH_take (i := 7) (oi := { dst := some 40, op := Op.load 3 (Operand.tmp 39), type := 3, pos := "hist.go:89", after := #[{ on := 6, ground := Ground.data }], guard := none }) (v := ?_) rfl (by kernel_rfl) (by kernel_rfl) (by kernel_rfl) (fun _ _ _ h => h) (Or.inl ⟨by rfl, ?_⟩) (by assumption) ?_
    rotate_left
    · (intro w hSw; (try dsimp only at hSw); go_simp; try with_reducible rfl)
    simp only [Act.put, List.setIfInBounds_toArray, List.set_cons_zero, List.set_cons_succ]
    refine wpAnyH_ready (rs := [8, 13]) (by kernel_rfl) (by simp) ?_
    refine AllReadyH.cons (o := { dst := some 41, op := Op.call { callee := Callee.value (Operand.func 32), args := #[Operand.tmp 38, Operand.tmp 40], argTypes := #[25, 3] }, type := 52, pos := "hist.go:89", after := #[{ on := 5, ground := Ground.data }, { on := 7, ground := Ground.data }], guard := none }) rfl (fun Kt hKt => ?_) (AllReadyH.cons (o := { dst := some 7, op := Op.alloc 42, type := 0, pos := "hist.go:89", after := #[], guard := none }) rfl (fun Kt hKt => ?_) AllReadyH.nil)
    · go_simp
      (with_reducible refine Calls.mono (placeOf_any e.y e.i _) ?_)
      rintro r v1 ⟨rfl, bb⟩
      unfold prV; dsimp only; rw [HZ.out]
      have BB : Aside (Below u1.heap.size u1 v1) := BB.out.trans (bb.mono (BB.out.size))
      clear bb
      go_wp2_with fail
      refine hKt.out _ _ (st9 (E1.out.below BB.out) (I1.out.below BB.out) QQ.out) (fun hHeld => ?_)
      clear hKt Kt
      try simp only [Act.put, List.setIfInBounds_toArray, List.set_cons_zero, List.set_cons_succ]
      refine wpAnyH_take (i := 9) (oi := { dst := some 42, op := Op.lookup 50 (Operand.tmp 36) (Operand.tmp 41) true, type := 72, pos := "hist.go:89", after := #[{ on := 3, ground := Ground.data }, { on := 8, ground := Ground.data }], guard := none }) (v := ?_) rfl (by kernel_rfl) (by kernel_rfl) (by kernel_rfl) (fun _ _ _ h => h) (Or.inl ⟨by rfl, ?_⟩) (by assumption) ?_
      rotate_left
      · (intro w hSw; (try dsimp only at hSw); go_simp; try with_reducible rfl)
      simp only [Act.put, List.setIfInBounds_toArray, List.set_cons_zero, List.set_cons_succ]
      refine wpAnyH_take (i := 10) (oi := { dst := some 32, op := Op.move (Operand.tmp 42), type := 72, pos := "hist.go:89", after := #[{ on := 9, ground := Ground.data }], guard := none }) (v := ?_) rfl (by kernel_rfl) (by kernel_rfl) (by kernel_rfl) (fun _ _ _ h => h) (Or.inl ⟨by rfl, ?_⟩) (by assumption) ?_
      rotate_left
      · (intro w hSw; (try dsimp only at hSw); go_simp; try with_reducible rfl)
      simp only [Act.put, List.setIfInBounds_toArray, List.set_cons_zero, List.set_cons_succ]
      refine wpAnyH_take (i := 11) (oi := { dst := some 43, op := Op.extract (Operand.tmp 32) 0, type := 42, pos := "hist.go:89", after := #[{ on := 10, ground := Ground.data }], guard := none }) (v := ?_) rfl (by kernel_rfl) (by kernel_rfl) (by kernel_rfl) (fun _ _ _ h => h) (Or.inl ⟨by rfl, ?_⟩) (by assumption) ?_
      rotate_left
      · (intro w hSw; (try dsimp only at hSw); go_simp; try with_reducible rfl)
      simp only [Act.put, List.setIfInBounds_toArray, List.set_cons_zero, List.set_cons_succ]
      refine wpAnyH_take (i := 12) (oi := { dst := some 44, op := Op.extract (Operand.tmp 32) 1, type := 4, pos := "hist.go:89", after := #[{ on := 10, ground := Ground.data }, { on := 14, ground := Ground.gcOnly Departure.lateStores }], guard := none }) (v := ?_) rfl (by kernel_rfl) (by kernel_rfl) (by kernel_rfl) (fun _ _ _ h => h) (Or.inl ⟨by rfl, ?_⟩) (by assumption) ?_
      rotate_left
      · (intro w hSw; (try dsimp only at hSw); go_simp; try with_reducible rfl)
      simp only [Act.put, List.setIfInBounds_toArray, List.set_cons_zero, List.set_cons_succ]
      refine wpAnyH_ready (rs := [13]) (by kernel_rfl) (by simp) ?_
      refine AllReadyH.cons (o := { dst := some 7, op := Op.alloc 42, type := 0, pos := "hist.go:89", after := #[], guard := none }) rfl (fun Kt hKt => ?_) AllReadyH.nil
      go_simp
      obtain ⟨T, hT⟩ : ∃ M, v1.heap.size = M := ⟨_, rfl⟩
      have HT : Aside _ := hT
      obtain ⟨v2, hv2⟩ : ∃ q, (v1.alloc (.cells #[.int .u64 0, .int .i64 0] 42)) = q := ⟨_, rfl⟩
      have b2 : Below v1.heap.size v1 v2 := by rw [← hv2]; exact (bel1 _ _)
      have tb : v2.heap[T]? = some (.cells #[.int .u64 0, .int .i64 0] 42 (0, 0)) := by rw [← hv2, ← hT]; exact heap_alloc_new _ _
      have t0 : v2.cell? ⟨T, 0, none⟩ = some (.int .u64 0) := by rw [cell_of_row _ _ _ _ _ _ tb]; rfl
      have t1 : v2.cell? ⟨T, 1, none⟩ = some (.int .i64 0) := by rw [cell_of_row _ _ _ _ _ _ tb]; rfl
      have tfz : ∀ o, v2.frozen? ⟨T, o, none⟩ = false := (fun o => by simp [World.frozen?, tb])
      have HTL : Aside (u1.heap.size ≤ T) := by show _ ≤ _; rw [← hT]; exact BB.out.size
      have BB : Aside (Below u1.heap.size u1 v2) := BB.out.trans (b2.mono (BB.out.size))
      have HV2 : Aside _ := hv2
      clear hT hv2 b2
      go_wp2_with fail
      rw [HT.out]
      rw [HV2.out]
      refine hKt.out _ _ (st9 (E1.out.below BB.out) (I1.out.below BB.out) QQ.out) (fun hHeld => ?_)
      clear hKt Kt
      try simp only [Act.put, List.setIfInBounds_toArray, List.set_cons_zero, List.set_cons_succ]
      refine wpAnyH_ready (rs := [14]) (by kernel_rfl) (by simp) ?_
      refine AllReadyH.cons (o := { dst := none, op := Op.store 42 (Operand.tmp 7) (Operand.tmp 43), type := 0, pos := "hist.go:89", after := #[{ on := 13, ground := Ground.data }, { on := 11, ground := Ground.data }, { on := 8, ground := Ground.chain }, { on := 0, ground := Ground.phase }, { on := 1, ground := Ground.phase }, { on := 2, ground := Ground.phase }, { on := 3, ground := Ground.phase }, { on := 4, ground := Ground.phase }, { on := 5, ground := Ground.phase }, { on := 6, ground := Ground.phase }, { on := 7, ground := Ground.phase }, { on := 8, ground := Ground.phase }, { on := 9, ground := Ground.phase }, { on := 10, ground := Ground.phase }, { on := 11, ground := Ground.phase }, { on := 12, ground := Ground.textOnly Departure.lateStores }, { on := 13, ground := Ground.phase }], guard := none }) rfl (fun Kt hKt => ?_) AllReadyH.nil
      go_simp
      have BB : Aside (Below u1.heap.size u1 ((v2.setCell ⟨T, 0, none⟩ (.int .u64 q1)).setCell ⟨T, 1, none⟩ (.int .i64 q2))) := (BB.out.setCell HTL.out _).setCell HTL.out _
      go_wp2_with fail
      refine hKt.out _ _ (st9 (E1.out.below BB.out) (I1.out.below BB.out) QQ.out) (fun hHeld => ?_)
      clear hKt Kt
      try simp only [Act.put, List.setIfInBounds_toArray, List.set_cons_zero, List.set_cons_succ]
      refine wpAnyH_take (i := 15) (oi := { dst := some 8, op := Op.assign (Operand.tmp 44), type := 4, pos := "hist.go:89", after := #[{ on := 12, ground := Ground.data }, { on := 14, ground := Ground.chain }, { on := 0, ground := Ground.phase }, { on := 1, ground := Ground.phase }, { on := 2, ground := Ground.phase }, { on := 3, ground := Ground.phase }, { on := 4, ground := Ground.phase }, { on := 5, ground := Ground.phase }, { on := 6, ground := Ground.phase }, { on := 7, ground := Ground.phase }, { on := 8, ground := Ground.phase }, { on := 9, ground := Ground.phase }, { on := 10, ground := Ground.phase }, { on := 11, ground := Ground.phase }, { on := 12, ground := Ground.phase }, { on := 13, ground := Ground.phase }, { on := 14, ground := Ground.phase }], guard := none }) (v := ?_) rfl (by kernel_rfl) (by kernel_rfl) (by kernel_rfl) (fun _ _ _ h => h) (Or.inl ⟨by rfl, ?_⟩) (by assumption) ?_
      rotate_left
      · (intro w hSw; (try dsimp only at hSw); go_simp; try with_reducible rfl)
      simp only [Act.put, List.setIfInBounds_toArray, List.set_cons_zero, List.set_cons_succ]
      refine wpAnyH_done (by kernel_rfl) ?_ _
      go_wp2_with fail
      go_ret
      refine ⟨by rw [← HV.out]; rcases QQ.out with ⟨_, _, q3, q4, _⟩ | ⟨_, _, q3, q4⟩ <;> simp [RwR.mturn, k3, q3, q4], ?_⟩
      exact B.out.trans (BB.out.mono B.out.size)
    · go_simp
      obtain ⟨T, hT⟩ : ∃ M, u1.heap.size = M := ⟨_, rfl⟩
      have HT : Aside _ := hT
      obtain ⟨v2, hv2⟩ : ∃ q, (u1.alloc (.cells #[.int .u64 0, .int .i64 0] 42)).drew.drew = q := ⟨_, rfl⟩
      have b2 : Below u1.heap.size u1 v2 := by rw [← hv2]; exact (bel1 _ _).drew.drew
      have tb : v2.heap[T]? = some (.cells #[.int .u64 0, .int .i64 0] 42 (0, 0)) := by rw [← hv2, ← hT]; exact heap_alloc_new _ _
      have t0 : v2.cell? ⟨T, 0, none⟩ = some (.int .u64 0) := by rw [cell_of_row _ _ _ _ _ _ tb]; rfl
      have t1 : v2.cell? ⟨T, 1, none⟩ = some (.int .i64 0) := by rw [cell_of_row _ _ _ _ _ _ tb]; rfl
      have tfz : ∀ o, v2.frozen? ⟨T, o, none⟩ = false := (fun o => by simp [World.frozen?, tb])
      have HTL : Aside (u1.heap.size ≤ T) := by show _ ≤ _; rw [← hT]; exact Nat.le_refl _
      have BB : Aside (Below u1.heap.size u1 v2) := b2
      have HV2 : Aside _ := hv2
      clear hT hv2 b2
      go_wp2_with fail
      rw [HT.out]
      rw [HV2.out]
      refine hKt.out _ _ (st9 (E1.out.below BB.out) (I1.out.below BB.out) QQ.out) (fun hHeld => ?_)
      clear hKt Kt
      try simp only [Act.put, List.setIfInBounds_toArray, List.set_cons_zero, List.set_cons_succ]
      refine wpAnyH_ready (rs := [8]) (by kernel_rfl) (by simp) ?_
      refine AllReadyH.cons (o := { dst := some 41, op := Op.call { callee := Callee.value (Operand.func 32), args := #[Operand.tmp 38, Operand.tmp 40], argTypes := #[25, 3] }, type := 52, pos := "hist.go:89", after := #[{ on := 5, ground := Ground.data }, { on := 7, ground := Ground.data }], guard := none }) rfl (fun Kt hKt => ?_) AllReadyH.nil
      go_simp
      (with_reducible refine Calls.mono (placeOf_any e.y e.i _) ?_)
      rintro r v1 ⟨rfl, bb⟩
      unfold prV; dsimp only; rw [HZ.out]
      have BB : Aside (Below u1.heap.size u1 v1) := BB.out.trans (bb.mono (BB.out.size))
      have tb := (bb.block _ (lt_of_block tb)).trans tb
      have t0 := (bb.cell (p := ⟨T, 0, none⟩) (World.block_lt_of_cell? _ _ t0)).trans t0
      have t1 := (bb.cell (p := ⟨T, 1, none⟩) (World.block_lt_of_cell? _ _ t1)).trans t1
      have tfz : ∀ o, v1.frozen? ⟨T, o, none⟩ = false := (fun o => by simp [World.frozen?, tb])
      clear bb
      go_wp2_with fail
      refine hKt.out _ _ (st9 (E1.out.below BB.out) (I1.out.below BB.out) QQ.out) (fun hHeld => ?_)
      clear hKt Kt
      try simp only [Act.put, List.setIfInBounds_toArray, List.set_cons_zero, List.set_cons_succ]
      refine wpAnyH_take (i := 9) (oi := { dst := some 42, op := Op.lookup 50 (Operand.tmp 36) (Operand.tmp 41) true, type := 72, pos := "hist.go:89", after := #[{ on := 3, ground := Ground.data }, { on := 8, ground := Ground.data }], guard := none }) (v := ?_) rfl (by kernel_rfl) (by kernel_rfl) (by kernel_rfl) (fun _ _ _ h => h) (Or.inl ⟨by rfl, ?_⟩) (by assumption) ?_
      rotate_left
      · (intro w hSw; (try dsimp only at hSw); go_simp; try with_reducible rfl)
      simp only [Act.put, List.setIfInBounds_toArray, List.set_cons_zero, List.set_cons_succ]
      refine wpAnyH_take (i := 10) (oi := { dst := some 32, op := Op.move (Operand.tmp 42), type := 72, pos := "hist.go:89", after := #[{ on := 9, ground := Ground.data }], guard := none }) (v := ?_) rfl (by kernel_rfl) (by kernel_rfl) (by kernel_rfl) (fun _ _ _ h => h) (Or.inl ⟨by rfl, ?_⟩) (by assumption) ?_
      rotate_left
      · (intro w hSw; (try dsimp only at hSw); go_simp; try with_reducible rfl)
      simp only [Act.put, List.setIfInBounds_toArray, List.set_cons_zero, List.set_cons_succ]
      refine wpAnyH_take (i := 11) (oi := { dst := some 43, op := Op.extract (Operand.tmp 32) 0, type := 42, pos := "hist.go:89", after := #[{ on := 10, ground := Ground.data }], guard := none }) (v := ?_) rfl (by kernel_rfl) (by kernel_rfl) (by kernel_rfl) (fun _ _ _ h => h) (Or.inl ⟨by rfl, ?_⟩) (by assumption) ?_
      rotate_left
      · (intro w hSw; (try dsimp only at hSw); go_simp; try with_reducible rfl)
      simp only [Act.put, List.setIfInBounds_toArray, List.set_cons_zero, List.set_cons_succ]
      refine wpAnyH_take (i := 12) (oi := { dst := some 44, op := Op.extract (Operand.tmp 32) 1, type := 4, pos := "hist.go:89", after := #[{ on := 10, ground := Ground.data }, { on := 14, ground := Ground.gcOnly Departure.lateStores }], guard := none }) (v := ?_) rfl (by kernel_rfl) (by kernel_rfl) (by kernel_rfl) (fun _ _ _ h => h) (Or.inl ⟨by rfl, ?_⟩) (by assumption) ?_
      rotate_left
      · (intro w hSw; (try dsimp only at hSw); go_simp; try with_reducible rfl)
      simp only [Act.put, List.setIfInBounds_toArray, List.set_cons_zero, List.set_cons_succ]
      refine wpAnyH_ready (rs := [14]) (by kernel_rfl) (by simp) ?_
      refine AllReadyH.cons (o := { dst := none, op := Op.store 42 (Operand.tmp 7) (Operand.tmp 43), type := 0, pos := "hist.go:89", after := #[{ on := 13, ground := Ground.data }, { on := 11, ground := Ground.data }, { on := 8, ground := Ground.chain }, { on := 0, ground := Ground.phase }, { on := 1, ground := Ground.phase }, { on := 2, ground := Ground.phase }, { on := 3, ground := Ground.phase }, { on := 4, ground := Ground.phase }, { on := 5, ground := Ground.phase }, { on := 6, ground := Ground.phase }, { on := 7, ground := Ground.phase }, { on := 8, ground := Ground.phase }, { on := 9, ground := Ground.phase }, { on := 10, ground := Ground.phase }, { on := 11, ground := Ground.phase }, { on := 12, ground := Ground.textOnly Departure.lateStores }, { on := 13, ground := Ground.phase }], guard := none }) rfl (fun Kt hKt => ?_) AllReadyH.nil
      go_simp
      have BB : Aside (Below u1.heap.size u1 ((v1.setCell ⟨T, 0, none⟩ (.int .u64 q1)).setCell ⟨T, 1, none⟩ (.int .i64 q2))) := (BB.out.setCell HTL.out _).setCell HTL.out _
      go_wp2_with fail
      refine hKt.out _ _ (st9 (E1.out.below BB.out) (I1.out.below BB.out) QQ.out) (fun hHeld => ?_)
      clear hKt Kt
      try simp only [Act.put, List.setIfInBounds_toArray, List.set_cons_zero, List.set_cons_succ]
      refine wpAnyH_take (i := 15) (oi := { dst := some 8, op := Op.assign (Operand.tmp 44), type := 4, pos := "hist.go:89", after := #[{ on := 12, ground := Ground.data }, { on := 14, ground := Ground.chain }, { on := 0, ground := Ground.phase }, { on := 1, ground := Ground.phase }, { on := 2, ground := Ground.phase }, { on := 3, ground := Ground.phase }, { on := 4, ground := Ground.phase }, { on := 5, ground := Ground.phase }, { on := 6, ground := Ground.phase }, { on := 7, ground := Ground.phase }, { on := 8, ground := Ground.phase }, { on := 9, ground := Ground.phase }, { on := 10, ground := Ground.phase }, { on := 11, ground := Ground.phase }, { on := 12, ground := Ground.phase }, { on := 13, ground := Ground.phase }, { on := 14, ground := Ground.phase }], guard := none }) (v := ?_) rfl (by kernel_rfl) (by kernel_rfl) (by kernel_rfl) (fun _ _ _ h => h) (Or.inl ⟨by rfl, ?_⟩) (by assumption) ?_
      rotate_left
      · (intro w hSw; (try dsimp only at hSw); go_simp; try with_reducible rfl)
      simp only [Act.put, List.setIfInBounds_toArray, List.set_cons_zero, List.set_cons_succ]
      refine wpAnyH_done (by kernel_rfl) ?_ _
      go_wp2_with fail
      go_ret
      refine ⟨by rw [← HV.out]; rcases QQ.out with ⟨_, _, q3, q4, _⟩ | ⟨_, _, q3, q4⟩ <;> simp [RwR.mturn, k3, q3, q4], ?_⟩
      exact B.out.trans (BB.out.mono B.out.size)
  by_cases k4 : e.k = 4
  · by_cases g3 : l.k = 3
    · go_wp2_with fail
      go_ret
      refine ⟨by rw [← HV.out]; simp [RwR.mturn, HL.out, k4, g3], ?_⟩
      exact B.out.trans (BB.out.mono B.out.size)
    · go_wp2_with fail
      go_ret
      refine ⟨by rw [← HV.out]; simp [RwR.mturn, HL.out, k4, g3], ?_⟩
      exact B.out.trans (BB.out.mono B.out.size)
  by_cases k5 : e.k = 5
  · by_cases g3 : l.k = 3
    · go_wp2_with fail
      go_ret
      refine ⟨by rw [← HV.out]; simp [RwR.mturn, HL.out, k5, g3], ?_⟩
      exact B.out.trans (BB.out.mono B.out.size)
    · go_wp2_with fail
      go_ret
      refine ⟨by rw [← HV.out]; simp [RwR.mturn, HL.out, k5, g3], ?_⟩
      exact B.out.trans (BB.out.mono B.out.size)
  by_cases k6 : e.k = 6
  · by_cases g3 : l.k = 3
    · go_wp2_with fail
      go_ret
      refine ⟨by rw [← HV.out]; simp [RwR.mturn, HL.out, k6, g3], ?_⟩
      exact B.out.trans (BB.out.mono B.out.size)
    · go_wp2_with fail
      go_ret
      refine ⟨by rw [← HV.out]; simp [RwR.mturn, HL.out, k6, g3], ?_⟩
      exact B.out.trans (BB.out.mono B.out.size)
  by_cases k7 : e.k = 7
  · by_cases g2 : l.k = 2
    · go_wp2_with fail
      go_ret
      refine ⟨by rw [← HV.out]; simp [RwR.mturn, RwR.waits, HL.out, k7, g2], ?_⟩
      exact B.out.trans (BB.out.mono B.out.size)
    · go_wp2_with fail
      go_ret
      refine ⟨by rw [← HV.out]; simp [RwR.mturn, RwR.waits, HL.out, k7, g2, h0, h6], ?_⟩
      exact B.out.trans (BB.out.mono B.out.size)
  go_wp2_with fail
  go_ret
  refine ⟨by rw [← HV.out]; simp [RwR.mturn, k2, k3, k4, k5, k6, k7, k10], ?_⟩
  exact B.out.trans (BB.out.mono B.out.size)
end
end Go.Proofs.YtpenojbfeocjaaaDoor

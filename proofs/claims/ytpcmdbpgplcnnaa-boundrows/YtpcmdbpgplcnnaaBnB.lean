/- Contracts: read, passed. -/
import Derived.Test.YtpcmdbpgplcnnaaBnA
namespace Go.Proofs.Ytpcmdbpgplcnnaa
open Go.RowKit Go.Lib Go.WideMaps Go.Maps
set_option linter.unusedVariables false
set_option maxRecDepth 10000

section
variable {w w' : World} {R L M c : Nat} {s : RwB}
theorem bb0 {X : Nat} {e : EvR} {V : World} (E : EBx V X e) (I : RowB V R L M s c) :
    V.cell? ⟨X, 0, none⟩ = some (.int .i64 e.k) ∧ V.cell? ⟨X, 1, none⟩ = some (.int .i64 e.t) ∧ V.cell? ⟨X, 2, none⟩ = some (.int .i64 e.i) ∧ V.cell? ⟨X, 3, none⟩ = some (.int .u64 e.y) ∧ V.cell? ⟨X, 4, none⟩ = some (.int .u64 e.c) ∧ V.cell? ⟨X, 5, none⟩ = some (.int .u64 e.n) ∧ V.cell? ⟨R, 0, none⟩ = some (.map (some L)) ∧ V.cell? ⟨R, 1, none⟩ = some (.map (some M)) := ⟨E.c0, E.c1, E.c2, E.c3, E.c4, E.c5, I.cells⟩
theorem set3 {T : Nat} {a b d : Value} {t : TypeId} {z : Nat × Nat} (hb : w.heap[T]? = some (.cells #[a, b, d] t z)) (x y v : Value) : (((w.setCell ⟨T, 0, none⟩ x).setCell ⟨T, 1, none⟩ y).setCell ⟨T, 2, none⟩ v).heap[T]? = some (.cells #[x, y, v] t z) := by
  simp [World.setCell, Array.getElem?_modify, hb]
theorem lt_sz {A T : Nat} {x : Obj} (h : A ≤ T) (hb : w.heap[T]? = some x) : A ≤ w.heap.size := by
  have := lt_of_block hb
  omega
theorem ne_map {cs : Array Value} {t : TypeId} {z : Nat × Nat} (I : RowB w R L M s c) (hb : w.heap[L]? = some (.cells cs t z)) : False := by
  obtain ⟨n, _, h⟩ := I.ml
  obtain ⟨e1, q1, h1⟩ := h.isMap
  rw [h1] at hb
  cases hb
/-- What reading an event leaves. -/
def ReadIs (w w' : World) (N R L M c : Nat) (s : RwB) : Prop := RowB w' R L M s (c + 1) ∧ Below N w w'
set_option maxHeartbeats 16000000 in
set_option maxRecDepth 100000 in
theorem read_any (I : RowB w R L M s c) (hc : c ≤ 90000) (a : Int) (e : EvR) (hi : wfI e.i) (ht : wfI e.t) {N : Nat} (hN : N ≤ w.heap.size ∧ N ≤ R ∧ N ≤ L ∧ N ≤ M) : Calls Try.prog 17 #[.pointer (some ⟨R, 0, none⟩), .int .i64 a, evV e] w fun r w' => r = .returned (.tuple #[]) ∧ ReadIs w w' N R L M c (s.read a e) := by
  have hlt := I.lt
  obtain ⟨X, hX⟩ : ∃ X, w.heap.size = X := ⟨_, rfl⟩
  obtain ⟨u1, hu1⟩ : ∃ u, w.alloc (.cells #[.int .i64 e.k, .int .i64 e.t, .int .i64 e.i, .int .u64 e.y, .int .u64 e.c, .int .u64 e.n] 25) = u := ⟨_, rfl⟩
  have b1 : Below w.heap.size w u1 := by rw [← hu1]; exact bel1 _ _
  have E1 : EBx u1 X e := by rw [← hu1, ← hX]; exact EBx.made w e
  have I1 : RowB u1 R L M s c := I.below b1
  have B1 : Aside (Below N w u1) := b1.mono hN.1
  have SX : Aside (N ≤ u1.heap.size) := by have := b1.size; show N ≤ _; omega
  have HX : Aside _ := hX
  have HU : Aside _ := hu1
  have XL : Aside (X ≠ L) := by show _ ≠ _; omega
  have XM : Aside (X ≠ M) := by show _ ≠ _; omega
  have HN : Aside _ := hN
  have HC : Aside _ := hc
  have WI : Aside (wfI e.i) := hi
  have WT : Aside (wfI e.t) := ht
  unfold evV
  clear hX hu1 b1 hi ht hlt hN hc I
  go_enter Try.func17, Try.ntmps17
  go_upto_region 1 with fail
  rw [HU.out, HX.out]
  have e0 := E1.c0
  by_cases k10 : e.k = 10
  · have RD : s.read a e = { s with K := kput e.t (a, e.i) s.K } := by unfold RwB.read; rw [if_pos k10]
    go_upto_region 6 with fail
    clear e0
    obtain ⟨v2, hr2, I2, g2⟩ := I1.drew.putK (by have := HC.out; omega) WT.out a e.i
    have B2 : Aside (Below N w v2) := (B1.out.drew).grown g2 (by have := SX.out; show N ≤ u1.heap.size; omega) (fun k hk => by injection hk with hk; rw [← hk]; exact HN.out.2.2.2)
    have E2 : EBx v2 X e := (E1.drew).grown g2 XM.out
    refine wp_region_held_drew (S := (fun V : World => V.cell? ⟨X, 0, none⟩ = some (.int .i64 e.k) ∧ V.cell? ⟨X, 1, none⟩ = some (.int .i64 e.t) ∧ V.cell? ⟨X, 2, none⟩ = some (.int .i64 e.i) ∧ V.cell? ⟨X, 3, none⟩ = some (.int .u64 e.y) ∧ V.cell? ⟨X, 4, none⟩ = some (.int .u64 e.c) ∧ V.cell? ⟨X, 5, none⟩ = some (.int .u64 e.n) ∧ V.cell? ⟨R, 0, none⟩ = some (.map (some L)) ∧ V.cell? ⟨R, 1, none⟩ = some (.map (some M)))) (by kernel_rfl) (bb0 E1.drew I1.drew) (fun hHeld => ?_)
    refine wpAnyH_take (i := 0) (oi := { dst := some 33, op := Op.move (Operand.tmp 0), type := 38, pos := "bound.go:36", after := #[], guard := none }) (v := ?_) rfl (by kernel_rfl) (by kernel_rfl) (by kernel_rfl) (fun _ _ _ h => h) (Or.inl ⟨by rfl, ?_⟩) (by assumption) ?_
    rotate_left
    · (intro w hSw; (try dsimp only at hSw); go_simp; try with_reducible rfl)
    simp only [Act.put, List.setIfInBounds_toArray, List.set_cons_zero, List.set_cons_succ]
    refine wpAnyH_take (i := 1) (oi := { dst := some 34, op := Op.nilCheck (Operand.tmp 33), type := 0, pos := "bound.go:36", after := #[{ on := 0, ground := Ground.data }], guard := none }) (v := ?_) rfl (by kernel_rfl) (by kernel_rfl) (by kernel_rfl) (fun _ _ _ h => h) (Or.inl ⟨by rfl, ?_⟩) (by assumption) ?_
    rotate_left
    · (intro w hSw; (try dsimp only at hSw); go_simp; try with_reducible rfl)
    simp only [Act.put, List.setIfInBounds_toArray, List.set_cons_zero, List.set_cons_succ]
    refine wpAnyH_take (i := 2) (oi := { dst := some 35, op := Op.fieldAddr 51 (Operand.tmp 34) 1, type := 0, pos := "bound.go:36", after := #[{ on := 1, ground := Ground.data }], guard := none }) (v := ?_) rfl (by kernel_rfl) (by kernel_rfl) (by kernel_rfl) (fun _ _ _ h => h) (Or.inl ⟨by rfl, ?_⟩) (by assumption) ?_
    rotate_left
    · (intro w hSw; (try dsimp only at hSw); go_simp; try with_reducible rfl)
    simp only [Act.put, List.setIfInBounds_toArray, List.set_cons_zero, List.set_cons_succ]
    refine wpAnyH_take (i := 3) (oi := { dst := some 36, op := Op.load 49 (Operand.tmp 35), type := 49, pos := "bound.go:36", after := #[{ on := 2, ground := Ground.data }], guard := none }) (v := ?_) rfl (by kernel_rfl) (by kernel_rfl) (by kernel_rfl) (fun _ _ _ h => h) (Or.inl ⟨by rfl, ?_⟩) (by assumption) ?_
    rotate_left
    · (intro w hSw; (try dsimp only at hSw); go_simp; try with_reducible rfl)
    simp only [Act.put, List.setIfInBounds_toArray, List.set_cons_zero, List.set_cons_succ]
    refine wpAnyH_take (i := 4) (oi := { dst := some 37, op := Op.fieldAddr 25 (Operand.tmp 5) 1, type := 0, pos := "bound.go:36", after := #[], guard := none }) (v := ?_) rfl (by kernel_rfl) (by kernel_rfl) (by kernel_rfl) (fun _ _ _ h => h) (Or.inl ⟨by rfl, ?_⟩) (by assumption) ?_
    rotate_left
    · (intro w hSw; (try dsimp only at hSw); go_simp; try with_reducible rfl)
    simp only [Act.put, List.setIfInBounds_toArray, List.set_cons_zero, List.set_cons_succ]
    refine wpAnyH_take (i := 5) (oi := { dst := some 38, op := Op.load 3 (Operand.tmp 37), type := 3, pos := "bound.go:36", after := #[{ on := 4, ground := Ground.data }], guard := none }) (v := ?_) rfl (by kernel_rfl) (by kernel_rfl) (by kernel_rfl) (fun _ _ _ h => h) (Or.inl ⟨by rfl, ?_⟩) (by assumption) ?_
    rotate_left
    · (intro w hSw; (try dsimp only at hSw); go_simp; try with_reducible rfl)
    simp only [Act.put, List.setIfInBounds_toArray, List.set_cons_zero, List.set_cons_succ]
    refine wpAnyH_take (i := 6) (oi := { dst := some 39, op := Op.move (Operand.tmp 1), type := 3, pos := "bound.go:36", after := #[], guard := none }) (v := ?_) rfl (by kernel_rfl) (by kernel_rfl) (by kernel_rfl) (fun _ _ _ h => h) (Or.inl ⟨by rfl, ?_⟩) (by assumption) ?_
    rotate_left
    · (intro w hSw; (try dsimp only at hSw); go_simp; try with_reducible rfl)
    simp only [Act.put, List.setIfInBounds_toArray, List.set_cons_zero, List.set_cons_succ]
    refine wpAnyH_take (i := 7) (oi := { dst := some 40, op := Op.fieldAddr 25 (Operand.tmp 5) 2, type := 0, pos := "bound.go:36", after := #[], guard := none }) (v := ?_) rfl (by kernel_rfl) (by kernel_rfl) (by kernel_rfl) (fun _ _ _ h => h) (Or.inl ⟨by rfl, ?_⟩) (by assumption) ?_
    rotate_left
    · (intro w hSw; (try dsimp only at hSw); go_simp; try with_reducible rfl)
    simp only [Act.put, List.setIfInBounds_toArray, List.set_cons_zero, List.set_cons_succ]
    refine wpAnyH_take (i := 8) (oi := { dst := some 41, op := Op.load 3 (Operand.tmp 40), type := 3, pos := "bound.go:36", after := #[{ on := 7, ground := Ground.data }], guard := none }) (v := ?_) rfl (by kernel_rfl) (by kernel_rfl) (by kernel_rfl) (fun _ _ _ h => h) (Or.inl ⟨by rfl, ?_⟩) (by assumption) ?_
    rotate_left
    · (intro w hSw; (try dsimp only at hSw); go_simp; try with_reducible rfl)
    simp only [Act.put, List.setIfInBounds_toArray, List.set_cons_zero, List.set_cons_succ]
    refine wpAnyH_take (i := 9) (oi := { dst := some 42, op := Op.build 53 #[(0, Operand.tmp 39), (1, Operand.tmp 41)], type := 53, pos := "bound.go:36", after := #[{ on := 6, ground := Ground.data }, { on := 8, ground := Ground.data }], guard := none }) (v := ?_) rfl (by kernel_rfl) (by kernel_rfl) (by kernel_rfl) (fun _ _ _ h => h) (Or.inl ⟨by rfl, ?_⟩) (by assumption) ?_
    rotate_left
    · (intro w hSw; (try dsimp only at hSw); go_simp; try with_reducible rfl)
    simp only [Act.put, List.setIfInBounds_toArray, List.set_cons_zero, List.set_cons_succ]
    refine wpAnyH_ready (rs := [10]) (by kernel_rfl) (by simp) ?_
    refine AllReadyH.cons (o := { dst := none, op := Op.mapUpdate 49 (Operand.tmp 36) (Operand.tmp 38) (Operand.tmp 42), type := 0, pos := "bound.go:36", after := #[{ on := 3, ground := Ground.data }, { on := 5, ground := Ground.data }, { on := 9, ground := Ground.data }, { on := 0, ground := Ground.phase }, { on := 1, ground := Ground.phase }, { on := 2, ground := Ground.phase }, { on := 3, ground := Ground.phase }, { on := 4, ground := Ground.phase }, { on := 5, ground := Ground.phase }, { on := 6, ground := Ground.phase }, { on := 7, ground := Ground.phase }, { on := 8, ground := Ground.phase }, { on := 9, ground := Ground.phase }], guard := none }) rfl (fun Kt hKt => ?_) AllReadyH.nil
    go_simp
    go_wp2_with fail
    refine hKt.out _ _ (bb0 E2 I2) (fun hHeld => ?_)
    clear hKt Kt
    try simp only [Act.put, List.setIfInBounds_toArray, List.set_cons_zero, List.set_cons_succ]
    refine wpAnyH_done (by kernel_rfl) ?_ _
    go_wp2_with fail
    go_end0
    rw [RD]
    exact ⟨rfl, I2, B2.out⟩
  · by_cases k89 : e.k = 8 ∨ e.k = 9
    · have RD : s.read a e = s := by unfold RwB.read; rw [if_neg k10, if_pos k89]
      rcases k89 with k8 | k9
      · go_wp2_with fail
        go_end0
        rw [RD]
        exact ⟨rfl, I1.wide (by omega), B1.out⟩
      · go_wp2_with fail
        go_end0
        rw [RD]
        exact ⟨rfl, I1.wide (by omega), B1.out⟩
    · have k8 : e.k ≠ 8 := fun h => k89 (.inl h)
      have k9 : e.k ≠ 9 := fun h => k89 (.inr h)
      by_cases k2 : e.k = 2
      · have RD : s.read a e = { s with S := kput e.i ⟨e.y, e.i, a⟩ s.S } := by unfold RwB.read; rw [if_neg k10, if_neg k89, if_pos k2]
        go_upto_region 10 with fail
        have K2 : Aside _ := k2
        clear e0 k2
        refine wp_region_held_drew (S := (fun V : World => V.cell? ⟨X, 0, none⟩ = some (.int .i64 e.k) ∧ V.cell? ⟨X, 1, none⟩ = some (.int .i64 e.t) ∧ V.cell? ⟨X, 2, none⟩ = some (.int .i64 e.i) ∧ V.cell? ⟨X, 3, none⟩ = some (.int .u64 e.y) ∧ V.cell? ⟨X, 4, none⟩ = some (.int .u64 e.c) ∧ V.cell? ⟨X, 5, none⟩ = some (.int .u64 e.n) ∧ V.cell? ⟨R, 0, none⟩ = some (.map (some L)) ∧ V.cell? ⟨R, 1, none⟩ = some (.map (some M)))) (by kernel_rfl) (bb0 E1.drew I1.drew) (fun hHeld => ?_)
        refine wpAnyH_take (i := 0) (oi := { dst := some 48, op := Op.move (Operand.tmp 0), type := 38, pos := "bound.go:39", after := #[], guard := none }) (v := ?_) rfl (by kernel_rfl) (by kernel_rfl) (by kernel_rfl) (fun _ _ _ h => h) (Or.inl ⟨by rfl, ?_⟩) (by assumption) ?_
        rotate_left
        · (intro w hSw; (try dsimp only at hSw); go_simp; try with_reducible rfl)
        simp only [Act.put, List.setIfInBounds_toArray, List.set_cons_zero, List.set_cons_succ]
        refine wpAnyH_take (i := 1) (oi := { dst := some 49, op := Op.nilCheck (Operand.tmp 48), type := 0, pos := "bound.go:39", after := #[{ on := 0, ground := Ground.data }], guard := none }) (v := ?_) rfl (by kernel_rfl) (by kernel_rfl) (by kernel_rfl) (fun _ _ _ h => h) (Or.inl ⟨by rfl, ?_⟩) (by assumption) ?_
        rotate_left
        · (intro w hSw; (try dsimp only at hSw); go_simp; try with_reducible rfl)
        simp only [Act.put, List.setIfInBounds_toArray, List.set_cons_zero, List.set_cons_succ]
        refine wpAnyH_take (i := 2) (oi := { dst := some 50, op := Op.fieldAddr 51 (Operand.tmp 49) 0, type := 0, pos := "bound.go:39", after := #[{ on := 1, ground := Ground.data }], guard := none }) (v := ?_) rfl (by kernel_rfl) (by kernel_rfl) (by kernel_rfl) (fun _ _ _ h => h) (Or.inl ⟨by rfl, ?_⟩) (by assumption) ?_
        rotate_left
        · (intro w hSw; (try dsimp only at hSw); go_simp; try with_reducible rfl)
        simp only [Act.put, List.setIfInBounds_toArray, List.set_cons_zero, List.set_cons_succ]
        refine wpAnyH_take (i := 3) (oi := { dst := some 51, op := Op.load 48 (Operand.tmp 50), type := 48, pos := "bound.go:39", after := #[{ on := 2, ground := Ground.data }], guard := none }) (v := ?_) rfl (by kernel_rfl) (by kernel_rfl) (by kernel_rfl) (fun _ _ _ h => h) (Or.inl ⟨by rfl, ?_⟩) (by assumption) ?_
        rotate_left
        · (intro w hSw; (try dsimp only at hSw); go_simp; try with_reducible rfl)
        simp only [Act.put, List.setIfInBounds_toArray, List.set_cons_zero, List.set_cons_succ]
        refine wpAnyH_take (i := 4) (oi := { dst := some 52, op := Op.fieldAddr 25 (Operand.tmp 5) 2, type := 0, pos := "bound.go:39", after := #[], guard := none }) (v := ?_) rfl (by kernel_rfl) (by kernel_rfl) (by kernel_rfl) (fun _ _ _ h => h) (Or.inl ⟨by rfl, ?_⟩) (by assumption) ?_
        rotate_left
        · (intro w hSw; (try dsimp only at hSw); go_simp; try with_reducible rfl)
        simp only [Act.put, List.setIfInBounds_toArray, List.set_cons_zero, List.set_cons_succ]
        refine wpAnyH_take (i := 5) (oi := { dst := some 53, op := Op.load 3 (Operand.tmp 52), type := 3, pos := "bound.go:39", after := #[{ on := 4, ground := Ground.data }], guard := none }) (v := ?_) rfl (by kernel_rfl) (by kernel_rfl) (by kernel_rfl) (fun _ _ _ h => h) (Or.inl ⟨by rfl, ?_⟩) (by assumption) ?_
        rotate_left
        · (intro w hSw; (try dsimp only at hSw); go_simp; try with_reducible rfl)
        simp only [Act.put, List.setIfInBounds_toArray, List.set_cons_zero, List.set_cons_succ]
        refine wpAnyH_take (i := 6) (oi := { dst := some 54, op := Op.load 25 (Operand.tmp 5), type := 25, pos := "bound.go:39", after := #[], guard := none }) (v := ?_) rfl (by kernel_rfl) (by kernel_rfl) (by kernel_rfl) (fun _ _ _ h => h) (Or.inl ⟨by rfl, ?_⟩) (by assumption) ?_
        rotate_left
        · (intro w hSw; (try dsimp only at hSw); go_simp; try with_reducible rfl)
        simp only [Act.put, List.setIfInBounds_toArray, List.set_cons_zero, List.set_cons_succ]
        refine wpAnyH_take (i := 8) (oi := { dst := some 56, op := Op.move (Operand.tmp 1), type := 3, pos := "bound.go:39", after := #[], guard := none }) (v := ?_) rfl (by kernel_rfl) (by kernel_rfl) (by kernel_rfl) (fun _ _ _ h => h) (Or.inl ⟨by rfl, ?_⟩) (by assumption) ?_
        rotate_left
        · (intro w hSw; (try dsimp only at hSw); go_simp; try with_reducible rfl)
        simp only [Act.put, List.setIfInBounds_toArray, List.set_cons_zero, List.set_cons_succ]
        refine wpAnyH_ready (rs := [7]) (by kernel_rfl) (by simp) ?_
        refine AllReadyH.cons (o := { dst := some 55, op := Op.call { callee := Callee.value (Operand.func 24), args := #[Operand.tmp 54], argTypes := #[25] }, type := 55, pos := "bound.go:39", after := #[{ on := 6, ground := Ground.data }], guard := none }) rfl (fun Kt hKt => ?_) AllReadyH.nil
        go_simp
        have P := entryOf_any e u1.drew
        unfold evV at P
        (with_reducible refine Calls.mono P ?_)
        rintro r v1 ⟨rfl, bb⟩
        have I1 : RowB v1 R L M s c := I1.drew.below bb
        have E1 : EBx v1 X e := E1.drew.below bb
        have BV : Aside (Below N w v1) := B1.out.drew.trans (bb.mono (by have := SX.out; show N ≤ u1.heap.size; omega))
        clear bb P
        obtain ⟨v2, hr2, I2, g2⟩ := I1.putS (by have := HC.out; omega) WI.out ⟨e.y, e.i, a⟩
        have B2 : Aside (Below N w v2) := (BV.out).grown g2 (by have := SX.out; have := BV.out.size; have := HN.out.1; omega) (fun k hk => by injection hk with hk; rw [← hk]; exact HN.out.2.2.1)
        have E2 : EBx v2 X e := (E1).grown g2 XL.out
        go_wp2_with fail
        refine hKt.out _ _ (bb0 E1 I1) (fun hHeld => ?_)
        clear hKt Kt
        try simp only [Act.put, List.setIfInBounds_toArray, List.set_cons_zero, List.set_cons_succ]
        refine wpAnyH_take (i := 9) (oi := { dst := some 57, op := Op.build 58 #[(0, Operand.tmp 55), (1, Operand.tmp 56)], type := 58, pos := "bound.go:39", after := #[{ on := 7, ground := Ground.data }, { on := 8, ground := Ground.data }], guard := none }) (v := ?_) rfl (by kernel_rfl) (by kernel_rfl) (by kernel_rfl) (fun _ _ _ h => h) (Or.inl ⟨by rfl, ?_⟩) (by assumption) ?_
        rotate_left
        · (intro w hSw; (try dsimp only at hSw); go_simp; try with_reducible rfl)
        simp only [Act.put, List.setIfInBounds_toArray, List.set_cons_zero, List.set_cons_succ]
        refine wpAnyH_ready (rs := [10]) (by kernel_rfl) (by simp) ?_
        refine AllReadyH.cons (o := { dst := none, op := Op.mapUpdate 48 (Operand.tmp 51) (Operand.tmp 53) (Operand.tmp 57), type := 0, pos := "bound.go:39", after := #[{ on := 3, ground := Ground.data }, { on := 5, ground := Ground.data }, { on := 9, ground := Ground.data }, { on := 7, ground := Ground.chain }, { on := 0, ground := Ground.phase }, { on := 1, ground := Ground.phase }, { on := 2, ground := Ground.phase }, { on := 3, ground := Ground.phase }, { on := 4, ground := Ground.phase }, { on := 5, ground := Ground.phase }, { on := 6, ground := Ground.phase }, { on := 7, ground := Ground.phase }, { on := 8, ground := Ground.phase }, { on := 9, ground := Ground.phase }], guard := none }) rfl (fun Kt hKt => ?_) AllReadyH.nil
        go_simp
        go_wp2_with fail
        refine hKt.out _ _ (bb0 E2 I2) (fun hHeld => ?_)
        clear hKt Kt
        try simp only [Act.put, List.setIfInBounds_toArray, List.set_cons_zero, List.set_cons_succ]
        refine wpAnyH_done (by kernel_rfl) ?_ _
        go_wp2_with fail
        go_end0
        rw [RD]
        exact ⟨rfl, I2, B2.out⟩
      · by_cases k37 : e.k = 3 ∨ e.k = 4 ∨ e.k = 5 ∨ e.k = 6 ∨ e.k = 7
        · have RD : s.read a e = { s with S := kdel e.i s.S } := by unfold RwB.read; rw [if_neg k10, if_neg k89, if_neg k2, if_pos k37]
          obtain ⟨v2, hr2, I2, g2⟩ := I1.drew.delS WI.out
          have B2 : Aside (Below N w v2) := (B1.out.drew).grown g2 (by have := SX.out; show N ≤ u1.heap.size; omega) (fun k hk => by injection hk with hk; rw [← hk]; exact HN.out.2.2.1)
          have E2 : EBx v2 X e := (E1.drew).grown g2 XL.out
          have I2 : Aside (RowB v2 R L M { s with S := kdel e.i s.S } c) := I2
          rcases k37 with k | k | k | k | k
          · go_upto_region 16 with fail
            have I2 := I2.out
            clear e0
            refine wp_region_held_drew (S := (fun V : World => V.cell? ⟨X, 0, none⟩ = some (.int .i64 e.k) ∧ V.cell? ⟨X, 1, none⟩ = some (.int .i64 e.t) ∧ V.cell? ⟨X, 2, none⟩ = some (.int .i64 e.i) ∧ V.cell? ⟨X, 3, none⟩ = some (.int .u64 e.y) ∧ V.cell? ⟨X, 4, none⟩ = some (.int .u64 e.c) ∧ V.cell? ⟨X, 5, none⟩ = some (.int .u64 e.n) ∧ V.cell? ⟨R, 0, none⟩ = some (.map (some L)) ∧ V.cell? ⟨R, 1, none⟩ = some (.map (some M)))) (by kernel_rfl) (bb0 E1.drew I1.drew) (fun hHeld => ?_)
            refine wpAnyH_take (i := 0) (oi := { dst := some 64, op := Op.move (Operand.tmp 0), type := 38, pos := "bound.go:41", after := #[], guard := none }) (v := ?_) rfl (by kernel_rfl) (by kernel_rfl) (by kernel_rfl) (fun _ _ _ h => h) (Or.inl ⟨by rfl, ?_⟩) (by assumption) ?_
            rotate_left
            · (intro w hSw; (try dsimp only at hSw); go_simp; try with_reducible rfl)
            simp only [Act.put, List.setIfInBounds_toArray, List.set_cons_zero, List.set_cons_succ]
            refine wpAnyH_take (i := 1) (oi := { dst := some 65, op := Op.nilCheck (Operand.tmp 64), type := 0, pos := "bound.go:41", after := #[{ on := 0, ground := Ground.data }], guard := none }) (v := ?_) rfl (by kernel_rfl) (by kernel_rfl) (by kernel_rfl) (fun _ _ _ h => h) (Or.inl ⟨by rfl, ?_⟩) (by assumption) ?_
            rotate_left
            · (intro w hSw; (try dsimp only at hSw); go_simp; try with_reducible rfl)
            simp only [Act.put, List.setIfInBounds_toArray, List.set_cons_zero, List.set_cons_succ]
            refine wpAnyH_take (i := 2) (oi := { dst := some 66, op := Op.fieldAddr 51 (Operand.tmp 65) 0, type := 0, pos := "bound.go:41", after := #[{ on := 1, ground := Ground.data }], guard := none }) (v := ?_) rfl (by kernel_rfl) (by kernel_rfl) (by kernel_rfl) (fun _ _ _ h => h) (Or.inl ⟨by rfl, ?_⟩) (by assumption) ?_
            rotate_left
            · (intro w hSw; (try dsimp only at hSw); go_simp; try with_reducible rfl)
            simp only [Act.put, List.setIfInBounds_toArray, List.set_cons_zero, List.set_cons_succ]
            refine wpAnyH_take (i := 3) (oi := { dst := some 67, op := Op.load 48 (Operand.tmp 66), type := 48, pos := "bound.go:41", after := #[{ on := 2, ground := Ground.data }], guard := none }) (v := ?_) rfl (by kernel_rfl) (by kernel_rfl) (by kernel_rfl) (fun _ _ _ h => h) (Or.inl ⟨by rfl, ?_⟩) (by assumption) ?_
            rotate_left
            · (intro w hSw; (try dsimp only at hSw); go_simp; try with_reducible rfl)
            simp only [Act.put, List.setIfInBounds_toArray, List.set_cons_zero, List.set_cons_succ]
            refine wpAnyH_take (i := 4) (oi := { dst := some 68, op := Op.fieldAddr 25 (Operand.tmp 5) 2, type := 0, pos := "bound.go:41", after := #[], guard := none }) (v := ?_) rfl (by kernel_rfl) (by kernel_rfl) (by kernel_rfl) (fun _ _ _ h => h) (Or.inl ⟨by rfl, ?_⟩) (by assumption) ?_
            rotate_left
            · (intro w hSw; (try dsimp only at hSw); go_simp; try with_reducible rfl)
            simp only [Act.put, List.setIfInBounds_toArray, List.set_cons_zero, List.set_cons_succ]
            refine wpAnyH_take (i := 5) (oi := { dst := some 69, op := Op.load 3 (Operand.tmp 68), type := 3, pos := "bound.go:41", after := #[{ on := 4, ground := Ground.data }], guard := none }) (v := ?_) rfl (by kernel_rfl) (by kernel_rfl) (by kernel_rfl) (fun _ _ _ h => h) (Or.inl ⟨by rfl, ?_⟩) (by assumption) ?_
            rotate_left
            · (intro w hSw; (try dsimp only at hSw); go_simp; try with_reducible rfl)
            simp only [Act.put, List.setIfInBounds_toArray, List.set_cons_zero, List.set_cons_succ]
            refine wpAnyH_ready (rs := [6]) (by kernel_rfl) (by simp) ?_
            refine AllReadyH.cons (o := { dst := none, op := Op.call { callee := Callee.builtin Builtin.delete, args := #[Operand.tmp 67, Operand.tmp 69], argTypes := #[48, 3] }, type := 0, pos := "bound.go:41", after := #[{ on := 3, ground := Ground.data }, { on := 5, ground := Ground.data }], guard := none }) rfl (fun Kt hKt => ?_) AllReadyH.nil
            go_simp
            go_wp2_with fail
            refine hKt.out _ _ (bb0 E2 I2) (fun hHeld => ?_)
            clear hKt Kt
            try simp only [Act.put, List.setIfInBounds_toArray, List.set_cons_zero, List.set_cons_succ]
            refine wpAnyH_done (by kernel_rfl) ?_ _
            go_wp2_with fail
            go_end0
            rw [RD]
            exact ⟨rfl, I2.wide (by omega), B2.out⟩
          · go_upto_region 16 with fail
            have I2 := I2.out
            clear e0
            refine wp_region_held_drew (S := (fun V : World => V.cell? ⟨X, 0, none⟩ = some (.int .i64 e.k) ∧ V.cell? ⟨X, 1, none⟩ = some (.int .i64 e.t) ∧ V.cell? ⟨X, 2, none⟩ = some (.int .i64 e.i) ∧ V.cell? ⟨X, 3, none⟩ = some (.int .u64 e.y) ∧ V.cell? ⟨X, 4, none⟩ = some (.int .u64 e.c) ∧ V.cell? ⟨X, 5, none⟩ = some (.int .u64 e.n) ∧ V.cell? ⟨R, 0, none⟩ = some (.map (some L)) ∧ V.cell? ⟨R, 1, none⟩ = some (.map (some M)))) (by kernel_rfl) (bb0 E1.drew I1.drew) (fun hHeld => ?_)
            refine wpAnyH_take (i := 0) (oi := { dst := some 64, op := Op.move (Operand.tmp 0), type := 38, pos := "bound.go:41", after := #[], guard := none }) (v := ?_) rfl (by kernel_rfl) (by kernel_rfl) (by kernel_rfl) (fun _ _ _ h => h) (Or.inl ⟨by rfl, ?_⟩) (by assumption) ?_
            rotate_left
            · (intro w hSw; (try dsimp only at hSw); go_simp; try with_reducible rfl)
            simp only [Act.put, List.setIfInBounds_toArray, List.set_cons_zero, List.set_cons_succ]
            refine wpAnyH_take (i := 1) (oi := { dst := some 65, op := Op.nilCheck (Operand.tmp 64), type := 0, pos := "bound.go:41", after := #[{ on := 0, ground := Ground.data }], guard := none }) (v := ?_) rfl (by kernel_rfl) (by kernel_rfl) (by kernel_rfl) (fun _ _ _ h => h) (Or.inl ⟨by rfl, ?_⟩) (by assumption) ?_
            rotate_left
            · (intro w hSw; (try dsimp only at hSw); go_simp; try with_reducible rfl)
            simp only [Act.put, List.setIfInBounds_toArray, List.set_cons_zero, List.set_cons_succ]
            refine wpAnyH_take (i := 2) (oi := { dst := some 66, op := Op.fieldAddr 51 (Operand.tmp 65) 0, type := 0, pos := "bound.go:41", after := #[{ on := 1, ground := Ground.data }], guard := none }) (v := ?_) rfl (by kernel_rfl) (by kernel_rfl) (by kernel_rfl) (fun _ _ _ h => h) (Or.inl ⟨by rfl, ?_⟩) (by assumption) ?_
            rotate_left
            · (intro w hSw; (try dsimp only at hSw); go_simp; try with_reducible rfl)
            simp only [Act.put, List.setIfInBounds_toArray, List.set_cons_zero, List.set_cons_succ]
            refine wpAnyH_take (i := 3) (oi := { dst := some 67, op := Op.load 48 (Operand.tmp 66), type := 48, pos := "bound.go:41", after := #[{ on := 2, ground := Ground.data }], guard := none }) (v := ?_) rfl (by kernel_rfl) (by kernel_rfl) (by kernel_rfl) (fun _ _ _ h => h) (Or.inl ⟨by rfl, ?_⟩) (by assumption) ?_
            rotate_left
            · (intro w hSw; (try dsimp only at hSw); go_simp; try with_reducible rfl)
            simp only [Act.put, List.setIfInBounds_toArray, List.set_cons_zero, List.set_cons_succ]
            refine wpAnyH_take (i := 4) (oi := { dst := some 68, op := Op.fieldAddr 25 (Operand.tmp 5) 2, type := 0, pos := "bound.go:41", after := #[], guard := none }) (v := ?_) rfl (by kernel_rfl) (by kernel_rfl) (by kernel_rfl) (fun _ _ _ h => h) (Or.inl ⟨by rfl, ?_⟩) (by assumption) ?_
            rotate_left
            · (intro w hSw; (try dsimp only at hSw); go_simp; try with_reducible rfl)
            simp only [Act.put, List.setIfInBounds_toArray, List.set_cons_zero, List.set_cons_succ]
            refine wpAnyH_take (i := 5) (oi := { dst := some 69, op := Op.load 3 (Operand.tmp 68), type := 3, pos := "bound.go:41", after := #[{ on := 4, ground := Ground.data }], guard := none }) (v := ?_) rfl (by kernel_rfl) (by kernel_rfl) (by kernel_rfl) (fun _ _ _ h => h) (Or.inl ⟨by rfl, ?_⟩) (by assumption) ?_
            rotate_left
            · (intro w hSw; (try dsimp only at hSw); go_simp; try with_reducible rfl)
            simp only [Act.put, List.setIfInBounds_toArray, List.set_cons_zero, List.set_cons_succ]
            refine wpAnyH_ready (rs := [6]) (by kernel_rfl) (by simp) ?_
            refine AllReadyH.cons (o := { dst := none, op := Op.call { callee := Callee.builtin Builtin.delete, args := #[Operand.tmp 67, Operand.tmp 69], argTypes := #[48, 3] }, type := 0, pos := "bound.go:41", after := #[{ on := 3, ground := Ground.data }, { on := 5, ground := Ground.data }], guard := none }) rfl (fun Kt hKt => ?_) AllReadyH.nil
            go_simp
            go_wp2_with fail
            refine hKt.out _ _ (bb0 E2 I2) (fun hHeld => ?_)
            clear hKt Kt
            try simp only [Act.put, List.setIfInBounds_toArray, List.set_cons_zero, List.set_cons_succ]
            refine wpAnyH_done (by kernel_rfl) ?_ _
            go_wp2_with fail
            go_end0
            rw [RD]
            exact ⟨rfl, I2.wide (by omega), B2.out⟩
          · go_upto_region 16 with fail
            have I2 := I2.out
            clear e0
            refine wp_region_held_drew (S := (fun V : World => V.cell? ⟨X, 0, none⟩ = some (.int .i64 e.k) ∧ V.cell? ⟨X, 1, none⟩ = some (.int .i64 e.t) ∧ V.cell? ⟨X, 2, none⟩ = some (.int .i64 e.i) ∧ V.cell? ⟨X, 3, none⟩ = some (.int .u64 e.y) ∧ V.cell? ⟨X, 4, none⟩ = some (.int .u64 e.c) ∧ V.cell? ⟨X, 5, none⟩ = some (.int .u64 e.n) ∧ V.cell? ⟨R, 0, none⟩ = some (.map (some L)) ∧ V.cell? ⟨R, 1, none⟩ = some (.map (some M)))) (by kernel_rfl) (bb0 E1.drew I1.drew) (fun hHeld => ?_)
            refine wpAnyH_take (i := 0) (oi := { dst := some 64, op := Op.move (Operand.tmp 0), type := 38, pos := "bound.go:41", after := #[], guard := none }) (v := ?_) rfl (by kernel_rfl) (by kernel_rfl) (by kernel_rfl) (fun _ _ _ h => h) (Or.inl ⟨by rfl, ?_⟩) (by assumption) ?_
            rotate_left
            · (intro w hSw; (try dsimp only at hSw); go_simp; try with_reducible rfl)
            simp only [Act.put, List.setIfInBounds_toArray, List.set_cons_zero, List.set_cons_succ]
            refine wpAnyH_take (i := 1) (oi := { dst := some 65, op := Op.nilCheck (Operand.tmp 64), type := 0, pos := "bound.go:41", after := #[{ on := 0, ground := Ground.data }], guard := none }) (v := ?_) rfl (by kernel_rfl) (by kernel_rfl) (by kernel_rfl) (fun _ _ _ h => h) (Or.inl ⟨by rfl, ?_⟩) (by assumption) ?_
            rotate_left
            · (intro w hSw; (try dsimp only at hSw); go_simp; try with_reducible rfl)
            simp only [Act.put, List.setIfInBounds_toArray, List.set_cons_zero, List.set_cons_succ]
            refine wpAnyH_take (i := 2) (oi := { dst := some 66, op := Op.fieldAddr 51 (Operand.tmp 65) 0, type := 0, pos := "bound.go:41", after := #[{ on := 1, ground := Ground.data }], guard := none }) (v := ?_) rfl (by kernel_rfl) (by kernel_rfl) (by kernel_rfl) (fun _ _ _ h => h) (Or.inl ⟨by rfl, ?_⟩) (by assumption) ?_
            rotate_left
            · (intro w hSw; (try dsimp only at hSw); go_simp; try with_reducible rfl)
            simp only [Act.put, List.setIfInBounds_toArray, List.set_cons_zero, List.set_cons_succ]
            refine wpAnyH_take (i := 3) (oi := { dst := some 67, op := Op.load 48 (Operand.tmp 66), type := 48, pos := "bound.go:41", after := #[{ on := 2, ground := Ground.data }], guard := none }) (v := ?_) rfl (by kernel_rfl) (by kernel_rfl) (by kernel_rfl) (fun _ _ _ h => h) (Or.inl ⟨by rfl, ?_⟩) (by assumption) ?_
            rotate_left
            · (intro w hSw; (try dsimp only at hSw); go_simp; try with_reducible rfl)
            simp only [Act.put, List.setIfInBounds_toArray, List.set_cons_zero, List.set_cons_succ]
            refine wpAnyH_take (i := 4) (oi := { dst := some 68, op := Op.fieldAddr 25 (Operand.tmp 5) 2, type := 0, pos := "bound.go:41", after := #[], guard := none }) (v := ?_) rfl (by kernel_rfl) (by kernel_rfl) (by kernel_rfl) (fun _ _ _ h => h) (Or.inl ⟨by rfl, ?_⟩) (by assumption) ?_
            rotate_left
            · (intro w hSw; (try dsimp only at hSw); go_simp; try with_reducible rfl)
            simp only [Act.put, List.setIfInBounds_toArray, List.set_cons_zero, List.set_cons_succ]
            refine wpAnyH_take (i := 5) (oi := { dst := some 69, op := Op.load 3 (Operand.tmp 68), type := 3, pos := "bound.go:41", after := #[{ on := 4, ground := Ground.data }], guard := none }) (v := ?_) rfl (by kernel_rfl) (by kernel_rfl) (by kernel_rfl) (fun _ _ _ h => h) (Or.inl ⟨by rfl, ?_⟩) (by assumption) ?_
            rotate_left
            · (intro w hSw; (try dsimp only at hSw); go_simp; try with_reducible rfl)
            simp only [Act.put, List.setIfInBounds_toArray, List.set_cons_zero, List.set_cons_succ]
            refine wpAnyH_ready (rs := [6]) (by kernel_rfl) (by simp) ?_
            refine AllReadyH.cons (o := { dst := none, op := Op.call { callee := Callee.builtin Builtin.delete, args := #[Operand.tmp 67, Operand.tmp 69], argTypes := #[48, 3] }, type := 0, pos := "bound.go:41", after := #[{ on := 3, ground := Ground.data }, { on := 5, ground := Ground.data }], guard := none }) rfl (fun Kt hKt => ?_) AllReadyH.nil
            go_simp
            go_wp2_with fail
            refine hKt.out _ _ (bb0 E2 I2) (fun hHeld => ?_)
            clear hKt Kt
            try simp only [Act.put, List.setIfInBounds_toArray, List.set_cons_zero, List.set_cons_succ]
            refine wpAnyH_done (by kernel_rfl) ?_ _
            go_wp2_with fail
            go_end0
            rw [RD]
            exact ⟨rfl, I2.wide (by omega), B2.out⟩
          · go_upto_region 16 with fail
            have I2 := I2.out
            clear e0
            refine wp_region_held_drew (S := (fun V : World => V.cell? ⟨X, 0, none⟩ = some (.int .i64 e.k) ∧ V.cell? ⟨X, 1, none⟩ = some (.int .i64 e.t) ∧ V.cell? ⟨X, 2, none⟩ = some (.int .i64 e.i) ∧ V.cell? ⟨X, 3, none⟩ = some (.int .u64 e.y) ∧ V.cell? ⟨X, 4, none⟩ = some (.int .u64 e.c) ∧ V.cell? ⟨X, 5, none⟩ = some (.int .u64 e.n) ∧ V.cell? ⟨R, 0, none⟩ = some (.map (some L)) ∧ V.cell? ⟨R, 1, none⟩ = some (.map (some M)))) (by kernel_rfl) (bb0 E1.drew I1.drew) (fun hHeld => ?_)
            refine wpAnyH_take (i := 0) (oi := { dst := some 64, op := Op.move (Operand.tmp 0), type := 38, pos := "bound.go:41", after := #[], guard := none }) (v := ?_) rfl (by kernel_rfl) (by kernel_rfl) (by kernel_rfl) (fun _ _ _ h => h) (Or.inl ⟨by rfl, ?_⟩) (by assumption) ?_
            rotate_left
            · (intro w hSw; (try dsimp only at hSw); go_simp; try with_reducible rfl)
            simp only [Act.put, List.setIfInBounds_toArray, List.set_cons_zero, List.set_cons_succ]
            refine wpAnyH_take (i := 1) (oi := { dst := some 65, op := Op.nilCheck (Operand.tmp 64), type := 0, pos := "bound.go:41", after := #[{ on := 0, ground := Ground.data }], guard := none }) (v := ?_) rfl (by kernel_rfl) (by kernel_rfl) (by kernel_rfl) (fun _ _ _ h => h) (Or.inl ⟨by rfl, ?_⟩) (by assumption) ?_
            rotate_left
            · (intro w hSw; (try dsimp only at hSw); go_simp; try with_reducible rfl)
            simp only [Act.put, List.setIfInBounds_toArray, List.set_cons_zero, List.set_cons_succ]
            refine wpAnyH_take (i := 2) (oi := { dst := some 66, op := Op.fieldAddr 51 (Operand.tmp 65) 0, type := 0, pos := "bound.go:41", after := #[{ on := 1, ground := Ground.data }], guard := none }) (v := ?_) rfl (by kernel_rfl) (by kernel_rfl) (by kernel_rfl) (fun _ _ _ h => h) (Or.inl ⟨by rfl, ?_⟩) (by assumption) ?_
            rotate_left
            · (intro w hSw; (try dsimp only at hSw); go_simp; try with_reducible rfl)
            simp only [Act.put, List.setIfInBounds_toArray, List.set_cons_zero, List.set_cons_succ]
            refine wpAnyH_take (i := 3) (oi := { dst := some 67, op := Op.load 48 (Operand.tmp 66), type := 48, pos := "bound.go:41", after := #[{ on := 2, ground := Ground.data }], guard := none }) (v := ?_) rfl (by kernel_rfl) (by kernel_rfl) (by kernel_rfl) (fun _ _ _ h => h) (Or.inl ⟨by rfl, ?_⟩) (by assumption) ?_
            rotate_left
            · (intro w hSw; (try dsimp only at hSw); go_simp; try with_reducible rfl)
            simp only [Act.put, List.setIfInBounds_toArray, List.set_cons_zero, List.set_cons_succ]
            refine wpAnyH_take (i := 4) (oi := { dst := some 68, op := Op.fieldAddr 25 (Operand.tmp 5) 2, type := 0, pos := "bound.go:41", after := #[], guard := none }) (v := ?_) rfl (by kernel_rfl) (by kernel_rfl) (by kernel_rfl) (fun _ _ _ h => h) (Or.inl ⟨by rfl, ?_⟩) (by assumption) ?_
            rotate_left
            · (intro w hSw; (try dsimp only at hSw); go_simp; try with_reducible rfl)
            simp only [Act.put, List.setIfInBounds_toArray, List.set_cons_zero, List.set_cons_succ]
            refine wpAnyH_take (i := 5) (oi := { dst := some 69, op := Op.load 3 (Operand.tmp 68), type := 3, pos := "bound.go:41", after := #[{ on := 4, ground := Ground.data }], guard := none }) (v := ?_) rfl (by kernel_rfl) (by kernel_rfl) (by kernel_rfl) (fun _ _ _ h => h) (Or.inl ⟨by rfl, ?_⟩) (by assumption) ?_
            rotate_left
            · (intro w hSw; (try dsimp only at hSw); go_simp; try with_reducible rfl)
            simp only [Act.put, List.setIfInBounds_toArray, List.set_cons_zero, List.set_cons_succ]
            refine wpAnyH_ready (rs := [6]) (by kernel_rfl) (by simp) ?_
            refine AllReadyH.cons (o := { dst := none, op := Op.call { callee := Callee.builtin Builtin.delete, args := #[Operand.tmp 67, Operand.tmp 69], argTypes := #[48, 3] }, type := 0, pos := "bound.go:41", after := #[{ on := 3, ground := Ground.data }, { on := 5, ground := Ground.data }], guard := none }) rfl (fun Kt hKt => ?_) AllReadyH.nil
            go_simp
            go_wp2_with fail
            refine hKt.out _ _ (bb0 E2 I2) (fun hHeld => ?_)
            clear hKt Kt
            try simp only [Act.put, List.setIfInBounds_toArray, List.set_cons_zero, List.set_cons_succ]
            refine wpAnyH_done (by kernel_rfl) ?_ _
            go_wp2_with fail
            go_end0
            rw [RD]
            exact ⟨rfl, I2.wide (by omega), B2.out⟩
          · go_upto_region 16 with fail
            have I2 := I2.out
            clear e0
            refine wp_region_held_drew (S := (fun V : World => V.cell? ⟨X, 0, none⟩ = some (.int .i64 e.k) ∧ V.cell? ⟨X, 1, none⟩ = some (.int .i64 e.t) ∧ V.cell? ⟨X, 2, none⟩ = some (.int .i64 e.i) ∧ V.cell? ⟨X, 3, none⟩ = some (.int .u64 e.y) ∧ V.cell? ⟨X, 4, none⟩ = some (.int .u64 e.c) ∧ V.cell? ⟨X, 5, none⟩ = some (.int .u64 e.n) ∧ V.cell? ⟨R, 0, none⟩ = some (.map (some L)) ∧ V.cell? ⟨R, 1, none⟩ = some (.map (some M)))) (by kernel_rfl) (bb0 E1.drew I1.drew) (fun hHeld => ?_)
            refine wpAnyH_take (i := 0) (oi := { dst := some 64, op := Op.move (Operand.tmp 0), type := 38, pos := "bound.go:41", after := #[], guard := none }) (v := ?_) rfl (by kernel_rfl) (by kernel_rfl) (by kernel_rfl) (fun _ _ _ h => h) (Or.inl ⟨by rfl, ?_⟩) (by assumption) ?_
            rotate_left
            · (intro w hSw; (try dsimp only at hSw); go_simp; try with_reducible rfl)
            simp only [Act.put, List.setIfInBounds_toArray, List.set_cons_zero, List.set_cons_succ]
            refine wpAnyH_take (i := 1) (oi := { dst := some 65, op := Op.nilCheck (Operand.tmp 64), type := 0, pos := "bound.go:41", after := #[{ on := 0, ground := Ground.data }], guard := none }) (v := ?_) rfl (by kernel_rfl) (by kernel_rfl) (by kernel_rfl) (fun _ _ _ h => h) (Or.inl ⟨by rfl, ?_⟩) (by assumption) ?_
            rotate_left
            · (intro w hSw; (try dsimp only at hSw); go_simp; try with_reducible rfl)
            simp only [Act.put, List.setIfInBounds_toArray, List.set_cons_zero, List.set_cons_succ]
            refine wpAnyH_take (i := 2) (oi := { dst := some 66, op := Op.fieldAddr 51 (Operand.tmp 65) 0, type := 0, pos := "bound.go:41", after := #[{ on := 1, ground := Ground.data }], guard := none }) (v := ?_) rfl (by kernel_rfl) (by kernel_rfl) (by kernel_rfl) (fun _ _ _ h => h) (Or.inl ⟨by rfl, ?_⟩) (by assumption) ?_
            rotate_left
            · (intro w hSw; (try dsimp only at hSw); go_simp; try with_reducible rfl)
            simp only [Act.put, List.setIfInBounds_toArray, List.set_cons_zero, List.set_cons_succ]
            refine wpAnyH_take (i := 3) (oi := { dst := some 67, op := Op.load 48 (Operand.tmp 66), type := 48, pos := "bound.go:41", after := #[{ on := 2, ground := Ground.data }], guard := none }) (v := ?_) rfl (by kernel_rfl) (by kernel_rfl) (by kernel_rfl) (fun _ _ _ h => h) (Or.inl ⟨by rfl, ?_⟩) (by assumption) ?_
            rotate_left
            · (intro w hSw; (try dsimp only at hSw); go_simp; try with_reducible rfl)
            simp only [Act.put, List.setIfInBounds_toArray, List.set_cons_zero, List.set_cons_succ]
            refine wpAnyH_take (i := 4) (oi := { dst := some 68, op := Op.fieldAddr 25 (Operand.tmp 5) 2, type := 0, pos := "bound.go:41", after := #[], guard := none }) (v := ?_) rfl (by kernel_rfl) (by kernel_rfl) (by kernel_rfl) (fun _ _ _ h => h) (Or.inl ⟨by rfl, ?_⟩) (by assumption) ?_
            rotate_left
            · (intro w hSw; (try dsimp only at hSw); go_simp; try with_reducible rfl)
            simp only [Act.put, List.setIfInBounds_toArray, List.set_cons_zero, List.set_cons_succ]
            refine wpAnyH_take (i := 5) (oi := { dst := some 69, op := Op.load 3 (Operand.tmp 68), type := 3, pos := "bound.go:41", after := #[{ on := 4, ground := Ground.data }], guard := none }) (v := ?_) rfl (by kernel_rfl) (by kernel_rfl) (by kernel_rfl) (fun _ _ _ h => h) (Or.inl ⟨by rfl, ?_⟩) (by assumption) ?_
            rotate_left
            · (intro w hSw; (try dsimp only at hSw); go_simp; try with_reducible rfl)
            simp only [Act.put, List.setIfInBounds_toArray, List.set_cons_zero, List.set_cons_succ]
            refine wpAnyH_ready (rs := [6]) (by kernel_rfl) (by simp) ?_
            refine AllReadyH.cons (o := { dst := none, op := Op.call { callee := Callee.builtin Builtin.delete, args := #[Operand.tmp 67, Operand.tmp 69], argTypes := #[48, 3] }, type := 0, pos := "bound.go:41", after := #[{ on := 3, ground := Ground.data }, { on := 5, ground := Ground.data }], guard := none }) rfl (fun Kt hKt => ?_) AllReadyH.nil
            go_simp
            go_wp2_with fail
            refine hKt.out _ _ (bb0 E2 I2) (fun hHeld => ?_)
            clear hKt Kt
            try simp only [Act.put, List.setIfInBounds_toArray, List.set_cons_zero, List.set_cons_succ]
            refine wpAnyH_done (by kernel_rfl) ?_ _
            go_wp2_with fail
            go_end0
            rw [RD]
            exact ⟨rfl, I2.wide (by omega), B2.out⟩
        · have n3 : e.k ≠ 3 := fun h => k37 (.inl h)
          have n4 : e.k ≠ 4 := fun h => k37 (.inr (.inl h))
          have n5 : e.k ≠ 5 := fun h => k37 (.inr (.inr (.inl h)))
          have n6 : e.k ≠ 6 := fun h => k37 (.inr (.inr (.inr (.inl h))))
          have n7 : e.k ≠ 7 := fun h => k37 (.inr (.inr (.inr (.inr h))))
          have RD : s.read a e = s.turn a e := by unfold RwB.read; rw [if_neg k10, if_neg k89, if_neg k2, if_neg k37]
          obtain ⟨W0, D0, hq⟩ : ∃ (x : WtR) (b : Bool), kget e.i s.S = none ∧ b = false ∨ kget e.i s.S = some x ∧ b = true := by
            cases hk : kget e.i s.S with
            | none => exact ⟨⟨0, 0, 0⟩, false, .inl ⟨rfl, rfl⟩⟩
            | some x => exact ⟨x, true, .inr ⟨rfl, rfl⟩⟩
          have LQ : ∃ (y : Nat) (i z : Int), (D0 = true → W0 = ⟨y, i, z⟩) ∧ ∀ V : World, RowB V R L M s c → (Instr.lookup 48 (.map (some L)) (.int .i64 e.i) true).run Try.prog V = .ok (.tuple #[.agg #[.int .u64 y, .int .i64 i, .int .i64 z], .bool D0]) V := by
            rcases hq with ⟨h1, h2⟩ | ⟨h1, h2⟩
            · refine ⟨0, 0, 0, fun h => (by rw [h2] at h; cases h), fun V h => ?_⟩
              have := h.lookS WI.out
              rw [h1] at this
              rw [h2]
              exact this
            · refine ⟨W0.y, W0.i, W0.s, fun _ => rfl, fun V h => ?_⟩
              have := h.lookS WI.out
              rw [h1] at this
              rw [h2]
              exact this
          obtain ⟨y, i, z, hw0, LK⟩ := LQ
          have QQ : Aside _ := hq
          have HW : Aside _ := hw0
          have LK : Aside _ := LK
          have BB : Aside (Below u1.heap.size u1 u1) := Below.refl _ _
          clear hq hw0
          go_upto_region 2 with fail
          clear e0
          refine wp_region_held_drew (S := (fun V : World => (V.cell? ⟨X, 0, none⟩ = some (.int .i64 e.k) ∧ V.cell? ⟨X, 1, none⟩ = some (.int .i64 e.t) ∧ V.cell? ⟨X, 2, none⟩ = some (.int .i64 e.i) ∧ V.cell? ⟨X, 3, none⟩ = some (.int .u64 e.y) ∧ V.cell? ⟨X, 4, none⟩ = some (.int .u64 e.c) ∧ V.cell? ⟨X, 5, none⟩ = some (.int .u64 e.n) ∧ V.cell? ⟨R, 0, none⟩ = some (.map (some L)) ∧ V.cell? ⟨R, 1, none⟩ = some (.map (some M))) ∧ (Instr.lookup 48 (.map (some L)) (.int .i64 e.i) true).run Try.prog V = .ok (.tuple #[.agg #[.int .u64 y, .int .i64 i, .int .i64 z], .bool D0]) V)) (by kernel_rfl) (⟨bb0 E1.drew I1.drew, LK.out _ I1.drew⟩) (fun hHeld => ?_)
          refine wpAnyH_take (i := 0) (oi := { dst := some 11, op := Op.move (Operand.tmp 0), type := 38, pos := "bound.go:43", after := #[], guard := none }) (v := ?_) rfl (by kernel_rfl) (by kernel_rfl) (by kernel_rfl) (fun _ _ _ h => h) (Or.inl ⟨by rfl, ?_⟩) (by assumption) ?_
          rotate_left
          · (intro w hSw; (try dsimp only at hSw); go_simp; try with_reducible rfl)
          simp only [Act.put, List.setIfInBounds_toArray, List.set_cons_zero, List.set_cons_succ]
          refine wpAnyH_take (i := 1) (oi := { dst := some 12, op := Op.nilCheck (Operand.tmp 11), type := 0, pos := "bound.go:43", after := #[{ on := 0, ground := Ground.data }], guard := none }) (v := ?_) rfl (by kernel_rfl) (by kernel_rfl) (by kernel_rfl) (fun _ _ _ h => h) (Or.inl ⟨by rfl, ?_⟩) (by assumption) ?_
          rotate_left
          · (intro w hSw; (try dsimp only at hSw); go_simp; try with_reducible rfl)
          simp only [Act.put, List.setIfInBounds_toArray, List.set_cons_zero, List.set_cons_succ]
          refine wpAnyH_take (i := 2) (oi := { dst := some 13, op := Op.fieldAddr 51 (Operand.tmp 12) 0, type := 0, pos := "bound.go:43", after := #[{ on := 1, ground := Ground.data }], guard := none }) (v := ?_) rfl (by kernel_rfl) (by kernel_rfl) (by kernel_rfl) (fun _ _ _ h => h) (Or.inl ⟨by rfl, ?_⟩) (by assumption) ?_
          rotate_left
          · (intro w hSw; (try dsimp only at hSw); go_simp; try with_reducible rfl)
          simp only [Act.put, List.setIfInBounds_toArray, List.set_cons_zero, List.set_cons_succ]
          refine wpAnyH_take (i := 3) (oi := { dst := some 14, op := Op.load 48 (Operand.tmp 13), type := 48, pos := "bound.go:43", after := #[{ on := 2, ground := Ground.data }], guard := none }) (v := ?_) rfl (by kernel_rfl) (by kernel_rfl) (by kernel_rfl) (fun _ _ _ h => h) (Or.inl ⟨by rfl, ?_⟩) (by assumption) ?_
          rotate_left
          · (intro w hSw; (try dsimp only at hSw); go_simp; try with_reducible rfl)
          simp only [Act.put, List.setIfInBounds_toArray, List.set_cons_zero, List.set_cons_succ]
          refine wpAnyH_take (i := 4) (oi := { dst := some 15, op := Op.fieldAddr 25 (Operand.tmp 5) 2, type := 0, pos := "bound.go:43", after := #[], guard := none }) (v := ?_) rfl (by kernel_rfl) (by kernel_rfl) (by kernel_rfl) (fun _ _ _ h => h) (Or.inl ⟨by rfl, ?_⟩) (by assumption) ?_
          rotate_left
          · (intro w hSw; (try dsimp only at hSw); go_simp; try with_reducible rfl)
          simp only [Act.put, List.setIfInBounds_toArray, List.set_cons_zero, List.set_cons_succ]
          refine wpAnyH_take (i := 5) (oi := { dst := some 16, op := Op.load 3 (Operand.tmp 15), type := 3, pos := "bound.go:43", after := #[{ on := 4, ground := Ground.data }], guard := none }) (v := ?_) rfl (by kernel_rfl) (by kernel_rfl) (by kernel_rfl) (fun _ _ _ h => h) (Or.inl ⟨by rfl, ?_⟩) (by assumption) ?_
          rotate_left
          · (intro w hSw; (try dsimp only at hSw); go_simp; try with_reducible rfl)
          simp only [Act.put, List.setIfInBounds_toArray, List.set_cons_zero, List.set_cons_succ]
          refine wpAnyH_take (i := 6) (oi := { dst := some 17, op := Op.lookup 48 (Operand.tmp 14) (Operand.tmp 16) true, type := 59, pos := "bound.go:43", after := #[{ on := 3, ground := Ground.data }, { on := 5, ground := Ground.data }], guard := none }) (v := ?_) rfl (by kernel_rfl) (by kernel_rfl) (by kernel_rfl) (fun _ _ _ h => h) (Or.inl ⟨by rfl, ?_⟩) (by assumption) ?_
          rotate_left
          · (intro w hSw; (try dsimp only at hSw); go_simp; try with_reducible rfl)
          simp only [Act.put, List.setIfInBounds_toArray, List.set_cons_zero, List.set_cons_succ]
          refine wpAnyH_take (i := 7) (oi := { dst := some 10, op := Op.move (Operand.tmp 17), type := 59, pos := "bound.go:43", after := #[{ on := 6, ground := Ground.data }], guard := none }) (v := ?_) rfl (by kernel_rfl) (by kernel_rfl) (by kernel_rfl) (fun _ _ _ h => h) (Or.inl ⟨by rfl, ?_⟩) (by assumption) ?_
          rotate_left
          · (intro w hSw; (try dsimp only at hSw); go_simp; try with_reducible rfl)
          simp only [Act.put, List.setIfInBounds_toArray, List.set_cons_zero, List.set_cons_succ]
          refine wpAnyH_take (i := 8) (oi := { dst := some 18, op := Op.extract (Operand.tmp 10) 0, type := 58, pos := "bound.go:43", after := #[{ on := 7, ground := Ground.data }], guard := none }) (v := ?_) rfl (by kernel_rfl) (by kernel_rfl) (by kernel_rfl) (fun _ _ _ h => h) (Or.inl ⟨by rfl, ?_⟩) (by assumption) ?_
          rotate_left
          · (intro w hSw; (try dsimp only at hSw); go_simp; try with_reducible rfl)
          simp only [Act.put, List.setIfInBounds_toArray, List.set_cons_zero, List.set_cons_succ]
          refine wpAnyH_take (i := 9) (oi := { dst := some 19, op := Op.extract (Operand.tmp 10) 1, type := 4, pos := "bound.go:43", after := #[{ on := 7, ground := Ground.data }, { on := 11, ground := Ground.gcOnly Departure.lateStores }], guard := none }) (v := ?_) rfl (by kernel_rfl) (by kernel_rfl) (by kernel_rfl) (fun _ _ _ h => h) (Or.inl ⟨by rfl, ?_⟩) (by assumption) ?_
          rotate_left
          · (intro w hSw; (try dsimp only at hSw); go_simp; try with_reducible rfl)
          simp only [Act.put, List.setIfInBounds_toArray, List.set_cons_zero, List.set_cons_succ]
          refine wpAnyH_ready (rs := [10]) (by kernel_rfl) (by simp) ?_
          refine AllReadyH.cons (o := { dst := some 6, op := Op.alloc 58, type := 0, pos := "bound.go:43", after := #[], guard := none }) rfl (fun Kt hKt => ?_) AllReadyH.nil
          go_simp
          obtain ⟨T, hT⟩ : ∃ M, u1.heap.size = M := ⟨_, rfl⟩
          have HT : Aside _ := hT
          obtain ⟨v1, hv1⟩ : ∃ q, (u1.alloc (.cells #[.int .u64 0, .int .i64 0, .int .i64 0] 58)).drew = q := ⟨_, rfl⟩
          have b2 : Below u1.heap.size u1 v1 := by rw [← hv1]; exact (bel1 _ _).drew
          have tb : v1.heap[T]? = some (.cells #[.int .u64 0, .int .i64 0, .int .i64 0] 58 (0, 0)) := by rw [← hv1, ← hT]; exact heap_alloc_new _ _
          have t0 : v1.cell? ⟨T, 0, none⟩ = some (.int .u64 0) := by rw [cell_of_row _ _ _ _ _ _ tb]; rfl
          have t1 : v1.cell? ⟨T, 1, none⟩ = some (.int .i64 0) := by rw [cell_of_row _ _ _ _ _ _ tb]; rfl
          have t2 : v1.cell? ⟨T, 2, none⟩ = some (.int .i64 0) := by rw [cell_of_row _ _ _ _ _ _ tb]; rfl
          have tfz : ∀ o, v1.frozen? ⟨T, o, none⟩ = false := (fun o => by simp [World.frozen?, tb])
          have HTL : Aside (u1.heap.size ≤ T) := by show _ ≤ _; rw [← hT]; exact Nat.le_refl _
          have BB : Aside (Below u1.heap.size u1 v1) := b2
          have HV1 : Aside _ := hv1
          clear hT hv1 b2
          go_wp2_with fail
          rw [HT.out]
          rw [HV1.out]
          refine hKt.out _ _ (⟨bb0 (E1.below BB.out) (I1.below BB.out), LK.out _ (I1.below BB.out)⟩) (fun hHeld => ?_)
          clear hKt Kt
          try simp only [Act.put, List.setIfInBounds_toArray, List.set_cons_zero, List.set_cons_succ]
          refine wpAnyH_ready (rs := [11]) (by kernel_rfl) (by simp) ?_
          refine AllReadyH.cons (o := { dst := none, op := Op.store 58 (Operand.tmp 6) (Operand.tmp 18), type := 0, pos := "bound.go:43", after := #[{ on := 10, ground := Ground.data }, { on := 8, ground := Ground.data }, { on := 0, ground := Ground.phase }, { on := 1, ground := Ground.phase }, { on := 2, ground := Ground.phase }, { on := 3, ground := Ground.phase }, { on := 4, ground := Ground.phase }, { on := 5, ground := Ground.phase }, { on := 6, ground := Ground.phase }, { on := 7, ground := Ground.phase }, { on := 8, ground := Ground.phase }, { on := 9, ground := Ground.textOnly Departure.lateStores }, { on := 10, ground := Ground.phase }], guard := none }) rfl (fun Kt hKt => ?_) AllReadyH.nil
          go_simp
          have BB : Aside (Below u1.heap.size u1 (((v1.setCell ⟨T, 0, none⟩ (.int .u64 y)).setCell ⟨T, 1, none⟩ (.int .i64 i)).setCell ⟨T, 2, none⟩ (.int .i64 z))) := ((BB.out.setCell HTL.out _).setCell HTL.out _).setCell HTL.out _
          go_wp2_with fail
          refine hKt.out _ _ (⟨bb0 (E1.below BB.out) (I1.below BB.out), LK.out _ (I1.below BB.out)⟩) (fun hHeld => ?_)
          clear hKt Kt
          try simp only [Act.put, List.setIfInBounds_toArray, List.set_cons_zero, List.set_cons_succ]
          refine wpAnyH_take (i := 12) (oi := { dst := some 7, op := Op.assign (Operand.tmp 19), type := 4, pos := "bound.go:43", after := #[{ on := 9, ground := Ground.data }, { on := 11, ground := Ground.chain }, { on := 0, ground := Ground.phase }, { on := 1, ground := Ground.phase }, { on := 2, ground := Ground.phase }, { on := 3, ground := Ground.phase }, { on := 4, ground := Ground.phase }, { on := 5, ground := Ground.phase }, { on := 6, ground := Ground.phase }, { on := 7, ground := Ground.phase }, { on := 8, ground := Ground.phase }, { on := 9, ground := Ground.phase }, { on := 10, ground := Ground.phase }, { on := 11, ground := Ground.phase }], guard := none }) (v := ?_) rfl (by kernel_rfl) (by kernel_rfl) (by kernel_rfl) (fun _ _ _ h => h) (Or.inl ⟨by rfl, ?_⟩) (by assumption) ?_
          rotate_left
          · (intro w hSw; (try dsimp only at hSw); go_simp; try with_reducible rfl)
          simp only [Act.put, List.setIfInBounds_toArray, List.set_cons_zero, List.set_cons_succ]
          refine wpAnyH_done (by kernel_rfl) ?_ _
          have tb2 := set3 tb (.int .u64 y) (.int .i64 i) (.int .i64 z)
          obtain ⟨u2, hu2⟩ : ∃ u, ((v1.setCell ⟨T, 0, none⟩ (.int .u64 y)).setCell ⟨T, 1, none⟩ (.int .i64 i)).setCell ⟨T, 2, none⟩ (.int .i64 z) = u := ⟨_, rfl⟩
          have HU2 : Aside _ := hu2
          rw [hu2] at tb2
          have BB2 : Below u1.heap.size u1 u2 := by rw [← hu2]; exact BB.out
          have E1 : EBx u2 X e := E1.below BB2
          have I1 : RowB u2 R L M s c := I1.below BB2
          have B2 : Aside (Below N w u2) := B1.out.trans (BB2.mono SX.out)
          clear tb t0 t1 t2 tfz hu2 BB BB2
          rw [HU2.out]
          rcases QQ.out with ⟨q1, q2⟩ | ⟨q1, q2⟩
          · have q2 : D0 = false := q2
            subst q2
            go_wp2_with fail
            go_end0
            try rw [RD]
            refine ⟨rfl, ?_, B2.out⟩
            unfold RwB.turn
            rw [q1]
            exact I1.wide (by omega)
          · have q2 : D0 = true := q2
            have q3 := HW.out q2
            subst q2
            go_upto_region 4 with fail
            have Q1 : Aside _ := q1
            have Q3 : Aside _ := q3
            clear q1 q3
            have SX : Aside (N ≤ u2.heap.size) := by have := SX.out; have := HTL.out; have := lt_of_block tb2; show N ≤ _; omega
            have t0 : ∀ V : World, Below u2.heap.size u2 V → V.cell? ⟨T, 0, none⟩ = some (.int .u64 y) ∧ V.cell? ⟨T, 1, none⟩ = some (.int .i64 i) := fun V hV => by
              have := (hV.block T (lt_of_block tb2)).trans tb2
              exact ⟨by rw [cell_of_row _ _ _ _ _ _ this]; rfl, by rw [cell_of_row _ _ _ _ _ _ this]; rfl⟩
            have TT : Aside _ := t0
            have XT : Aside (T ≠ L) := by show _ ≠ _; exact fun h => ne_map I1 (h ▸ tb2)
            clear t0
            obtain ⟨v3, hr3, I3, g3⟩ := I1.drew.putS (by have := HC.out; omega) WI.out ⟨y, i, a⟩
            have B3 : Aside (Below N w v3) := (B2.out.drew).grown g3 (by have := SX.out; show N ≤ u2.heap.size; omega) (fun k hk => by injection hk with hk; rw [← hk]; exact HN.out.2.2.1)
            have E3 : EBx v3 X e := E1.drew.grown g3 XL.out
            have T3 : v3.cell? ⟨T, 0, none⟩ = some (.int .u64 y) ∧ v3.cell? ⟨T, 1, none⟩ = some (.int .i64 i) := by
              have := (g3.block T (lt_of_block tb2) (fun h => XT.out (by injection h))).trans tb2
              exact ⟨by rw [cell_of_row _ _ _ _ _ _ this]; rfl, by rw [cell_of_row _ _ _ _ _ _ this]; rfl⟩
            clear tb2
            refine wp_region_held_drew (S := (fun V : World => (V.cell? ⟨X, 0, none⟩ = some (.int .i64 e.k) ∧ V.cell? ⟨X, 1, none⟩ = some (.int .i64 e.t) ∧ V.cell? ⟨X, 2, none⟩ = some (.int .i64 e.i) ∧ V.cell? ⟨X, 3, none⟩ = some (.int .u64 e.y) ∧ V.cell? ⟨X, 4, none⟩ = some (.int .u64 e.c) ∧ V.cell? ⟨X, 5, none⟩ = some (.int .u64 e.n) ∧ V.cell? ⟨R, 0, none⟩ = some (.map (some L)) ∧ V.cell? ⟨R, 1, none⟩ = some (.map (some M))) ∧ V.cell? ⟨T, 0, none⟩ = some (.int .u64 y) ∧ V.cell? ⟨T, 1, none⟩ = some (.int .i64 i))) (by kernel_rfl) (⟨bb0 E1.drew I1.drew, TT.out _ (Below.refl _ _).drew⟩) (fun hHeld => ?_)
            refine wpAnyH_take (i := 0) (oi := { dst := some 21, op := Op.move (Operand.tmp 0), type := 38, pos := "bound.go:44", after := #[], guard := none }) (v := ?_) rfl (by kernel_rfl) (by kernel_rfl) (by kernel_rfl) (fun _ _ _ h => h) (Or.inl ⟨by rfl, ?_⟩) (by assumption) ?_
            rotate_left
            · (intro w hSw; (try dsimp only at hSw); go_simp; try with_reducible rfl)
            simp only [Act.put, List.setIfInBounds_toArray, List.set_cons_zero, List.set_cons_succ]
            refine wpAnyH_take (i := 1) (oi := { dst := some 22, op := Op.nilCheck (Operand.tmp 21), type := 0, pos := "bound.go:44", after := #[{ on := 0, ground := Ground.data }], guard := none }) (v := ?_) rfl (by kernel_rfl) (by kernel_rfl) (by kernel_rfl) (fun _ _ _ h => h) (Or.inl ⟨by rfl, ?_⟩) (by assumption) ?_
            rotate_left
            · (intro w hSw; (try dsimp only at hSw); go_simp; try with_reducible rfl)
            simp only [Act.put, List.setIfInBounds_toArray, List.set_cons_zero, List.set_cons_succ]
            refine wpAnyH_take (i := 2) (oi := { dst := some 23, op := Op.fieldAddr 51 (Operand.tmp 22) 0, type := 0, pos := "bound.go:44", after := #[{ on := 1, ground := Ground.data }], guard := none }) (v := ?_) rfl (by kernel_rfl) (by kernel_rfl) (by kernel_rfl) (fun _ _ _ h => h) (Or.inl ⟨by rfl, ?_⟩) (by assumption) ?_
            rotate_left
            · (intro w hSw; (try dsimp only at hSw); go_simp; try with_reducible rfl)
            simp only [Act.put, List.setIfInBounds_toArray, List.set_cons_zero, List.set_cons_succ]
            refine wpAnyH_take (i := 3) (oi := { dst := some 24, op := Op.load 48 (Operand.tmp 23), type := 48, pos := "bound.go:44", after := #[{ on := 2, ground := Ground.data }], guard := none }) (v := ?_) rfl (by kernel_rfl) (by kernel_rfl) (by kernel_rfl) (fun _ _ _ h => h) (Or.inl ⟨by rfl, ?_⟩) (by assumption) ?_
            rotate_left
            · (intro w hSw; (try dsimp only at hSw); go_simp; try with_reducible rfl)
            simp only [Act.put, List.setIfInBounds_toArray, List.set_cons_zero, List.set_cons_succ]
            refine wpAnyH_take (i := 4) (oi := { dst := some 25, op := Op.fieldAddr 25 (Operand.tmp 5) 2, type := 0, pos := "bound.go:44", after := #[], guard := none }) (v := ?_) rfl (by kernel_rfl) (by kernel_rfl) (by kernel_rfl) (fun _ _ _ h => h) (Or.inl ⟨by rfl, ?_⟩) (by assumption) ?_
            rotate_left
            · (intro w hSw; (try dsimp only at hSw); go_simp; try with_reducible rfl)
            simp only [Act.put, List.setIfInBounds_toArray, List.set_cons_zero, List.set_cons_succ]
            refine wpAnyH_take (i := 5) (oi := { dst := some 26, op := Op.load 3 (Operand.tmp 25), type := 3, pos := "bound.go:44", after := #[{ on := 4, ground := Ground.data }], guard := none }) (v := ?_) rfl (by kernel_rfl) (by kernel_rfl) (by kernel_rfl) (fun _ _ _ h => h) (Or.inl ⟨by rfl, ?_⟩) (by assumption) ?_
            rotate_left
            · (intro w hSw; (try dsimp only at hSw); go_simp; try with_reducible rfl)
            simp only [Act.put, List.setIfInBounds_toArray, List.set_cons_zero, List.set_cons_succ]
            refine wpAnyH_take (i := 6) (oi := { dst := some 27, op := Op.fieldAddr 58 (Operand.tmp 6) 0, type := 0, pos := "bound.go:44", after := #[], guard := none }) (v := ?_) rfl (by kernel_rfl) (by kernel_rfl) (by kernel_rfl) (fun _ _ _ h => h) (Or.inl ⟨by rfl, ?_⟩) (by assumption) ?_
            rotate_left
            · (intro w hSw; (try dsimp only at hSw); go_simp; try with_reducible rfl)
            simp only [Act.put, List.setIfInBounds_toArray, List.set_cons_zero, List.set_cons_succ]
            refine wpAnyH_take (i := 7) (oi := { dst := some 28, op := Op.load 55 (Operand.tmp 27), type := 55, pos := "bound.go:44", after := #[{ on := 6, ground := Ground.data }], guard := none }) (v := ?_) rfl (by kernel_rfl) (by kernel_rfl) (by kernel_rfl) (fun _ _ _ h => h) (Or.inl ⟨by rfl, ?_⟩) (by assumption) ?_
            rotate_left
            · (intro w hSw; (try dsimp only at hSw); go_simp; try with_reducible rfl)
            simp only [Act.put, List.setIfInBounds_toArray, List.set_cons_zero, List.set_cons_succ]
            refine wpAnyH_take (i := 8) (oi := { dst := some 29, op := Op.move (Operand.tmp 1), type := 3, pos := "bound.go:44", after := #[], guard := none }) (v := ?_) rfl (by kernel_rfl) (by kernel_rfl) (by kernel_rfl) (fun _ _ _ h => h) (Or.inl ⟨by rfl, ?_⟩) (by assumption) ?_
            rotate_left
            · (intro w hSw; (try dsimp only at hSw); go_simp; try with_reducible rfl)
            simp only [Act.put, List.setIfInBounds_toArray, List.set_cons_zero, List.set_cons_succ]
            refine wpAnyH_take (i := 9) (oi := { dst := some 30, op := Op.build 58 #[(0, Operand.tmp 28), (1, Operand.tmp 29)], type := 58, pos := "bound.go:44", after := #[{ on := 7, ground := Ground.data }, { on := 8, ground := Ground.data }], guard := none }) (v := ?_) rfl (by kernel_rfl) (by kernel_rfl) (by kernel_rfl) (fun _ _ _ h => h) (Or.inl ⟨by rfl, ?_⟩) (by assumption) ?_
            rotate_left
            · (intro w hSw; (try dsimp only at hSw); go_simp; try with_reducible rfl)
            simp only [Act.put, List.setIfInBounds_toArray, List.set_cons_zero, List.set_cons_succ]
            refine wpAnyH_ready (rs := [10]) (by kernel_rfl) (by simp) ?_
            refine AllReadyH.cons (o := { dst := none, op := Op.mapUpdate 48 (Operand.tmp 24) (Operand.tmp 26) (Operand.tmp 30), type := 0, pos := "bound.go:44", after := #[{ on := 3, ground := Ground.data }, { on := 5, ground := Ground.data }, { on := 9, ground := Ground.data }, { on := 0, ground := Ground.phase }, { on := 1, ground := Ground.phase }, { on := 2, ground := Ground.phase }, { on := 3, ground := Ground.phase }, { on := 4, ground := Ground.phase }, { on := 5, ground := Ground.phase }, { on := 6, ground := Ground.phase }, { on := 7, ground := Ground.phase }, { on := 8, ground := Ground.phase }, { on := 9, ground := Ground.phase }], guard := none }) rfl (fun Kt hKt => ?_) AllReadyH.nil
            go_simp
            go_wp2_with fail
            refine hKt.out _ _ (⟨bb0 E3 I3, T3⟩) (fun hHeld => ?_)
            clear hKt Kt
            try simp only [Act.put, List.setIfInBounds_toArray, List.set_cons_zero, List.set_cons_succ]
            refine wpAnyH_done (by kernel_rfl) ?_ _
            go_wp2_with fail
            go_end0
            try rw [RD]
            refine ⟨rfl, ?_, B3.out⟩
            unfold RwB.turn
            rw [Q1.out]
            have e3 : ({ W0 with s := a } : WtR) = ⟨y, i, a⟩ := by rw [Q3.out]
            show RowB v3 R L M { s with S := kput e.i { W0 with s := a } s.S } (c + 1)
            rw [e3]
            exact I3
end
end Go.Proofs.Ytpcmdbpgplcnnaa

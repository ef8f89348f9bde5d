/- Contract: passed: what a claim passes over, by a range over what is ready. -/
import Derived.Test.YtpcmdbpgplcnnaaBnB
namespace Go.Proofs.Ytpcmdbpgplcnnaa
open Go.RowKit Go.Lib Go.WideMaps Go.Maps
set_option linter.unusedVariables false
set_option maxRecDepth 10000

theorem filter_del {α : Type} {p : Int × α → Bool} {x : Int} {v : α} {T : List (Int × α)} (hk : Keys T) (h : kget x T = some v) : (T.filter p).length = (if p (x, v) then 1 else 0) + ((kdel x T).filter p).length := by
  induction T with
  | nil => simp [kget] at h
  | cons q T ih =>
    obtain ⟨h1, h2⟩ := List.nodup_cons.1 hk
    unfold kget at h
    by_cases hq : q.1 = x
    · rw [if_pos hq] at h
      injection h with h
      have e : q = (x, v) := by rw [← hq, ← h]
      have e2 : kdel x (q :: T) = T := by
        unfold kdel
        rw [List.filter_cons_of_neg (by simp [hq])]
        refine List.filter_eq_self.2 fun r hr => ?_
        have : r.1 ≠ x := fun e => h1 (by rw [hq, ← e]; exact List.mem_map.2 ⟨r, hr, rfl⟩)
        simp [this]
      rw [e2, e]
      cases hp : p (x, v) with
      | true => rw [List.filter_cons_of_pos hp, List.length_cons, if_pos rfl]; omega
      | false => rw [List.filter_cons_of_neg (by simp [hp]), if_neg (by simp)]; omega
    · rw [if_neg hq] at h
      have := ih h2 h
      have e2 : kdel x (q :: T) = q :: kdel x T := by
        unfold kdel
        rw [List.filter_cons_of_pos (by simp [hq])]
      rw [e2]
      cases hp : p q with
      | true => rw [List.filter_cons_of_pos hp, List.filter_cons_of_pos hp, List.length_cons, List.length_cons]; omega
      | false => rw [List.filter_cons_of_neg (by simp [hp]), List.filter_cons_of_neg (by simp [hp])]; omega
section
variable {w w' : World} {R L M c : Nat} {s : RwB}
theorem lt_rgM {α : Type} {enc : α → Value} {r n cnt : Nat} {D : DataW Value} {T : List (Int × α)} (h : Rg enc w L r n D T cnt) : L < w.heap.size := by
  obtain ⟨_, _, _, h, _⟩ := h
  exact h.owns.lt
theorem entryOf_evs (e : EvR) (w : World) : Calls Try.prog 24 #[.agg #[.int .i64 e.k, .int .i64 e.t, .int .i64 e.i, .int .u64 e.y, .int .u64 e.c, .int .u64 e.n]] w fun r w' => r = .returned (.agg #[.int .u64 e.y, .int .i64 e.i]) ∧ Below w.heap.size w w' := entryOf_any e w
theorem set2 {T : Nat} {a b : Value} {t : TypeId} {z : Nat × Nat} (hb : w.heap[T]? = some (.cells #[a, b] t z)) (x y : Value) : ((w.setCell ⟨T, 0, none⟩ x).setCell ⟨T, 1, none⟩ y).heap[T]? = some (.cells #[x, y] t z) := by
  simp [World.setCell, Array.getElem?_modify, hb]
/-- A box of two whole numbers. -/
structure PBx (w : World) (b : Nat) (x y : Int) : Prop where
  lt : b < w.heap.size
  c0 : w.cell? ⟨b, 0, none⟩ = some (.int .i64 x)
  c1 : w.cell? ⟨b, 1, none⟩ = some (.int .i64 y)
theorem PBx.below {b : Nat} {x y : Int} (h : PBx w b x y) (hb : Below w.heap.size w w') : PBx w' b x y :=
  ⟨by have := hb.size; have := h.lt; omega, (hb.cell (p := ⟨b, 0, none⟩) h.lt).trans h.c0, (hb.cell (p := ⟨b, 1, none⟩) h.lt).trans h.c1⟩
theorem PBx.of_row {b : Nat} {x y : Int} {t : TypeId} (h : w.heap[b]? = some (.cells #[.int .i64 x, .int .i64 y] t (0, 0))) : PBx w b x y :=
  ⟨lt_of_block h, by rw [cell_of_row _ _ _ _ _ _ h]; rfl, by rw [cell_of_row _ _ _ _ _ _ h]; rfl⟩
/-- A box of one that is ready. -/
structure WBx (w : World) (b : Nat) (x : WtR) : Prop where
  lt : b < w.heap.size
  c0 : w.cell? ⟨b, 0, none⟩ = some (.int .u64 x.y)
  c1 : w.cell? ⟨b, 1, none⟩ = some (.int .i64 x.i)
  c2 : w.cell? ⟨b, 2, none⟩ = some (.int .i64 x.s)
theorem WBx.below {b : Nat} {x : WtR} (h : WBx w b x) (hb : Below w.heap.size w w') : WBx w' b x :=
  ⟨by have := hb.size; have := h.lt; omega, (hb.cell (p := ⟨b, 0, none⟩) h.lt).trans h.c0, (hb.cell (p := ⟨b, 1, none⟩) h.lt).trans h.c1, (hb.cell (p := ⟨b, 2, none⟩) h.lt).trans h.c2⟩
theorem WBx.made (w : World) (x : WtR) : WBx (w.alloc (.cells #[.int .u64 x.y, .int .i64 x.i, .int .i64 x.s] 58)) w.heap.size x := by
  refine ⟨by rw [alloc_sz]; omega, ?_, ?_, ?_⟩ <;> rw [cell_fresh] <;> rfl
theorem bb8 {X T Y : Nat} {e : EvR} {a j : Int} {v : WtR} {V : World} (E : EBx V X e) (P : PBx V T a j) (W : WBx V Y v) :
    (V.cell? ⟨X, 0, none⟩ = some (.int .i64 e.k) ∧ V.cell? ⟨X, 1, none⟩ = some (.int .i64 e.t) ∧ V.cell? ⟨X, 2, none⟩ = some (.int .i64 e.i) ∧ V.cell? ⟨X, 3, none⟩ = some (.int .u64 e.y) ∧ V.cell? ⟨X, 4, none⟩ = some (.int .u64 e.c) ∧ V.cell? ⟨X, 5, none⟩ = some (.int .u64 e.n)) ∧ V.cell? ⟨T, 0, none⟩ = some (.int .i64 a) ∧ V.cell? ⟨Y, 0, none⟩ = some (.int .u64 v.y) ∧ V.cell? ⟨Y, 1, none⟩ = some (.int .i64 v.i) ∧ V.cell? ⟨Y, 2, none⟩ = some (.int .i64 v.s) := ⟨⟨E.c0, E.c1, E.c2, E.c3, E.c4, E.c5⟩, P.c0, W.c0, W.c1, W.c2⟩
set_option maxHeartbeats 16000000 in
set_option maxRecDepth 100000 in
theorem passed_any (I : RowB w R L M s c) (hc : c ≤ 100000) (e : EvR) (hi : wfI e.t) : Calls Try.prog 18 #[.pointer (some ⟨R, 0, none⟩), evV e] w fun r w' => r = .returned (.int .i64 (s.pas e)) ∧ Below w.heap.size w w' := by
  have hlt := I.lt
  obtain ⟨X, hX⟩ : ∃ X, w.heap.size = X := ⟨_, rfl⟩
  obtain ⟨u1, hu1⟩ : ∃ u, w.alloc (.cells #[.int .i64 e.k, .int .i64 e.t, .int .i64 e.i, .int .u64 e.y, .int .u64 e.c, .int .u64 e.n] 25) = u := ⟨_, rfl⟩
  have b1 : Below w.heap.size w u1 := by rw [← hu1]; exact bel1 _ _
  have E1 : EBx u1 X e := by rw [← hu1, ← hX]; exact EBx.made w e
  have I1 : RowB u1 R L M s c := I.below b1
  have B1 : Aside (Below w.heap.size w u1) := b1
  have HX : Aside _ := hX
  have HU : Aside _ := hu1
  have WT : Aside (wfI e.t) := hi
  obtain ⟨a, j, D0, hq⟩ : ∃ (a j : Int) (b : Bool), kget e.t s.K = none ∧ b = false ∨ kget e.t s.K = some (a, j) ∧ b = true := by
    cases hk : kget e.t s.K with
    | none => exact ⟨0, 0, false, .inl ⟨rfl, rfl⟩⟩
    | some x => exact ⟨x.1, x.2, true, .inr ⟨rfl, rfl⟩⟩
  have LQ : ∃ a0 j0 : Int, (D0 = true → a = a0 ∧ j = j0) ∧ ∀ V : World, RowB V R L M s c → (Instr.lookup 49 (.map (some M)) (.int .i64 e.t) true).run Try.prog V = .ok (.tuple #[.agg #[.int .i64 a0, .int .i64 j0], .bool D0]) V := by
    rcases hq with ⟨h1, h2⟩ | ⟨h1, h2⟩
    · refine ⟨0, 0, fun h => (by rw [h2] at h; cases h), fun V h => ?_⟩
      have := h.look WT.out
      rw [h1] at this
      rw [h2]
      exact this
    · refine ⟨a, j, fun _ => ⟨rfl, rfl⟩, fun V h => ?_⟩
      have := h.look WT.out
      rw [h1] at this
      rw [h2]
      exact this
  obtain ⟨a0, j0, hw0, LK⟩ := LQ
  have QQ : Aside _ := hq
  have HW : Aside _ := hw0
  have LK : Aside _ := LK
  have BB : Aside (Below u1.heap.size u1 u1) := Below.refl _ _
  unfold evV
  clear hX hu1 b1 hi I hq hw0 hlt
  go_enter Try.func18, Try.ntmps18
  go_upto_region 1 with fail
  rw [HU.out, HX.out]
  refine wp_region_held_drew (S := (fun V : World => (V.cell? ⟨X, 0, none⟩ = some (.int .i64 e.k) ∧ V.cell? ⟨X, 1, none⟩ = some (.int .i64 e.t) ∧ V.cell? ⟨X, 2, none⟩ = some (.int .i64 e.i) ∧ V.cell? ⟨X, 3, none⟩ = some (.int .u64 e.y) ∧ V.cell? ⟨X, 4, none⟩ = some (.int .u64 e.c) ∧ V.cell? ⟨X, 5, none⟩ = some (.int .u64 e.n) ∧ V.cell? ⟨R, 0, none⟩ = some (.map (some L)) ∧ V.cell? ⟨R, 1, none⟩ = some (.map (some M))) ∧ (Instr.lookup 49 (.map (some M)) (.int .i64 e.t) true).run Try.prog V = .ok (.tuple #[.agg #[.int .i64 a0, .int .i64 j0], .bool D0]) V)) (by kernel_rfl) (⟨bb0 E1.drew I1.drew, LK.out _ I1.drew⟩) (fun hHeld => ?_)
  refine wpAnyH_take (i := 0) (oi := { dst := some 11, op := Op.move (Operand.tmp 0), type := 38, pos := "bound.go:51", after := #[], guard := none }) (v := ?_) rfl (by kernel_rfl) (by kernel_rfl) (by kernel_rfl) (fun _ _ _ h => h) (Or.inl ⟨by rfl, ?_⟩) (by assumption) ?_
  rotate_left
  · (intro w hSw; (try dsimp only at hSw); go_simp; try with_reducible rfl)
  simp only [Act.put, List.setIfInBounds_toArray, List.set_cons_zero, List.set_cons_succ]
  refine wpAnyH_take (i := 1) (oi := { dst := some 12, op := Op.nilCheck (Operand.tmp 11), type := 0, pos := "bound.go:51", after := #[{ on := 0, ground := Ground.data }], guard := none }) (v := ?_) rfl (by kernel_rfl) (by kernel_rfl) (by kernel_rfl) (fun _ _ _ h => h) (Or.inl ⟨by rfl, ?_⟩) (by assumption) ?_
  rotate_left
  · (intro w hSw; (try dsimp only at hSw); go_simp; try with_reducible rfl)
  simp only [Act.put, List.setIfInBounds_toArray, List.set_cons_zero, List.set_cons_succ]
  refine wpAnyH_take (i := 2) (oi := { dst := some 13, op := Op.fieldAddr 51 (Operand.tmp 12) 1, type := 0, pos := "bound.go:51", after := #[{ on := 1, ground := Ground.data }], guard := none }) (v := ?_) rfl (by kernel_rfl) (by kernel_rfl) (by kernel_rfl) (fun _ _ _ h => h) (Or.inl ⟨by rfl, ?_⟩) (by assumption) ?_
  rotate_left
  · (intro w hSw; (try dsimp only at hSw); go_simp; try with_reducible rfl)
  simp only [Act.put, List.setIfInBounds_toArray, List.set_cons_zero, List.set_cons_succ]
  refine wpAnyH_take (i := 3) (oi := { dst := some 14, op := Op.load 49 (Operand.tmp 13), type := 49, pos := "bound.go:51", after := #[{ on := 2, ground := Ground.data }], guard := none }) (v := ?_) rfl (by kernel_rfl) (by kernel_rfl) (by kernel_rfl) (fun _ _ _ h => h) (Or.inl ⟨by rfl, ?_⟩) (by assumption) ?_
  rotate_left
  · (intro w hSw; (try dsimp only at hSw); go_simp; try with_reducible rfl)
  simp only [Act.put, List.setIfInBounds_toArray, List.set_cons_zero, List.set_cons_succ]
  refine wpAnyH_take (i := 4) (oi := { dst := some 15, op := Op.fieldAddr 25 (Operand.tmp 3) 1, type := 0, pos := "bound.go:51", after := #[], guard := none }) (v := ?_) rfl (by kernel_rfl) (by kernel_rfl) (by kernel_rfl) (fun _ _ _ h => h) (Or.inl ⟨by rfl, ?_⟩) (by assumption) ?_
  rotate_left
  · (intro w hSw; (try dsimp only at hSw); go_simp; try with_reducible rfl)
  simp only [Act.put, List.setIfInBounds_toArray, List.set_cons_zero, List.set_cons_succ]
  refine wpAnyH_take (i := 5) (oi := { dst := some 16, op := Op.load 3 (Operand.tmp 15), type := 3, pos := "bound.go:51", after := #[{ on := 4, ground := Ground.data }], guard := none }) (v := ?_) rfl (by kernel_rfl) (by kernel_rfl) (by kernel_rfl) (fun _ _ _ h => h) (Or.inl ⟨by rfl, ?_⟩) (by assumption) ?_
  rotate_left
  · (intro w hSw; (try dsimp only at hSw); go_simp; try with_reducible rfl)
  simp only [Act.put, List.setIfInBounds_toArray, List.set_cons_zero, List.set_cons_succ]
  refine wpAnyH_take (i := 6) (oi := { dst := some 17, op := Op.lookup 49 (Operand.tmp 14) (Operand.tmp 16) true, type := 60, pos := "bound.go:51", after := #[{ on := 3, ground := Ground.data }, { on := 5, ground := Ground.data }], guard := none }) (v := ?_) rfl (by kernel_rfl) (by kernel_rfl) (by kernel_rfl) (fun _ _ _ h => h) (Or.inl ⟨by rfl, ?_⟩) (by assumption) ?_
  rotate_left
  · (intro w hSw; (try dsimp only at hSw); go_simp; try with_reducible rfl)
  simp only [Act.put, List.setIfInBounds_toArray, List.set_cons_zero, List.set_cons_succ]
  refine wpAnyH_take (i := 7) (oi := { dst := some 10, op := Op.move (Operand.tmp 17), type := 60, pos := "bound.go:51", after := #[{ on := 6, ground := Ground.data }], guard := none }) (v := ?_) rfl (by kernel_rfl) (by kernel_rfl) (by kernel_rfl) (fun _ _ _ h => h) (Or.inl ⟨by rfl, ?_⟩) (by assumption) ?_
  rotate_left
  · (intro w hSw; (try dsimp only at hSw); go_simp; try with_reducible rfl)
  simp only [Act.put, List.setIfInBounds_toArray, List.set_cons_zero, List.set_cons_succ]
  refine wpAnyH_take (i := 8) (oi := { dst := some 18, op := Op.extract (Operand.tmp 10) 0, type := 53, pos := "bound.go:51", after := #[{ on := 7, ground := Ground.data }], guard := none }) (v := ?_) rfl (by kernel_rfl) (by kernel_rfl) (by kernel_rfl) (fun _ _ _ h => h) (Or.inl ⟨by rfl, ?_⟩) (by assumption) ?_
  rotate_left
  · (intro w hSw; (try dsimp only at hSw); go_simp; try with_reducible rfl)
  simp only [Act.put, List.setIfInBounds_toArray, List.set_cons_zero, List.set_cons_succ]
  refine wpAnyH_take (i := 9) (oi := { dst := some 19, op := Op.extract (Operand.tmp 10) 1, type := 4, pos := "bound.go:51", after := #[{ on := 7, ground := Ground.data }, { on := 11, ground := Ground.gcOnly Departure.lateStores }], guard := none }) (v := ?_) rfl (by kernel_rfl) (by kernel_rfl) (by kernel_rfl) (fun _ _ _ h => h) (Or.inl ⟨by rfl, ?_⟩) (by assumption) ?_
  rotate_left
  · (intro w hSw; (try dsimp only at hSw); go_simp; try with_reducible rfl)
  simp only [Act.put, List.setIfInBounds_toArray, List.set_cons_zero, List.set_cons_succ]
  refine wpAnyH_ready (rs := [10]) (by kernel_rfl) (by simp) ?_
  refine AllReadyH.cons (o := { dst := some 5, op := Op.alloc 53, type := 0, pos := "bound.go:51", after := #[], guard := none }) rfl (fun Kt hKt => ?_) AllReadyH.nil
  go_simp
  obtain ⟨T, hT⟩ : ∃ M, u1.heap.size = M := ⟨_, rfl⟩
  have HT : Aside _ := hT
  obtain ⟨v1, hv1⟩ : ∃ q, (u1.alloc (.cells #[.int .i64 0, .int .i64 0] 53)).drew = q := ⟨_, rfl⟩
  have b2 : Below u1.heap.size u1 v1 := by rw [← hv1]; exact (bel1 _ _).drew
  have tb : v1.heap[T]? = some (.cells #[.int .i64 0, .int .i64 0] 53 (0, 0)) := by rw [← hv1, ← hT]; exact heap_alloc_new _ _
  have t0 : v1.cell? ⟨T, 0, none⟩ = some (.int .i64 0) := by rw [cell_of_row _ _ _ _ _ _ tb]; rfl
  have t1 : v1.cell? ⟨T, 1, none⟩ = some (.int .i64 0) := by rw [cell_of_row _ _ _ _ _ _ tb]; rfl
  have tfz : ∀ o, v1.frozen? ⟨T, o, none⟩ = false := (fun o => by simp [World.frozen?, tb])
  have HTL : Aside (u1.heap.size ≤ T) := by show _ ≤ _; rw [← hT]; exact Nat.le_refl _
  have BB : Aside (Below u1.heap.size u1 v1) := b2
  have HV1 : Aside _ := hv1
  clear hT hv1 b2
  go_wp2_with fail
  rw [HT.out]
  rw [HV1.out]
  refine hKt.out _ _ (⟨bb0 (E1.below BB.out) (I1.below BB.out), LK.out _ (I1.below BB.out)⟩) (fun hHeld => ?_)
  clear hKt Kt
  try simp only [Act.put, List.setIfInBounds_toArray, List.set_cons_zero, List.set_cons_succ]
  refine wpAnyH_ready (rs := [11]) (by kernel_rfl) (by simp) ?_
  refine AllReadyH.cons (o := { dst := none, op := Op.store 53 (Operand.tmp 5) (Operand.tmp 18), type := 0, pos := "bound.go:51", after := #[{ on := 10, ground := Ground.data }, { on := 8, ground := Ground.data }, { on := 0, ground := Ground.phase }, { on := 1, ground := Ground.phase }, { on := 2, ground := Ground.phase }, { on := 3, ground := Ground.phase }, { on := 4, ground := Ground.phase }, { on := 5, ground := Ground.phase }, { on := 6, ground := Ground.phase }, { on := 7, ground := Ground.phase }, { on := 8, ground := Ground.phase }, { on := 9, ground := Ground.textOnly Departure.lateStores }, { on := 10, ground := Ground.phase }], guard := none }) rfl (fun Kt hKt => ?_) AllReadyH.nil
  go_simp
  have BB : Aside (Below u1.heap.size u1 ((v1.setCell ⟨T, 0, none⟩ (.int .i64 a0)).setCell ⟨T, 1, none⟩ (.int .i64 j0))) := (BB.out.setCell HTL.out _).setCell HTL.out _
  go_wp2_with fail
  refine hKt.out _ _ (⟨bb0 (E1.below BB.out) (I1.below BB.out), LK.out _ (I1.below BB.out)⟩) (fun hHeld => ?_)
  clear hKt Kt
  try simp only [Act.put, List.setIfInBounds_toArray, List.set_cons_zero, List.set_cons_succ]
  refine wpAnyH_take (i := 12) (oi := { dst := some 6, op := Op.assign (Operand.tmp 19), type := 4, pos := "bound.go:51", after := #[{ on := 9, ground := Ground.data }, { on := 11, ground := Ground.chain }, { on := 0, ground := Ground.phase }, { on := 1, ground := Ground.phase }, { on := 2, ground := Ground.phase }, { on := 3, ground := Ground.phase }, { on := 4, ground := Ground.phase }, { on := 5, ground := Ground.phase }, { on := 6, ground := Ground.phase }, { on := 7, ground := Ground.phase }, { on := 8, ground := Ground.phase }, { on := 9, ground := Ground.phase }, { on := 10, ground := Ground.phase }, { on := 11, ground := Ground.phase }], guard := none }) (v := ?_) rfl (by kernel_rfl) (by kernel_rfl) (by kernel_rfl) (fun _ _ _ h => h) (Or.inl ⟨by rfl, ?_⟩) (by assumption) ?_
  rotate_left
  · (intro w hSw; (try dsimp only at hSw); go_simp; try with_reducible rfl)
  simp only [Act.put, List.setIfInBounds_toArray, List.set_cons_zero, List.set_cons_succ]
  refine wpAnyH_done (by kernel_rfl) ?_ _
  have tb2 := set2 tb (.int .i64 a0) (.int .i64 j0)
  obtain ⟨u2, hu2⟩ : ∃ u, (v1.setCell ⟨T, 0, none⟩ (.int .i64 a0)).setCell ⟨T, 1, none⟩ (.int .i64 j0) = u := ⟨_, rfl⟩
  have HU2 : Aside _ := hu2
  rw [hu2] at tb2
  have BB2 : Below u1.heap.size u1 u2 := by rw [← hu2]; exact BB.out
  have E1 : EBx u2 X e := E1.below BB2
  have I1 : RowB u2 R L M s c := I1.below BB2
  have P1 : PBx u2 T a0 j0 := PBx.of_row tb2
  have B2 : Aside (Below w.heap.size w u2) := Below.tr B1.out BB2
  clear tb t0 t1 tfz hu2 BB BB2 tb2
  rw [HU2.out]
  rcases QQ.out with ⟨q1, q2⟩ | ⟨q1, q2⟩
  · have q2 : D0 = false := q2
    subst q2
    have RD : s.pas e = -1 := by unfold RwB.pas; rw [q1]
    obtain ⟨_, t0, t1⟩ := id P1
    obtain ⟨_, d0, d1, d2, d3, d4, d5⟩ := id E1
    go_wp2_with fail
    go_ret
    try rw [RD]
    exact ⟨rfl, B2.out⟩
  · have q2 : D0 = true := q2
    have q3 := HW.out q2
    obtain ⟨q3, q4⟩ := q3
    subst q2
    subst q3
    subst q4
    by_cases hj : j = e.i
    · have RD : s.pas e = ((s.S.filter fun p => overB a e p.2).length : Int) := by unfold RwB.pas; rw [q1]; exact if_pos hj
      obtain ⟨n, hn, hm⟩ := I1.ml
      obtain ⟨D, D1, D2, D3⟩ := hm.toRange I1.ks
      have D1 : Aside _ := D1
      have D2 : Aside _ := D2
      have D3 : Aside _ := D3
      have KS : Aside _ := I1.ks
      obtain ⟨r0, r1⟩ := I1.cells
      obtain ⟨_, t0, t1⟩ := id P1
      obtain ⟨_, d0, d1, d2, d3, d4, d5⟩ := id E1
      have hz : s.S.length = n := by
        obtain ⟨ks, k1, k2, k3⟩ := hm.keys
        have hp : List.Perm (s.S.map Prod.fst) ks := (List.perm_ext_iff_of_nodup I1.ks k1).2 fun x => by rw [k3, Option.isSome_map, kget_some]
        rw [← k2, ← hp.length_eq, List.length_map]
      have HZ : Aside (s.S.length ≤ 100000) := by show _ ≤ _; omega
      have E1 : Aside _ := E1
      have P1 : Aside _ := P1
      have RD : Aside _ := RD
      clear hm hn hz I1 q1 LK
      subst hj
      obtain ⟨r, hr⟩ : ∃ r, u2.heap.size = r := ⟨_, rfl⟩
      have HR : Aside _ := hr
      clear hr
      go_wp2_with (first
        | (at_range; refine wpList_range_own _ rfl _ 48 rfl 3 58 (int_keyed Try.underlying3) Try.underlying48 heldR L n D rfl D1.out ?_; intro w0 hrg0 hg0 hs0)
        | go_in)
      try go_frame
      rw [HR.out] at hrg0
      rw [HR.out]
      have RG : Aside _ := hrg0
      have B0 : Aside (Below u2.heap.size u2 w0) := (Below.refl _ _).grown hg0 (Nat.le_refl _) (fun k hk => by cases hk)
      clear r0 r1 t0 t1 d0 d1 d2 d3 d4 d5 hg0 hs0 hrg0
      go_loopw [7] (fun v wr => ∃ (N : Nat) (T1 : List (Int × WtR)) (cnt : Nat), v = .int .i64 N ∧ N + (T1.filter fun p => overB a e p.2).length = (s.S.filter fun p => overB a e p.2).length ∧ Rg wtV wr L r n D T1 cnt ∧ Below u2.heap.size u2 wr) (fun _ wr => wr.rangeLeft L r)
      case atStart => exact ⟨0, s.S, _, rfl, by omega, Rg.start RG.out KS.out D2.out D3.out, B0.out⟩
      case round =>
        obtain ⟨N, T1, cnt, rfl, hN, hrg, hb⟩ := hrel
        have E2 := E1.out.below hb
        have P2 := P1.out.below hb
        have HN : Aside _ := hN
        have HB : Aside _ := hb
        have hf : Aside ((s.S.filter fun p => overB a e p.2).length ≤ s.S.length) := List.length_filter_le _ _
        clear hN hb
        go_wp2_with (first
          | (at_next; refine wpList_next_rg rfl _ rfl rfl hrg ?_ ?_)
          | go_in)
        · intro hT
          subst hT
          go_wp2
          go_ret
          rw [RD.out]
          have := HN.out
          simp only [List.filter_nil, List.length_nil, Nat.add_zero] at this
          rw [this]
          exact ⟨rfl, Below.tr B2.out HB.out⟩
        · intro x v w1 cnt1 hwx hx hrg1 hlt hg1 hs1 hen
          have B3 : Aside (Below u2.heap.size u2 w1) := HB.out.grown hg1 HB.out.size (fun k hk => by injection hk with hk; rw [← hk, ← HR.out]; exact Nat.le_refl _)
          unfold wtV at hen
          obtain ⟨Y, hY⟩ : ∃ Y, w1.heap.size = Y := ⟨_, rfl⟩
          obtain ⟨w2, hw2⟩ : ∃ q, w1.alloc (.cells #[.int .u64 v.y, .int .i64 v.i, .int .i64 v.s] 58) = q := ⟨_, rfl⟩
          have W2 : WBx w2 Y v := by rw [← hw2, ← hY]; exact WBx.made w1 v
          have b2 : Below w1.heap.size w1 w2 := by rw [← hw2]; exact bel1 _ _
          have B4 : Aside (Below u2.heap.size u2 w2) := B3.out.trans (b2.mono B3.out.size)
          have E2 : EBx w2 X e := E1.out.below B4.out
          have P2 : PBx w2 T a e.i := P1.out.below B4.out
          have HY : Aside _ := hY
          have HW2 : Aside _ := hw2
          have R2 : Aside (Rg wtV w2 L r n D (kdel x T1) cnt1) := hrg1.kept (row := none) (by rw [← hw2]; exact World.grownBy_alloc w1 _ none) (by simp) (by simp)
          clear hY hw2 b2 hrg1 hg1 hs1
          go_upto_region 8 with fail
          try rw [HW2.out]
          try rw [HY.out]
          have P4 : (T1.filter fun p => overB a e p.2).length = (if overB a e v then 1 else 0) + ((kdel x T1).filter fun p => overB a e p.2).length := filter_del hrg.1 hx
          have HL : Aside (cnt1 < cnt) := hlt
          have HG : Aside _ := hrg
          have HP : Aside _ := P4
          clear hlt hrg P4
          have CL : Aside (wr.rangeLeft L r = cnt) := Rg.left_eq HG.out
          by_cases hv : v.s < a
          · have OV : overB a e v = ltB v.y v.i e.y e.i := by unfold overB; rw [decide_eq_true hv]; rfl
            obtain ⟨bl, hbl⟩ : ∃ b, ltB v.y v.i e.y e.i = b := ⟨_, rfl⟩
            have LB : Aside _ := hbl
            have OV : Aside (overB a e v = bl) := OV.trans hbl
            clear hbl
            refine wp_region_held_drew (S := (fun V : World => (V.cell? ⟨X, 0, none⟩ = some (.int .i64 e.k) ∧ V.cell? ⟨X, 1, none⟩ = some (.int .i64 e.t) ∧ V.cell? ⟨X, 2, none⟩ = some (.int .i64 e.i) ∧ V.cell? ⟨X, 3, none⟩ = some (.int .u64 e.y) ∧ V.cell? ⟨X, 4, none⟩ = some (.int .u64 e.c) ∧ V.cell? ⟨X, 5, none⟩ = some (.int .u64 e.n)) ∧ V.cell? ⟨T, 0, none⟩ = some (.int .i64 a) ∧ V.cell? ⟨Y, 0, none⟩ = some (.int .u64 v.y) ∧ V.cell? ⟨Y, 1, none⟩ = some (.int .i64 v.i) ∧ V.cell? ⟨Y, 2, none⟩ = some (.int .i64 v.s))) (by kernel_rfl) (bb8 (E2.below (Below.refl _ _).drew) (P2.below (Below.refl _ _).drew) (W2.below (Below.refl _ _).drew)) (fun hHeld => ?_)
            refine wpAnyH_take (i := 0) (oi := { dst := some 38, op := Op.fieldAddr 58 (Operand.tmp 9) 1, type := 0, pos := "bound.go:57", after := #[], guard := none }) (v := ?_) rfl (by kernel_rfl) (by kernel_rfl) (by kernel_rfl) (fun _ _ _ h => h) (Or.inl ⟨by rfl, ?_⟩) (by assumption) ?_
            rotate_left
            · (intro w hSw; (try dsimp only at hSw); go_simp; try with_reducible rfl)
            simp only [Act.put, List.setIfInBounds_toArray, List.set_cons_zero, List.set_cons_succ]
            refine wpAnyH_take (i := 1) (oi := { dst := some 39, op := Op.load 3 (Operand.tmp 38), type := 3, pos := "bound.go:57", after := #[{ on := 0, ground := Ground.data }], guard := none }) (v := ?_) rfl (by kernel_rfl) (by kernel_rfl) (by kernel_rfl) (fun _ _ _ h => h) (Or.inl ⟨by rfl, ?_⟩) (by assumption) ?_
            rotate_left
            · (intro w hSw; (try dsimp only at hSw); go_simp; try with_reducible rfl)
            simp only [Act.put, List.setIfInBounds_toArray, List.set_cons_zero, List.set_cons_succ]
            refine wpAnyH_take (i := 2) (oi := { dst := some 40, op := Op.fieldAddr 53 (Operand.tmp 5) 0, type := 0, pos := "bound.go:57", after := #[], guard := none }) (v := ?_) rfl (by kernel_rfl) (by kernel_rfl) (by kernel_rfl) (fun _ _ _ h => h) (Or.inl ⟨by rfl, ?_⟩) (by assumption) ?_
            rotate_left
            · (intro w hSw; (try dsimp only at hSw); go_simp; try with_reducible rfl)
            simp only [Act.put, List.setIfInBounds_toArray, List.set_cons_zero, List.set_cons_succ]
            refine wpAnyH_take (i := 3) (oi := { dst := some 41, op := Op.load 3 (Operand.tmp 40), type := 3, pos := "bound.go:57", after := #[{ on := 2, ground := Ground.data }], guard := none }) (v := ?_) rfl (by kernel_rfl) (by kernel_rfl) (by kernel_rfl) (fun _ _ _ h => h) (Or.inl ⟨by rfl, ?_⟩) (by assumption) ?_
            rotate_left
            · (intro w hSw; (try dsimp only at hSw); go_simp; try with_reducible rfl)
            simp only [Act.put, List.setIfInBounds_toArray, List.set_cons_zero, List.set_cons_succ]
            refine wpAnyH_take (i := 4) (oi := { dst := some 42, op := Op.binOp BinOp.lss 3 (Operand.tmp 39) (Operand.tmp 41) 3, type := 4, pos := "bound.go:57", after := #[{ on := 1, ground := Ground.data }, { on := 3, ground := Ground.data }], guard := none }) (v := ?_) rfl (by kernel_rfl) (by kernel_rfl) (by kernel_rfl) (fun _ _ _ h => h) (Or.inl ⟨by rfl, ?_⟩) (by assumption) ?_
            rotate_left
            · (intro w hSw; (try dsimp only at hSw); go_simp; try with_reducible rfl)
            simp only [Act.put, List.setIfInBounds_toArray, List.set_cons_zero, List.set_cons_succ]
            refine wpAnyH_take (i := 5) (oi := { dst := some 43, op := Op.move (Operand.tmp 42), type := 4, pos := "bound.go:57", after := #[{ on := 4, ground := Ground.data }], guard := none }) (v := ?_) rfl (by kernel_rfl) (by kernel_rfl) (by kernel_rfl) (fun _ _ _ h => h) (Or.inl ⟨by rfl, ?_⟩) (by assumption) ?_
            rotate_left
            · (intro w hSw; (try dsimp only at hSw); go_simp; try with_reducible rfl)
            simp only [Act.put, List.setIfInBounds_toArray, List.set_cons_zero, List.set_cons_succ]
            refine wpAnyH_take (i := 6) (oi := { dst := some 44, op := Op.fieldAddr 58 (Operand.tmp 9) 0, type := 0, pos := "bound.go:57", after := #[{ on := 5, ground := Ground.guard }], guard := some (5, true) }) (v := ?_) rfl (by kernel_rfl) (by kernel_rfl) (by kernel_rfl) (fun _ _ _ h => h) (Or.inl ⟨by rfl, ?_⟩) (by assumption) ?_
            rotate_left
            · (intro w hSw; (try dsimp only at hSw); go_simp; try with_reducible rfl)
            simp only [Act.put, List.setIfInBounds_toArray, List.set_cons_zero, List.set_cons_succ]
            refine wpAnyH_take (i := 7) (oi := { dst := some 45, op := Op.load 55 (Operand.tmp 44), type := 55, pos := "bound.go:57", after := #[{ on := 6, ground := Ground.data }, { on := 5, ground := Ground.guard }], guard := some (5, true) }) (v := ?_) rfl (by kernel_rfl) (by kernel_rfl) (by kernel_rfl) (fun _ _ _ h => h) (Or.inl ⟨by rfl, ?_⟩) (by assumption) ?_
            rotate_left
            · (intro w hSw; (try dsimp only at hSw); go_simp; try with_reducible rfl)
            simp only [Act.put, List.setIfInBounds_toArray, List.set_cons_zero, List.set_cons_succ]
            refine wpAnyH_take (i := 8) (oi := { dst := some 46, op := Op.load 25 (Operand.tmp 3), type := 25, pos := "bound.go:57", after := #[{ on := 5, ground := Ground.guard }], guard := some (5, true) }) (v := ?_) rfl (by kernel_rfl) (by kernel_rfl) (by kernel_rfl) (fun _ _ _ h => h) (Or.inl ⟨by rfl, ?_⟩) (by assumption) ?_
            rotate_left
            · (intro w hSw; (try dsimp only at hSw); go_simp; try with_reducible rfl)
            simp only [Act.put, List.setIfInBounds_toArray, List.set_cons_zero, List.set_cons_succ]
            refine wpAnyH_ready (rs := [9]) (by kernel_rfl) (by simp) ?_
            refine AllReadyH.cons (o := { dst := some 47, op := Op.call { callee := Callee.value (Operand.func 24), args := #[Operand.tmp 46], argTypes := #[25] }, type := 55, pos := "bound.go:57", after := #[{ on := 8, ground := Ground.data }, { on := 5, ground := Ground.chain }, { on := 5, ground := Ground.guard }], guard := some (5, true) }) rfl (fun Kt hKt => ?_) AllReadyH.nil
            go_simp
            (with_reducible refine Calls.mono (entryOf_evs e w2.drew) ?_)
            rintro r1 w3 ⟨rfl, bb⟩
            have E3 : EBx w3 X e := E2.below ((Below.refl _ _).drew.trans bb)
            have P3 : PBx w3 T a e.i := P2.below ((Below.refl _ _).drew.trans bb)
            have W3 : WBx w3 Y v := W2.below ((Below.refl _ _).drew.trans bb)
            have B5 : Aside (Below u2.heap.size u2 w3) := B4.out.trans (((Below.refl _ _).drew.trans bb).mono B4.out.size)
            have R3 : Aside (Rg wtV w3 L r n D (kdel x T1) cnt1) := R2.out.below ((Below.refl _ _).drew.trans bb) (lt_rgM R2.out) R2.out.lt
            clear bb
            go_wp2_with fail
            refine hKt.out _ _ (bb8 E3 P3 W3) (fun hHeld => ?_)
            clear hKt Kt
            try simp only [Act.put, List.setIfInBounds_toArray, List.set_cons_zero, List.set_cons_succ]
            refine wpAnyH_ready (rs := [10]) (by kernel_rfl) (by simp) ?_
            refine AllReadyH.cons (o := { dst := some 48, op := Op.call { callee := Callee.value (Operand.func 25), args := #[Operand.tmp 45, Operand.tmp 47], argTypes := #[55, 55] }, type := 4, pos := "bound.go:57", after := #[{ on := 7, ground := Ground.data }, { on := 9, ground := Ground.data }, { on := 9, ground := Ground.chain }, { on := 5, ground := Ground.guard }], guard := some (5, true) }) rfl (fun Kt hKt => ?_) AllReadyH.nil
            go_simp
            (with_reducible refine Calls.mono (less_any v.y v.i e.y e.i w3) ?_)
            rintro r1 w4 ⟨rfl, bb⟩
            rw [LB.out]
            have E4 : EBx w4 X e := E3.below bb
            have P4 : PBx w4 T a e.i := P3.below bb
            have W4 : WBx w4 Y v := W3.below bb
            have B6 : Aside (Below u2.heap.size u2 w4) := B5.out.trans (bb.mono B5.out.size)
            have R4 : Aside (Rg wtV w4 L r n D (kdel x T1) cnt1) := R3.out.below bb (lt_rgM R3.out) R3.out.lt
            clear bb
            go_wp2_with fail
            refine hKt.out _ _ (bb8 E4 P4 W4) (fun hHeld => ?_)
            clear hKt Kt
            try simp only [Act.put, List.setIfInBounds_toArray, List.set_cons_zero, List.set_cons_succ]
            refine wpAnyH_take (i := 11) (oi := { dst := some 49, op := Op.pick (Operand.tmp 43) (Operand.tmp 48) (Operand.const (Value.bool false)), type := 4, pos := "bound.go:57", after := #[{ on := 5, ground := Ground.data }, { on := 10, ground := Ground.data }], guard := none }) (v := ?_) rfl (by kernel_rfl) (by kernel_rfl) (by kernel_rfl) (fun _ _ _ h => h) (Or.inl ⟨by rfl, ?_⟩) (by assumption) ?_
            rotate_left
            · (intro w hSw; (try dsimp only at hSw); go_simp; try with_reducible rfl)
            simp only [Act.put, List.setIfInBounds_toArray, List.set_cons_zero, List.set_cons_succ]
            refine wpAnyH_done (by kernel_rfl) ?_ _
            cases bl with
            | true =>
              have hNN : N ≤ 100000 := by have := HN.out; have := hf.out; have := HZ.out; omega
              go_wp2_with fail
              go_roundw
              case rel =>
                refine ⟨N + 1, _, _, rfl, ?_, R4.out, B6.out⟩
                have h1 := HN.out
                have h2 := HP.out
                rw [OV.out, if_pos rfl] at h2
                omega
              case measure => rw [Rg.left_eq R4.out, CL.out]; exact HL.out
            | false =>
              go_wp2_with fail
              go_roundw
              case rel =>
                refine ⟨N, _, _, rfl, ?_, R4.out, B6.out⟩
                have h1 := HN.out
                have h2 := HP.out
                rw [OV.out, if_neg (by simp)] at h2
                omega
              case measure => rw [Rg.left_eq R4.out, CL.out]; exact HL.out
          · have OV : Aside (overB a e v = false) := by show _ = _; unfold overB; rw [decide_eq_false hv]; rfl
            have hd : decide (v.s < a) = false := decide_eq_false hv
            refine wp_region_held_drew (S := (fun V : World => (V.cell? ⟨X, 0, none⟩ = some (.int .i64 e.k) ∧ V.cell? ⟨X, 1, none⟩ = some (.int .i64 e.t) ∧ V.cell? ⟨X, 2, none⟩ = some (.int .i64 e.i) ∧ V.cell? ⟨X, 3, none⟩ = some (.int .u64 e.y) ∧ V.cell? ⟨X, 4, none⟩ = some (.int .u64 e.c) ∧ V.cell? ⟨X, 5, none⟩ = some (.int .u64 e.n)) ∧ V.cell? ⟨T, 0, none⟩ = some (.int .i64 a) ∧ V.cell? ⟨Y, 0, none⟩ = some (.int .u64 v.y) ∧ V.cell? ⟨Y, 1, none⟩ = some (.int .i64 v.i) ∧ V.cell? ⟨Y, 2, none⟩ = some (.int .i64 v.s))) (by kernel_rfl) (bb8 (E2.below (Below.refl _ _).drew) (P2.below (Below.refl _ _).drew) (W2.below (Below.refl _ _).drew)) (fun hHeld => ?_)
            refine wpAnyH_take (i := 0) (oi := { dst := some 38, op := Op.fieldAddr 58 (Operand.tmp 9) 1, type := 0, pos := "bound.go:57", after := #[], guard := none }) (v := ?_) rfl (by kernel_rfl) (by kernel_rfl) (by kernel_rfl) (fun _ _ _ h => h) (Or.inl ⟨by rfl, ?_⟩) (by assumption) ?_
            rotate_left
            · (intro w hSw; (try dsimp only at hSw); go_simp; try with_reducible rfl)
            simp only [Act.put, List.setIfInBounds_toArray, List.set_cons_zero, List.set_cons_succ]
            refine wpAnyH_take (i := 1) (oi := { dst := some 39, op := Op.load 3 (Operand.tmp 38), type := 3, pos := "bound.go:57", after := #[{ on := 0, ground := Ground.data }], guard := none }) (v := ?_) rfl (by kernel_rfl) (by kernel_rfl) (by kernel_rfl) (fun _ _ _ h => h) (Or.inl ⟨by rfl, ?_⟩) (by assumption) ?_
            rotate_left
            · (intro w hSw; (try dsimp only at hSw); go_simp; try with_reducible rfl)
            simp only [Act.put, List.setIfInBounds_toArray, List.set_cons_zero, List.set_cons_succ]
            refine wpAnyH_take (i := 2) (oi := { dst := some 40, op := Op.fieldAddr 53 (Operand.tmp 5) 0, type := 0, pos := "bound.go:57", after := #[], guard := none }) (v := ?_) rfl (by kernel_rfl) (by kernel_rfl) (by kernel_rfl) (fun _ _ _ h => h) (Or.inl ⟨by rfl, ?_⟩) (by assumption) ?_
            rotate_left
            · (intro w hSw; (try dsimp only at hSw); go_simp; try with_reducible rfl)
            simp only [Act.put, List.setIfInBounds_toArray, List.set_cons_zero, List.set_cons_succ]
            refine wpAnyH_take (i := 3) (oi := { dst := some 41, op := Op.load 3 (Operand.tmp 40), type := 3, pos := "bound.go:57", after := #[{ on := 2, ground := Ground.data }], guard := none }) (v := ?_) rfl (by kernel_rfl) (by kernel_rfl) (by kernel_rfl) (fun _ _ _ h => h) (Or.inl ⟨by rfl, ?_⟩) (by assumption) ?_
            rotate_left
            · (intro w hSw; (try dsimp only at hSw); go_simp; try with_reducible rfl)
            simp only [Act.put, List.setIfInBounds_toArray, List.set_cons_zero, List.set_cons_succ]
            refine wpAnyH_take (i := 4) (oi := { dst := some 42, op := Op.binOp BinOp.lss 3 (Operand.tmp 39) (Operand.tmp 41) 3, type := 4, pos := "bound.go:57", after := #[{ on := 1, ground := Ground.data }, { on := 3, ground := Ground.data }], guard := none }) (v := ?_) rfl (by kernel_rfl) (by kernel_rfl) (by kernel_rfl) (fun _ _ _ h => h) (Or.inl ⟨by rfl, ?_⟩) (by assumption) ?_
            rotate_left
            · (intro w hSw; (try dsimp only at hSw); go_simp; try with_reducible rfl)
            simp only [Act.put, List.setIfInBounds_toArray, List.set_cons_zero, List.set_cons_succ]
            refine wpAnyH_take (i := 5) (oi := { dst := some 43, op := Op.move (Operand.tmp 42), type := 4, pos := "bound.go:57", after := #[{ on := 4, ground := Ground.data }], guard := none }) (v := ?_) rfl (by kernel_rfl) (by kernel_rfl) (by kernel_rfl) (fun _ _ _ h => h) (Or.inl ⟨by rfl, ?_⟩) (by assumption) ?_
            rotate_left
            · (intro w hSw; (try dsimp only at hSw); go_simp; try with_reducible rfl)
            simp only [Act.put, List.setIfInBounds_toArray, List.set_cons_zero, List.set_cons_succ]
            refine wpAnyH_take (i := 6) (oi := { dst := some 44, op := Op.fieldAddr 58 (Operand.tmp 9) 0, type := 0, pos := "bound.go:57", after := #[{ on := 5, ground := Ground.guard }], guard := some (5, true) }) (v := undef) rfl (by kernel_rfl) (by kernel_rfl) (by kernel_rfl) (fun _ _ _ h => h) (Or.inr ⟨by rfl, rfl⟩) (by assumption) ?_
            simp only [Act.put, List.setIfInBounds_toArray, List.set_cons_zero, List.set_cons_succ]
            refine wpAnyH_take (i := 7) (oi := { dst := some 45, op := Op.load 55 (Operand.tmp 44), type := 55, pos := "bound.go:57", after := #[{ on := 6, ground := Ground.data }, { on := 5, ground := Ground.guard }], guard := some (5, true) }) (v := undef) rfl (by kernel_rfl) (by kernel_rfl) (by kernel_rfl) (fun _ _ _ h => h) (Or.inr ⟨by rfl, rfl⟩) (by assumption) ?_
            simp only [Act.put, List.setIfInBounds_toArray, List.set_cons_zero, List.set_cons_succ]
            refine wpAnyH_take (i := 8) (oi := { dst := some 46, op := Op.load 25 (Operand.tmp 3), type := 25, pos := "bound.go:57", after := #[{ on := 5, ground := Ground.guard }], guard := some (5, true) }) (v := undef) rfl (by kernel_rfl) (by kernel_rfl) (by kernel_rfl) (fun _ _ _ h => h) (Or.inr ⟨by rfl, rfl⟩) (by assumption) ?_
            simp only [Act.put, List.setIfInBounds_toArray, List.set_cons_zero, List.set_cons_succ]
            refine wpAnyH_ready (rs := [9]) (by kernel_rfl) (by simp) ?_
            refine AllReadyH.cons (o := { dst := some 47, op := Op.call { callee := Callee.value (Operand.func 24), args := #[Operand.tmp 46], argTypes := #[25] }, type := 55, pos := "bound.go:57", after := #[{ on := 8, ground := Ground.data }, { on := 5, ground := Ground.chain }, { on := 5, ground := Ground.guard }], guard := some (5, true) }) rfl (fun Kt hKt => ?_) AllReadyH.nil
            go_simp
            refine hKt.out _ _ hHeld (fun hHeld => ?_)
            clear hKt Kt
            try simp only [Act.put, List.setIfInBounds_toArray, List.set_cons_zero, List.set_cons_succ]
            refine wpAnyH_ready (rs := [10]) (by kernel_rfl) (by simp) ?_
            refine AllReadyH.cons (o := { dst := some 48, op := Op.call { callee := Callee.value (Operand.func 25), args := #[Operand.tmp 45, Operand.tmp 47], argTypes := #[55, 55] }, type := 4, pos := "bound.go:57", after := #[{ on := 7, ground := Ground.data }, { on := 9, ground := Ground.data }, { on := 9, ground := Ground.chain }, { on := 5, ground := Ground.guard }], guard := some (5, true) }) rfl (fun Kt hKt => ?_) AllReadyH.nil
            go_simp
            refine hKt.out _ _ hHeld (fun hHeld => ?_)
            clear hKt Kt
            try simp only [Act.put, List.setIfInBounds_toArray, List.set_cons_zero, List.set_cons_succ]
            refine wpAnyH_take (i := 11) (oi := { dst := some 49, op := Op.pick (Operand.tmp 43) (Operand.tmp 48) (Operand.const (Value.bool false)), type := 4, pos := "bound.go:57", after := #[{ on := 5, ground := Ground.data }, { on := 10, ground := Ground.data }], guard := none }) (v := ?_) rfl (by kernel_rfl) (by kernel_rfl) (by kernel_rfl) (fun _ _ _ h => h) (Or.inl ⟨by rfl, ?_⟩) (by assumption) ?_
            rotate_left
            · (intro w hSw; (try dsimp only at hSw); go_simp; try with_reducible rfl)
            simp only [Act.put, List.setIfInBounds_toArray, List.set_cons_zero, List.set_cons_succ]
            refine wpAnyH_done (by kernel_rfl) ?_ _
            go_wp2_with fail
            go_roundw
            case rel =>
              refine ⟨N, _, _, rfl, ?_, R2.out.below (Below.refl _ _).drew (lt_rgM R2.out) R2.out.lt, B4.out.drew⟩
              have h1 := HN.out
              have h2 := HP.out
              rw [OV.out, if_neg (by simp)] at h2
              omega
            case measure => rw [Rg.left_eq (R2.out.below (Below.refl _ _).drew (lt_rgM R2.out) R2.out.lt), CL.out]; exact HL.out
    · have RD : s.pas e = -1 := by unfold RwB.pas; rw [q1]; exact if_neg hj
      obtain ⟨_, t0, t1⟩ := id P1
      obtain ⟨_, d0, d1, d2, d3, d4, d5⟩ := id E1
      go_wp2_with fail
      go_ret
      try rw [RD]
      exact ⟨rfl, B2.out⟩
end
end Go.Proofs.Ytpcmdbpgplcnnaa

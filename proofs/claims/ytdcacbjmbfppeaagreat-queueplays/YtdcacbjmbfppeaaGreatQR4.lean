/- The document's own queue: Settle. -/
import Derived.Test.YtdcacbjmbfppeaaGreatQPq
import Derived.Test.YtdcacbjmbfppeaaGreatJL
import Derived.Deep.RegionHeld3
namespace Go.Proofs.YtdcacbjmbfppeaaGreat
open Go.RowKit Go.Lib Go.Sort
set_option linter.unusedVariables false

def RTy (U : TypeId) : Prop := U = 66 ∨ U = 69 ∨ U = 45
/-- What a call of the document's queue leaves of the rest. -/
structure RGo (base : Nat) (w w' : World) : Prop where
  low : Below base w w'
  que : ∀ b A T K s, Que w b A T K s → Que w' b A T K s
  kept : ∀ (k : Nat) (cs : Array Value) (U : TypeId) (fr : Nat × Nat), w.heap[k]? = some (.cells cs U fr) → ¬ RTy U → w'.heap[k]? = some (.cells cs U fr)
theorem RGo.below {base : Nat} {w w' : World} (h : Below w.heap.size w w') (hb : base ≤ w.heap.size) : RGo base w w' :=
  ⟨h.mono hb, fun _ _ _ _ _ q => q.below h, fun k cs U fr hk _ => (h.block k (lt_of_block hk)).trans hk⟩
theorem RGo.refl (base : Nat) (w : World) : RGo base w w := ⟨Below.refl _ _, fun _ _ _ _ _ q => q, fun _ _ _ _ h _ => h⟩
theorem RGo.trans {base : Nat} {u v w : World} (h : RGo base u v) (g : RGo base v w) : RGo base u w :=
  ⟨h.low.trans g.low, fun b A T K s q => g.que b A T K s (h.que b A T K s q), fun k cs U fr hk hU => g.kept k cs U fr (h.kept k cs U fr hk hU) hU⟩
theorem RGo.size {base : Nat} {w w' : World} (h : RGo base w w') (hb : base ≤ w.heap.size) : base ≤ w'.heap.size := Nat.le_trans hb h.low.size
theorem RGo.store {base R : Nat} {w w' : World} {cs : Array Value} {U : TypeId} {fr : Nat × Nat} (f : Fr (fun k => k = R) w w') (hR : w.heap[R]? = some (.cells cs U fr)) (hU : RTy U) (lo : Below base w w') : RGo base w w' := by
  have q1 : ¬ QTy U ∧ U ≠ 34 := by rcases hU with rfl | rfl | rfl <;> (unfold QTy; decide)
  refine ⟨lo, fun _ _ _ _ _ q => q.other f hR q1.1 q1.2, fun k ds V fr' hk hV => (f.2 k (lt_of_block hk) (fun e => ?_)).trans hk⟩
  subst e
  rw [hR] at hk
  simp only [Option.some.injEq, Obj.cells.injEq] at hk
  exact hV (hk.2.1 ▸ hU)
section
variable {w : World} {base B SR LR T K : Nat} {g : Nat → RS} {ow : Nat → List Ent} {sh : List Ent}
theorem RQ.goSh (h : RQ w base B SR LR T K g ow sh) (v : Value) : RGo base w (w.setCell ⟨B, 3, none⟩ v) := by
  obtain ⟨a, cap, h1, h2⟩ := h.head
  exact RGo.store (Fr.grown (gr_set w B 3 v)) h1 (.inl rfl) ((Below.refl _ _).setCell h.low.1 _)
theorem RQ.goOwn (h : RQ w base B SR LR T K g ow sh) (t : Nat) (v : Value) : RGo base w (w.setCell ⟨LR, t, none⟩ v) := by
  obtain ⟨cs, h1, h2⟩ := h.loc
  exact RGo.store (Fr.grown (gr_set w LR t v)) h1 (.inr (.inr rfl)) ((Below.refl _ _).setCell h.low.2.2 _)
theorem RQ.goSlot (h : RQ w base B SR LR T K g ow sh) (t : Nat) (a b c d : Value) : RGo base w ((((w.setCell ⟨SR, t * 4, none⟩ a).setCell ⟨SR, t * 4 + 1, none⟩ b).setCell ⟨SR, t * 4 + 2, none⟩ c).setCell ⟨SR, t * 4 + 3, none⟩ d) := by
  obtain ⟨cs, h1, h2⟩ := h.slot
  refine RGo.store ⟨by simp [World.setCell], fun x hx hn => ?_⟩ h1 (.inr (.inl rfl)) (((((Below.refl _ _).setCell h.low.2.1 _).setCell h.low.2.1 _).setCell h.low.2.1 _).setCell h.low.2.1 _)
  have e : ¬ SR = x := fun e => hn e.symm
  simp [World.setCell, Array.getElem?_modify, e]
theorem RQ.fz (h : RQ w base B SR LR T K g ow sh) : (∀ o, w.frozen? ⟨B, o, none⟩ = false) ∧ (∀ o, w.frozen? ⟨SR, o, none⟩ = false) ∧ ∀ o, w.frozen? ⟨LR, o, none⟩ = false := by
  obtain ⟨a, cap, h1, h2⟩ := h.head
  obtain ⟨cs, s1, s2, s3⟩ := h.slot
  obtain ⟨ds, l1, l2, l3⟩ := h.loc
  exact ⟨fun o => by simp [World.frozen?, h1], fun o => by simp [World.frozen?, s1], fun o => by simp [World.frozen?, l1]⟩
end
/-- What a call that turns the document's queue tells. -/
def RIs (w : World) (base B SR LR T K : Nat) (v : Value) (r' : RSt) (e : Ending) (w' : World) : Prop := e = .returned v ∧ RQ w' base B SR LR T K r'.g r'.ow r'.sh ∧ RGo base w w'

set_option maxHeartbeats 2000000 in
theorem rsettle_out (w : World) (base B SR LR T K : Nat) (r : RSt) (t : Int) (h : RQ w base B SR LR T K r.g r.ow r.sh) (hT : T ≤ 8) (ht : t < 0 ∨ (T : Int) ≤ t) :
    Calls Tryz.prog 11 #[ptr B, .int .i64 t] w fun e w' => e = .returned (.bool false) ∧ w' = w := by
  have th := there_any w base B SR LR T K r.g r.ow r.sh t h hT
  have e : (decide (0 ≤ t) && decide (t < (T : Int))) = false := by
    rcases ht with ht | ht
    · rw [decide_eq_false (by omega)]; rfl
    · rw [decide_eq_false (show ¬ t < (T : Int) by omega), Bool.and_false]
  rw [e] at th
  clear h e ht
  go_enter Tryz.func11, Tryz.ntmps11
  go_wp2_with fail
  refine th.mono ?_
  rintro x w1 ⟨rfl, hw⟩
  obtain rfl : w = w1 := hw.symm
  clear th
  go_wp2
  go_ret
  exact ⟨rfl, rfl⟩
set_option maxHeartbeats 2000000 in
theorem rsettle_no (w : World) (base B SR LR T K : Nat) (r : RSt) (t : Nat) (h : RQ w base B SR LR T K r.g r.ow r.sh) (hT : T ≤ 8) (ht : t < T) (hg : (r.g t).1 = false) :
    Calls Tryz.prog 11 #[ptr B, .int .i64 t] w fun e w' => e = .returned (.bool false) ∧ w' = w := by
  have th := there_any w base B SR LR T K r.g r.ow r.sh t h hT
  have e : (decide (0 ≤ (t : Int)) && decide ((t : Int) < (T : Int))) = true := by rw [decide_eq_true (by omega), decide_eq_true (by omega)]; rfl
  rw [e] at th
  obtain ⟨a, cap, c0, c1, c2, c3, _⟩ := h.cells
  obtain ⟨q0, _⟩ := h.at ht
  rw [hg] at q0
  have tz : (t : Int) < (T : Int) := by omega
  clear h e c0 c2 c3
  go_enter Tryz.func11, Tryz.ntmps11
  go_wp2_with fail
  refine th.mono ?_
  rintro x w1 ⟨rfl, hw⟩
  obtain rfl : w = w1 := hw.symm
  clear th
  go_wp2
  go_ret
  exact ⟨rfl, rfl⟩
set_option maxHeartbeats 8000000 in
set_option maxRecDepth 100000 in
theorem rsettle_yes (w : World) (base B SR LR T K : Nat) (r : RSt) (t : Nat) (h : RQ w base B SR LR T K r.g r.ow r.sh) (hT : T ≤ 8) (ht : t < T) (hg : (r.g t).1 = true) (hb : base ≤ w.heap.size) (ho : (r.ow t).length ≤ 1000) (hs : r.sh.length ≤ 5000) :
    Calls Tryz.prog 11 #[ptr B, .int .i64 t] w (RIs w base B SR LR T K (.bool true) (rSettle K r t)) := by
  have th := there_any w base B SR LR T K r.g r.ow r.sh t h hT
  have e : (decide (0 ≤ (t : Int)) && decide ((t : Int) < (T : Int))) = true := by rw [decide_eq_true (by omega), decide_eq_true (by omega)]; rfl
  rw [e] at th
  have H : Aside (RQ w base B SR LR T K r.g r.ow r.sh) := h
  obtain ⟨a, cap, c0, c1, c2, c3, il⟩ := h.cells
  obtain ⟨q0, q1, q2, q3⟩ := h.at ht
  obtain ⟨b, bc, o0, io⟩ := h.own ht
  obtain ⟨⟨f, k, d⟩, hx⟩ : ∃ x, r.g t = x := ⟨_, rfl⟩
  rw [hx] at q0 q1 q2 hg
  simp only at q0 q1 q2 hg
  subst hg
  have HX : Hid (r.g t = (true, (k, d))) := hx
  have tz : (t : Int) < (T : Int) := by omega
  obtain ⟨n0, hn0⟩ : ∃ n, (r.ow t).length = n := ⟨_, rfl⟩
  have pt := refPut_made b bc (r.ow t) (k, d) w.drew (io.below (Below.refl _ _).drew) (by omega)
  obtain ⟨I, hI⟩ : ∃ I, insL (r.ow t) (k, d) = I := ⟨_, rfl⟩
  rw [hI, hn0] at pt
  rw [hn0] at o0
  have HI : Hid (insL (r.ow t) (k, d) = I) := hI
  have PT : Aside (Calls Tryz.prog 38 #[.slice b n0 bc, .agg #[.int .u64 k, .int .i64 d]] w.drew (Made w.drew I)) := pt
  have hb1 : Below w.heap.size w w.drew := (Below.refl _ _).drew
  have KC : Aside (∀ W, Below w.heap.size w W → W.cell? ⟨B, 1, none⟩ = some (.slice (some ⟨SR, 0, none⟩) T T) ∧ W.cell? ⟨B, 2, none⟩ = some (.slice (some ⟨LR, 0, none⟩) T T) ∧ W.cell? ⟨LR, t, none⟩ = some (.slice b n0 bc) ∧ W.cell? ⟨SR, t * 4 + 1, none⟩ = some (.int .u64 k) ∧ W.cell? ⟨SR, t * 4 + 2, none⟩ = some (.int .i64 d)) := fun W hW => ⟨(hW.cell (p := ⟨B, 1, none⟩) h.lt.1).trans c1, (hW.cell (p := ⟨B, 2, none⟩) h.lt.1).trans c2, (hW.cell (p := ⟨LR, t, none⟩) h.lt.2.2).trans o0, (hW.cell (p := ⟨SR, t * 4 + 1, none⟩) h.lt.2.1).trans q1, (hW.cell (p := ⟨SR, t * 4 + 2, none⟩) h.lt.2.1).trans q2⟩
  have mx := mixed
  have LL : Hid (I.length = n0 + 1) := by show _ = _; rw [← hI, insL_len, hn0]
  rw [hn0] at ho
  clear h e c0 c2 c3 il io hx hn0 hI pt o0 q1 q2 q3
  go_enter Tryz.func11, Tryz.ntmps11
  go_wp2_with fail
  refine th.mono ?_
  rintro x w1 ⟨rfl, hw⟩
  obtain rfl : w = w1 := hw.symm
  clear th
  go_wp2_with fail
  refine anyE_start (S := (fun v' => v'.cell? ⟨B, 1, none⟩ = some (.slice (some ⟨SR, 0, none⟩) T T) ∧ v'.cell? ⟨B, 2, none⟩ = some (.slice (some ⟨LR, 0, none⟩) T T) ∧ v'.cell? ⟨LR, t, none⟩ = some (.slice b n0 bc) ∧ v'.cell? ⟨SR, t * 4 + 1, none⟩ = some (.int .u64 k) ∧ v'.cell? ⟨SR, t * 4 + 2, none⟩ = some (.int .i64 d))) (L := 22) (by kernel_rfl) ?_
  refine anyE_take (i := 0) (oi := { dst := some 20, op := Op.move (Operand.tmp 0), type := 27, pos := "vergerref10.go:33", after := #[], guard := none }) (v := ?_) rfl (by kernel_rfl) (by kernel_rfl) (by kernel_rfl) (by kernel_rfl) (fun _ _ _ h => h) (Or.inl ⟨by rfl, ?_⟩) (KC.out _ hb1) ?_
  rotate_left
  · (intro w hSw; (try dsimp only at hSw); go_simp; try with_reducible rfl)
  simp only [Act.put, List.setIfInBounds_toArray, List.set_cons_zero, List.set_cons_succ]
  refine anyE_take (i := 1) (oi := { dst := some 21, op := Op.nilCheck (Operand.tmp 20), type := 0, pos := "vergerref10.go:33", after := #[{ on := 0, ground := Ground.data }], guard := none }) (v := ?_) rfl (by kernel_rfl) (by kernel_rfl) (by kernel_rfl) (by kernel_rfl) (fun _ _ _ h => h) (Or.inl ⟨by rfl, ?_⟩) (KC.out _ hb1) ?_
  rotate_left
  · (intro w hSw; (try dsimp only at hSw); go_simp; try with_reducible rfl)
  simp only [Act.put, List.setIfInBounds_toArray, List.set_cons_zero, List.set_cons_succ]
  refine anyE_take (i := 2) (oi := { dst := some 22, op := Op.fieldAddr 66 (Operand.tmp 21) 2, type := 0, pos := "vergerref10.go:33", after := #[{ on := 1, ground := Ground.data }], guard := none }) (v := ?_) rfl (by kernel_rfl) (by kernel_rfl) (by kernel_rfl) (by kernel_rfl) (fun _ _ _ h => h) (Or.inl ⟨by rfl, ?_⟩) (KC.out _ hb1) ?_
  rotate_left
  · (intro w hSw; (try dsimp only at hSw); go_simp; try with_reducible rfl)
  simp only [Act.put, List.setIfInBounds_toArray, List.set_cons_zero, List.set_cons_succ]
  refine anyE_take (i := 3) (oi := { dst := some 23, op := Op.load 64 (Operand.tmp 22), type := 64, pos := "vergerref10.go:33", after := #[{ on := 2, ground := Ground.data }], guard := none }) (v := ?_) rfl (by kernel_rfl) (by kernel_rfl) (by kernel_rfl) (by kernel_rfl) (fun _ _ _ h => h) (Or.inl ⟨by rfl, ?_⟩) (KC.out _ hb1) ?_
  rotate_left
  · (intro w hSw; (try dsimp only at hSw); go_simp; try with_reducible rfl)
  simp only [Act.put, List.setIfInBounds_toArray, List.set_cons_zero, List.set_cons_succ]
  refine anyE_take (i := 4) (oi := { dst := some 24, op := Op.move (Operand.tmp 1), type := 3, pos := "vergerref10.go:33", after := #[], guard := none }) (v := ?_) rfl (by kernel_rfl) (by kernel_rfl) (by kernel_rfl) (by kernel_rfl) (fun _ _ _ h => h) (Or.inl ⟨by rfl, ?_⟩) (KC.out _ hb1) ?_
  rotate_left
  · (intro w hSw; (try dsimp only at hSw); go_simp; try with_reducible rfl)
  simp only [Act.put, List.setIfInBounds_toArray, List.set_cons_zero, List.set_cons_succ]
  refine anyE_take (i := 5) (oi := { dst := some 25, op := Op.move (Operand.tmp 0), type := 27, pos := "vergerref10.go:33", after := #[], guard := none }) (v := ?_) rfl (by kernel_rfl) (by kernel_rfl) (by kernel_rfl) (by kernel_rfl) (fun _ _ _ h => h) (Or.inl ⟨by rfl, ?_⟩) (KC.out _ hb1) ?_
  rotate_left
  · (intro w hSw; (try dsimp only at hSw); go_simp; try with_reducible rfl)
  simp only [Act.put, List.setIfInBounds_toArray, List.set_cons_zero, List.set_cons_succ]
  refine anyE_take (i := 6) (oi := { dst := some 26, op := Op.nilCheck (Operand.tmp 25), type := 0, pos := "vergerref10.go:33", after := #[{ on := 5, ground := Ground.data }], guard := none }) (v := ?_) rfl (by kernel_rfl) (by kernel_rfl) (by kernel_rfl) (by kernel_rfl) (fun _ _ _ h => h) (Or.inl ⟨by rfl, ?_⟩) (KC.out _ hb1) ?_
  rotate_left
  · (intro w hSw; (try dsimp only at hSw); go_simp; try with_reducible rfl)
  simp only [Act.put, List.setIfInBounds_toArray, List.set_cons_zero, List.set_cons_succ]
  refine anyE_take (i := 7) (oi := { dst := some 27, op := Op.fieldAddr 66 (Operand.tmp 26) 2, type := 0, pos := "vergerref10.go:33", after := #[{ on := 6, ground := Ground.data }], guard := none }) (v := ?_) rfl (by kernel_rfl) (by kernel_rfl) (by kernel_rfl) (by kernel_rfl) (fun _ _ _ h => h) (Or.inl ⟨by rfl, ?_⟩) (KC.out _ hb1) ?_
  rotate_left
  · (intro w hSw; (try dsimp only at hSw); go_simp; try with_reducible rfl)
  simp only [Act.put, List.setIfInBounds_toArray, List.set_cons_zero, List.set_cons_succ]
  refine anyE_take (i := 8) (oi := { dst := some 28, op := Op.load 64 (Operand.tmp 27), type := 64, pos := "vergerref10.go:33", after := #[{ on := 7, ground := Ground.data }], guard := none }) (v := ?_) rfl (by kernel_rfl) (by kernel_rfl) (by kernel_rfl) (by kernel_rfl) (fun _ _ _ h => h) (Or.inl ⟨by rfl, ?_⟩) (KC.out _ hb1) ?_
  rotate_left
  · (intro w hSw; (try dsimp only at hSw); go_simp; try with_reducible rfl)
  simp only [Act.put, List.setIfInBounds_toArray, List.set_cons_zero, List.set_cons_succ]
  refine anyE_take (i := 9) (oi := { dst := some 29, op := Op.move (Operand.tmp 1), type := 3, pos := "vergerref10.go:33", after := #[], guard := none }) (v := ?_) rfl (by kernel_rfl) (by kernel_rfl) (by kernel_rfl) (by kernel_rfl) (fun _ _ _ h => h) (Or.inl ⟨by rfl, ?_⟩) (KC.out _ hb1) ?_
  rotate_left
  · (intro w hSw; (try dsimp only at hSw); go_simp; try with_reducible rfl)
  simp only [Act.put, List.setIfInBounds_toArray, List.set_cons_zero, List.set_cons_succ]
  refine anyE_take (i := 10) (oi := { dst := some 30, op := Op.indexAddr 64 (Operand.tmp 28) (Operand.tmp 29), type := 0, pos := "vergerref10.go:33", after := #[{ on := 8, ground := Ground.data }, { on := 9, ground := Ground.data }], guard := none }) (v := ?_) rfl (by kernel_rfl) (by kernel_rfl) (by kernel_rfl) (by kernel_rfl) (fun _ _ _ h => h) (Or.inl ⟨by rfl, ?_⟩) (KC.out _ hb1) ?_
  rotate_left
  · (intro w hSw; (try dsimp only at hSw); go_simp; try with_reducible rfl)
  simp only [Act.put, List.setIfInBounds_toArray, List.set_cons_zero, List.set_cons_succ]
  refine anyE_take (i := 11) (oi := { dst := some 31, op := Op.load 45 (Operand.tmp 30), type := 45, pos := "vergerref10.go:33", after := #[{ on := 10, ground := Ground.data }], guard := none }) (v := ?_) rfl (by kernel_rfl) (by kernel_rfl) (by kernel_rfl) (by kernel_rfl) (fun _ _ _ h => h) (Or.inl ⟨by rfl, ?_⟩) (KC.out _ hb1) ?_
  rotate_left
  · (intro w hSw; (try dsimp only at hSw); go_simp; try with_reducible rfl)
  simp only [Act.put, List.setIfInBounds_toArray, List.set_cons_zero, List.set_cons_succ]
  refine anyE_take (i := 12) (oi := { dst := some 32, op := Op.move (Operand.tmp 0), type := 27, pos := "vergerref10.go:33", after := #[], guard := none }) (v := ?_) rfl (by kernel_rfl) (by kernel_rfl) (by kernel_rfl) (by kernel_rfl) (fun _ _ _ h => h) (Or.inl ⟨by rfl, ?_⟩) (KC.out _ hb1) ?_
  rotate_left
  · (intro w hSw; (try dsimp only at hSw); go_simp; try with_reducible rfl)
  simp only [Act.put, List.setIfInBounds_toArray, List.set_cons_zero, List.set_cons_succ]
  refine anyE_take (i := 13) (oi := { dst := some 33, op := Op.nilCheck (Operand.tmp 32), type := 0, pos := "vergerref10.go:33", after := #[{ on := 12, ground := Ground.data }], guard := none }) (v := ?_) rfl (by kernel_rfl) (by kernel_rfl) (by kernel_rfl) (by kernel_rfl) (fun _ _ _ h => h) (Or.inl ⟨by rfl, ?_⟩) (KC.out _ hb1) ?_
  rotate_left
  · (intro w hSw; (try dsimp only at hSw); go_simp; try with_reducible rfl)
  simp only [Act.put, List.setIfInBounds_toArray, List.set_cons_zero, List.set_cons_succ]
  refine anyE_take (i := 14) (oi := { dst := some 34, op := Op.fieldAddr 66 (Operand.tmp 33) 1, type := 0, pos := "vergerref10.go:33", after := #[{ on := 13, ground := Ground.data }], guard := none }) (v := ?_) rfl (by kernel_rfl) (by kernel_rfl) (by kernel_rfl) (by kernel_rfl) (fun _ _ _ h => h) (Or.inl ⟨by rfl, ?_⟩) (KC.out _ hb1) ?_
  rotate_left
  · (intro w hSw; (try dsimp only at hSw); go_simp; try with_reducible rfl)
  simp only [Act.put, List.setIfInBounds_toArray, List.set_cons_zero, List.set_cons_succ]
  refine anyE_take (i := 15) (oi := { dst := some 35, op := Op.load 63 (Operand.tmp 34), type := 63, pos := "vergerref10.go:33", after := #[{ on := 14, ground := Ground.data }], guard := none }) (v := ?_) rfl (by kernel_rfl) (by kernel_rfl) (by kernel_rfl) (by kernel_rfl) (fun _ _ _ h => h) (Or.inl ⟨by rfl, ?_⟩) (KC.out _ hb1) ?_
  rotate_left
  · (intro w hSw; (try dsimp only at hSw); go_simp; try with_reducible rfl)
  simp only [Act.put, List.setIfInBounds_toArray, List.set_cons_zero, List.set_cons_succ]
  refine anyE_take (i := 16) (oi := { dst := some 36, op := Op.move (Operand.tmp 1), type := 3, pos := "vergerref10.go:33", after := #[], guard := none }) (v := ?_) rfl (by kernel_rfl) (by kernel_rfl) (by kernel_rfl) (by kernel_rfl) (fun _ _ _ h => h) (Or.inl ⟨by rfl, ?_⟩) (KC.out _ hb1) ?_
  rotate_left
  · (intro w hSw; (try dsimp only at hSw); go_simp; try with_reducible rfl)
  simp only [Act.put, List.setIfInBounds_toArray, List.set_cons_zero, List.set_cons_succ]
  refine anyE_take (i := 17) (oi := { dst := some 37, op := Op.indexAddr 63 (Operand.tmp 35) (Operand.tmp 36), type := 0, pos := "vergerref10.go:33", after := #[{ on := 15, ground := Ground.data }, { on := 16, ground := Ground.data }], guard := none }) (v := ?_) rfl (by kernel_rfl) (by kernel_rfl) (by kernel_rfl) (by kernel_rfl) (fun _ _ _ h => h) (Or.inl ⟨by rfl, ?_⟩) (KC.out _ hb1) ?_
  rotate_left
  · (intro w hSw; (try dsimp only at hSw); go_simp; try with_reducible rfl)
  simp only [Act.put, List.setIfInBounds_toArray, List.set_cons_zero, List.set_cons_succ]
  refine anyE_take (i := 18) (oi := { dst := some 38, op := Op.fieldAddr 69 (Operand.tmp 37) 1, type := 0, pos := "vergerref10.go:33", after := #[{ on := 17, ground := Ground.data }], guard := none }) (v := ?_) rfl (by kernel_rfl) (by kernel_rfl) (by kernel_rfl) (by kernel_rfl) (fun _ _ _ h => h) (Or.inl ⟨by rfl, ?_⟩) (KC.out _ hb1) ?_
  rotate_left
  · (intro w hSw; (try dsimp only at hSw); go_simp; try with_reducible rfl)
  simp only [Act.put, List.setIfInBounds_toArray, List.set_cons_zero, List.set_cons_succ]
  refine anyE_take (i := 19) (oi := { dst := some 39, op := Op.load 34 (Operand.tmp 38), type := 34, pos := "vergerref10.go:33", after := #[{ on := 18, ground := Ground.data }], guard := none }) (v := ?_) rfl (by kernel_rfl) (by kernel_rfl) (by kernel_rfl) (by kernel_rfl) (fun _ _ _ h => h) (Or.inl ⟨by rfl, ?_⟩) (KC.out _ hb1) ?_
  rotate_left
  · (intro w hSw; (try dsimp only at hSw); go_simp; try with_reducible rfl)
  simp only [Act.put, List.setIfInBounds_toArray, List.set_cons_zero, List.set_cons_succ]
  refine anyE_ready (rs := [20]) (by kernel_rfl) (by simp) ?_
  refine AllE.cons (o := { dst := some 40, op := Op.call { callee := Callee.value (Operand.func 38), args := #[Operand.tmp 31, Operand.tmp 39], argTypes := #[45, 34] }, type := 45, pos := "vergerref10.go:33", after := #[{ on := 11, ground := Ground.data }, { on := 19, ground := Ground.data }], guard := none }) rfl (fun Kt hKt => ?_) ?_
  · go_simp
    (with_reducible refine Calls.mono PT.out ?_)
    rintro x_ w2 ⟨a2, c2, rfl, o2, d2⟩
    have hb2 : Below w.heap.size w w2 := hb1.trans (d2.mono hb1.size)
    obtain ⟨z1, z2, z3, z4, z5⟩ := KC.out _ hb2
    have fz := (H.out.below hb2).fz.2.2 t
    have LL2 := (H.out.below hb2).lt.2.2
    rw [LL.out]
    go_wp2_with fail
    refine hKt.out _ _ (fun _ => KC.out _ hb2) ?_
    clear hKt Kt
    try simp only [Act.put, List.setIfInBounds_toArray, List.set_cons_zero, List.set_cons_succ]
    refine anyE_take (i := 21) (oi := { dst := some 41, op := Op.indexAddr 64 (Operand.tmp 23) (Operand.tmp 24), type := 0, pos := "vergerref10.go:33", after := #[{ on := 3, ground := Ground.data }, { on := 4, ground := Ground.data }, { on := 0, ground := Ground.phase }, { on := 1, ground := Ground.phase }, { on := 2, ground := Ground.phase }, { on := 3, ground := Ground.phase }, { on := 4, ground := Ground.phase }, { on := 5, ground := Ground.phase }, { on := 6, ground := Ground.phase }, { on := 7, ground := Ground.phase }, { on := 8, ground := Ground.phase }, { on := 9, ground := Ground.phase }, { on := 10, ground := Ground.phase }, { on := 11, ground := Ground.phase }, { on := 12, ground := Ground.phase }, { on := 13, ground := Ground.phase }, { on := 14, ground := Ground.phase }, { on := 15, ground := Ground.phase }, { on := 16, ground := Ground.phase }, { on := 17, ground := Ground.phase }, { on := 18, ground := Ground.phase }, { on := 19, ground := Ground.phase }, { on := 20, ground := Ground.phase }], guard := none }) (v := ?_) rfl (by kernel_rfl) (by kernel_rfl) (by kernel_rfl) (by kernel_rfl) (fun _ _ _ h => h) (Or.inl ⟨by rfl, ?_⟩) (KC.out _ hb2) ?_
    rotate_left
    · (intro w hSw; (try dsimp only at hSw); go_simp; try with_reducible rfl)
    simp only [Act.put, List.setIfInBounds_toArray, List.set_cons_zero, List.set_cons_succ]
    refine anyE_ready (rs := [22]) (by kernel_rfl) (by simp) ?_
    refine AllE.cons (o := { dst := none, op := Op.store 45 (Operand.tmp 41) (Operand.tmp 40), type := 0, pos := "vergerref10.go:33", after := #[{ on := 21, ground := Ground.data }, { on := 20, ground := Ground.data }, { on := 20, ground := Ground.chain }, { on := 0, ground := Ground.phase }, { on := 1, ground := Ground.phase }, { on := 2, ground := Ground.phase }, { on := 3, ground := Ground.phase }, { on := 4, ground := Ground.phase }, { on := 5, ground := Ground.phase }, { on := 6, ground := Ground.phase }, { on := 7, ground := Ground.phase }, { on := 8, ground := Ground.phase }, { on := 9, ground := Ground.phase }, { on := 10, ground := Ground.phase }, { on := 11, ground := Ground.phase }, { on := 12, ground := Ground.phase }, { on := 13, ground := Ground.phase }, { on := 14, ground := Ground.phase }, { on := 15, ground := Ground.phase }, { on := 16, ground := Ground.phase }, { on := 17, ground := Ground.phase }, { on := 18, ground := Ground.phase }, { on := 19, ground := Ground.phase }, { on := 20, ground := Ground.phase }], guard := none }) rfl (fun Kt hKt => ?_) ?_
    · go_simp
      refine hKt.out _ _ (fun h => absurd rfl h) ?_
      clear hKt Kt
      try simp only [Act.put, List.setIfInBounds_toArray, List.set_cons_zero, List.set_cons_succ]
      refine anyE_done (by kernel_rfl) ?_ _
      have O2 : Aside (OwnE w2 base (.slice a2 (n0 + 1) c2) I) := by have o := o2.low (Nat.le_trans hb hb1.size); rw [LL.out] at o; exact o
      have R2 : Aside (RQ w2 base B SR LR T K r.g r.ow r.sh) := H.out.below hb2
      have g2 : RGo base w w2 := RGo.below hb2 hb
      have R3 : Aside (RQ (w2.setCell ⟨LR, t, none⟩ (.slice a2 (n0 + 1) c2)) base B SR LR T K r.g (lset r.ow t I) r.sh) := by have o := O2.out; rw [← LL.out] at o ⊢; exact R2.out.setOwn ht o
      have G3 : Aside (RGo base w (w2.setCell ⟨LR, t, none⟩ (.slice a2 (n0 + 1) c2))) := g2.trans (R2.out.goOwn t _)
      obtain ⟨w3, hw3⟩ : ∃ x, w2.setCell ⟨LR, t, none⟩ (.slice a2 (n0 + 1) c2) = x := ⟨_, rfl⟩
      rw [hw3] at R3 G3
      try rw [hw3]
      clear hw3 o2 d2 hb2 z1 z2 z3 z4 z5 fz LL2 O2 R2 g2
      obtain ⟨a3, cap3, d0, d1, d2, d3, _⟩ := R3.out.cells
      obtain ⟨s0, s1, s2, s3⟩ := R3.out.at ht
      have f0 := R3.out.fz.2.1 (t * 4)
      have f1 := R3.out.fz.2.1 (t * 4 + 1)
      have f2 := R3.out.fz.2.1 (t * 4 + 2)
      have f3 := R3.out.fz.2.1 (t * 4 + 3)
      have sl := R3.out.lt.2.1
      have r4 := R3.out.setSlot ht false 0 0
      have g4 := G3.out.trans (R3.out.goSlot t (.bool false) (.int .u64 0) (.int .i64 0) (.int .u64 0))
      obtain ⟨w4, hw4⟩ : ∃ x, ((((w3.setCell ⟨SR, t * 4, none⟩ (.bool false)).setCell ⟨SR, t * 4 + 1, none⟩ (.int .u64 0)).setCell ⟨SR, t * 4 + 2, none⟩ (.int .i64 0)).setCell ⟨SR, t * 4 + 3, none⟩ (.int .u64 0)) = x := ⟨_, rfl⟩
      rw [hw4] at r4 g4
      have R4 : Aside (RQ w4 base B SR LR T K (lset r.g t noS) (lset r.ow t I) r.sh) := r4
      have G4 : Aside (RGo base w w4) := g4
      have HW4 : Hid _ := hw4
      clear d0 d2 d3 r4 g4 hw4 R3 G3 H KC PT hb1 q0 c1
      go_wp2_with fail
      rw [HW4.out]
      clear HW4 s0 s1 s2 s3 f0 f1 f2 f3 sl d1
      obtain ⟨a4, cap4, e0, e1, e2, e3, il4⟩ := R4.out.cells
      obtain ⟨b4, bc4, p0, ip⟩ := R4.out.own ht
      rw [lset_same, LL.out] at p0
      rw [lset_same] at ip
      have IP : Aside (IsL w4 b4 bc4 I) := ip
      have IL4 : Aside (IsL w4 a4 cap4 r.sh) := il4
      obtain ⟨ns, hns⟩ : ∃ n, r.sh.length = n := ⟨_, rfl⟩
      rw [hns] at e3
      have HNS : Hid _ := hns
      have x0 : Below w4.heap.size w4 w4 := Below.refl _ _
      have x1 : Below w4.heap.size w4 w4.drew := x0.drew
      have KD : Aside (∀ W, Below w4.heap.size w4 W → W.cell? ⟨B, 0, none⟩ = some (.int .i64 K) ∧ W.cell? ⟨B, 2, none⟩ = some (.slice (some ⟨LR, 0, none⟩) T T) ∧ W.cell? ⟨LR, t, none⟩ = some (.slice b4 (n0 + 1) bc4) ∧ W.cell? ⟨B, 3, none⟩ = some (.slice a4 ns cap4)) := fun W hW => ⟨(hW.cell (p := ⟨B, 0, none⟩) R4.out.lt.1).trans e0, (hW.cell (p := ⟨B, 2, none⟩) R4.out.lt.1).trans e2, (hW.cell (p := ⟨LR, t, none⟩) R4.out.lt.2.2).trans p0, (hW.cell (p := ⟨B, 3, none⟩) R4.out.lt.1).trans e3⟩
      clear e1 ip il4 hns
      go_region_held3 (fun W => W.cell? ⟨B, 0, none⟩ = some (.int .i64 K) ∧ W.cell? ⟨B, 2, none⟩ = some (.slice (some ⟨LR, 0, none⟩) T T) ∧ W.cell? ⟨LR, t, none⟩ = some (.slice b4 (n0 + 1) bc4) ∧ W.cell? ⟨B, 3, none⟩ = some (.slice a4 ns cap4)) (first | with_reducible exact KD.out _ x0 | with_reducible exact KD.out _ x1)
        (fail)
      have G5 : Aside (RGo base w w4.drew) := G4.out.trans (RGo.below x1 (G4.out.size hb))
      have R5 : Aside (RQ w4.drew base B SR LR T K (lset r.g t noS) (lset r.ow t I) r.sh) := R4.out.below x1
      by_cases hK : K < n0 + 1
      · have hz : (K : Int) < (n0 : Int) + 1 := by omega
        have es : rSettle K r t = ⟨lset r.g t noS, lset r.ow t [], sortE (r.sh ++ I)⟩ := by unfold rSettle; rw [HX.out]; simp only [if_true]; rw [HI.out, LL.out, if_pos hK]
        have ES : Hid _ := es
        have mg := refMerge_made a4 b4 cap4 bc4 r.sh I w4.drew.drew (IL4.out.below x1.drew) (IP.out.below x1.drew) (by rw [LL.out]; omega)
        rw [HNS.out, LL.out] at mg
        have MG : Aside (Calls Tryz.prog 39 #[.slice a4 ns cap4, .slice b4 (n0 + 1) bc4] w4.drew.drew (Made w4.drew.drew (sortE (r.sh ++ I)))) := mg
        have x2 : Below w4.heap.size w4 w4.drew.drew := x1.drew
        clear mg es e0 e2 e3 p0
        go_wp2_with fail
        refine anyE_start (S := (fun v' => v'.cell? ⟨B, 0, none⟩ = some (.int .i64 K) ∧ v'.cell? ⟨B, 2, none⟩ = some (.slice (some ⟨LR, 0, none⟩) T T) ∧ v'.cell? ⟨LR, t, none⟩ = some (.slice b4 (n0 + 1) bc4) ∧ v'.cell? ⟨B, 3, none⟩ = some (.slice a4 ns cap4))) (L := 15) (by kernel_rfl) ?_
        refine anyE_take (i := 0) (oi := { dst := some 62, op := Op.move (Operand.tmp 0), type := 27, pos := "vergerref10.go:36", after := #[], guard := none }) (v := ?_) rfl (by kernel_rfl) (by kernel_rfl) (by kernel_rfl) (by kernel_rfl) (fun _ _ _ h => h) (Or.inl ⟨by rfl, ?_⟩) (KD.out _ x2) ?_
        rotate_left
        · (intro w hSw; (try dsimp only at hSw); go_simp; try with_reducible rfl)
        simp only [Act.put, List.setIfInBounds_toArray, List.set_cons_zero, List.set_cons_succ]
        refine anyE_take (i := 1) (oi := { dst := some 63, op := Op.move (Operand.tmp 0), type := 27, pos := "vergerref10.go:36", after := #[], guard := none }) (v := ?_) rfl (by kernel_rfl) (by kernel_rfl) (by kernel_rfl) (by kernel_rfl) (fun _ _ _ h => h) (Or.inl ⟨by rfl, ?_⟩) (KD.out _ x2) ?_
        rotate_left
        · (intro w hSw; (try dsimp only at hSw); go_simp; try with_reducible rfl)
        simp only [Act.put, List.setIfInBounds_toArray, List.set_cons_zero, List.set_cons_succ]
        refine anyE_take (i := 2) (oi := { dst := some 64, op := Op.nilCheck (Operand.tmp 63), type := 0, pos := "vergerref10.go:36", after := #[{ on := 1, ground := Ground.data }], guard := none }) (v := ?_) rfl (by kernel_rfl) (by kernel_rfl) (by kernel_rfl) (by kernel_rfl) (fun _ _ _ h => h) (Or.inl ⟨by rfl, ?_⟩) (KD.out _ x2) ?_
        rotate_left
        · (intro w hSw; (try dsimp only at hSw); go_simp; try with_reducible rfl)
        simp only [Act.put, List.setIfInBounds_toArray, List.set_cons_zero, List.set_cons_succ]
        refine anyE_take (i := 3) (oi := { dst := some 65, op := Op.fieldAddr 66 (Operand.tmp 64) 3, type := 0, pos := "vergerref10.go:36", after := #[{ on := 2, ground := Ground.data }], guard := none }) (v := ?_) rfl (by kernel_rfl) (by kernel_rfl) (by kernel_rfl) (by kernel_rfl) (fun _ _ _ h => h) (Or.inl ⟨by rfl, ?_⟩) (KD.out _ x2) ?_
        rotate_left
        · (intro w hSw; (try dsimp only at hSw); go_simp; try with_reducible rfl)
        simp only [Act.put, List.setIfInBounds_toArray, List.set_cons_zero, List.set_cons_succ]
        refine anyE_take (i := 4) (oi := { dst := some 66, op := Op.load 45 (Operand.tmp 65), type := 45, pos := "vergerref10.go:36", after := #[{ on := 3, ground := Ground.data }], guard := none }) (v := ?_) rfl (by kernel_rfl) (by kernel_rfl) (by kernel_rfl) (by kernel_rfl) (fun _ _ _ h => h) (Or.inl ⟨by rfl, ?_⟩) (KD.out _ x2) ?_
        rotate_left
        · (intro w hSw; (try dsimp only at hSw); go_simp; try with_reducible rfl)
        simp only [Act.put, List.setIfInBounds_toArray, List.set_cons_zero, List.set_cons_succ]
        refine anyE_take (i := 5) (oi := { dst := some 67, op := Op.move (Operand.tmp 0), type := 27, pos := "vergerref10.go:36", after := #[], guard := none }) (v := ?_) rfl (by kernel_rfl) (by kernel_rfl) (by kernel_rfl) (by kernel_rfl) (fun _ _ _ h => h) (Or.inl ⟨by rfl, ?_⟩) (KD.out _ x2) ?_
        rotate_left
        · (intro w hSw; (try dsimp only at hSw); go_simp; try with_reducible rfl)
        simp only [Act.put, List.setIfInBounds_toArray, List.set_cons_zero, List.set_cons_succ]
        refine anyE_take (i := 6) (oi := { dst := some 68, op := Op.nilCheck (Operand.tmp 67), type := 0, pos := "vergerref10.go:36", after := #[{ on := 5, ground := Ground.data }], guard := none }) (v := ?_) rfl (by kernel_rfl) (by kernel_rfl) (by kernel_rfl) (by kernel_rfl) (fun _ _ _ h => h) (Or.inl ⟨by rfl, ?_⟩) (KD.out _ x2) ?_
        rotate_left
        · (intro w hSw; (try dsimp only at hSw); go_simp; try with_reducible rfl)
        simp only [Act.put, List.setIfInBounds_toArray, List.set_cons_zero, List.set_cons_succ]
        refine anyE_take (i := 7) (oi := { dst := some 69, op := Op.fieldAddr 66 (Operand.tmp 68) 2, type := 0, pos := "vergerref10.go:36", after := #[{ on := 6, ground := Ground.data }], guard := none }) (v := ?_) rfl (by kernel_rfl) (by kernel_rfl) (by kernel_rfl) (by kernel_rfl) (fun _ _ _ h => h) (Or.inl ⟨by rfl, ?_⟩) (KD.out _ x2) ?_
        rotate_left
        · (intro w hSw; (try dsimp only at hSw); go_simp; try with_reducible rfl)
        simp only [Act.put, List.setIfInBounds_toArray, List.set_cons_zero, List.set_cons_succ]
        refine anyE_take (i := 8) (oi := { dst := some 70, op := Op.load 64 (Operand.tmp 69), type := 64, pos := "vergerref10.go:36", after := #[{ on := 7, ground := Ground.data }], guard := none }) (v := ?_) rfl (by kernel_rfl) (by kernel_rfl) (by kernel_rfl) (by kernel_rfl) (fun _ _ _ h => h) (Or.inl ⟨by rfl, ?_⟩) (KD.out _ x2) ?_
        rotate_left
        · (intro w hSw; (try dsimp only at hSw); go_simp; try with_reducible rfl)
        simp only [Act.put, List.setIfInBounds_toArray, List.set_cons_zero, List.set_cons_succ]
        refine anyE_take (i := 9) (oi := { dst := some 71, op := Op.move (Operand.tmp 1), type := 3, pos := "vergerref10.go:36", after := #[], guard := none }) (v := ?_) rfl (by kernel_rfl) (by kernel_rfl) (by kernel_rfl) (by kernel_rfl) (fun _ _ _ h => h) (Or.inl ⟨by rfl, ?_⟩) (KD.out _ x2) ?_
        rotate_left
        · (intro w hSw; (try dsimp only at hSw); go_simp; try with_reducible rfl)
        simp only [Act.put, List.setIfInBounds_toArray, List.set_cons_zero, List.set_cons_succ]
        refine anyE_take (i := 10) (oi := { dst := some 72, op := Op.indexAddr 64 (Operand.tmp 70) (Operand.tmp 71), type := 0, pos := "vergerref10.go:36", after := #[{ on := 8, ground := Ground.data }, { on := 9, ground := Ground.data }], guard := none }) (v := ?_) rfl (by kernel_rfl) (by kernel_rfl) (by kernel_rfl) (by kernel_rfl) (fun _ _ _ h => h) (Or.inl ⟨by rfl, ?_⟩) (KD.out _ x2) ?_
        rotate_left
        · (intro w hSw; (try dsimp only at hSw); go_simp; try with_reducible rfl)
        simp only [Act.put, List.setIfInBounds_toArray, List.set_cons_zero, List.set_cons_succ]
        refine anyE_take (i := 11) (oi := { dst := some 73, op := Op.load 45 (Operand.tmp 72), type := 45, pos := "vergerref10.go:36", after := #[{ on := 10, ground := Ground.data }], guard := none }) (v := ?_) rfl (by kernel_rfl) (by kernel_rfl) (by kernel_rfl) (by kernel_rfl) (fun _ _ _ h => h) (Or.inl ⟨by rfl, ?_⟩) (KD.out _ x2) ?_
        rotate_left
        · (intro w hSw; (try dsimp only at hSw); go_simp; try with_reducible rfl)
        simp only [Act.put, List.setIfInBounds_toArray, List.set_cons_zero, List.set_cons_succ]
        refine anyE_ready (rs := [12]) (by kernel_rfl) (by simp) ?_
        refine AllE.cons (o := { dst := some 74, op := Op.call { callee := Callee.value (Operand.func 39), args := #[Operand.tmp 66, Operand.tmp 73], argTypes := #[45, 45] }, type := 45, pos := "vergerref10.go:36", after := #[{ on := 4, ground := Ground.data }, { on := 11, ground := Ground.data }], guard := none }) rfl (fun Kt hKt => ?_) ?_
        · go_simp
          (with_reducible refine Calls.mono MG.out ?_)
          rintro x_ w7 ⟨a7, c7, rfl, o7, d7⟩
          have x3 : Below w4.heap.size w4 w7 := x2.trans (d7.mono x2.size)
          obtain ⟨y1, y2, y3, y4⟩ := KD.out _ x3
          have fb := (R4.out.below x3).fz.1 3
          have lb := (R4.out.below x3).lt.1
          go_wp2_with fail
          refine hKt.out _ _ (fun _ => KD.out _ x3) ?_
          clear hKt Kt
          try simp only [Act.put, List.setIfInBounds_toArray, List.set_cons_zero, List.set_cons_succ]
          refine anyE_ready (rs := [13]) (by kernel_rfl) (by simp) ?_
          refine AllE.cons (o := { dst := some 75, op := Op.nilCheck (Operand.tmp 62), type := 0, pos := "vergerref10.go:36", after := #[{ on := 0, ground := Ground.data }, { on := 0, ground := Ground.phase }, { on := 1, ground := Ground.phase }, { on := 2, ground := Ground.phase }, { on := 3, ground := Ground.phase }, { on := 4, ground := Ground.phase }, { on := 5, ground := Ground.phase }, { on := 6, ground := Ground.phase }, { on := 7, ground := Ground.phase }, { on := 8, ground := Ground.phase }, { on := 9, ground := Ground.phase }, { on := 10, ground := Ground.phase }, { on := 11, ground := Ground.phase }, { on := 12, ground := Ground.phase }], guard := none }) rfl (fun Kt hKt => ?_) ?_
          · go_simp
            refine hKt.out _ _ (fun _ => KD.out _ x3) ?_
            clear hKt Kt
            try simp only [Act.put, List.setIfInBounds_toArray, List.set_cons_zero, List.set_cons_succ]
            refine anyE_ready (rs := [14]) (by kernel_rfl) (by simp) ?_
            refine AllE.cons (o := { dst := some 76, op := Op.fieldAddr 66 (Operand.tmp 75) 3, type := 0, pos := "vergerref10.go:36", after := #[{ on := 13, ground := Ground.data }, { on := 0, ground := Ground.phase }, { on := 1, ground := Ground.phase }, { on := 2, ground := Ground.phase }, { on := 3, ground := Ground.phase }, { on := 4, ground := Ground.phase }, { on := 5, ground := Ground.phase }, { on := 6, ground := Ground.phase }, { on := 7, ground := Ground.phase }, { on := 8, ground := Ground.phase }, { on := 9, ground := Ground.phase }, { on := 10, ground := Ground.phase }, { on := 11, ground := Ground.phase }, { on := 12, ground := Ground.phase }], guard := none }) rfl (fun Kt hKt => ?_) ?_
            · go_simp
              refine hKt.out _ _ (fun _ => KD.out _ x3) ?_
              clear hKt Kt
              try simp only [Act.put, List.setIfInBounds_toArray, List.set_cons_zero, List.set_cons_succ]
              refine anyE_ready (rs := [15]) (by kernel_rfl) (by simp) ?_
              refine AllE.cons (o := { dst := none, op := Op.store 45 (Operand.tmp 76) (Operand.tmp 74), type := 0, pos := "vergerref10.go:36", after := #[{ on := 14, ground := Ground.data }, { on := 12, ground := Ground.data }, { on := 12, ground := Ground.chain }, { on := 0, ground := Ground.phase }, { on := 1, ground := Ground.phase }, { on := 2, ground := Ground.phase }, { on := 3, ground := Ground.phase }, { on := 4, ground := Ground.phase }, { on := 5, ground := Ground.phase }, { on := 6, ground := Ground.phase }, { on := 7, ground := Ground.phase }, { on := 8, ground := Ground.phase }, { on := 9, ground := Ground.phase }, { on := 10, ground := Ground.phase }, { on := 11, ground := Ground.phase }, { on := 12, ground := Ground.phase }], guard := none }) rfl (fun Kt hKt => ?_) ?_
              · go_simp
                refine hKt.out _ _ (fun h => absurd rfl h) ?_
                clear hKt Kt
                try simp only [Act.put, List.setIfInBounds_toArray, List.set_cons_zero, List.set_cons_succ]
                refine anyE_done (by kernel_rfl) ?_ _
                have O7 := o7.low (Nat.le_trans (G4.out.size hb) x2.size)
                have R7 : Aside (RQ w7 base B SR LR T K (lset r.g t noS) (lset r.ow t I) r.sh) := R4.out.below x3
                have G7 : Aside (RGo base w w7) := G4.out.trans (RGo.below x3 (G4.out.size hb))
                have r8 := R7.out.setSh O7
                have g8 := G7.out.trans (R7.out.goSh (.slice a7 (sortE (r.sh ++ I)).length c7))
                obtain ⟨z8, hz8⟩ : ∃ z, (sortE (r.sh ++ I)).length = z := ⟨_, rfl⟩
                rw [hz8] at r8 g8
                try rw [hz8]
                obtain ⟨w8, hw8⟩ : ∃ x, w7.setCell ⟨B, 3, none⟩ (.slice a7 z8 c7) = x := ⟨_, rfl⟩
                rw [hw8] at r8 g8
                try rw [hw8]
                obtain ⟨_, _, _, _, e2, _⟩ := r8.cells
                obtain ⟨b8, bc8, p8, _⟩ := r8.own ht
                have f8 := r8.fz.2.2 t
                have l8 := r8.lt.2.2
                have r9 := r8.setOwn ht (a := none) (cap := 0) (d := []) (OwnE.nil _ _)
                have g9 := g8.trans (r8.goOwn t (.slice none 0 0))
                have FIN : Aside (RIs w base B SR LR T K (.bool true) (rSettle K r t) (.returned (.bool true)) (w8.setCell ⟨LR, t, none⟩ (.slice none 0 0))) := by rw [ES.out]; rw [lset_lset] at r9; exact ⟨rfl, r9, g9⟩
                clear r8 g8 r9 g9 hw8 hz8 O7 o7 d7 x3 y1 y2 y3 y4 R7 G7
                go_wp2
                go_ret
                exact FIN.out
              exact AllE.nil
            exact AllE.nil
          exact AllE.nil
        exact AllE.nil
      · have hz : ¬ (K : Int) < (n0 : Int) + 1 := by omega
        have es : rSettle K r t = ⟨lset r.g t noS, lset r.ow t I, r.sh⟩ := by unfold rSettle; rw [HX.out]; simp only [if_true]; rw [HI.out, LL.out, if_neg hK]
        have FIN : Aside (RIs w base B SR LR T K (.bool true) (rSettle K r t) (.returned (.bool true)) w4.drew) := by rw [es]; exact ⟨rfl, R5.out, G5.out⟩
        clear es e0 e2 e3 p0
        go_wp2
        go_ret
        exact FIN.out
    exact AllE.nil
  exact AllE.nil
end Go.Proofs.YtdcacbjmbfppeaaGreat

/- grid.After and the document's After: contracts. -/
import Derived.Test.YtpenjncbodcbnaaDoorGkM
import Derived.Test.YtpenjncbodcbnaaDoorAnyF
import Derived.Deep.CutBlock
import Derived.Deep.DeepCutAuto
namespace Go.Proofs.YtpenjncbodcbnaaDoor.Tk
open Go.RowKit
set_option linter.unusedVariables false

/-- When a job is due again that has run at n. -/
def dueJ (f p d n : Int) : Int := if gridOk f p (max n d) then gridV f p (max n d) else d
set_option maxHeartbeats 1000000 in
theorem after_no (f p d r m n : Int) (w : World) (hf : IsT f) (hp : IsT p) (hd : IsT d) (hok : okJ f p d = false) :
    Calls Tryd.prog 26 #[.agg #[.int .u64 f, .int .u64 p, .int .u64 d, .int .u64 r, .int .u64 m], .int .u64 n] w fun e w' => e = .returned (.tuple #[.agg #[.int .u64 f, .int .u64 p, .int .u64 d, .int .u64 r, .int .u64 m], .bool false]) ∧ Below w.heap.size w w' := by
  obtain ⟨S, hS⟩ : ∃ S, w.heap.size = S := ⟨_, rfl⟩
  obtain ⟨u1, hu1⟩ : ∃ u, w.alloc (.cells #[.int .u64 f, .int .u64 p, .int .u64 d, .int .u64 r, .int .u64 m] 31) = u := ⟨_, rfl⟩
  obtain ⟨u2, hu2⟩ : ∃ u, u1.alloc (.cells #[.int .u64 0, .int .u64 0, .int .u64 0, .int .u64 0, .int .u64 0] 31) = u := ⟨_, rfl⟩
  obtain ⟨v, hv⟩ : ∃ u, u2.alloc (.cells #[.int .u64 f, .int .u64 p, .int .u64 d, .int .u64 r, .int .u64 m] 31) = u := ⟨_, rfl⟩
  have s1 : u1.heap.size = S + 1 := by rw [← hu1, alloc_sz, hS]
  have s2 : u2.heap.size = S + 1 + 1 := by rw [← hu2, alloc_sz, s1]
  have b1 : Below S w u1 := by rw [← hu1, ← hS]; exact bel1 _ _
  have b2 : Below u1.heap.size u1 u2 := by rw [← hu2]; exact bel1 _ _
  have b3 : Below u2.heap.size u2 v := by rw [← hv]; exact bel1 _ _
  have x1 : JBox u1 S f p d r m := by rw [← hu1, ← hS]; exact JBox.new _ _ _ _ _ _
  have x2 : JBox u2 (S + 1) 0 0 0 0 0 := by rw [← hu2, ← s1]; exact JBox.new _ _ _ _ _ _
  have y1 : JBox u2 S f p d r m := x1.below b2
  have z1 : JBox v S f p d r m := y1.below b3
  have z2 : JBox v (S + 1) 0 0 0 0 0 := x2.below b3
  have bv : Below S w v := (b1.trans (b2.mono (by omega))).trans (b3.mono (by omega))
  have ok := ok_any f p d r m u2 hf hp hd
  rw [hv, hok] at ok
  have HU1 : Hid _ := hu1
  have HU2 : Hid _ := hu2
  obtain ⟨k0, k1, k2, k3, k4⟩ := y1.cell
  obtain ⟨c0, c1, c2, c3, c4⟩ := z1.cell
  obtain ⟨fz, lt⟩ := z2.fz
  obtain ⟨e0, e1, e2, e3, e4⟩ := z2.cell
  have q : JBox _ (S + 1) f p d r m := z2.put f p d r m
  have FIN : Aside (Below S w (put5 v (S + 1) f p d r m)) := put5_below bv (by omega) _ _ _ _ _
  have QC : Aside _ := q.cell
  clear hu1 hu2 hv b1 b2 b3 x1 x2 y1 z1 z2 bv s1 s2 q
  go_enter Tryd.func26, Tryd.ntmps26
  go_wp2_with fail
  rw [HU1.out, HU2.out]
  refine ok.mono ?_
  rintro e w1 ⟨rfl, rfl⟩
  clear ok
  go_wp2_with fail
  have qc := QC.out
  unfold put5 at qc
  obtain ⟨q0, q1, q2, q3, q4⟩ := qc
  refine bodyPost_ret (v := .tuple #[.agg #[.int .u64 f, .int .u64 p, .int .u64 d, .int .u64 r, .int .u64 m], .bool false]) (by simp [results, Tryd.results26, go_sem, q0, q1, q2, q3, q4]) rfl ⟨rfl, ?_⟩
  first | exact FIN.out | (rw [hS]; exact FIN.out)
set_option maxHeartbeats 4000000 in
set_option maxRecDepth 100000 in
theorem after_yes (f p d r m n : Int) (w : World) (hf : IsT f) (hp : IsT p) (hd : IsT d) (hn : IsT n) (hok : okJ f p d = true) :
    Calls Tryd.prog 26 #[.agg #[.int .u64 f, .int .u64 p, .int .u64 d, .int .u64 r, .int .u64 m], .int .u64 n] w fun e w' => e = .returned (.tuple #[.agg #[.int .u64 f, .int .u64 p, .int .u64 (dueJ f p d n), .int .u64 (IntKind.u64.wrap (r + 1)), .int .u64 (IntKind.u64.wrap (m + missT f p d n))], .bool (gridOk f p (max n d))]) ∧ Below w.heap.size w w' := by
  obtain ⟨S, hS⟩ : ∃ S, w.heap.size = S := ⟨_, rfl⟩
  obtain ⟨u1, hu1⟩ : ∃ u, w.alloc (.cells #[.int .u64 f, .int .u64 p, .int .u64 d, .int .u64 r, .int .u64 m] 31) = u := ⟨_, rfl⟩
  obtain ⟨u2, hu2⟩ : ∃ u, u1.alloc (.cells #[.int .u64 0, .int .u64 0, .int .u64 0, .int .u64 0, .int .u64 0] 31) = u := ⟨_, rfl⟩
  obtain ⟨v, hv⟩ : ∃ u, u2.alloc (.cells #[.int .u64 f, .int .u64 p, .int .u64 d, .int .u64 r, .int .u64 m] 31) = u := ⟨_, rfl⟩
  have s1 : u1.heap.size = S + 1 := by rw [← hu1, alloc_sz, hS]
  have s2 : u2.heap.size = S + 1 + 1 := by rw [← hu2, alloc_sz, s1]
  have b1 : Below S w u1 := by rw [← hu1, ← hS]; exact bel1 _ _
  have b2 : Below u1.heap.size u1 u2 := by rw [← hu2]; exact bel1 _ _
  have b3 : Below u2.heap.size u2 v := by rw [← hv]; exact bel1 _ _
  have x1 : JBox u1 S f p d r m := by rw [← hu1, ← hS]; exact JBox.new _ _ _ _ _ _
  have x2 : JBox u2 (S + 1) 0 0 0 0 0 := by rw [← hu2, ← s1]; exact JBox.new _ _ _ _ _ _
  have y1 : JBox u2 S f p d r m := x1.below b2
  have z1 : JBox v S f p d r m := y1.below b3
  have z2 : JBox v (S + 1) 0 0 0 0 0 := x2.below b3
  have bv : Below S w v := (b1.trans (b2.mono (by omega))).trans (b3.mono (by omega))
  have ok := ok_any f p d r m u2 hf hp hd
  rw [hv, hok] at ok
  have HU1 : Hid _ := hu1
  have HU2 : Hid _ := hu2
  obtain ⟨rr, hrr⟩ : ∃ x, IntKind.u64.wrap (r + 1) = x := ⟨_, rfl⟩
  obtain ⟨M, hM⟩ : ∃ x, missT f p d n = x := ⟨_, rfl⟩
  obtain ⟨mm, hmm⟩ : ∃ x, IntKind.u64.wrap (m + M) = x := ⟨_, rfl⟩
  obtain ⟨X, hX⟩ : ∃ x, max n d = x := ⟨_, rfl⟩
  have hXT : IsT X := by unfold IsT at *; omega
  have MI : Aside (∀ w : World, Calls Tryd.prog 36 #[.int .u64 f, .int .u64 p, .int .u64 d, .int .u64 n] w fun e w' => e = .returned (.int .u64 M) ∧ w' = w) := fun w => by rw [← hM]; exact missed_any f p d n w hf hp hd hn
  have GR : Aside (∀ w : World, Calls Tryd.prog 37 #[.int .u64 f, .int .u64 p, .int .u64 X] w fun e w' => e = .returned (.tuple #[.int .u64 (gridV f p X), .bool (gridOk f p X)]) ∧ w' = w) := fun w => grid_any f p X w hf hp hXT
  have DU : dueJ f p d n = if gridOk f p X then gridV f p X else d := by unfold dueJ; rw [hX]
  rw [DU, hM, hmm, hrr, hX]
  clear DU
  generalize gridV f p X = V at *
  generalize gridOk f p X = G at *
  obtain ⟨D, hD⟩ : ∃ D, (if G = true then V else d) = D := ⟨_, rfl⟩
  rw [hD]
  have HD : Hid _ := hD
  clear hD
  obtain ⟨k0, k1, k2, k3, k4⟩ := y1.cell
  obtain ⟨c0, c1, c2, c3, c4⟩ := z1.cell
  obtain ⟨fz, lt⟩ := z1.fz
  obtain ⟨v1, hv1⟩ : ∃ x, v.setCell ⟨S, 3, none⟩ (.int .u64 rr) = x := ⟨_, rfl⟩
  have t1 : JBox v1 S f p d rr m := by rw [← hv1]; exact z1.set3 rr
  have t2 : JBox v1 (S + 1) 0 0 0 0 0 := by rw [← hv1]; exact z2.other (by omega) _
  have bw : Below S w v1 := by rw [← hv1]; exact bv.setCell (by show S ≤ S; omega) _
  obtain ⟨fz1, lt1⟩ := t1.fz
  obtain ⟨g0, g1, g2, g3, g4⟩ := t1.cell
  have K0 : Aside (v1.drew.cell? ⟨S, 0, none⟩ = some (.int .u64 f) ∧ v1.drew.cell? ⟨S, 1, none⟩ = some (.int .u64 p) ∧ v1.drew.cell? ⟨S, 2, none⟩ = some (.int .u64 d) ∧ v1.drew.cell? ⟨S, 4, none⟩ = some (.int .u64 m)) := ⟨g0, g1, g2, g4⟩
  obtain ⟨v2, hv2⟩ : ∃ x, (v1.setCell ⟨S, 4, none⟩ (.int .u64 mm)).drew = x := ⟨_, rfl⟩
  have T2 : Aside (JBox v2 S f p d rr mm ∧ JBox v2 (S + 1) 0 0 0 0 0 ∧ Below S w v2) := by
    rw [← hv2]
    exact ⟨(t1.set4 mm).below (Below.refl _ _).drew, (t2.other (by omega) _).below (Below.refl _ _).drew, (bw.setCell (by show S ≤ S; omega) _).drew⟩
  have HV1 : Hid _ := hv1
  have HV2 : Hid _ := hv2
  have HX : Hid _ := hX
  clear hu1 hu2 hv b1 b2 b3 x1 x2 y1 z1 z2 bv s1 s2 t1 t2 bw hv1 hv2 hM hX hok
  obtain ⟨hn0, hn1⟩ := hn
  obtain ⟨hd0, hd1⟩ := hd
  clear hf hp hXT
  go_enter Tryd.func26, Tryd.ntmps26
  go_wp2_with fail
  rw [HU1.out, HU2.out]
  refine ok.mono ?_
  rintro e w1 ⟨rfl, rfl⟩
  clear ok
  go_upto_region 4 with fail
  rw [HV1.out]
  refine anyE_start (S := (fun v0 => v0.cell? ⟨S, 0, none⟩ = some (.int .u64 f) ∧ v0.cell? ⟨S, 1, none⟩ = some (.int .u64 p) ∧ v0.cell? ⟨S, 2, none⟩ = some (.int .u64 d) ∧ v0.cell? ⟨S, 4, none⟩ = some (.int .u64 m))) (L := 12) (by kernel_rfl) ?_
  refine anyE_take (i := 0) (oi := { dst := some 16, op := Op.fieldAddr 31 (Operand.tmp 2) 4, type := 0, pos := "grid.go:28", after := #[], guard := none }) (v := ?_) rfl (by kernel_rfl)  (by kernel_rfl) (by kernel_rfl) (by kernel_rfl) (fun _ _ _ h => h) (Or.inl ⟨by rfl, ?_⟩) (K0.out) ?_
  rotate_left
  · (intro w hSw; (try dsimp only at hSw); go_simp; try with_reducible rfl)
  simp only [Act.put, List.setIfInBounds_toArray, List.set_cons_zero, List.set_cons_succ]
  refine anyE_take (i := 1) (oi := { dst := some 17, op := Op.load 29 (Operand.tmp 16), type := 29, pos := "grid.go:28", after := #[{ on := 0, ground := Ground.data }], guard := none }) (v := ?_) rfl (by kernel_rfl)  (by kernel_rfl) (by kernel_rfl) (by kernel_rfl) (fun _ _ _ h => h) (Or.inl ⟨by rfl, ?_⟩) (K0.out) ?_
  rotate_left
  · (intro w hSw; (try dsimp only at hSw); go_simp; try with_reducible rfl)
  simp only [Act.put, List.setIfInBounds_toArray, List.set_cons_zero, List.set_cons_succ]
  refine anyE_take (i := 2) (oi := { dst := some 18, op := Op.fieldAddr 31 (Operand.tmp 2) 0, type := 0, pos := "grid.go:28", after := #[], guard := none }) (v := ?_) rfl (by kernel_rfl)  (by kernel_rfl) (by kernel_rfl) (by kernel_rfl) (fun _ _ _ h => h) (Or.inl ⟨by rfl, ?_⟩) (K0.out) ?_
  rotate_left
  · (intro w hSw; (try dsimp only at hSw); go_simp; try with_reducible rfl)
  simp only [Act.put, List.setIfInBounds_toArray, List.set_cons_zero, List.set_cons_succ]
  refine anyE_take (i := 3) (oi := { dst := some 19, op := Op.load 29 (Operand.tmp 18), type := 29, pos := "grid.go:28", after := #[{ on := 2, ground := Ground.data }], guard := none }) (v := ?_) rfl (by kernel_rfl)  (by kernel_rfl) (by kernel_rfl) (by kernel_rfl) (fun _ _ _ h => h) (Or.inl ⟨by rfl, ?_⟩) (K0.out) ?_
  rotate_left
  · (intro w hSw; (try dsimp only at hSw); go_simp; try with_reducible rfl)
  simp only [Act.put, List.setIfInBounds_toArray, List.set_cons_zero, List.set_cons_succ]
  refine anyE_take (i := 4) (oi := { dst := some 20, op := Op.fieldAddr 31 (Operand.tmp 2) 1, type := 0, pos := "grid.go:28", after := #[], guard := none }) (v := ?_) rfl (by kernel_rfl)  (by kernel_rfl) (by kernel_rfl) (by kernel_rfl) (fun _ _ _ h => h) (Or.inl ⟨by rfl, ?_⟩) (K0.out) ?_
  rotate_left
  · (intro w hSw; (try dsimp only at hSw); go_simp; try with_reducible rfl)
  simp only [Act.put, List.setIfInBounds_toArray, List.set_cons_zero, List.set_cons_succ]
  refine anyE_take (i := 5) (oi := { dst := some 21, op := Op.load 29 (Operand.tmp 20), type := 29, pos := "grid.go:28", after := #[{ on := 4, ground := Ground.data }], guard := none }) (v := ?_) rfl (by kernel_rfl)  (by kernel_rfl) (by kernel_rfl) (by kernel_rfl) (fun _ _ _ h => h) (Or.inl ⟨by rfl, ?_⟩) (K0.out) ?_
  rotate_left
  · (intro w hSw; (try dsimp only at hSw); go_simp; try with_reducible rfl)
  simp only [Act.put, List.setIfInBounds_toArray, List.set_cons_zero, List.set_cons_succ]
  refine anyE_take (i := 6) (oi := { dst := some 22, op := Op.fieldAddr 31 (Operand.tmp 2) 2, type := 0, pos := "grid.go:28", after := #[], guard := none }) (v := ?_) rfl (by kernel_rfl)  (by kernel_rfl) (by kernel_rfl) (by kernel_rfl) (fun _ _ _ h => h) (Or.inl ⟨by rfl, ?_⟩) (K0.out) ?_
  rotate_left
  · (intro w hSw; (try dsimp only at hSw); go_simp; try with_reducible rfl)
  simp only [Act.put, List.setIfInBounds_toArray, List.set_cons_zero, List.set_cons_succ]
  refine anyE_take (i := 7) (oi := { dst := some 23, op := Op.load 29 (Operand.tmp 22), type := 29, pos := "grid.go:28", after := #[{ on := 6, ground := Ground.data }], guard := none }) (v := ?_) rfl (by kernel_rfl)  (by kernel_rfl) (by kernel_rfl) (by kernel_rfl) (fun _ _ _ h => h) (Or.inl ⟨by rfl, ?_⟩) (K0.out) ?_
  rotate_left
  · (intro w hSw; (try dsimp only at hSw); go_simp; try with_reducible rfl)
  simp only [Act.put, List.setIfInBounds_toArray, List.set_cons_zero, List.set_cons_succ]
  refine anyE_take (i := 8) (oi := { dst := some 24, op := Op.move (Operand.tmp 1), type := 29, pos := "grid.go:28", after := #[], guard := none }) (v := ?_) rfl (by kernel_rfl)  (by kernel_rfl) (by kernel_rfl) (by kernel_rfl) (fun _ _ _ h => h) (Or.inl ⟨by rfl, ?_⟩) (K0.out) ?_
  rotate_left
  · (intro w hSw; (try dsimp only at hSw); go_simp; try with_reducible rfl)
  simp only [Act.put, List.setIfInBounds_toArray, List.set_cons_zero, List.set_cons_succ]
  refine anyE_ready (rs := [9]) (by kernel_rfl) (by simp) ?_
  refine AllE.cons (o := { dst := some 25, op := Op.call { callee := Callee.value (Operand.func 36), args := #[Operand.tmp 19, Operand.tmp 21, Operand.tmp 23, Operand.tmp 24], argTypes := #[29, 29, 29, 29] }, type := 29, pos := "grid.go:28", after := #[{ on := 3, ground := Ground.data }, { on := 5, ground := Ground.data }, { on := 7, ground := Ground.data }, { on := 8, ground := Ground.data }], guard := none }) rfl (fun Kt hKt => ?_) ?_
  · go_simp
    (with_reducible refine Calls.mono (MI.out _) ?_)
    rintro x_ w1 ⟨rfl, rfl⟩
    dsimp only
    refine hKt.out _ _ (fun _ => K0.out) ?_
    clear hKt Kt
    try simp only [Act.put, List.setIfInBounds_toArray, List.set_cons_zero, List.set_cons_succ]
    refine anyE_take (i := 10) (oi := { dst := some 26, op := Op.binOp BinOp.add 29 (Operand.tmp 17) (Operand.tmp 25) 29, type := 29, pos := "grid.go:28", after := #[{ on := 1, ground := Ground.data }, { on := 9, ground := Ground.data }], guard := none }) (v := ?_) rfl (by kernel_rfl)  (by kernel_rfl) (by kernel_rfl) (by kernel_rfl) (fun _ _ _ h => h) (Or.inl ⟨by rfl, ?_⟩) (K0.out) ?_
    rotate_left
    · (intro w hSw; (try dsimp only at hSw); go_simp; try with_reducible rfl)
    simp only [Act.put, List.setIfInBounds_toArray, List.set_cons_zero, List.set_cons_succ]
    refine anyE_take (i := 11) (oi := { dst := some 27, op := Op.fieldAddr 31 (Operand.tmp 2) 4, type := 0, pos := "grid.go:28", after := #[{ on := 0, ground := Ground.phase }, { on := 1, ground := Ground.phase }, { on := 2, ground := Ground.phase }, { on := 3, ground := Ground.phase }, { on := 4, ground := Ground.phase }, { on := 5, ground := Ground.phase }, { on := 6, ground := Ground.phase }, { on := 7, ground := Ground.phase }, { on := 8, ground := Ground.phase }, { on := 9, ground := Ground.phase }, { on := 10, ground := Ground.phase }], guard := none }) (v := ?_) rfl (by kernel_rfl)  (by kernel_rfl) (by kernel_rfl) (by kernel_rfl) (fun _ _ _ h => h) (Or.inl ⟨by rfl, ?_⟩) (K0.out) ?_
    rotate_left
    · (intro w hSw; (try dsimp only at hSw); go_simp; try with_reducible rfl)
    simp only [Act.put, List.setIfInBounds_toArray, List.set_cons_zero, List.set_cons_succ]
    refine anyE_ready (rs := [12]) (by kernel_rfl) (by simp) ?_
    refine AllE.cons (o := { dst := none, op := Op.store 29 (Operand.tmp 27) (Operand.tmp 26), type := 0, pos := "grid.go:28", after := #[{ on := 11, ground := Ground.data }, { on := 10, ground := Ground.data }, { on := 9, ground := Ground.chain }, { on := 0, ground := Ground.phase }, { on := 1, ground := Ground.phase }, { on := 2, ground := Ground.phase }, { on := 3, ground := Ground.phase }, { on := 4, ground := Ground.phase }, { on := 5, ground := Ground.phase }, { on := 6, ground := Ground.phase }, { on := 7, ground := Ground.phase }, { on := 8, ground := Ground.phase }, { on := 9, ground := Ground.phase }, { on := 10, ground := Ground.phase }], guard := none }) rfl (fun Kt hKt => ?_) ?_
    · go_simp
      refine hKt.out _ _ (fun h => absurd rfl h) ?_
      clear hKt Kt
      try simp only [Act.put, List.setIfInBounds_toArray, List.set_cons_zero, List.set_cons_succ]
      refine anyE_done (by kernel_rfl) ?_ _
      rw [HV2.out]
      obtain ⟨y0, y1, y2, y3, y4⟩ := T2.out.1.cell
      obtain ⟨fz2, lt2⟩ := T2.out.1.fz
      clear g0 g1 g2 g3 g4 k0 k1 k2 k3 k4 c0 c1 c2 c3 c4 fz fz1 lt lt1 K0 MI HV1 HU1 HU2
      have hcs : (d ≤ n ∧ n = X) ∨ (n < d ∧ d = X) := by have := HX.out; omega
      clear HX
      cases G
      · have hE : D = d := by rw [← HD.out]; simp
        have HE : Hid (D = d) := hE
        clear hE
        obtain ⟨v3, hv3⟩ : ∃ x, v2 = x := ⟨_, rfl⟩
        have t3 : JBox v3 S f p d rr mm := by rw [← hv3]; exact T2.out.1
        have t4 : JBox v3 (S + 1) 0 0 0 0 0 := by rw [← hv3]; exact T2.out.2.1
        have b4 : Below S w v3 := by rw [← hv3]; exact T2.out.2.2
        obtain ⟨k0, k1, k2, k3, k4⟩ := t3.cell
        obtain ⟨e0, e1, e2, e3, e4⟩ := t4.cell
        obtain ⟨fz, lt⟩ := t4.fz
        have q : JBox _ (S + 1) f p d rr mm := t4.put f p d rr mm
        have FIN : Aside (Below S w (put5 v3 (S + 1) f p d rr mm)) := put5_below b4 (by omega) _ _ _ _ _
        have QC : Aside _ := q.cell
        have HV3 : Hid _ := hv3
        clear hv3 q b4 t3 t4
        rw [HV3.out]
        rcases hcs with ⟨hc, rfl⟩ | ⟨hc, rfl⟩
        all_goals
          go_wp2_with fail
          refine (GR.out _).mono ?_
          rintro e w1 ⟨rfl, rfl⟩
          go_wp2_with fail
          have qc := QC.out
          unfold put5 at qc
          obtain ⟨q0, q1, q2, q3, q4⟩ := qc
          refine bodyPost_ret (v := .tuple #[.agg #[.int .u64 f, .int .u64 p, .int .u64 d, .int .u64 rr, .int .u64 mm], .bool false]) (by simp [results, Tryd.results26, go_sem, q0, q1, q2, q3, q4]) rfl ⟨by rw [HE.out], ?_⟩
          first | exact FIN.out | (rw [hS]; exact FIN.out)
      · have hE : D = V := by rw [← HD.out]; simp
        have HE : Hid (D = V) := hE
        clear hE
        obtain ⟨v3, hv3⟩ : ∃ x, (v2.setCell ⟨S, 2, none⟩ (.int .u64 V)) = x := ⟨_, rfl⟩
        have t3 : JBox v3 S f p V rr mm := by rw [← hv3]; exact T2.out.1.set2 V
        have t4 : JBox v3 (S + 1) 0 0 0 0 0 := by rw [← hv3]; exact T2.out.2.1.other (by omega) _
        have b4 : Below S w v3 := by rw [← hv3]; exact T2.out.2.2.setCell (by show S ≤ S; omega) _
        obtain ⟨k0, k1, k2, k3, k4⟩ := t3.cell
        obtain ⟨e0, e1, e2, e3, e4⟩ := t4.cell
        obtain ⟨fz, lt⟩ := t4.fz
        have q : JBox _ (S + 1) f p V rr mm := t4.put f p V rr mm
        have FIN : Aside (Below S w (put5 v3 (S + 1) f p V rr mm)) := put5_below b4 (by omega) _ _ _ _ _
        have QC : Aside _ := q.cell
        have HV3 : Hid _ := hv3
        clear hv3 q b4 t3 t4
        rcases hcs with ⟨hc, rfl⟩ | ⟨hc, rfl⟩
        all_goals
          go_wp2_with fail
          refine (GR.out _).mono ?_
          rintro e w1 ⟨rfl, rfl⟩
          go_upto_region 8 with fail
          rw [HV3.out]
          go_wp2_with fail
          have qc := QC.out
          unfold put5 at qc
          obtain ⟨q0, q1, q2, q3, q4⟩ := qc
          refine bodyPost_ret (v := .tuple #[.agg #[.int .u64 f, .int .u64 p, .int .u64 V, .int .u64 rr, .int .u64 mm], .bool true]) (by simp [results, Tryd.results26, go_sem, q0, q1, q2, q3, q4]) rfl ⟨by rw [HE.out], ?_⟩
          first | exact FIN.out | (rw [hS]; exact FIN.out)
    exact AllE.nil
  exact AllE.nil
end Go.Proofs.YtpenjncbodcbnaaDoor.Tk

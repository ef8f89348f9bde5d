/- Contracts: hist.line. -/
import Derived.Test.YtpenojbfeocjaaaDoorHiH
import Derived.Deep.RegionHeld3
import Derived.Deep.LoopGhost
import Derived.Deep.Fields
import Derived.BigRegion
import Derived.Deep.DeepCutAuto
import Derived.Deep.CutBlock
namespace Go.Proofs.YtpenojbfeocjaaaDoor
open Go.RowKit Go.Lib Go.Shelf Go.Sort
set_option linter.unusedVariables false
set_option maxRecDepth 10000

theorem EBx.all {w : World} {X : Nat} {e : EvR} (h : EBx w X e) : w.cell? ⟨X, 0, none⟩ = some (.int .i64 e.k) ∧ w.cell? ⟨X, 1, none⟩ = some (.int .i64 e.t) ∧ w.cell? ⟨X, 2, none⟩ = some (.int .i64 e.i) ∧ w.cell? ⟨X, 3, none⟩ = some (.int .u64 e.y) ∧ w.cell? ⟨X, 4, none⟩ = some (.int .u64 e.c) ∧ w.cell? ⟨X, 5, none⟩ = some (.int .u64 e.n) := ⟨h.c0, h.c1, h.c2, h.c3, h.c4, h.c5⟩
theorem isG_six (w : World) (e : EvR) {s0 s1 s2 s3 s4 s5 : ByteArray} (h0 : s0.data.toList = itoa e.k) (h1 : s1.data.toList = itoa e.t) (h2 : s2.data.toList = itoa e.i) (h3 : s3.data.toList = decDigits e.y) (h4 : s4.data.toList = decDigits e.c) (h5 : s5.data.toList = decDigits e.n) :
    IsG rS (w.alloc (.cells #[.string s0, .string s1, .string s2, .string s3, .string s4, .string s5] 9)) (some ⟨w.heap.size, 0, none⟩) 6 (nums e) := by
  refine ⟨Nat.le_refl _, by decide, fun j u hu => ⟨_, 0, rfl, by rw [alloc_sz]; omega, ?_⟩⟩
  have e1 : rS.flat (nums e) = [.string s0, .string s1, .string s2, .string s3, .string s4, .string s5] := by
    rw [sV_of s0, sV_of s1, sV_of s2, sV_of s3, sV_of s4, sV_of s5, h0, h1, h2, h3, h4, h5]
    rfl
  rw [Nat.zero_add, cell_fresh, ← hu, e1]
  exact List.getElem?_toArray
theorem itoaS (n : Int) (w : World) (h : Tb w) (h0 : -9223372036854775808 ≤ n) (h1 : n ≤ 9223372036854775807) :
    Calls Tryd.prog 35 #[.int .i64 n] w fun e w' => ∃ s : ByteArray, e = .returned (.string s) ∧ s.data.toList = itoa n ∧ Below w.heap.size w w' :=
  (itoa_any n w h h0 h1).mono fun e w' hq => ⟨_, hq.1, rfl, hq.2⟩
theorem fmtS (u : Nat) (hu64 : u < 18446744073709551616) (w : World) (h : Tb w) :
    Calls Tryd.prog 36 #[.int .u64 u, .int .i64 10] w fun e w' => ∃ s : ByteArray, e = .returned (.string s) ∧ s.data.toList = decDigits u ∧ Below w.heap.size w w' :=
  (fmt_any u hu64 w h).mono fun e w' hq => ⟨_, hq.1, rfl, hq.2⟩
theorem joinS {a : Option Addr} {cap : Nat} (d : List (List UInt8)) (w : World) (hd : IsG rS w a cap d) (h0 : d ≠ []) (h16 : d.length ≤ 1000) (hj : ([32].intercalate d).length ≤ 100000) :
    Calls Tryd.prog 37 #[.slice a d.length cap, .string ⟨#[32]⟩] w fun e w' => ∃ s : ByteArray, e = .returned (.string s) ∧ s.data.toList = [32].intercalate d ∧ Below w.heap.size w w' :=
  (join_any d w hd h0 h16 hj).mono fun e w' hq => ⟨_, hq.1, rfl, hq.2⟩
theorem size_eq (s : ByteArray) : s.size = s.data.toList.length := rfl

set_option maxHeartbeats 8000000 in
set_option maxRecDepth 100000 in
theorem line_any (e : EvR) (hok : e.ok) (w : World) (t : Tb w) : Calls Tryd.prog 30 #[evV e] w fun r w' => ∃ s : ByteArray, r = .returned (.string s) ∧ s.data.toList = lineL e ∧ Below w.heap.size w w' := by
  obtain ⟨a0, a1, a2, a3, a4, a5⟩ := id hok
  have OK : Aside _ := hok
  obtain ⟨X, hX⟩ : ∃ X, w.heap.size = X := ⟨_, rfl⟩
  obtain ⟨u1, hu1⟩ : ∃ u, w.alloc (.cells #[.int .i64 e.k, .int .i64 e.t, .int .i64 e.i, .int .u64 e.y, .int .u64 e.c, .int .u64 e.n] 27) = u := ⟨_, rfl⟩
  have b1 : Below w.heap.size w u1 := by rw [← hu1]; exact bel1 _ _
  have E : EBx u1 X e := by rw [← hu1, ← hX]; exact EBx.made w e
  have T : Aside (Tb u1) := t.below b1
  have B : Aside (Below w.heap.size w u1) := b1
  have HX : Aside _ := hX
  have HU : Aside _ := hu1
  clear b1 hX hu1 t hok
  unfold evV
  go_enter Tryd.func30, Tryd.ntmps30
  go_upto_region 1 with fail
  rw [HU.out, HX.out]
  have E := E.drew
  have T : Aside (Tb u1.drew) := T.out.below (Below.refl _ _).drew
  have B : Aside (Below w.heap.size w u1.drew) := B.out.drew
  refine wp_region_held_drew (S := (fun V : World => V.cell? ⟨X, 0, none⟩ = some (.int .i64 e.k) ∧ V.cell? ⟨X, 1, none⟩ = some (.int .i64 e.t) ∧ V.cell? ⟨X, 2, none⟩ = some (.int .i64 e.i) ∧ V.cell? ⟨X, 3, none⟩ = some (.int .u64 e.y) ∧ V.cell? ⟨X, 4, none⟩ = some (.int .u64 e.c) ∧ V.cell? ⟨X, 5, none⟩ = some (.int .u64 e.n))) (by kernel_rfl) (E.all) (fun hHeld => ?_)
  refine wpAnyH_take (i := 0) (oi := { dst := some 4, op := Op.fieldAddr 27 (Operand.tmp 1) 0, type := 0, pos := "hist.go:173", after := #[], guard := none }) (v := ?_) rfl (by kernel_rfl) (by kernel_rfl) (by kernel_rfl) (fun _ _ _ h => h) (Or.inl ⟨by rfl, ?_⟩) (by assumption) ?_
  rotate_left
  · (intro w hSw; (try dsimp only at hSw); go_simp; try with_reducible rfl)
  simp only [Act.put, List.setIfInBounds_toArray, List.set_cons_zero, List.set_cons_succ]
  refine wpAnyH_take (i := 1) (oi := { dst := some 5, op := Op.load 3 (Operand.tmp 4), type := 3, pos := "hist.go:173", after := #[{ on := 0, ground := Ground.data }], guard := none }) (v := ?_) rfl (by kernel_rfl) (by kernel_rfl) (by kernel_rfl) (fun _ _ _ h => h) (Or.inl ⟨by rfl, ?_⟩) (by assumption) ?_
  rotate_left
  · (intro w hSw; (try dsimp only at hSw); go_simp; try with_reducible rfl)
  simp only [Act.put, List.setIfInBounds_toArray, List.set_cons_zero, List.set_cons_succ]
  refine wpAnyH_take (i := 3) (oi := { dst := some 7, op := Op.fieldAddr 27 (Operand.tmp 1) 1, type := 0, pos := "hist.go:173", after := #[], guard := none }) (v := ?_) rfl (by kernel_rfl) (by kernel_rfl) (by kernel_rfl) (fun _ _ _ h => h) (Or.inl ⟨by rfl, ?_⟩) (by assumption) ?_
  rotate_left
  · (intro w hSw; (try dsimp only at hSw); go_simp; try with_reducible rfl)
  simp only [Act.put, List.setIfInBounds_toArray, List.set_cons_zero, List.set_cons_succ]
  refine wpAnyH_take (i := 4) (oi := { dst := some 8, op := Op.load 3 (Operand.tmp 7), type := 3, pos := "hist.go:173", after := #[{ on := 3, ground := Ground.data }], guard := none }) (v := ?_) rfl (by kernel_rfl) (by kernel_rfl) (by kernel_rfl) (fun _ _ _ h => h) (Or.inl ⟨by rfl, ?_⟩) (by assumption) ?_
  rotate_left
  · (intro w hSw; (try dsimp only at hSw); go_simp; try with_reducible rfl)
  simp only [Act.put, List.setIfInBounds_toArray, List.set_cons_zero, List.set_cons_succ]
  refine wpAnyH_take (i := 6) (oi := { dst := some 10, op := Op.fieldAddr 27 (Operand.tmp 1) 2, type := 0, pos := "hist.go:173", after := #[], guard := none }) (v := ?_) rfl (by kernel_rfl) (by kernel_rfl) (by kernel_rfl) (fun _ _ _ h => h) (Or.inl ⟨by rfl, ?_⟩) (by assumption) ?_
  rotate_left
  · (intro w hSw; (try dsimp only at hSw); go_simp; try with_reducible rfl)
  simp only [Act.put, List.setIfInBounds_toArray, List.set_cons_zero, List.set_cons_succ]
  refine wpAnyH_take (i := 7) (oi := { dst := some 11, op := Op.load 3 (Operand.tmp 10), type := 3, pos := "hist.go:173", after := #[{ on := 6, ground := Ground.data }], guard := none }) (v := ?_) rfl (by kernel_rfl) (by kernel_rfl) (by kernel_rfl) (fun _ _ _ h => h) (Or.inl ⟨by rfl, ?_⟩) (by assumption) ?_
  rotate_left
  · (intro w hSw; (try dsimp only at hSw); go_simp; try with_reducible rfl)
  simp only [Act.put, List.setIfInBounds_toArray, List.set_cons_zero, List.set_cons_succ]
  refine wpAnyH_take (i := 9) (oi := { dst := some 13, op := Op.fieldAddr 27 (Operand.tmp 1) 3, type := 0, pos := "hist.go:173", after := #[], guard := none }) (v := ?_) rfl (by kernel_rfl) (by kernel_rfl) (by kernel_rfl) (fun _ _ _ h => h) (Or.inl ⟨by rfl, ?_⟩) (by assumption) ?_
  rotate_left
  · (intro w hSw; (try dsimp only at hSw); go_simp; try with_reducible rfl)
  simp only [Act.put, List.setIfInBounds_toArray, List.set_cons_zero, List.set_cons_succ]
  refine wpAnyH_take (i := 10) (oi := { dst := some 14, op := Op.load 25 (Operand.tmp 13), type := 25, pos := "hist.go:173", after := #[{ on := 9, ground := Ground.data }], guard := none }) (v := ?_) rfl (by kernel_rfl) (by kernel_rfl) (by kernel_rfl) (fun _ _ _ h => h) (Or.inl ⟨by rfl, ?_⟩) (by assumption) ?_
  rotate_left
  · (intro w hSw; (try dsimp only at hSw); go_simp; try with_reducible rfl)
  simp only [Act.put, List.setIfInBounds_toArray, List.set_cons_zero, List.set_cons_succ]
  refine wpAnyH_take (i := 12) (oi := { dst := some 16, op := Op.fieldAddr 27 (Operand.tmp 1) 4, type := 0, pos := "hist.go:173", after := #[], guard := none }) (v := ?_) rfl (by kernel_rfl) (by kernel_rfl) (by kernel_rfl) (fun _ _ _ h => h) (Or.inl ⟨by rfl, ?_⟩) (by assumption) ?_
  rotate_left
  · (intro w hSw; (try dsimp only at hSw); go_simp; try with_reducible rfl)
  simp only [Act.put, List.setIfInBounds_toArray, List.set_cons_zero, List.set_cons_succ]
  refine wpAnyH_take (i := 13) (oi := { dst := some 17, op := Op.load 25 (Operand.tmp 16), type := 25, pos := "hist.go:173", after := #[{ on := 12, ground := Ground.data }], guard := none }) (v := ?_) rfl (by kernel_rfl) (by kernel_rfl) (by kernel_rfl) (fun _ _ _ h => h) (Or.inl ⟨by rfl, ?_⟩) (by assumption) ?_
  rotate_left
  · (intro w hSw; (try dsimp only at hSw); go_simp; try with_reducible rfl)
  simp only [Act.put, List.setIfInBounds_toArray, List.set_cons_zero, List.set_cons_succ]
  refine wpAnyH_take (i := 15) (oi := { dst := some 19, op := Op.fieldAddr 27 (Operand.tmp 1) 5, type := 0, pos := "hist.go:173", after := #[], guard := none }) (v := ?_) rfl (by kernel_rfl) (by kernel_rfl) (by kernel_rfl) (fun _ _ _ h => h) (Or.inl ⟨by rfl, ?_⟩) (by assumption) ?_
  rotate_left
  · (intro w hSw; (try dsimp only at hSw); go_simp; try with_reducible rfl)
  simp only [Act.put, List.setIfInBounds_toArray, List.set_cons_zero, List.set_cons_succ]
  refine wpAnyH_take (i := 16) (oi := { dst := some 20, op := Op.load 25 (Operand.tmp 19), type := 25, pos := "hist.go:173", after := #[{ on := 15, ground := Ground.data }], guard := none }) (v := ?_) rfl (by kernel_rfl) (by kernel_rfl) (by kernel_rfl) (fun _ _ _ h => h) (Or.inl ⟨by rfl, ?_⟩) (by assumption) ?_
  rotate_left
  · (intro w hSw; (try dsimp only at hSw); go_simp; try with_reducible rfl)
  simp only [Act.put, List.setIfInBounds_toArray, List.set_cons_zero, List.set_cons_succ]
  refine wpAnyH_ready (rs := [2]) (by kernel_rfl) (by simp) ?_
  refine AllReadyH.cons (o := { dst := some 6, op := Op.call { callee := Callee.value (Operand.func 35), args := #[Operand.tmp 5], argTypes := #[3] }, type := 9, pos := "hist.go:174", after := #[{ on := 1, ground := Ground.data }], guard := none }) rfl (fun Kt hKt => ?_) AllReadyH.nil
  go_simp
  (with_reducible refine Calls.mono (itoaS e.k _ T.out a0.1 a0.2) ?_)
  rintro r v0 ⟨s0, rfl, hs0, bb⟩
  have HS0 : Aside _ := hs0
  have E : EBx v0 X e := E.below bb
  have T : Aside (Tb v0) := T.out.below bb
  have B : Aside (Below w.heap.size w v0) := Below.tr B.out bb
  clear bb hs0
  go_wp2_with fail
  refine hKt.out _ _ (E.all) (fun hHeld => ?_)
  clear hKt Kt
  try simp only [Act.put, List.setIfInBounds_toArray, List.set_cons_zero, List.set_cons_succ]
  refine wpAnyH_ready (rs := [5]) (by kernel_rfl) (by simp) ?_
  refine AllReadyH.cons (o := { dst := some 9, op := Op.call { callee := Callee.value (Operand.func 35), args := #[Operand.tmp 8], argTypes := #[3] }, type := 9, pos := "hist.go:174", after := #[{ on := 4, ground := Ground.data }, { on := 2, ground := Ground.chain }], guard := none }) rfl (fun Kt hKt => ?_) AllReadyH.nil
  go_simp
  (with_reducible refine Calls.mono (itoaS e.t _ T.out a1.1 a1.2) ?_)
  rintro r v1 ⟨s1, rfl, hs1, bb⟩
  have HS1 : Aside _ := hs1
  have E : EBx v1 X e := E.below bb
  have T : Aside (Tb v1) := T.out.below bb
  have B : Aside (Below w.heap.size w v1) := Below.tr B.out bb
  clear bb hs1
  go_wp2_with fail
  refine hKt.out _ _ (E.all) (fun hHeld => ?_)
  clear hKt Kt
  try simp only [Act.put, List.setIfInBounds_toArray, List.set_cons_zero, List.set_cons_succ]
  refine wpAnyH_ready (rs := [8]) (by kernel_rfl) (by simp) ?_
  refine AllReadyH.cons (o := { dst := some 12, op := Op.call { callee := Callee.value (Operand.func 35), args := #[Operand.tmp 11], argTypes := #[3] }, type := 9, pos := "hist.go:174", after := #[{ on := 7, ground := Ground.data }, { on := 5, ground := Ground.chain }], guard := none }) rfl (fun Kt hKt => ?_) AllReadyH.nil
  go_simp
  (with_reducible refine Calls.mono (itoaS e.i _ T.out a2.1 a2.2) ?_)
  rintro r v2 ⟨s2, rfl, hs2, bb⟩
  have HS2 : Aside _ := hs2
  have E : EBx v2 X e := E.below bb
  have T : Aside (Tb v2) := T.out.below bb
  have B : Aside (Below w.heap.size w v2) := Below.tr B.out bb
  clear bb hs2
  go_wp2_with fail
  refine hKt.out _ _ (E.all) (fun hHeld => ?_)
  clear hKt Kt
  try simp only [Act.put, List.setIfInBounds_toArray, List.set_cons_zero, List.set_cons_succ]
  refine wpAnyH_ready (rs := [11]) (by kernel_rfl) (by simp) ?_
  refine AllReadyH.cons (o := { dst := some 15, op := Op.call { callee := Callee.value (Operand.func 36), args := #[Operand.tmp 14, Operand.const (Value.int IntKind.i64 10)], argTypes := #[25, 3] }, type := 9, pos := "hist.go:175", after := #[{ on := 10, ground := Ground.data }, { on := 8, ground := Ground.chain }], guard := none }) rfl (fun Kt hKt => ?_) AllReadyH.nil
  go_simp
  (with_reducible refine Calls.mono (fmtS e.y a3 _ T.out) ?_)
  rintro r v3 ⟨s3, rfl, hs3, bb⟩
  have HS3 : Aside _ := hs3
  have E : EBx v3 X e := E.below bb
  have T : Aside (Tb v3) := T.out.below bb
  have B : Aside (Below w.heap.size w v3) := Below.tr B.out bb
  clear bb hs3
  go_wp2_with fail
  refine hKt.out _ _ (E.all) (fun hHeld => ?_)
  clear hKt Kt
  try simp only [Act.put, List.setIfInBounds_toArray, List.set_cons_zero, List.set_cons_succ]
  refine wpAnyH_ready (rs := [14]) (by kernel_rfl) (by simp) ?_
  refine AllReadyH.cons (o := { dst := some 18, op := Op.call { callee := Callee.value (Operand.func 36), args := #[Operand.tmp 17, Operand.const (Value.int IntKind.i64 10)], argTypes := #[25, 3] }, type := 9, pos := "hist.go:175", after := #[{ on := 13, ground := Ground.data }, { on := 11, ground := Ground.chain }], guard := none }) rfl (fun Kt hKt => ?_) AllReadyH.nil
  go_simp
  (with_reducible refine Calls.mono (fmtS e.c a4 _ T.out) ?_)
  rintro r v4 ⟨s4, rfl, hs4, bb⟩
  have HS4 : Aside _ := hs4
  have E : EBx v4 X e := E.below bb
  have T : Aside (Tb v4) := T.out.below bb
  have B : Aside (Below w.heap.size w v4) := Below.tr B.out bb
  clear bb hs4
  go_wp2_with fail
  refine hKt.out _ _ (E.all) (fun hHeld => ?_)
  clear hKt Kt
  try simp only [Act.put, List.setIfInBounds_toArray, List.set_cons_zero, List.set_cons_succ]
  refine wpAnyH_ready (rs := [17]) (by kernel_rfl) (by simp) ?_
  refine AllReadyH.cons (o := { dst := some 21, op := Op.call { callee := Callee.value (Operand.func 36), args := #[Operand.tmp 20, Operand.const (Value.int IntKind.i64 10)], argTypes := #[25, 3] }, type := 9, pos := "hist.go:175", after := #[{ on := 16, ground := Ground.data }, { on := 14, ground := Ground.chain }], guard := none }) rfl (fun Kt hKt => ?_) AllReadyH.nil
  go_simp
  (with_reducible refine Calls.mono (fmtS e.n a5 _ T.out) ?_)
  rintro r v5 ⟨s5, rfl, hs5, bb⟩
  have HS5 : Aside _ := hs5
  have E : EBx v5 X e := E.below bb
  have T : Aside (Tb v5) := T.out.below bb
  have B : Aside (Below w.heap.size w v5) := Below.tr B.out bb
  clear bb hs5
  go_wp2_with fail
  refine hKt.out _ _ (E.all) (fun hHeld => ?_)
  clear hKt Kt
  try simp only [Act.put, List.setIfInBounds_toArray, List.set_cons_zero, List.set_cons_succ]
  refine wpAnyH_ready (rs := [18]) (by kernel_rfl) (by simp) ?_
  refine AllReadyH.cons (o := { dst := some 22, op := Op.buildSlice 77 6 #[(0, Operand.tmp 6), (1, Operand.tmp 9), (2, Operand.tmp 12), (3, Operand.tmp 15), (4, Operand.tmp 18), (5, Operand.tmp 21)], type := 77, pos := "hist.go:173", after := #[{ on := 2, ground := Ground.data }, { on := 5, ground := Ground.data }, { on := 8, ground := Ground.data }, { on := 11, ground := Ground.data }, { on := 14, ground := Ground.data }, { on := 17, ground := Ground.data }], guard := none }) rfl (fun Kt hKt => ?_) AllReadyH.nil
  go_simp
  obtain ⟨M, hM⟩ : ∃ M, v5.heap.size = M := ⟨_, rfl⟩
  have HM : Aside _ := hM
  obtain ⟨v6, hv6⟩ : ∃ q, v5.alloc (.cells #[.string s0, .string s1, .string s2, .string s3, .string s4, .string s5] 9) = q := ⟨_, rfl⟩
  have b6 : Below v5.heap.size v5 v6 := by rw [← hv6]; exact bel1 _ _
  have G6 : Aside (IsG rS v6 (some ⟨M, 0, none⟩) 6 (nums e)) := by rw [← hv6, ← hM]; exact isG_six v5 e HS0.out HS1.out HS2.out HS3.out HS4.out HS5.out
  have E : EBx v6 X e := E.below b6
  have B : Aside (Below w.heap.size w v6) := Below.tr B.out b6
  have HV : Aside _ := hv6
  clear hM hv6 b6
  go_wp2_with fail
  rw [HM.out]
  rw [HV.out]
  refine hKt.out _ _ (E.all) (fun hHeld => ?_)
  clear hKt Kt
  try simp only [Act.put, List.setIfInBounds_toArray, List.set_cons_zero, List.set_cons_succ]
  refine wpAnyH_take (i := 19) (oi := { dst := some 3, op := Op.assign (Operand.tmp 22), type := 77, pos := "hist.go:173", after := #[{ on := 18, ground := Ground.data }, { on := 17, ground := Ground.chain }, { on := 0, ground := Ground.phase }, { on := 1, ground := Ground.phase }, { on := 2, ground := Ground.phase }, { on := 3, ground := Ground.phase }, { on := 4, ground := Ground.phase }, { on := 5, ground := Ground.phase }, { on := 6, ground := Ground.phase }, { on := 7, ground := Ground.phase }, { on := 8, ground := Ground.phase }, { on := 9, ground := Ground.phase }, { on := 10, ground := Ground.phase }, { on := 11, ground := Ground.phase }, { on := 12, ground := Ground.phase }, { on := 13, ground := Ground.phase }, { on := 14, ground := Ground.phase }, { on := 15, ground := Ground.phase }, { on := 16, ground := Ground.phase }, { on := 17, ground := Ground.phase }, { on := 18, ground := Ground.phase }], guard := none }) (v := ?_) rfl (by kernel_rfl) (by kernel_rfl) (by kernel_rfl) (fun _ _ _ h => h) (Or.inl ⟨by rfl, ?_⟩) (by assumption) ?_
  rotate_left
  · (intro w hSw; (try dsimp only at hSw); go_simp; try with_reducible rfl)
  simp only [Act.put, List.setIfInBounds_toArray, List.set_cons_zero, List.set_cons_succ]
  refine wpAnyH_done (by kernel_rfl) ?_ _
  have P := joinS (nums e) _ G6.out (by simp [nums]) (by simp [nums]) (Nat.le_trans (joined_len OK.out) (by decide))
  have P : Calls Tryd.prog 37 #[.slice (some ⟨M, 0, none⟩) 6 6, .string ⟨#[32]⟩] v6 fun e_1 w' => ∃ s : ByteArray, e_1 = .returned (.string s) ∧ s.data.toList = [32].intercalate (nums e) ∧ Below v6.heap.size v6 w' := P
  go_wp2_with fail
  refine P.mono ?_
  rintro r w7 ⟨s, rfl, hs, b7⟩
  have hz : s.size ≤ 125 := by rw [size_eq, hs]; exact joined_len OK.out
  have hz2 : ¬ 9223372036854775807 < s.size + 1 := by omega
  have HS : Aside _ := hs
  have B : Aside (Below w.heap.size w w7) := Below.tr B.out b7
  clear hs b7 hz E P
  go_wp2_with fail
  go_ret
  refine ⟨_, rfl, ?_, B.out⟩
  show (s ++ ⟨#[10]⟩ : ByteArray).data.toList = [32].intercalate (nums e) ++ [10]
  rw [← HS.out]
  simp

end Go.Proofs.YtpenojbfeocjaaaDoor

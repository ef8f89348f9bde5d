/- table.Make of no ops: contract. -/
import Derived.Test.YtpenjncbodcbnaaDoorTbC
namespace Go.Proofs.YtpenjncbodcbnaaDoor
open Go.RowKit Go.Lib Go.WideMaps Go.Maps
set_option linter.unusedVariables false
variable {w w' u : World} {B a b r M n J : Nat} {v v' : Value} {T T' : List TR} {ws ws' : Nat → Int} {fc fc' : Int × Int → Option Value} {f p d rr m : Int}
set_option maxHeartbeats 4000000 in
set_option maxRecDepth 100000 in
theorem make_plain (h : Tab w B a b r M n v T ws fc) (I : TInv T ws fc n) (hn : n ≤ 1000) (prio f p d rr m s : Int) (hm : mayB prio s = true) (hl : T.length < n) (hp0 : p = 0) :
    Calls Tryd.prog 6 #[.pointer (some ⟨B, 0, none⟩), .int .i64 prio, .slice none 0 0, .agg #[.int .u64 f, .int .u64 p, .int .u64 d, .int .u64 rr, .int .u64 m], .int .i64 s] w fun e w' => e = .returned (.tuple #[.int .i64 ((T.length : Int) + 1), .int .i64 0]) ∧
      ∃ v' ws' fc', Tab w' B a b r M n v' (T ++ [mkT prio f p d 0 m s]) ws' fc' ∧ TInv (T ++ [mkT prio f p d 0 m s]) ws' fc' n ∧ Fr (tf B a b r M v) w w' ∧ ∀ k, v'.ownBlock = some k → v.ownBlock = some k ∨ w.heap.size ≤ k := by
  have HP0 : Aside (p = 0) := hp0
  clear hp0
  have hpr : 0 ≤ prio ∧ prio ≤ 7 := by simp [mayB] at hm; omega
  have hcan : canB 0 s = true := by simp [mayB] at hm; exact hm.2.2
  have hsr : 1 ≤ s ∧ s ≤ 6 := by obtain ⟨q, rfl, q1, _, q2, _⟩ := can_range hcan; omega
  have hsw : wfI s := wfI_8 (by omega)
  obtain ⟨J, hJS⟩ : ∃ J, w.heap.size = J := ⟨_, rfl⟩
  obtain ⟨u0, hu0⟩ : ∃ x, w.alloc (.cells #[.int .u64 f, .int .u64 p, .int .u64 d, .int .u64 rr, .int .u64 m] 31) = x := ⟨_, rfl⟩
  have J0 : Tk.JBox u0 J f p d rr m := by rw [← hu0, ← hJS]; exact Tk.JBox.new _ _ _ _ _ _
  have B0 : Below w.heap.size w u0 := by rw [← hu0]; exact bel1 _ _
  have T0 := h.below B0
  have h' := h
  have F0 : Fr (tf B a b r M v) w u0 := Fr.below B0
  have hb := mayBe_nil prio s u0 hsw
  rw [hm] at hb
  obtain ⟨L, hL⟩ : ∃ L, T.length = L := ⟨_, rfl⟩
  have hLn : ((L : Int) == (n : Int)) = false := by simp; omega
  have HI : Aside (TInv T ws fc n) := I
  have HU0 : Aside _ := hu0
  have HLL : Aside (T.length = L ∧ L < n) := ⟨hL, by omega⟩
  rw [hL]
  clear hu0 hm I h B0 hL hl
  have X0 : Aside (Tab u0 B a b r M n v T ws fc ∧ Tk.JBox u0 J f p d rr m ∧ Fr (tf B a b r M v) w u0) := ⟨T0, J0, F0⟩
  have HLT : Aside (∀ k, tf B a b r M v k → k < J) := fun k hk => by have := h'.tfLt hk; omega
  clear T0 J0 F0 h'
  go_enter Tryd.func6, Tryd.ntmps6
  go_wp2_with fail
  rw [HU0.out]
  refine hb.mono ?_
  rintro e w1 ⟨rfl, b1⟩
  clear hb
  have X1 : Aside (Tab w1.drew B a b r M n v T ws fc ∧ Tk.JBox w1.drew J f p d rr m ∧ Fr (tf B a b r M v) w w1.drew) := ⟨(X0.out.1.below b1).drew, jb_drew (X0.out.2.1.below b1), (X0.out.2.2.tb b1).drew⟩
  have c0 : w1.drew.cell? ⟨B, 0, none⟩ = some (.pointer (some ⟨a, 0, none⟩)) := X1.out.1.c0
  have lenC : Aside (Calls Tryd.prog 10 #[.pointer (some ⟨B, 0, none⟩)] w1.drew fun e w' => e = .returned (.int .i64 L) ∧ w' = w1.drew) := by
    have := tlen_any X1.out.1
    rw [HLL.out.1] at this
    exact this
  clear b1
  go_upto_region 3 with fail
  go_region_held3 (fun w' => w'.cell? ⟨B, 0, none⟩ = some (.pointer (some ⟨a, 0, none⟩))) (exact c0) ((first | (go_at_call 10; refine Calls.mono lenC.out ?_; rintro e v ⟨rfl, rfl⟩) | (go_at_call 17; refine (len_any _ a b r n ws X1.out.1.arn).mono ?_; rintro e v ⟨rfl, rfl⟩)))
  obtain ⟨j0, j1, j2, j3, j4⟩ := X1.out.2.1.cell
  have hag := again_any f p d rr m w1.drew
  rw [show decide (p > 0) = false by simp [HP0.out]] at hag
  go_wp2_with fail
  refine hag.mono ?_
  rintro e w2 ⟨rfl, b2⟩
  clear hag j0 j1 j2 j3 j4 c0
  have X2 : Aside (Tab w2 B a b r M n v T ws fc ∧ Tk.JBox w2 J f p d rr m ∧ Fr (tf B a b r M v) w w2) := ⟨X1.out.1.below b2, X1.out.2.1.below b2, X1.out.2.2.tb b2⟩
  clear b2
  have X3 := X2
  have c0 := X3.out.1.c0
  have hA := alloc_ok w2 a b r n ws X3.out.1.arn s hcan L HLL.out.2 (HI.out.fre L (by rw [HLL.out.1]; omega) HLL.out.2) (fun j hj => by
    have hj' : j < T.length := by rw [HLL.out.1]; exact hj
    have := HI.out.st j T[j] (List.getElem?_eq_getElem hj')
    have := HI.out.ok T[j] (List.getElem_mem hj')
    omega)
  go_wp2_with fail
  refine hA.mono ?_
  rintro e w4 ⟨rfl, a4, k4⟩
  clear hA c0
  have X4 : Aside (Tab w4 B a b r M n v T (putW ws L (packI s (ws L / 8 + 1))) fc ∧ Tk.JBox w4 J f p d rr m ∧ Fr (tf B a b r M v) w w4) := ⟨X3.out.1.setA k4 a4, jb_kept X3.out.2.1 X3.out.1 k4, X3.out.2.2.trans (Fr.kept k4) (fun j hj => .inl (by rcases hj with rfl | rfl | rfl; exact .inr (.inl rfl); exact .inr (.inr (.inl rfl)); exact .inr (.inr (.inr (.inl rfl)))))⟩
  clear k4 a4
  obtain ⟨j0, j1, j2, j3, j4⟩ := X4.out.2.1.cell
  have hag := again_any f p d rr m w4
  rw [show decide (p > 0) = false by simp [HP0.out]] at hag
  go_wp2_with fail
  refine hag.mono ?_
  rintro e w5 ⟨rfl, b5⟩
  clear hag j0 j1 j2 j3 j4
  have X5 : Aside (Tab w5 B a b r M n v T (putW ws L (packI s (ws L / 8 + 1))) fc ∧ Tk.JBox w5 J f p d rr m ∧ Fr (tf B a b r M v) w w5) := ⟨X4.out.1.below b5, X4.out.2.1.below b5, X4.out.2.2.tb b5⟩
  clear b5
  obtain ⟨u, hu⟩ : ∃ x, w5.setCell ⟨J, 3, none⟩ (.int .u64 0) = x := ⟨_, rfl⟩
  have X6 : Aside (Tab u B a b r M n v T (putW ws L (packI s (ws L / 8 + 1))) fc ∧ Tk.JBox u J f p d 0 m ∧ Fr (tf B a b r M v) w u) := by
    rw [← hu]
    have hf := Fr.setCell (fun k => k = J) w5 J 3 (.int .u64 0) rfl
    refine ⟨X5.out.1.fr hf (fun k hk e => ?_), X5.out.2.1.set3 0, X5.out.2.2.trans hf (fun j hj => .inr (by rw [hJS]; exact Nat.le_of_eq hj.symm))⟩
    subst e
    have := X0.out.1
    have hlt := HLT.out k hk
    omega
  obtain ⟨j0, j1, j2, j3, j4⟩ := X5.out.2.1.cell
  have fJ := X5.out.2.1.fz.1 3
  have HU : Aside _ := hu
  clear hu
  go_upto_region 12 with fail
  rw [HU.out]
  clear j0 j1 j2 j3 j4 fJ
  have hTl : T.length ≤ 1000 := by rw [HLL.out.1]; have := HLL.out.2; omega
  obtain ⟨C, hC⟩ : ∃ C : Nat, T.countP (hasK s prio) = C := ⟨_, rfl⟩
  have hC1 : C ≤ 1000 := by have := cntP_le (hasK s prio) T; omega
  obtain ⟨s0, s1, v2, ⟨a2, L2, c2, rfl⟩, w7, w8, st, w9, wx, r7, s7, f7, e8, s8, r9, s9, rx, TX, FX, NX⟩ := grow_all X6.out.1 HI.out.dom X6.out.2.1 hTl prio s hpr hsr (C : Int) (by rw [HI.out.cnt s prio, hC])
  have hwr : IntKind.i64.wrap ((C : Int) + 1) = (C : Int) + 1 := by rw [IntKind.wrap_i64]; omega
  have FIN : Aside (∃ v' ws' fc', Tab wx B a b r M n v' (T ++ [mkT prio f p d 0 m s]) ws' fc' ∧ TInv (T ++ [mkT prio f p d 0 m s]) ws' fc' n ∧ Fr (tf B a b r M v) w wx ∧ ∀ k, v'.ownBlock = some k → v.ownBlock = some k ∨ w.heap.size ≤ k) := by
    refine ⟨_, _, _, TX, ?_, X6.out.2.2.trans FX (fun j hj => .inl hj), fun k hk => ?_⟩
    · have := HI.out.push (mkT prio f p d 0 m s) (by rw [HLL.out.1]; exact HLL.out.2) hpr hsr (packI s (ws L / 8 + 1)) (by rw [packI_state]; show s % 8 = s; omega)
      rw [HLL.out.1] at this
      rw [← hC]
      exact this
    · rcases NX k hk with e | e
      · exact .inl e
      · exact .inr (Nat.le_trans X6.out.2.2.size e)
  have K0 : Aside (SJ B J v f p d 0 m u.drew) := s0
  have K1 : Aside _ := s1
  have K2 : Aside (SJ B J v f p d 0 m w7) := s7
  have R7 : Aside _ := r7
  have E8 : Aside _ := e8
  have K8 : Aside _ := s8
  have K9 : Aside _ := s9
  clear s0 s1 s7 r7 e8 s8 s9 TX FX NX hC hTl
  unfold SJ at K0 K1 K2
  refine anyE_start (S := (fun v0 => v0.cell? ⟨B, 1, none⟩ = some v ∧ v0.cell? ⟨J, 0, none⟩ = some (.int .u64 f) ∧ v0.cell? ⟨J, 1, none⟩ = some (.int .u64 p) ∧ v0.cell? ⟨J, 2, none⟩ = some (.int .u64 d) ∧ v0.cell? ⟨J, 3, none⟩ = some (.int .u64 0) ∧ v0.cell? ⟨J, 4, none⟩ = some (.int .u64 m))) (L := 16) (by kernel_rfl) ?_
  refine anyE_take (i := 0) (oi := { dst := some 50, op := Op.move (Operand.tmp 0), type := 23, pos := "table.go:69", after := #[], guard := none }) (v := ?_) rfl (by kernel_rfl)  (by kernel_rfl) (by kernel_rfl) (by kernel_rfl) (fun _ _ _ h => h) (Or.inl ⟨by rfl, ?_⟩) (K0.out) ?_
  rotate_left
  · (intro w hSw; (try dsimp only at hSw); go_simp; try with_reducible rfl)
  simp only [Act.put, List.setIfInBounds_toArray, List.set_cons_zero, List.set_cons_succ]
  refine anyE_take (i := 1) (oi := { dst := some 51, op := Op.move (Operand.tmp 0), type := 23, pos := "table.go:69", after := #[], guard := none }) (v := ?_) rfl (by kernel_rfl)  (by kernel_rfl) (by kernel_rfl) (by kernel_rfl) (fun _ _ _ h => h) (Or.inl ⟨by rfl, ?_⟩) (K0.out) ?_
  rotate_left
  · (intro w hSw; (try dsimp only at hSw); go_simp; try with_reducible rfl)
  simp only [Act.put, List.setIfInBounds_toArray, List.set_cons_zero, List.set_cons_succ]
  refine anyE_take (i := 2) (oi := { dst := some 52, op := Op.nilCheck (Operand.tmp 51), type := 0, pos := "table.go:69", after := #[{ on := 1, ground := Ground.data }], guard := none }) (v := ?_) rfl (by kernel_rfl)  (by kernel_rfl) (by kernel_rfl) (by kernel_rfl) (fun _ _ _ h => h) (Or.inl ⟨by rfl, ?_⟩) (K0.out) ?_
  rotate_left
  · (intro w hSw; (try dsimp only at hSw); go_simp; try with_reducible rfl)
  simp only [Act.put, List.setIfInBounds_toArray, List.set_cons_zero, List.set_cons_succ]
  refine anyE_take (i := 3) (oi := { dst := some 53, op := Op.fieldAddr 54 (Operand.tmp 52) 1, type := 0, pos := "table.go:69", after := #[{ on := 2, ground := Ground.data }], guard := none }) (v := ?_) rfl (by kernel_rfl)  (by kernel_rfl) (by kernel_rfl) (by kernel_rfl) (fun _ _ _ h => h) (Or.inl ⟨by rfl, ?_⟩) (K0.out) ?_
  rotate_left
  · (intro w hSw; (try dsimp only at hSw); go_simp; try with_reducible rfl)
  simp only [Act.put, List.setIfInBounds_toArray, List.set_cons_zero, List.set_cons_succ]
  refine anyE_take (i := 4) (oi := { dst := some 54, op := Op.load 52 (Operand.tmp 53), type := 52, pos := "table.go:69", after := #[{ on := 3, ground := Ground.data }], guard := none }) (v := ?_) rfl (by kernel_rfl)  (by kernel_rfl) (by kernel_rfl) (by kernel_rfl) (fun _ _ _ h => h) (Or.inl ⟨by rfl, ?_⟩) (K0.out) ?_
  rotate_left
  · (intro w hSw; (try dsimp only at hSw); go_simp; try with_reducible rfl)
  simp only [Act.put, List.setIfInBounds_toArray, List.set_cons_zero, List.set_cons_succ]
  refine anyE_take (i := 5) (oi := { dst := some 55, op := Op.move (Operand.tmp 1), type := 3, pos := "table.go:69", after := #[], guard := none }) (v := ?_) rfl (by kernel_rfl)  (by kernel_rfl) (by kernel_rfl) (by kernel_rfl) (fun _ _ _ h => h) (Or.inl ⟨by rfl, ?_⟩) (K0.out) ?_
  rotate_left
  · (intro w hSw; (try dsimp only at hSw); go_simp; try with_reducible rfl)
  simp only [Act.put, List.setIfInBounds_toArray, List.set_cons_zero, List.set_cons_succ]
  refine anyE_take (i := 6) (oi := { dst := some 56, op := Op.fieldAddr 31 (Operand.tmp 8) 2, type := 0, pos := "table.go:69", after := #[], guard := none }) (v := ?_) rfl (by kernel_rfl)  (by kernel_rfl) (by kernel_rfl) (by kernel_rfl) (fun _ _ _ h => h) (Or.inl ⟨by rfl, ?_⟩) (K0.out) ?_
  rotate_left
  · (intro w hSw; (try dsimp only at hSw); go_simp; try with_reducible rfl)
  simp only [Act.put, List.setIfInBounds_toArray, List.set_cons_zero, List.set_cons_succ]
  refine anyE_take (i := 7) (oi := { dst := some 57, op := Op.load 29 (Operand.tmp 56), type := 29, pos := "table.go:69", after := #[{ on := 6, ground := Ground.data }], guard := none }) (v := ?_) rfl (by kernel_rfl)  (by kernel_rfl) (by kernel_rfl) (by kernel_rfl) (fun _ _ _ h => h) (Or.inl ⟨by rfl, ?_⟩) (K0.out) ?_
  rotate_left
  · (intro w hSw; (try dsimp only at hSw); go_simp; try with_reducible rfl)
  simp only [Act.put, List.setIfInBounds_toArray, List.set_cons_zero, List.set_cons_succ]
  refine anyE_take (i := 8) (oi := { dst := some 58, op := Op.move (Operand.tmp 2), type := 55, pos := "table.go:69", after := #[], guard := none }) (v := ?_) rfl (by kernel_rfl)  (by kernel_rfl) (by kernel_rfl) (by kernel_rfl) (fun _ _ _ h => h) (Or.inl ⟨by rfl, ?_⟩) (K0.out) ?_
  rotate_left
  · (intro w hSw; (try dsimp only at hSw); go_simp; try with_reducible rfl)
  simp only [Act.put, List.setIfInBounds_toArray, List.set_cons_zero, List.set_cons_succ]
  refine anyE_take (i := 10) (oi := { dst := some 60, op := Op.load 31 (Operand.tmp 8), type := 31, pos := "table.go:69", after := #[], guard := none }) (v := ?_) rfl (by kernel_rfl)  (by kernel_rfl) (by kernel_rfl) (by kernel_rfl) (fun _ _ _ h => h) (Or.inl ⟨by rfl, ?_⟩) (K0.out) ?_
  rotate_left
  · (intro w hSw; (try dsimp only at hSw); go_simp; try with_reducible rfl)
  simp only [Act.put, List.setIfInBounds_toArray, List.set_cons_zero, List.set_cons_succ]
  refine anyE_ready (rs := [9]) (by kernel_rfl) (by simp) ?_
  refine AllE.cons (o := { dst := some 59, op := Op.call { callee := Callee.value (Operand.func 21), args := #[Operand.tmp 58], argTypes := #[55] }, type := 55, pos := "table.go:69", after := #[{ on := 8, ground := Ground.data }], guard := none }) rfl (fun Kt hKt => ?_) ?_
  · go_simp
    (with_reducible refine Calls.mono (clone_nil _) ?_)
    rintro x_ wc ⟨rfl, rfl⟩
    dsimp only
    refine hKt.out _ _ (fun _ => K0.out) ?_
    clear hKt Kt
    try simp only [Act.put, List.setIfInBounds_toArray, List.set_cons_zero, List.set_cons_succ]
    refine anyE_take (i := 11) (oi := { dst := some 61, op := Op.build 63 #[(0, Operand.tmp 55), (1, Operand.tmp 57), (3, Operand.tmp 59), (4, Operand.tmp 60)], type := 63, pos := "table.go:69", after := #[{ on := 5, ground := Ground.data }, { on := 7, ground := Ground.data }, { on := 9, ground := Ground.data }, { on := 10, ground := Ground.data }], guard := none }) (v := ?_) rfl (by kernel_rfl)  (by kernel_rfl) (by kernel_rfl) (by kernel_rfl) (fun _ _ _ h => h) (Or.inl ⟨by rfl, ?_⟩) (K0.out) ?_
    rotate_left
    · (intro w hSw; (try dsimp only at hSw); go_simp; try with_reducible rfl)
    simp only [Act.put, List.setIfInBounds_toArray, List.set_cons_zero, List.set_cons_succ]
    refine anyE_ready (rs := [12]) (by kernel_rfl) (by simp) ?_
    refine AllE.cons (o := { dst := some 62, op := Op.buildSlice 52 1 #[(0, Operand.tmp 61)], type := 52, pos := "table.go:69", after := #[{ on := 11, ground := Ground.data }], guard := none }) rfl (fun Kt hKt => ?_) ?_
    · go_simp
      try go_wp2_with fail
      refine hKt.out _ _ (fun _ => K1.out) ?_
      clear hKt Kt
      try simp only [Act.put, List.setIfInBounds_toArray, List.set_cons_zero, List.set_cons_succ]
      refine anyE_ready (rs := [13]) (by kernel_rfl) (by simp) ?_
      refine AllE.cons (o := { dst := some 63, op := Op.call { callee := Callee.builtin Builtin.append, args := #[Operand.tmp 54, Operand.tmp 62], argTypes := #[52, 52] }, type := 52, pos := "table.go:69", after := #[{ on := 4, ground := Ground.data }, { on := 12, ground := Ground.data }, { on := 9, ground := Ground.chain }], guard := none }) rfl (fun Kt hKt => ?_) ?_
      · refine step_app _ (by rfl) _ _ 52 52 (by rfl) v (.slice (some ⟨u.drew.heap.size, 0, none⟩) 1 1) (by rfl) (by rfl) (.slice a2 L2 c2) w7 R7.out ?_
        refine hKt.out _ _ (fun _ => K2.out) ?_
        clear hKt Kt
        try simp only [Act.put, List.setIfInBounds_toArray, List.set_cons_zero, List.set_cons_succ]
        refine anyF_take [15] (i := 14) (oi := { dst := some 64, op := Op.nilCheck (Operand.tmp 50), type := 0, pos := "table.go:69", after := #[{ on := 0, ground := Ground.data }, { on := 0, ground := Ground.phase }, { on := 1, ground := Ground.phase }, { on := 2, ground := Ground.phase }, { on := 3, ground := Ground.phase }, { on := 4, ground := Ground.phase }, { on := 5, ground := Ground.phase }, { on := 6, ground := Ground.phase }, { on := 7, ground := Ground.phase }, { on := 8, ground := Ground.phase }, { on := 9, ground := Ground.phase }, { on := 10, ground := Ground.phase }, { on := 11, ground := Ground.phase }, { on := 12, ground := Ground.phase }, { on := 13, ground := Ground.phase }], guard := none }) (v := ?_) rfl (by kernel_rfl) (by kernel_rfl)  (by kernel_rfl) (by kernel_rfl) (by kernel_rfl) (fun _ _ _ h => h) (Or.inl ⟨by rfl, ?_⟩) (K2.out) ?_
        rotate_left
        · (intro w hSw; (try dsimp only at hSw); go_simp; try with_reducible rfl)
        simp only [Act.put, List.setIfInBounds_toArray, List.set_cons_zero, List.set_cons_succ]
        refine anyE_take (i := 15) (oi := { dst := some 65, op := Op.fieldAddr 54 (Operand.tmp 64) 1, type := 0, pos := "table.go:69", after := #[{ on := 14, ground := Ground.data }, { on := 0, ground := Ground.phase }, { on := 1, ground := Ground.phase }, { on := 2, ground := Ground.phase }, { on := 3, ground := Ground.phase }, { on := 4, ground := Ground.phase }, { on := 5, ground := Ground.phase }, { on := 6, ground := Ground.phase }, { on := 7, ground := Ground.phase }, { on := 8, ground := Ground.phase }, { on := 9, ground := Ground.phase }, { on := 10, ground := Ground.phase }, { on := 11, ground := Ground.phase }, { on := 12, ground := Ground.phase }, { on := 13, ground := Ground.phase }], guard := none }) (v := ?_) rfl (by kernel_rfl)  (by kernel_rfl) (by kernel_rfl) (by kernel_rfl) (fun _ _ _ h => h) (Or.inl ⟨by rfl, ?_⟩) (K2.out) ?_
        rotate_left
        · (intro w hSw; (try dsimp only at hSw); go_simp; try with_reducible rfl)
        simp only [Act.put, List.setIfInBounds_toArray, List.set_cons_zero, List.set_cons_succ]
        refine anyE_ready (rs := [16]) (by kernel_rfl) (by simp) ?_
        refine AllE.cons (o := { dst := none, op := Op.store 52 (Operand.tmp 65) (Operand.tmp 63), type := 0, pos := "table.go:69", after := #[{ on := 15, ground := Ground.data }, { on := 13, ground := Ground.data }, { on := 13, ground := Ground.chain }, { on := 0, ground := Ground.phase }, { on := 1, ground := Ground.phase }, { on := 2, ground := Ground.phase }, { on := 3, ground := Ground.phase }, { on := 4, ground := Ground.phase }, { on := 5, ground := Ground.phase }, { on := 6, ground := Ground.phase }, { on := 7, ground := Ground.phase }, { on := 8, ground := Ground.phase }, { on := 9, ground := Ground.phase }, { on := 10, ground := Ground.phase }, { on := 11, ground := Ground.phase }, { on := 12, ground := Ground.phase }, { on := 13, ground := Ground.phase }], guard := none }) rfl (fun Kt hKt => ?_) ?_
        · obtain ⟨k1, _⟩ := K2.out
          go_simp
          refine hKt.out _ _ (fun h => absurd rfl h) ?_
          clear hKt Kt
          try simp only [Act.put, List.setIfInBounds_toArray, List.set_cons_zero, List.set_cons_succ]
          refine anyE_done (by kernel_rfl) ?_ _
          rw [E8.out]
          go_upto_region 13 with fail
          refine anyE_start (S := (fun v0 => v0.cell? ⟨B, 2, none⟩ = some (.map (some M)) ∧ (Instr.lookup 51 (.map (some M)) (.agg #[.int .i64 s, .int .i64 prio]) false).run Tryd.prog v0 = .ok (.int .i64 C) v0)) (L := 11) (by kernel_rfl) ?_
          refine anyE_take (i := 0) (oi := { dst := some 66, op := Op.move (Operand.tmp 0), type := 23, pos := "table.go:70", after := #[], guard := none }) (v := ?_) rfl (by kernel_rfl)  (by kernel_rfl) (by kernel_rfl) (by kernel_rfl) (fun _ _ _ h => h) (Or.inl ⟨by rfl, ?_⟩) (K8.out) ?_
          rotate_left
          · (intro w hSw; (try dsimp only at hSw); go_simp; try with_reducible rfl)
          simp only [Act.put, List.setIfInBounds_toArray, List.set_cons_zero, List.set_cons_succ]
          refine anyE_take (i := 1) (oi := { dst := some 67, op := Op.nilCheck (Operand.tmp 66), type := 0, pos := "table.go:70", after := #[{ on := 0, ground := Ground.data }], guard := none }) (v := ?_) rfl (by kernel_rfl)  (by kernel_rfl) (by kernel_rfl) (by kernel_rfl) (fun _ _ _ h => h) (Or.inl ⟨by rfl, ?_⟩) (K8.out) ?_
          rotate_left
          · (intro w hSw; (try dsimp only at hSw); go_simp; try with_reducible rfl)
          simp only [Act.put, List.setIfInBounds_toArray, List.set_cons_zero, List.set_cons_succ]
          refine anyE_take (i := 2) (oi := { dst := some 68, op := Op.fieldAddr 54 (Operand.tmp 67) 2, type := 0, pos := "table.go:70", after := #[{ on := 1, ground := Ground.data }], guard := none }) (v := ?_) rfl (by kernel_rfl)  (by kernel_rfl) (by kernel_rfl) (by kernel_rfl) (fun _ _ _ h => h) (Or.inl ⟨by rfl, ?_⟩) (K8.out) ?_
          rotate_left
          · (intro w hSw; (try dsimp only at hSw); go_simp; try with_reducible rfl)
          simp only [Act.put, List.setIfInBounds_toArray, List.set_cons_zero, List.set_cons_succ]
          refine anyE_take (i := 3) (oi := { dst := some 69, op := Op.load 51 (Operand.tmp 68), type := 51, pos := "table.go:70", after := #[{ on := 2, ground := Ground.data }], guard := none }) (v := ?_) rfl (by kernel_rfl)  (by kernel_rfl) (by kernel_rfl) (by kernel_rfl) (fun _ _ _ h => h) (Or.inl ⟨by rfl, ?_⟩) (K8.out) ?_
          rotate_left
          · (intro w hSw; (try dsimp only at hSw); go_simp; try with_reducible rfl)
          simp only [Act.put, List.setIfInBounds_toArray, List.set_cons_zero, List.set_cons_succ]
          refine anyE_take (i := 4) (oi := { dst := some 70, op := Op.move (Operand.tmp 4), type := 3, pos := "table.go:70", after := #[], guard := none }) (v := ?_) rfl (by kernel_rfl)  (by kernel_rfl) (by kernel_rfl) (by kernel_rfl) (fun _ _ _ h => h) (Or.inl ⟨by rfl, ?_⟩) (K8.out) ?_
          rotate_left
          · (intro w hSw; (try dsimp only at hSw); go_simp; try with_reducible rfl)
          simp only [Act.put, List.setIfInBounds_toArray, List.set_cons_zero, List.set_cons_succ]
          refine anyE_take (i := 5) (oi := { dst := some 71, op := Op.move (Operand.tmp 1), type := 3, pos := "table.go:70", after := #[], guard := none }) (v := ?_) rfl (by kernel_rfl)  (by kernel_rfl) (by kernel_rfl) (by kernel_rfl) (fun _ _ _ h => h) (Or.inl ⟨by rfl, ?_⟩) (K8.out) ?_
          rotate_left
          · (intro w hSw; (try dsimp only at hSw); go_simp; try with_reducible rfl)
          simp only [Act.put, List.setIfInBounds_toArray, List.set_cons_zero, List.set_cons_succ]
          refine anyE_take (i := 6) (oi := { dst := some 72, op := Op.build 64 #[(0, Operand.tmp 70), (1, Operand.tmp 71)], type := 64, pos := "table.go:70", after := #[{ on := 4, ground := Ground.data }, { on := 5, ground := Ground.data }], guard := none }) (v := ?_) rfl (by kernel_rfl)  (by kernel_rfl) (by kernel_rfl) (by kernel_rfl) (fun _ _ _ h => h) (Or.inl ⟨by rfl, ?_⟩) (K8.out) ?_
          rotate_left
          · (intro w hSw; (try dsimp only at hSw); go_simp; try with_reducible rfl)
          simp only [Act.put, List.setIfInBounds_toArray, List.set_cons_zero, List.set_cons_succ]
          refine anyE_take (i := 7) (oi := { dst := some 73, op := Op.lookup 51 (Operand.tmp 69) (Operand.tmp 72) false, type := 3, pos := "table.go:70", after := #[{ on := 3, ground := Ground.data }, { on := 6, ground := Ground.data }], guard := none }) (v := ?_) rfl (by kernel_rfl)  (by kernel_rfl) (by kernel_rfl) (by kernel_rfl) (fun _ _ _ h => h) (Or.inl ⟨by rfl, ?_⟩) (K8.out) ?_
          rotate_left
          · (intro w hSw; (try dsimp only at hSw); go_simp; try with_reducible rfl)
          simp only [Act.put, List.setIfInBounds_toArray, List.set_cons_zero, List.set_cons_succ]
          refine anyE_take (i := 8) (oi := { dst := some 74, op := Op.binOp BinOp.add 3 (Operand.tmp 73) (Operand.const (Value.int IntKind.i64 1)) 3, type := 3, pos := "table.go:70", after := #[{ on := 7, ground := Ground.data }], guard := none }) (v := ?_) rfl (by kernel_rfl)  (by kernel_rfl) (by kernel_rfl) (by kernel_rfl) (fun _ _ _ h => h) (Or.inl ⟨by rfl, ?_⟩) (K8.out) ?_
          rotate_left
          · (intro w hSw; (try dsimp only at hSw); go_simp; try with_reducible rfl)
          simp only [Act.put, List.setIfInBounds_toArray, List.set_cons_zero, List.set_cons_succ]
          refine anyE_ready (rs := [9]) (by kernel_rfl) (by simp) ?_
          refine AllE.cons (o := { dst := some 75, op := Op.mapEntry 51 (Operand.tmp 69) (Operand.tmp 72), type := 0, pos := "table.go:70", after := #[{ on := 3, ground := Ground.data }, { on := 6, ground := Ground.data }, { on := 0, ground := Ground.phase }, { on := 1, ground := Ground.phase }, { on := 2, ground := Ground.phase }, { on := 3, ground := Ground.phase }, { on := 4, ground := Ground.phase }, { on := 5, ground := Ground.phase }, { on := 6, ground := Ground.phase }, { on := 7, ground := Ground.textOnly Departure.mapOpAssignEntry }, { on := 8, ground := Ground.textOnly Departure.mapOpAssignEntry }], guard := none }) rfl (fun Kt hKt => ?_) ?_
          · go_simp
            refine hKt.out _ _ (fun _ => K9.out) ?_
            clear hKt Kt
            try simp only [Act.put, List.setIfInBounds_toArray, List.set_cons_zero, List.set_cons_succ]
            refine anyE_take (i := 10) (oi := { dst := some 76, op := Op.extract (Operand.tmp 75) 1, type := 3, pos := "table.go:70", after := #[{ on := 9, ground := Ground.data }], guard := none }) (v := ?_) rfl (by kernel_rfl)  (by kernel_rfl) (by kernel_rfl) (by kernel_rfl) (fun _ _ _ h => h) (Or.inl ⟨by rfl, ?_⟩) (K9.out) ?_
            rotate_left
            · (intro w hSw; (try dsimp only at hSw); go_simp; try with_reducible rfl)
            simp only [Act.put, List.setIfInBounds_toArray, List.set_cons_zero, List.set_cons_succ]
            refine anyE_ready (rs := [11]) (by kernel_rfl) (by simp) ?_
            refine AllE.cons (o := { dst := none, op := Op.entryStore 51 (Operand.tmp 69) (Operand.tmp 76) (Operand.tmp 74), type := 0, pos := "table.go:70", after := #[{ on := 3, ground := Ground.data }, { on := 10, ground := Ground.data }, { on := 8, ground := Ground.data }, { on := 9, ground := Ground.chain }, { on := 0, ground := Ground.phase }, { on := 1, ground := Ground.phase }, { on := 2, ground := Ground.phase }, { on := 3, ground := Ground.phase }, { on := 4, ground := Ground.phase }, { on := 5, ground := Ground.phase }, { on := 6, ground := Ground.phase }, { on := 7, ground := Ground.phase }, { on := 8, ground := Ground.phase }, { on := 9, ground := Ground.phase }, { on := 10, ground := Ground.phase }], guard := none }) rfl (fun Kt hKt => ?_) ?_
            · go_simp
              refine hKt.out _ _ (fun h => absurd rfl h) ?_
              clear hKt Kt
              try simp only [Act.put, List.setIfInBounds_toArray, List.set_cons_zero, List.set_cons_succ]
              refine anyE_done (by kernel_rfl) ?_ _
              go_wp2_with fail
              go_ret2
              exact ⟨rfl, FIN.out⟩
            exact AllE.nil
          exact AllE.nil
        exact AllE.nil
      exact AllE.nil
    exact AllE.nil
  exact AllE.nil
end Go.Proofs.YtpenjncbodcbnaaDoor

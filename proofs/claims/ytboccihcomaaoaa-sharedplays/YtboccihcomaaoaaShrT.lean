/- The drawn regions of the document's Add. -/
import Derived.Test.YtboccihcomaaoaaShrQ
import Derived.Test.YtboccihcomaaoaaAnyE
namespace Go.Proofs.Ytboccihcomaaoaa
open Go.RowKit Go.Lib Go.Sort
set_option linter.unusedVariables false

set_option maxHeartbeats 4000000 in
set_option maxRecDepth 100000 in
theorem radd_reg7 {Q : Exit → Act → World → Prop} (hQ : ∀ c (a : Act) (d : Tmp) v w, Q (.panic c) (a.put (some d) v) w → Q (.panic c) a w) {t0 t1 t2 t3 t7 t8 t9 t10 t11 t12 t13 t14 t15 t16 t17 t18 t19 t20 t21 t22 t23 t24 t25 t26 t27 t28 t29 t30 t31 t32 t33 t34 t35 t36 t37 t38 t39 t40 t41 t42 t43 t44 t45 t46 t47 t48 t49 t50 t51 t52 t53 t54 t55 t56 t57 t58 t59 t60 t61 t62 t63 t64 t65 t66 t67 t68 t69 t70 t71 t72 t73 t74 t75 t76 t77 t78 t79 t80 t81 t82 t83 t84 t85 t86 t87 t88 t89 t90 t91 : Value} {R4 g off n cap i m K q kx xq ME : Nat} {p xp : Option Addr} {d dx E : List Ent} {wr : World}
    (hi : i < n) (hn : n ≤ 9000) (box : wr.heap[R4]? = some (.cells #[.int .i64 m, .slice p K q] 79 (0, 0))) (hgR : g ≠ R4) (hg : g < wr.heap.size) (c1 : wr.cell? ⟨g, off + i * 2 + 1, none⟩ = some (.slice xp kx xq))
    (L1 : IsL wr xp xq dx) (h1 : dx.length = kx) (L2 : IsL wr p q d) (h2 : d.length = K) (hs : kx + K ≤ 9000) (hE : sortE (dx ++ d) = E) (hM : lv E = ME)
    (h : ∀ z pa pc, Below wr.heap.size wr z → OwnE z wr.heap.size (.slice pa (kx + K) pc) E → ∀ f33 f34 f35 f36 f37 f38 f39 f40 f41 f42 f43 : Value, Q .normal { tmps := #[t0, t1, t2, t3, .pointer (some ⟨R4, 0, none⟩), .slice (some ⟨g, off, none⟩) n cap, .int .i64 (i : Int), t7, t8, t9, t10, t11, t12, t13, t14, t15, t16, t17, t18, t19, t20, t21, t22, t23, t24, t25, t26, t27, t28, t29, t30, t31, t32, f33, f34, f35, f36, f37, f38, f39, f40, f41, f42, f43, t44, t45, t46, t47, t48, t49, t50, t51, t52, t53, t54, t55, t56, t57, t58, t59, t60, t61, t62, t63, t64, t65, t66, t67, t68, t69, t70, t71, t72, t73, t74, t75, t76, t77, t78, t79, t80, t81, t82, t83, t84, t85, t86, t87, t88, t89, t90, t91], defers := [] } ((z.setCell ⟨R4, 0, none⟩ (.int .i64 ME)).setCell ⟨R4, 1, none⟩ (.slice pa (kx + K) pc))) :
    Code.wp Try.prog (Code.region 7 #[{ dst := some 33, op := Op.buildSlice 32 0 #[], type := 32, pos := "vergerref5.go:220", after := #[], guard := none }, { dst := some 34, op := Op.move (Operand.tmp 5), type := 48, pos := "vergerref5.go:220", after := #[], guard := none }, { dst := some 35, op := Op.move (Operand.tmp 6), type := 3, pos := "vergerref5.go:220", after := #[], guard := none }, { dst := some 36, op := Op.indexAddr 48 (Operand.tmp 34) (Operand.tmp 35), type := 0, pos := "vergerref5.go:220", after := #[{ on := 1, ground := Ground.data }, { on := 2, ground := Ground.data }], guard := none }, { dst := some 37, op := Op.fieldAddr 79 (Operand.tmp 36) 1, type := 0, pos := "vergerref5.go:220", after := #[{ on := 3, ground := Ground.data }], guard := none }, { dst := some 38, op := Op.load 32 (Operand.tmp 37), type := 32, pos := "vergerref5.go:220", after := #[{ on := 4, ground := Ground.data }], guard := none }, { dst := some 39, op := Op.call { callee := Callee.builtin Builtin.append, args := #[Operand.tmp 33, Operand.tmp 38], argTypes := #[32, 32] }, type := 32, pos := "vergerref5.go:220", after := #[{ on := 0, ground := Ground.data }, { on := 5, ground := Ground.data }], guard := none }, { dst := some 40, op := Op.fieldAddr 79 (Operand.tmp 4) 1, type := 0, pos := "vergerref5.go:220", after := #[], guard := none }, { dst := some 41, op := Op.load 32 (Operand.tmp 40), type := 32, pos := "vergerref5.go:220", after := #[{ on := 7, ground := Ground.data }], guard := none }, { dst := some 42, op := Op.call { callee := Callee.builtin Builtin.append, args := #[Operand.tmp 39, Operand.tmp 41], argTypes := #[32, 32] }, type := 32, pos := "vergerref5.go:220", after := #[{ on := 6, ground := Ground.data }, { on := 8, ground := Ground.data }, { on := 6, ground := Ground.chain }], guard := none }, { dst := some 43, op := Op.call { callee := Callee.value (Operand.func 40), args := #[Operand.tmp 42], argTypes := #[32] }, type := 79, pos := "vergerref5.go:220", after := #[{ on := 9, ground := Ground.data }, { on := 9, ground := Ground.chain }], guard := none }, { dst := none, op := Op.store 79 (Operand.tmp 4) (Operand.tmp 43), type := 0, pos := "vergerref5.go:220", after := #[{ on := 10, ground := Ground.data }, { on := 10, ground := Ground.chain }, { on := 0, ground := Ground.phase }, { on := 1, ground := Ground.phase }, { on := 2, ground := Ground.phase }, { on := 3, ground := Ground.phase }, { on := 4, ground := Ground.phase }, { on := 5, ground := Ground.phase }, { on := 6, ground := Ground.phase }, { on := 7, ground := Ground.phase }, { on := 8, ground := Ground.phase }, { on := 9, ground := Ground.phase }, { on := 10, ground := Ground.phase }], guard := none }] true) Q { tmps := #[t0, t1, t2, t3, .pointer (some ⟨R4, 0, none⟩), .slice (some ⟨g, off, none⟩) n cap, .int .i64 (i : Int), t7, t8, t9, t10, t11, t12, t13, t14, t15, t16, t17, t18, t19, t20, t21, t22, t23, t24, t25, t26, t27, t28, t29, t30, t31, t32, t33, t34, t35, t36, t37, t38, t39, t40, t41, t42, t43, t44, t45, t46, t47, t48, t49, t50, t51, t52, t53, t54, t55, t56, t57, t58, t59, t60, t61, t62, t63, t64, t65, t66, t67, t68, t69, t70, t71, t72, t73, t74, t75, t76, t77, t78, t79, t80, t81, t82, t83, t84, t85, t86, t87, t88, t89, t90, t91], defers := [] } wr := by
  have sR := lt_of_block box
  obtain ⟨Z, hZ⟩ : ∃ Z, wr.heap.size = Z := ⟨_, rfl⟩
  have q0 : Below wr.heap.size wr wr.drew := bel_D _
  have x0 : Below wr.heap.size wr (wr.alloc (.cells #[] 37)).drew := (bel_alloc _ _).drew
  obtain ⟨r1, t1, w1, g1, o1, b1⟩ := pushE0 (g := Z) (cap := xq) ((L1.reads h1).below x0) (by omega)
  have x1 : Below wr.heap.size wr w1 := x0.trans (b1.mono x0.size)
  obtain ⟨r2, t2, w2, g2, l2, b2, _⟩ := pushE (cap := q) o1 h1 h2 ((L2.reads h2).below x1) (by omega) b1.size
  have x2 : Below wr.heap.size wr w2 := x1.trans (b2.mono x0.size)
  have of := refOfO (w := w2) (n := kx + K) (d := E) l2 (by rw [List.length_append, h1, h2]) (by omega) hE hM
  have KC : ∀ v, Below wr.heap.size wr v → v.cell? ⟨g, off + i * 2 + 1, none⟩ = some (.slice xp kx xq) ∧ v.cell? ⟨R4, 1, none⟩ = some (.slice p K q) := fun v hv => ⟨(hv.cell (p := ⟨g, off + i * 2 + 1, none⟩) hg).trans c1, shr1 ((hv.block R4 sR).trans box)⟩
  have j1 : (i : Int) < (n : Int) := by omega
  have j2 : (0 : Int) ≤ (i : Int) := by omega
  have mx := mixed
  clear L1 L2 l2 o1 c1 hE
  refine anyE_start (S := (fun v => v.cell? ⟨g, off + i * 2 + 1, none⟩ = some (.slice xp kx xq) ∧ v.cell? ⟨R4, 1, none⟩ = some (.slice p K q))) (L := 11) (by kernel_rfl) ?_
  refine anyE_take (i := 1) (oi := { dst := some 34, op := Op.move (Operand.tmp 5), type := 48, pos := "vergerref5.go:220", after := #[], guard := none }) (v := ?_) rfl (by kernel_rfl) (by kernel_rfl) (by kernel_rfl) (by kernel_rfl) (fun c a w h => hQ c a _ _ w h) (Or.inl ⟨by rfl, ?_⟩) (KC _ q0) ?_
  rotate_left
  · (intro w hSw; (try dsimp only at hSw); go_simp; try with_reducible rfl)
  simp only [Act.put, List.setIfInBounds_toArray, List.set_cons_zero, List.set_cons_succ]
  refine anyE_take (i := 2) (oi := { dst := some 35, op := Op.move (Operand.tmp 6), type := 3, pos := "vergerref5.go:220", after := #[], guard := none }) (v := ?_) rfl (by kernel_rfl) (by kernel_rfl) (by kernel_rfl) (by kernel_rfl) (fun c a w h => hQ c a _ _ w h) (Or.inl ⟨by rfl, ?_⟩) (KC _ q0) ?_
  rotate_left
  · (intro w hSw; (try dsimp only at hSw); go_simp; try with_reducible rfl)
  simp only [Act.put, List.setIfInBounds_toArray, List.set_cons_zero, List.set_cons_succ]
  refine anyE_take (i := 3) (oi := { dst := some 36, op := Op.indexAddr 48 (Operand.tmp 34) (Operand.tmp 35), type := 0, pos := "vergerref5.go:220", after := #[{ on := 1, ground := Ground.data }, { on := 2, ground := Ground.data }], guard := none }) (v := ?_) rfl (by kernel_rfl) (by kernel_rfl) (by kernel_rfl) (by kernel_rfl) (fun c a w h => hQ c a _ _ w h) (Or.inl ⟨by rfl, ?_⟩) (KC _ q0) ?_
  rotate_left
  · (intro w hSw; (try dsimp only at hSw); go_simp; try with_reducible rfl)
  simp only [Act.put, List.setIfInBounds_toArray, List.set_cons_zero, List.set_cons_succ]
  refine anyE_take (i := 4) (oi := { dst := some 37, op := Op.fieldAddr 79 (Operand.tmp 36) 1, type := 0, pos := "vergerref5.go:220", after := #[{ on := 3, ground := Ground.data }], guard := none }) (v := ?_) rfl (by kernel_rfl) (by kernel_rfl) (by kernel_rfl) (by kernel_rfl) (fun c a w h => hQ c a _ _ w h) (Or.inl ⟨by rfl, ?_⟩) (KC _ q0) ?_
  rotate_left
  · (intro w hSw; (try dsimp only at hSw); go_simp; try with_reducible rfl)
  simp only [Act.put, List.setIfInBounds_toArray, List.set_cons_zero, List.set_cons_succ]
  refine anyE_take (i := 5) (oi := { dst := some 38, op := Op.load 32 (Operand.tmp 37), type := 32, pos := "vergerref5.go:220", after := #[{ on := 4, ground := Ground.data }], guard := none }) (v := ?_) rfl (by kernel_rfl) (by kernel_rfl) (by kernel_rfl) (by kernel_rfl) (fun c a w h => hQ c a _ _ w h) (Or.inl ⟨by rfl, ?_⟩) (KC _ q0) ?_
  rotate_left
  · (intro w hSw; (try dsimp only at hSw); go_simp; try with_reducible rfl)
  simp only [Act.put, List.setIfInBounds_toArray, List.set_cons_zero, List.set_cons_succ]
  refine anyE_take (i := 7) (oi := { dst := some 40, op := Op.fieldAddr 79 (Operand.tmp 4) 1, type := 0, pos := "vergerref5.go:220", after := #[], guard := none }) (v := ?_) rfl (by kernel_rfl) (by kernel_rfl) (by kernel_rfl) (by kernel_rfl) (fun c a w h => hQ c a _ _ w h) (Or.inl ⟨by rfl, ?_⟩) (KC _ q0) ?_
  rotate_left
  · (intro w hSw; (try dsimp only at hSw); go_simp; try with_reducible rfl)
  simp only [Act.put, List.setIfInBounds_toArray, List.set_cons_zero, List.set_cons_succ]
  refine anyE_take (i := 8) (oi := { dst := some 41, op := Op.load 32 (Operand.tmp 40), type := 32, pos := "vergerref5.go:220", after := #[{ on := 7, ground := Ground.data }], guard := none }) (v := ?_) rfl (by kernel_rfl) (by kernel_rfl) (by kernel_rfl) (by kernel_rfl) (fun c a w h => hQ c a _ _ w h) (Or.inl ⟨by rfl, ?_⟩) (KC _ q0) ?_
  rotate_left
  · (intro w hSw; (try dsimp only at hSw); go_simp; try with_reducible rfl)
  simp only [Act.put, List.setIfInBounds_toArray, List.set_cons_zero, List.set_cons_succ]
  refine anyE_ready (rs := [0]) (by kernel_rfl) (by simp) ?_
  refine AllE.cons (o := { dst := some 33, op := Op.buildSlice 32 0 #[], type := 32, pos := "vergerref5.go:220", after := #[], guard := none }) rfl (fun Kt hKt => ?_) ?_
  · go_simp
    refine hKt.out _ _ (fun _ => KC _ x0) ?_
    clear hKt Kt
    try simp only [Act.put, List.setIfInBounds_toArray, List.set_cons_zero, List.set_cons_succ]
    refine anyE_ready (rs := [6]) (by kernel_rfl) (by simp) ?_
    refine AllE.cons (o := { dst := some 39, op := Op.call { callee := Callee.builtin Builtin.append, args := #[Operand.tmp 33, Operand.tmp 38], argTypes := #[32, 32] }, type := 32, pos := "vergerref5.go:220", after := #[{ on := 0, ground := Ground.data }, { on := 5, ground := Ground.data }], guard := none }) rfl (fun Kt hKt => ?_) ?_
    · refine step_app ((wr.alloc (.cells #[] 37)).drew) (by rfl) _ _ 32 32 (by rfl) (.slice (some ⟨Z, 0, none⟩) 0 0) (.slice xp kx xq) (by rfl) (by rfl) (.slice r1 kx t1) w1 g1 ?_
      refine hKt.out _ _ (fun _ => KC _ x1) ?_
      clear hKt Kt
      try simp only [Act.put, List.setIfInBounds_toArray, List.set_cons_zero, List.set_cons_succ]
      refine anyE_ready (rs := [9]) (by kernel_rfl) (by simp) ?_
      refine AllE.cons (o := { dst := some 42, op := Op.call { callee := Callee.builtin Builtin.append, args := #[Operand.tmp 39, Operand.tmp 41], argTypes := #[32, 32] }, type := 32, pos := "vergerref5.go:220", after := #[{ on := 6, ground := Ground.data }, { on := 8, ground := Ground.data }, { on := 6, ground := Ground.chain }], guard := none }) rfl (fun Kt hKt => ?_) ?_
      · refine step_app w1 (by rfl) _ _ 32 32 (by rfl) (.slice r1 kx t1) (.slice p K q) (by rfl) (by rfl) (.slice r2 (kx + K) t2) w2 g2 ?_
        refine hKt.out _ _ (fun _ => KC _ x2) ?_
        clear hKt Kt
        try simp only [Act.put, List.setIfInBounds_toArray, List.set_cons_zero, List.set_cons_succ]
        refine anyE_ready (rs := [10]) (by kernel_rfl) (by simp) ?_
        refine AllE.cons (o := { dst := some 43, op := Op.call { callee := Callee.value (Operand.func 40), args := #[Operand.tmp 42], argTypes := #[32] }, type := 79, pos := "vergerref5.go:220", after := #[{ on := 9, ground := Ground.data }, { on := 9, ground := Ground.chain }], guard := none }) rfl (fun Kt hKt => ?_) ?_
        · go_simp
          (with_reducible refine Calls.mono of ?_)
          rintro r z ⟨pa, pc, rfl, o3, b3⟩
          have x3 : Below wr.heap.size wr z := x2.trans (b3.mono x2.size)
          go_wp2_with fail
          refine hKt.out _ _ (fun _ => KC _ x3) ?_
          clear hKt Kt
          try simp only [Act.put, List.setIfInBounds_toArray, List.set_cons_zero, List.set_cons_succ]
          refine anyE_ready (rs := [11]) (by kernel_rfl) (by simp) ?_
          refine AllE.cons (o := { dst := none, op := Op.store 79 (Operand.tmp 4) (Operand.tmp 43), type := 0, pos := "vergerref5.go:220", after := #[{ on := 10, ground := Ground.data }, { on := 10, ground := Ground.chain }, { on := 0, ground := Ground.phase }, { on := 1, ground := Ground.phase }, { on := 2, ground := Ground.phase }, { on := 3, ground := Ground.phase }, { on := 4, ground := Ground.phase }, { on := 5, ground := Ground.phase }, { on := 6, ground := Ground.phase }, { on := 7, ground := Ground.phase }, { on := 8, ground := Ground.phase }, { on := 9, ground := Ground.phase }, { on := 10, ground := Ground.phase }], guard := none }) rfl (fun Kt hKt => ?_) ?_
          · have z3 := (x3.block R4 sR).trans box
            have z0 := shr0 z3
            have z1 := shr1 z3
            have zf0 := shrf z3 0
            have zf1 := shrf z3 1
            go_simp
            refine hKt.out _ _ (fun h => absurd rfl h) ?_
            clear hKt Kt
            try simp only [Act.put, List.setIfInBounds_toArray, List.set_cons_zero, List.set_cons_succ]
            refine anyE_done (by kernel_rfl) ?_ _
            exact h z pa pc x3 (o3.low x2.size) _ _ _ _ _ _ _ _ _ _ _
          exact AllE.nil
        exact AllE.nil
      exact AllE.nil
    exact AllE.nil
  exact AllE.nil

set_option maxHeartbeats 4000000 in
set_option maxRecDepth 100000 in
theorem radd_reg8 {Q : Exit → Act → World → Prop} (hQ : ∀ c (a : Act) (d : Tmp) v w, Q (.panic c) (a.put (some d) v) w → Q (.panic c) a w) {t0 t1 t2 t3 t4 t7 t8 t9 t10 t11 t12 t13 t14 t15 t16 t17 t18 t19 t20 t21 t22 t23 t24 t25 t26 t27 t28 t29 t30 t31 t32 t33 t34 t35 t36 t37 t38 t39 t40 t41 t42 t43 t44 t45 t46 t47 t48 t49 t50 t51 t52 t53 t54 t55 t56 t57 t58 t59 t60 t61 t62 t63 t64 t65 t66 t67 t68 t69 t70 t71 t72 t73 t74 t75 t76 t77 t78 t79 t80 t81 t82 t83 t84 t85 t86 t87 t88 t89 t90 t91 : Value} {g off n cap i NN : Nat} {c1 c2 : List Bk} {p1 : Option Addr} {wr : World}
    (hi : i < n) (hn : n ≤ 9000) (hc : n ≤ cap) (hcb : cap ≤ 9223372036854775807) (hNN : i + (n - (i + 1)) = NN) (hp1 : (if cap = i + 1 then (some ⟨g, off, none⟩ : Option Addr) else some ⟨g, off + (i + 1) * 2, none⟩) = p1)
    (R1 : Reads wr (some ⟨g, off, none⟩) i (flatB c1)) (R2 : Reads wr p1 (n - (i + 1)) (flatB c2))
    (h : ∀ z r t, Below wr.heap.size wr z → OwnZ 79 z (wr.heap.size + 1) (.slice r NN t) NN (flatB (c1 ++ c2)) → NN ≤ t → t ≤ maxLen → ∀ f44 f45 f46 f47 f48 f49 f50 f51 f52 f53 : Value, Q .normal { tmps := #[t0, t1, t2, t3, t4, .slice r NN t, .int .i64 (i : Int), t7, t8, t9, t10, t11, t12, t13, t14, t15, t16, t17, t18, t19, t20, t21, t22, t23, t24, t25, t26, t27, t28, t29, t30, t31, t32, t33, t34, t35, t36, t37, t38, t39, t40, t41, t42, t43, f44, f45, f46, f47, f48, f49, f50, f51, f52, f53, t54, t55, t56, t57, t58, t59, t60, t61, t62, t63, t64, t65, t66, t67, t68, t69, t70, t71, t72, t73, t74, t75, t76, t77, t78, t79, t80, t81, t82, t83, t84, t85, t86, t87, t88, t89, t90, t91], defers := [] } z) :
    Code.wp Try.prog (Code.region 8 #[{ dst := some 44, op := Op.buildSlice 48 0 #[], type := 48, pos := "vergerref5.go:221", after := #[], guard := none }, { dst := some 45, op := Op.move (Operand.tmp 5), type := 48, pos := "vergerref5.go:221", after := #[], guard := none }, { dst := some 46, op := Op.move (Operand.tmp 6), type := 3, pos := "vergerref5.go:221", after := #[], guard := none }, { dst := some 47, op := Op.slice 48 (Operand.tmp 45) none (some (Operand.tmp 46)) none, type := 48, pos := "vergerref5.go:221", after := #[{ on := 1, ground := Ground.data }, { on := 2, ground := Ground.data }], guard := none }, { dst := some 48, op := Op.call { callee := Callee.builtin Builtin.append, args := #[Operand.tmp 44, Operand.tmp 47], argTypes := #[48, 48] }, type := 48, pos := "vergerref5.go:221", after := #[{ on := 0, ground := Ground.data }, { on := 3, ground := Ground.data }], guard := none }, { dst := some 49, op := Op.move (Operand.tmp 5), type := 48, pos := "vergerref5.go:221", after := #[], guard := none }, { dst := some 50, op := Op.move (Operand.tmp 6), type := 3, pos := "vergerref5.go:221", after := #[], guard := none }, { dst := some 51, op := Op.binOp BinOp.add 3 (Operand.tmp 50) (Operand.const (Value.int IntKind.i64 1)) 3, type := 3, pos := "vergerref5.go:221", after := #[{ on := 6, ground := Ground.data }], guard := none }, { dst := some 52, op := Op.slice 48 (Operand.tmp 49) (some (Operand.tmp 51)) none none, type := 48, pos := "vergerref5.go:221", after := #[{ on := 5, ground := Ground.data }, { on := 7, ground := Ground.data }], guard := none }, { dst := some 53, op := Op.call { callee := Callee.builtin Builtin.append, args := #[Operand.tmp 48, Operand.tmp 52], argTypes := #[48, 48] }, type := 48, pos := "vergerref5.go:221", after := #[{ on := 4, ground := Ground.data }, { on := 8, ground := Ground.data }, { on := 4, ground := Ground.chain }], guard := none }, { dst := some 5, op := Op.assign (Operand.tmp 53), type := 48, pos := "vergerref5.go:221", after := #[{ on := 9, ground := Ground.data }, { on := 9, ground := Ground.chain }, { on := 0, ground := Ground.phase }, { on := 1, ground := Ground.phase }, { on := 2, ground := Ground.phase }, { on := 3, ground := Ground.phase }, { on := 4, ground := Ground.phase }, { on := 5, ground := Ground.phase }, { on := 6, ground := Ground.phase }, { on := 7, ground := Ground.phase }, { on := 8, ground := Ground.phase }, { on := 9, ground := Ground.phase }], guard := none }] true) Q { tmps := #[t0, t1, t2, t3, t4, .slice (some ⟨g, off, none⟩) n cap, .int .i64 (i : Int), t7, t8, t9, t10, t11, t12, t13, t14, t15, t16, t17, t18, t19, t20, t21, t22, t23, t24, t25, t26, t27, t28, t29, t30, t31, t32, t33, t34, t35, t36, t37, t38, t39, t40, t41, t42, t43, t44, t45, t46, t47, t48, t49, t50, t51, t52, t53, t54, t55, t56, t57, t58, t59, t60, t61, t62, t63, t64, t65, t66, t67, t68, t69, t70, t71, t72, t73, t74, t75, t76, t77, t78, t79, t80, t81, t82, t83, t84, t85, t86, t87, t88, t89, t90, t91], defers := [] } wr := by
  obtain ⟨Z, hZ⟩ : ∃ Z, wr.heap.size = Z := ⟨_, rfl⟩
  have x0 : Below wr.heap.size wr (wr.alloc (.cells #[] 79)).drew := (bel_alloc _ _).drew
  have z0 : (wr.alloc (.cells #[] 79)).drew.heap.size = wr.heap.size + 1 := by simp
  obtain ⟨r1, t1, w1, g1, o1, b1, _, _⟩ := push0 (g := Z) (cap := cap) (R1.below x0) (by omega)
  rw [z0] at o1
  have x1 : Below wr.heap.size wr w1 := x0.trans (b1.mono x0.size)
  obtain ⟨r2, t2, w2, g2, o2, b2, _, f2, m2⟩ := pushB (cap := cap - (i + 1)) o1 (R2.below x1) (by omega) (by have := b1.size; omega)
  have x2 : Below wr.heap.size wr w2 := x1.trans (b2.mono (by omega))
  rw [hNN] at g2 o2 f2
  have j1 : (i : Int) + 1 ≤ (n : Int) := by omega
  have j2 : (0 : Int) ≤ (i : Int) + 1 := by omega
  have j3 : ((i : Int) + 1).toNat = i + 1 := by omega
  have j4 : (i : Int) ≤ (cap : Int) := by omega
  have j5 : IntKind.i64.wrap ((i : Int) + 1) = (i : Int) + 1 := by rw [IntKind.wrap_i64]; omega
  have j6 : (i : Int) ≤ (n : Int) := by omega
  have j7 : (0 : Int) ≤ (i : Int) := by omega
  have j8 : (n : Int) ≤ (cap : Int) := by omega
  have mx := mixed
  clear R1 R2 o1 z0
  refine anyE_start (S := (fun _ => True)) (L := 10) (by kernel_rfl) ?_
  refine anyE_take (i := 1) (oi := { dst := some 45, op := Op.move (Operand.tmp 5), type := 48, pos := "vergerref5.go:221", after := #[], guard := none }) (v := ?_) rfl (by kernel_rfl) (by kernel_rfl) (by kernel_rfl) (by kernel_rfl) (fun c a w h => hQ c a _ _ w h) (Or.inl ⟨by rfl, ?_⟩) (trivial) ?_
  rotate_left
  · (intro w hSw; (try dsimp only at hSw); go_simp; try with_reducible rfl)
  simp only [Act.put, List.setIfInBounds_toArray, List.set_cons_zero, List.set_cons_succ]
  refine anyE_take (i := 2) (oi := { dst := some 46, op := Op.move (Operand.tmp 6), type := 3, pos := "vergerref5.go:221", after := #[], guard := none }) (v := ?_) rfl (by kernel_rfl) (by kernel_rfl) (by kernel_rfl) (by kernel_rfl) (fun c a w h => hQ c a _ _ w h) (Or.inl ⟨by rfl, ?_⟩) (trivial) ?_
  rotate_left
  · (intro w hSw; (try dsimp only at hSw); go_simp; try with_reducible rfl)
  simp only [Act.put, List.setIfInBounds_toArray, List.set_cons_zero, List.set_cons_succ]
  refine anyE_take (i := 3) (oi := { dst := some 47, op := Op.slice 48 (Operand.tmp 45) none (some (Operand.tmp 46)) none, type := 48, pos := "vergerref5.go:221", after := #[{ on := 1, ground := Ground.data }, { on := 2, ground := Ground.data }], guard := none }) (v := ?_) rfl (by kernel_rfl) (by kernel_rfl) (by kernel_rfl) (by kernel_rfl) (fun c a w h => hQ c a _ _ w h) (Or.inl ⟨by rfl, ?_⟩) (trivial) ?_
  rotate_left
  · (intro w hSw; (try dsimp only at hSw); go_simp; try with_reducible rfl)
  simp only [Act.put, List.setIfInBounds_toArray, List.set_cons_zero, List.set_cons_succ]
  refine anyE_take (i := 5) (oi := { dst := some 49, op := Op.move (Operand.tmp 5), type := 48, pos := "vergerref5.go:221", after := #[], guard := none }) (v := ?_) rfl (by kernel_rfl) (by kernel_rfl) (by kernel_rfl) (by kernel_rfl) (fun c a w h => hQ c a _ _ w h) (Or.inl ⟨by rfl, ?_⟩) (trivial) ?_
  rotate_left
  · (intro w hSw; (try dsimp only at hSw); go_simp; try with_reducible rfl)
  simp only [Act.put, List.setIfInBounds_toArray, List.set_cons_zero, List.set_cons_succ]
  refine anyE_take (i := 6) (oi := { dst := some 50, op := Op.move (Operand.tmp 6), type := 3, pos := "vergerref5.go:221", after := #[], guard := none }) (v := ?_) rfl (by kernel_rfl) (by kernel_rfl) (by kernel_rfl) (by kernel_rfl) (fun c a w h => hQ c a _ _ w h) (Or.inl ⟨by rfl, ?_⟩) (trivial) ?_
  rotate_left
  · (intro w hSw; (try dsimp only at hSw); go_simp; try with_reducible rfl)
  simp only [Act.put, List.setIfInBounds_toArray, List.set_cons_zero, List.set_cons_succ]
  refine anyE_take (i := 7) (oi := { dst := some 51, op := Op.binOp BinOp.add 3 (Operand.tmp 50) (Operand.const (Value.int IntKind.i64 1)) 3, type := 3, pos := "vergerref5.go:221", after := #[{ on := 6, ground := Ground.data }], guard := none }) (v := ?_) rfl (by kernel_rfl) (by kernel_rfl) (by kernel_rfl) (by kernel_rfl) (fun c a w h => hQ c a _ _ w h) (Or.inl ⟨by rfl, ?_⟩) (trivial) ?_
  rotate_left
  · (intro w hSw; (try dsimp only at hSw); go_simp; try with_reducible rfl)
  simp only [Act.put, List.setIfInBounds_toArray, List.set_cons_zero, List.set_cons_succ]
  refine anyE_take (i := 8) (oi := { dst := some 52, op := Op.slice 48 (Operand.tmp 49) (some (Operand.tmp 51)) none none, type := 48, pos := "vergerref5.go:221", after := #[{ on := 5, ground := Ground.data }, { on := 7, ground := Ground.data }], guard := none }) (v := ?_) rfl (by kernel_rfl) (by kernel_rfl) (by kernel_rfl) (by kernel_rfl) (fun c a w h => hQ c a _ _ w h) (Or.inl ⟨by rfl, ?_⟩) (trivial) ?_
  rotate_left
  · (intro w hSw; (try dsimp only at hSw); go_simp; try with_reducible rfl)
  simp only [Act.put, List.setIfInBounds_toArray, List.set_cons_zero, List.set_cons_succ]
  refine anyE_ready (rs := [0]) (by kernel_rfl) (by simp) ?_
  refine AllE.cons (o := { dst := some 44, op := Op.buildSlice 48 0 #[], type := 48, pos := "vergerref5.go:221", after := #[], guard := none }) rfl (fun Kt hKt => ?_) ?_
  · go_simp
    refine hKt.out _ _ (fun _ => trivial) ?_
    clear hKt Kt
    try simp only [Act.put, List.setIfInBounds_toArray, List.set_cons_zero, List.set_cons_succ]
    refine anyE_ready (rs := [4]) (by kernel_rfl) (by simp) ?_
    refine AllE.cons (o := { dst := some 48, op := Op.call { callee := Callee.builtin Builtin.append, args := #[Operand.tmp 44, Operand.tmp 47], argTypes := #[48, 48] }, type := 48, pos := "vergerref5.go:221", after := #[{ on := 0, ground := Ground.data }, { on := 3, ground := Ground.data }], guard := none }) rfl (fun Kt hKt => ?_) ?_
    · refine step_app ((wr.alloc (.cells #[] 79)).drew) (by rfl) _ _ 48 48 (by rfl) (.slice (some ⟨Z, 0, none⟩) 0 0) (.slice (some ⟨g, off, none⟩) i cap) (by rfl) (by rfl) (.slice r1 i t1) w1 g1 ?_
      refine hKt.out _ _ (fun _ => trivial) ?_
      clear hKt Kt
      try simp only [Act.put, List.setIfInBounds_toArray, List.set_cons_zero, List.set_cons_succ]
      refine anyE_ready (rs := [9]) (by kernel_rfl) (by simp) ?_
      refine AllE.cons (o := { dst := some 53, op := Op.call { callee := Callee.builtin Builtin.append, args := #[Operand.tmp 48, Operand.tmp 52], argTypes := #[48, 48] }, type := 48, pos := "vergerref5.go:221", after := #[{ on := 4, ground := Ground.data }, { on := 8, ground := Ground.data }, { on := 4, ground := Ground.chain }], guard := none }) rfl (fun Kt hKt => ?_) ?_
      · refine step_app w1 (by rfl) _ _ 48 48 (by rfl) (.slice r1 i t1) (.slice p1 (n - (i + 1)) (cap - (i + 1))) (by rfl) (by rfl) (.slice r2 NN t2) w2 g2 ?_
        refine hKt.out _ _ (fun _ => trivial) ?_
        clear hKt Kt
        try simp only [Act.put, List.setIfInBounds_toArray, List.set_cons_zero, List.set_cons_succ]
        refine anyE_ready (rs := [10]) (by kernel_rfl) (by simp) ?_
        refine AllE.cons (o := { dst := some 5, op := Op.assign (Operand.tmp 53), type := 48, pos := "vergerref5.go:221", after := #[{ on := 9, ground := Ground.data }, { on := 9, ground := Ground.chain }, { on := 0, ground := Ground.phase }, { on := 1, ground := Ground.phase }, { on := 2, ground := Ground.phase }, { on := 3, ground := Ground.phase }, { on := 4, ground := Ground.phase }, { on := 5, ground := Ground.phase }, { on := 6, ground := Ground.phase }, { on := 7, ground := Ground.phase }, { on := 8, ground := Ground.phase }, { on := 9, ground := Ground.phase }], guard := none }) rfl (fun Kt hKt => ?_) ?_
        · go_simp
          refine hKt.out _ _ (fun h => absurd rfl h) ?_
          clear hKt Kt
          try simp only [Act.put, List.setIfInBounds_toArray, List.set_cons_zero, List.set_cons_succ]
          refine anyE_done (by kernel_rfl) ?_ _
          exact h w2 r2 t2 x2 o2 f2 m2 _ _ _ _ _ _ _ _ _ _
        exact AllE.nil
      exact AllE.nil
    exact AllE.nil
  exact AllE.nil
end Go.Proofs.Ytboccihcomaaoaa

/- The drawn regions of the document's Add. -/
import Derived.Test.YtboccihcomaaoaaShrQ
import Derived.Test.YtboccihcomaaoaaAnyE
namespace Go.Proofs.Ytboccihcomaaoaa
open Go.RowKit Go.Lib Go.Sort
set_option linter.unusedVariables false

set_option maxHeartbeats 4000000 in
set_option maxRecDepth 100000 in
theorem radd_reg13n {Q : Exit → Act → World → Prop} (hQ : ∀ c (a : Act) (d : Tmp) v w, Q (.panic c) (a.put (some d) v) w → Q (.panic c) a w) {t1 t2 t3 t6 t8 t9 t10 t11 t12 t13 t14 t15 t16 t17 t18 t19 t20 t21 t22 t23 t24 t25 t26 t27 t28 t29 t30 t31 t32 t33 t34 t35 t36 t37 t38 t39 t40 t41 t42 t43 t44 t45 t46 t47 t48 t49 t50 t51 t52 t53 t54 t55 t56 t57 t58 t59 t60 t61 t62 t63 t64 t65 t66 t67 t68 t69 t70 t71 t72 t73 t74 t75 t76 t77 t78 t79 t80 t81 t82 t83 t84 t85 t86 t87 t88 t89 t90 t91 : Value} {g off n cap k S R4 m K q v : Nat} {p p1 : Option Addr} {d : List Ent} {y : Value} {c1 c2 : List Bk} {wr : World}
    (hk : k ≤ n) (hn : n ≤ 9000) (hc : n ≤ cap) (hcb : cap ≤ 9223372036854775807) (hp1 : (if cap = k then (some ⟨g, off, none⟩ : Option Addr) else some ⟨g, off + k * 2, none⟩) = p1) (hm : lv d = m) (hK : d.length = K) (box : wr.heap[R4]? = some (.cells #[.int .i64 m, .slice p K q] 79 (0, 0))) (cell : wr.heap[S + 1]? = some (.cells #[.int .u64 v, y] 50 (0, 0)))
    (R1 : Reads wr (some ⟨g, off, none⟩) k (flatB c1)) (R2 : Reads wr p1 (n - k) (flatB c2))
    (h : ∀ z r t, Below wr.heap.size wr z → OwnZ 79 z (wr.heap.size + 1) (.slice r (n + 1) t) (n + 1) (flatB (c1 ++ [(⟨d, p, q⟩ : Bk)] ++ c2)) → n + 1 ≤ t → t ≤ maxLen → ∀ f70 f71 f72 f73 f74 f75 f76 f77 f78 f79 f80 f81 f82 f83 f84 : Value, Q .normal { tmps := #[.pointer (some ⟨S + 1, 0, none⟩), t1, t2, t3, .pointer (some ⟨R4, 0, none⟩), .slice (some ⟨g, off, none⟩) n cap, t6, .int .i64 (k : Int), t8, t9, t10, t11, t12, t13, t14, t15, t16, t17, t18, t19, t20, t21, t22, t23, t24, t25, t26, t27, t28, t29, t30, t31, t32, t33, t34, t35, t36, t37, t38, t39, t40, t41, t42, t43, t44, t45, t46, t47, t48, t49, t50, t51, t52, t53, t54, t55, t56, t57, t58, t59, t60, t61, t62, t63, t64, t65, t66, t67, t68, t69, f70, f71, f72, f73, f74, f75, f76, f77, f78, f79, f80, f81, f82, f83, f84, t85, t86, t87, t88, t89, t90, t91], defers := [] } (z.setCell ⟨S + 1, 1, none⟩ (.slice r (n + 1) t))) :
    Code.wp Try.prog (Code.region 13 #[{ dst := some 70, op := Op.move (Operand.tmp 0), type := 47, pos := "vergerref5.go:229", after := #[], guard := none }, { dst := some 71, op := Op.buildSlice 48 0 #[], type := 48, pos := "vergerref5.go:229", after := #[], guard := none }, { dst := some 72, op := Op.move (Operand.tmp 5), type := 48, pos := "vergerref5.go:229", after := #[], guard := none }, { dst := some 73, op := Op.move (Operand.tmp 7), type := 3, pos := "vergerref5.go:229", after := #[], guard := none }, { dst := some 74, op := Op.slice 48 (Operand.tmp 72) none (some (Operand.tmp 73)) none, type := 48, pos := "vergerref5.go:229", after := #[{ on := 2, ground := Ground.data }, { on := 3, ground := Ground.data }], guard := none }, { dst := some 75, op := Op.call { callee := Callee.builtin Builtin.append, args := #[Operand.tmp 71, Operand.tmp 74], argTypes := #[48, 48] }, type := 48, pos := "vergerref5.go:229", after := #[{ on := 1, ground := Ground.data }, { on := 4, ground := Ground.data }], guard := none }, { dst := some 76, op := Op.load 79 (Operand.tmp 4), type := 79, pos := "vergerref5.go:229", after := #[], guard := none }, { dst := some 77, op := Op.buildSlice 48 1 #[(0, Operand.tmp 76)], type := 48, pos := "vergerref5.go:229", after := #[{ on := 6, ground := Ground.data }], guard := none }, { dst := some 78, op := Op.call { callee := Callee.builtin Builtin.append, args := #[Operand.tmp 75, Operand.tmp 77], argTypes := #[48, 48] }, type := 48, pos := "vergerref5.go:229", after := #[{ on := 5, ground := Ground.data }, { on := 7, ground := Ground.data }, { on := 5, ground := Ground.chain }], guard := none }, { dst := some 79, op := Op.move (Operand.tmp 5), type := 48, pos := "vergerref5.go:229", after := #[], guard := none }, { dst := some 80, op := Op.move (Operand.tmp 7), type := 3, pos := "vergerref5.go:229", after := #[], guard := none }, { dst := some 81, op := Op.slice 48 (Operand.tmp 79) (some (Operand.tmp 80)) none none, type := 48, pos := "vergerref5.go:229", after := #[{ on := 9, ground := Ground.data }, { on := 10, ground := Ground.data }], guard := none }, { dst := some 82, op := Op.call { callee := Callee.builtin Builtin.append, args := #[Operand.tmp 78, Operand.tmp 81], argTypes := #[48, 48] }, type := 48, pos := "vergerref5.go:229", after := #[{ on := 8, ground := Ground.data }, { on := 11, ground := Ground.data }, { on := 8, ground := Ground.chain }], guard := none }, { dst := some 83, op := Op.nilCheck (Operand.tmp 70), type := 0, pos := "vergerref5.go:229", after := #[{ on := 0, ground := Ground.data }, { on := 0, ground := Ground.phase }, { on := 1, ground := Ground.phase }, { on := 2, ground := Ground.phase }, { on := 3, ground := Ground.phase }, { on := 4, ground := Ground.phase }, { on := 5, ground := Ground.phase }, { on := 6, ground := Ground.phase }, { on := 7, ground := Ground.phase }, { on := 8, ground := Ground.phase }, { on := 9, ground := Ground.phase }, { on := 10, ground := Ground.phase }, { on := 11, ground := Ground.phase }, { on := 12, ground := Ground.phase }], guard := none }, { dst := some 84, op := Op.fieldAddr 50 (Operand.tmp 83) 1, type := 0, pos := "vergerref5.go:229", after := #[{ on := 13, ground := Ground.data }, { on := 0, ground := Ground.phase }, { on := 1, ground := Ground.phase }, { on := 2, ground := Ground.phase }, { on := 3, ground := Ground.phase }, { on := 4, ground := Ground.phase }, { on := 5, ground := Ground.phase }, { on := 6, ground := Ground.phase }, { on := 7, ground := Ground.phase }, { on := 8, ground := Ground.phase }, { on := 9, ground := Ground.phase }, { on := 10, ground := Ground.phase }, { on := 11, ground := Ground.phase }, { on := 12, ground := Ground.phase }], guard := none }, { dst := none, op := Op.store 48 (Operand.tmp 84) (Operand.tmp 82), type := 0, pos := "vergerref5.go:229", after := #[{ on := 14, ground := Ground.data }, { on := 12, ground := Ground.data }, { on := 12, ground := Ground.chain }, { on := 0, ground := Ground.phase }, { on := 1, ground := Ground.phase }, { on := 2, ground := Ground.phase }, { on := 3, ground := Ground.phase }, { on := 4, ground := Ground.phase }, { on := 5, ground := Ground.phase }, { on := 6, ground := Ground.phase }, { on := 7, ground := Ground.phase }, { on := 8, ground := Ground.phase }, { on := 9, ground := Ground.phase }, { on := 10, ground := Ground.phase }, { on := 11, ground := Ground.phase }, { on := 12, ground := Ground.phase }], guard := none }] true) Q { tmps := #[.pointer (some ⟨S + 1, 0, none⟩), t1, t2, t3, .pointer (some ⟨R4, 0, none⟩), .slice (some ⟨g, off, none⟩) n cap, t6, .int .i64 (k : Int), t8, t9, t10, t11, t12, t13, t14, t15, t16, t17, t18, t19, t20, t21, t22, t23, t24, t25, t26, t27, t28, t29, t30, t31, t32, t33, t34, t35, t36, t37, t38, t39, t40, t41, t42, t43, t44, t45, t46, t47, t48, t49, t50, t51, t52, t53, t54, t55, t56, t57, t58, t59, t60, t61, t62, t63, t64, t65, t66, t67, t68, t69, t70, t71, t72, t73, t74, t75, t76, t77, t78, t79, t80, t81, t82, t83, t84, t85, t86, t87, t88, t89, t90, t91], defers := [] } wr := by
  have sR := lt_of_block box
  have sS := lt_of_block cell
  obtain ⟨Z, hZ⟩ : ∃ Z, wr.heap.size = Z := ⟨_, rfl⟩
  have q0 : Below wr.heap.size wr wr.drew := bel_D _
  have vB : Below wr.heap.size wr (wr.alloc (.cells #[.int .i64 m, .slice p K q] 79)).drew := (bel_alloc _ _).drew
  have KC : ∀ v', Below wr.heap.size wr v' → v'.cell? ⟨R4, 0, none⟩ = some (.int .i64 m) ∧ v'.cell? ⟨R4, 1, none⟩ = some (.slice p K q) := fun v' hv => ⟨shr0 ((hv.block R4 sR).trans box), shr1 ((hv.block R4 sR).trans box)⟩
  have j1 : (k : Int) ≤ (cap : Int) := by omega
  have j2 : (k : Int) ≤ (n : Int) := by omega
  have j3 : (0 : Int) ≤ (k : Int) := by omega
  have j4 : (n : Int) ≤ (cap : Int) := by omega
  have mx := mixed
  have e3 : k + 1 + (n - k) = n + 1 := by omega
  have va : Below wr.heap.size wr (wr.alloc (.cells #[] 79)).drew := (bel_alloc _ _).drew
  obtain ⟨r1a, t1a, w1a, h1a, o1a, b1a, _, _⟩ := push0 (g := Z) (cap := cap) (R1.below va) (by omega)
  have x1a : Below wr.heap.size wr w1a := va.trans (b1a.mono va.size)
  obtain ⟨Y, hY⟩ : ∃ Y, w1a.heap.size = Y := ⟨_, rfl⟩
  have vd : Below w1a.heap.size w1a (w1a.alloc (.cells #[.int .i64 m, .slice p K q] 79)) := bel_alloc _ _
  have xd : Below wr.heap.size wr (w1a.alloc (.cells #[.int .i64 m, .slice p K q] 79)) := x1a.trans (vd.mono x1a.size)
  obtain ⟨r2a, t2a, w2a, h2a, o2a, b2a, _, _, _⟩ := pushB (cap := 1) (o1a.below vd) (reads_one (G := Y) (d := d) (p := p) (q := q) (by rw [← hY]; exact heap_alloc_new w1a _) hm hK) (by omega) (Nat.le_trans b1a.size vd.size)
  have x2a : Below wr.heap.size wr w2a := xd.trans (b2a.mono va.size)
  obtain ⟨r3a, t3a, w3a, h3a, o3a, b3a, _, f3a, m3a⟩ := pushB (cap := cap - k) o2a (R2.below x2a) (by omega) (Nat.le_trans (Nat.le_trans b1a.size vd.size) b2a.size)
  have x3a : Below wr.heap.size wr w3a := x2a.trans (b3a.mono va.size)
  rw [e3] at h3a o3a f3a
  have c3a := (x3a.block (S + 1) sS).trans cell
  have sa1 := shr1 c3a
  have sa2 := shrf c3a 1
  have O3a : OwnZ 79 w3a (wr.heap.size + 1) (.slice r3a (n + 1) t3a) (n + 1) (flatB (c1 ++ [(⟨d, p, q⟩ : Bk)] ++ c2)) := by
    rcases o3a with o | o
    · exact .inl (own_low o (by simp))
    · exact .inr o
  have vb : Below wr.heap.size wr ((wr.alloc (.cells #[] 79)).alloc (.cells #[.int .i64 m, .slice p K q] 79)).drew := ((bel_alloc wr _).alloc (by simp) _).drew
  obtain ⟨r1b, t1b, w1b, h1b, o1b, b1b, _, _⟩ := push0 (g := Z) (cap := cap) (R1.below vb) (by omega)
  have x1b : Below wr.heap.size wr w1b := vb.trans (b1b.mono vb.size)
  have gb : (((wr.alloc (.cells #[] 79)).alloc (.cells #[.int .i64 m, .slice p K q] 79)).drew).heap[(Z + 1)]? = some (.cells #[.int .i64 m, .slice p K q] 79 (0, 0)) := by have h := heap_alloc_new (wr.alloc (.cells #[] 79)) (.cells #[.int .i64 m, .slice p K q] 79); rw [show (wr.alloc (.cells #[] 79)).heap.size = Z + 1 by simp [hZ]] at h; exact h
  obtain ⟨r2b, t2b, w2b, h2b, o2b, b2b, _, _, _⟩ := pushB (cap := 1) o1b (reads_one (G := (Z + 1)) (d := d) (p := p) (q := q) ((b1b.block _ (lt_of_block gb)).trans gb) hm hK) (by omega) b1b.size
  have x2b : Below wr.heap.size wr w2b := x1b.trans (b2b.mono vb.size)
  obtain ⟨r3b, t3b, w3b, h3b, o3b, b3b, _, f3b, m3b⟩ := pushB (cap := cap - k) o2b (R2.below x2b) (by omega) (Nat.le_trans b1b.size b2b.size)
  have x3b : Below wr.heap.size wr w3b := x2b.trans (b3b.mono vb.size)
  rw [e3] at h3b o3b f3b
  have c3b := (x3b.block (S + 1) sS).trans cell
  have sb1 := shr1 c3b
  have sb2 := shrf c3b 1
  have O3b : OwnZ 79 w3b (wr.heap.size + 1) (.slice r3b (n + 1) t3b) (n + 1) (flatB (c1 ++ [(⟨d, p, q⟩ : Bk)] ++ c2)) := by
    rcases o3b with o | o
    · exact .inl (own_low o (by simp))
    · exact .inr o
  have vc : Below wr.heap.size wr ((wr.alloc (.cells #[.int .i64 m, .slice p K q] 79)).alloc (.cells #[] 79)).drew := ((bel_alloc wr _).alloc (by simp) _).drew
  obtain ⟨r1c, t1c, w1c, h1c, o1c, b1c, _, _⟩ := push0 (g := (Z + 1)) (cap := cap) (R1.below vc) (by omega)
  have x1c : Below wr.heap.size wr w1c := vc.trans (b1c.mono vc.size)
  have gc : (((wr.alloc (.cells #[.int .i64 m, .slice p K q] 79)).alloc (.cells #[] 79)).drew).heap[Z]? = some (.cells #[.int .i64 m, .slice p K q] 79 (0, 0)) := by rw [← hZ]; exact (((Below.refl _ _).alloc (Nat.le_refl _) (.cells #[] 79)).block _ (by simp)).trans (heap_alloc_new wr (.cells #[.int .i64 m, .slice p K q] 79))
  obtain ⟨r2c, t2c, w2c, h2c, o2c, b2c, _, _, _⟩ := pushB (cap := 1) o1c (reads_one (G := Z) (d := d) (p := p) (q := q) ((b1c.block _ (lt_of_block gc)).trans gc) hm hK) (by omega) b1c.size
  have x2c : Below wr.heap.size wr w2c := x1c.trans (b2c.mono vc.size)
  obtain ⟨r3c, t3c, w3c, h3c, o3c, b3c, _, f3c, m3c⟩ := pushB (cap := cap - k) o2c (R2.below x2c) (by omega) (Nat.le_trans b1c.size b2c.size)
  have x3c : Below wr.heap.size wr w3c := x2c.trans (b3c.mono vc.size)
  rw [e3] at h3c o3c f3c
  have c3c := (x3c.block (S + 1) sS).trans cell
  have sc1 := shr1 c3c
  have sc2 := shrf c3c 1
  have O3c : OwnZ 79 w3c (wr.heap.size + 1) (.slice r3c (n + 1) t3c) (n + 1) (flatB (c1 ++ [(⟨d, p, q⟩ : Bk)] ++ c2)) := by
    rcases o3c with o | o
    · exact .inl (own_low o (by simp))
    · exact .inr o
  clear R1 R2 o1a o1b o1c o2a o2b o2c c3a c3b c3c gb gc
  refine anyE_start (S := (fun v' => v'.cell? ⟨R4, 0, none⟩ = some (.int .i64 m) ∧ v'.cell? ⟨R4, 1, none⟩ = some (.slice p K q))) (L := 15) (by kernel_rfl) ?_
  refine anyE_take (i := 0) (oi := { dst := some 70, op := Op.move (Operand.tmp 0), type := 47, pos := "vergerref5.go:229", after := #[], guard := none }) (v := ?_) rfl (by kernel_rfl) (by kernel_rfl) (by kernel_rfl) (by kernel_rfl) (fun c a w h => hQ c a _ _ w h) (Or.inl ⟨by rfl, ?_⟩) (KC _ q0) ?_
  rotate_left
  · (intro w hSw; (try dsimp only at hSw); go_simp; try with_reducible rfl)
  simp only [Act.put, List.setIfInBounds_toArray, List.set_cons_zero, List.set_cons_succ]
  refine anyE_take (i := 2) (oi := { dst := some 72, op := Op.move (Operand.tmp 5), type := 48, pos := "vergerref5.go:229", after := #[], guard := none }) (v := ?_) rfl (by kernel_rfl) (by kernel_rfl) (by kernel_rfl) (by kernel_rfl) (fun c a w h => hQ c a _ _ w h) (Or.inl ⟨by rfl, ?_⟩) (KC _ q0) ?_
  rotate_left
  · (intro w hSw; (try dsimp only at hSw); go_simp; try with_reducible rfl)
  simp only [Act.put, List.setIfInBounds_toArray, List.set_cons_zero, List.set_cons_succ]
  refine anyE_take (i := 3) (oi := { dst := some 73, op := Op.move (Operand.tmp 7), type := 3, pos := "vergerref5.go:229", after := #[], guard := none }) (v := ?_) rfl (by kernel_rfl) (by kernel_rfl) (by kernel_rfl) (by kernel_rfl) (fun c a w h => hQ c a _ _ w h) (Or.inl ⟨by rfl, ?_⟩) (KC _ q0) ?_
  rotate_left
  · (intro w hSw; (try dsimp only at hSw); go_simp; try with_reducible rfl)
  simp only [Act.put, List.setIfInBounds_toArray, List.set_cons_zero, List.set_cons_succ]
  refine anyE_take (i := 4) (oi := { dst := some 74, op := Op.slice 48 (Operand.tmp 72) none (some (Operand.tmp 73)) none, type := 48, pos := "vergerref5.go:229", after := #[{ on := 2, ground := Ground.data }, { on := 3, ground := Ground.data }], guard := none }) (v := ?_) rfl (by kernel_rfl) (by kernel_rfl) (by kernel_rfl) (by kernel_rfl) (fun c a w h => hQ c a _ _ w h) (Or.inl ⟨by rfl, ?_⟩) (KC _ q0) ?_
  rotate_left
  · (intro w hSw; (try dsimp only at hSw); go_simp; try with_reducible rfl)
  simp only [Act.put, List.setIfInBounds_toArray, List.set_cons_zero, List.set_cons_succ]
  refine anyE_take (i := 6) (oi := { dst := some 76, op := Op.load 79 (Operand.tmp 4), type := 79, pos := "vergerref5.go:229", after := #[], guard := none }) (v := ?_) rfl (by kernel_rfl) (by kernel_rfl) (by kernel_rfl) (by kernel_rfl) (fun c a w h => hQ c a _ _ w h) (Or.inl ⟨by rfl, ?_⟩) (KC _ q0) ?_
  rotate_left
  · (intro w hSw; (try dsimp only at hSw); go_simp; try with_reducible rfl)
  simp only [Act.put, List.setIfInBounds_toArray, List.set_cons_zero, List.set_cons_succ]
  refine anyE_take (i := 9) (oi := { dst := some 79, op := Op.move (Operand.tmp 5), type := 48, pos := "vergerref5.go:229", after := #[], guard := none }) (v := ?_) rfl (by kernel_rfl) (by kernel_rfl) (by kernel_rfl) (by kernel_rfl) (fun c a w h => hQ c a _ _ w h) (Or.inl ⟨by rfl, ?_⟩) (KC _ q0) ?_
  rotate_left
  · (intro w hSw; (try dsimp only at hSw); go_simp; try with_reducible rfl)
  simp only [Act.put, List.setIfInBounds_toArray, List.set_cons_zero, List.set_cons_succ]
  refine anyE_take (i := 10) (oi := { dst := some 80, op := Op.move (Operand.tmp 7), type := 3, pos := "vergerref5.go:229", after := #[], guard := none }) (v := ?_) rfl (by kernel_rfl) (by kernel_rfl) (by kernel_rfl) (by kernel_rfl) (fun c a w h => hQ c a _ _ w h) (Or.inl ⟨by rfl, ?_⟩) (KC _ q0) ?_
  rotate_left
  · (intro w hSw; (try dsimp only at hSw); go_simp; try with_reducible rfl)
  simp only [Act.put, List.setIfInBounds_toArray, List.set_cons_zero, List.set_cons_succ]
  refine anyE_take (i := 11) (oi := { dst := some 81, op := Op.slice 48 (Operand.tmp 79) (some (Operand.tmp 80)) none none, type := 48, pos := "vergerref5.go:229", after := #[{ on := 9, ground := Ground.data }, { on := 10, ground := Ground.data }], guard := none }) (v := ?_) rfl (by kernel_rfl) (by kernel_rfl) (by kernel_rfl) (by kernel_rfl) (fun c a w h => hQ c a _ _ w h) (Or.inl ⟨by rfl, ?_⟩) (KC _ q0) ?_
  rotate_left
  · (intro w hSw; (try dsimp only at hSw); go_simp; try with_reducible rfl)
  simp only [Act.put, List.setIfInBounds_toArray, List.set_cons_zero, List.set_cons_succ]
  refine anyE_ready (rs := [1, 7]) (by kernel_rfl) (by simp) ?_
  refine AllE.cons (o := { dst := some 71, op := Op.buildSlice 48 0 #[], type := 48, pos := "vergerref5.go:229", after := #[], guard := none }) rfl (fun Kt hKt => ?_) ?_
  · go_simp
    refine hKt.out _ _ (fun _ => KC _ va) ?_
    clear hKt Kt
    try simp only [Act.put, List.setIfInBounds_toArray, List.set_cons_zero, List.set_cons_succ]
    refine anyE_ready (rs := [5, 7]) (by kernel_rfl) (by simp) ?_
    refine AllE.cons (o := { dst := some 75, op := Op.call { callee := Callee.builtin Builtin.append, args := #[Operand.tmp 71, Operand.tmp 74], argTypes := #[48, 48] }, type := 48, pos := "vergerref5.go:229", after := #[{ on := 1, ground := Ground.data }, { on := 4, ground := Ground.data }], guard := none }) rfl (fun Kt hKt => ?_) ?_
    · refine step_app ((wr.alloc (.cells #[] 79)).drew) (by rfl) _ _ 48 48 (by rfl) (.slice (some ⟨Z, 0, none⟩) 0 0) (.slice (some ⟨g, off, none⟩) k cap) (by rfl) (by rfl) (.slice r1a k t1a) w1a h1a ?_
      refine hKt.out _ _ (fun _ => KC _ x1a) ?_
      clear hKt Kt
      try simp only [Act.put, List.setIfInBounds_toArray, List.set_cons_zero, List.set_cons_succ]
      refine anyE_ready (rs := [7]) (by kernel_rfl) (by simp) ?_
      refine AllE.cons (o := { dst := some 77, op := Op.buildSlice 48 1 #[(0, Operand.tmp 76)], type := 48, pos := "vergerref5.go:229", after := #[{ on := 6, ground := Ground.data }], guard := none }) rfl (fun Kt hKt => ?_) ?_
      · go_simp
        refine hKt.out _ _ (fun _ => KC _ xd) ?_
        clear hKt Kt
        try simp only [Act.put, List.setIfInBounds_toArray, List.set_cons_zero, List.set_cons_succ]
        refine anyE_ready (rs := [8]) (by kernel_rfl) (by simp) ?_
        refine AllE.cons (o := { dst := some 78, op := Op.call { callee := Callee.builtin Builtin.append, args := #[Operand.tmp 75, Operand.tmp 77], argTypes := #[48, 48] }, type := 48, pos := "vergerref5.go:229", after := #[{ on := 5, ground := Ground.data }, { on := 7, ground := Ground.data }, { on := 5, ground := Ground.chain }], guard := none }) rfl (fun Kt hKt => ?_) ?_
        · refine step_app (w1a.alloc (.cells #[.int .i64 m, .slice p K q] 79)) (by rfl) _ _ 48 48 (by rfl) (.slice r1a k t1a) (.slice (some ⟨Y, 0, none⟩) 1 1) (by rfl) (by rfl) (.slice r2a (k + 1) t2a) w2a h2a ?_
          refine hKt.out _ _ (fun _ => KC _ x2a) ?_
          clear hKt Kt
          try simp only [Act.put, List.setIfInBounds_toArray, List.set_cons_zero, List.set_cons_succ]
          refine anyE_ready (rs := [12]) (by kernel_rfl) (by simp) ?_
          refine AllE.cons (o := { dst := some 82, op := Op.call { callee := Callee.builtin Builtin.append, args := #[Operand.tmp 78, Operand.tmp 81], argTypes := #[48, 48] }, type := 48, pos := "vergerref5.go:229", after := #[{ on := 8, ground := Ground.data }, { on := 11, ground := Ground.data }, { on := 8, ground := Ground.chain }], guard := none }) rfl (fun Kt hKt => ?_) ?_
          · refine step_app w2a (by rfl) _ _ 48 48 (by rfl) (.slice r2a (k + 1) t2a) (.slice p1 (n - k) (cap - k)) (by rfl) (by rfl) (.slice r3a (n + 1) t3a) w3a h3a ?_
            refine hKt.out _ _ (fun _ => KC _ x3a) ?_
            clear hKt Kt
            try simp only [Act.put, List.setIfInBounds_toArray, List.set_cons_zero, List.set_cons_succ]
            refine anyE_ready (rs := [13]) (by kernel_rfl) (by simp) ?_
            refine AllE.cons (o := { dst := some 83, op := Op.nilCheck (Operand.tmp 70), type := 0, pos := "vergerref5.go:229", after := #[{ on := 0, ground := Ground.data }, { on := 0, ground := Ground.phase }, { on := 1, ground := Ground.phase }, { on := 2, ground := Ground.phase }, { on := 3, ground := Ground.phase }, { on := 4, ground := Ground.phase }, { on := 5, ground := Ground.phase }, { on := 6, ground := Ground.phase }, { on := 7, ground := Ground.phase }, { on := 8, ground := Ground.phase }, { on := 9, ground := Ground.phase }, { on := 10, ground := Ground.phase }, { on := 11, ground := Ground.phase }, { on := 12, ground := Ground.phase }], guard := none }) rfl (fun Kt hKt => ?_) ?_
            · go_simp
              refine hKt.out _ _ (fun _ => KC _ x3a) ?_
              clear hKt Kt
              try simp only [Act.put, List.setIfInBounds_toArray, List.set_cons_zero, List.set_cons_succ]
              refine anyE_take (i := 14) (oi := { dst := some 84, op := Op.fieldAddr 50 (Operand.tmp 83) 1, type := 0, pos := "vergerref5.go:229", after := #[{ on := 13, ground := Ground.data }, { on := 0, ground := Ground.phase }, { on := 1, ground := Ground.phase }, { on := 2, ground := Ground.phase }, { on := 3, ground := Ground.phase }, { on := 4, ground := Ground.phase }, { on := 5, ground := Ground.phase }, { on := 6, ground := Ground.phase }, { on := 7, ground := Ground.phase }, { on := 8, ground := Ground.phase }, { on := 9, ground := Ground.phase }, { on := 10, ground := Ground.phase }, { on := 11, ground := Ground.phase }, { on := 12, ground := Ground.phase }], guard := none }) (v := ?_) rfl (by kernel_rfl) (by kernel_rfl) (by kernel_rfl) (by kernel_rfl) (fun c a w h => hQ c a _ _ w h) (Or.inl ⟨by rfl, ?_⟩) (KC _ x3a) ?_
              rotate_left
              · (intro w hSw; (try dsimp only at hSw); go_simp; try with_reducible rfl)
              simp only [Act.put, List.setIfInBounds_toArray, List.set_cons_zero, List.set_cons_succ]
              refine anyE_ready (rs := [15]) (by kernel_rfl) (by simp) ?_
              refine AllE.cons (o := { dst := none, op := Op.store 48 (Operand.tmp 84) (Operand.tmp 82), type := 0, pos := "vergerref5.go:229", after := #[{ on := 14, ground := Ground.data }, { on := 12, ground := Ground.data }, { on := 12, ground := Ground.chain }, { on := 0, ground := Ground.phase }, { on := 1, ground := Ground.phase }, { on := 2, ground := Ground.phase }, { on := 3, ground := Ground.phase }, { on := 4, ground := Ground.phase }, { on := 5, ground := Ground.phase }, { on := 6, ground := Ground.phase }, { on := 7, ground := Ground.phase }, { on := 8, ground := Ground.phase }, { on := 9, ground := Ground.phase }, { on := 10, ground := Ground.phase }, { on := 11, ground := Ground.phase }, { on := 12, ground := Ground.phase }], guard := none }) rfl (fun Kt hKt => ?_) ?_
              · go_simp
                refine hKt.out _ _ (fun h => absurd rfl h) ?_
                clear hKt Kt
                try simp only [Act.put, List.setIfInBounds_toArray, List.set_cons_zero, List.set_cons_succ]
                refine anyE_done (by kernel_rfl) ?_ _
                exact h w3a r3a t3a x3a O3a f3a m3a _ _ _ _ _ _ _ _ _ _ _ _ _ _ _
              exact AllE.nil
            exact AllE.nil
          exact AllE.nil
        exact AllE.nil
      exact AllE.nil
    refine AllE.cons (o := { dst := some 77, op := Op.buildSlice 48 1 #[(0, Operand.tmp 76)], type := 48, pos := "vergerref5.go:229", after := #[{ on := 6, ground := Ground.data }], guard := none }) rfl (fun Kt hKt => ?_) ?_
    · go_simp
      refine hKt.out _ _ (fun _ => KC _ vb) ?_
      clear hKt Kt
      try simp only [Act.put, List.setIfInBounds_toArray, List.set_cons_zero, List.set_cons_succ]
      refine anyE_ready (rs := [5]) (by kernel_rfl) (by simp) ?_
      refine AllE.cons (o := { dst := some 75, op := Op.call { callee := Callee.builtin Builtin.append, args := #[Operand.tmp 71, Operand.tmp 74], argTypes := #[48, 48] }, type := 48, pos := "vergerref5.go:229", after := #[{ on := 1, ground := Ground.data }, { on := 4, ground := Ground.data }], guard := none }) rfl (fun Kt hKt => ?_) ?_
      · refine step_app (((wr.alloc (.cells #[] 79)).alloc (.cells #[.int .i64 m, .slice p K q] 79)).drew) (by rfl) _ _ 48 48 (by rfl) (.slice (some ⟨Z, 0, none⟩) 0 0) (.slice (some ⟨g, off, none⟩) k cap) (by rfl) (by rfl) (.slice r1b k t1b) w1b h1b ?_
        refine hKt.out _ _ (fun _ => KC _ x1b) ?_
        clear hKt Kt
        try simp only [Act.put, List.setIfInBounds_toArray, List.set_cons_zero, List.set_cons_succ]
        refine anyE_ready (rs := [8]) (by kernel_rfl) (by simp) ?_
        refine AllE.cons (o := { dst := some 78, op := Op.call { callee := Callee.builtin Builtin.append, args := #[Operand.tmp 75, Operand.tmp 77], argTypes := #[48, 48] }, type := 48, pos := "vergerref5.go:229", after := #[{ on := 5, ground := Ground.data }, { on := 7, ground := Ground.data }, { on := 5, ground := Ground.chain }], guard := none }) rfl (fun Kt hKt => ?_) ?_
        · refine step_app w1b (by rfl) _ _ 48 48 (by rfl) (.slice r1b k t1b) (.slice (some ⟨(Z + 1), 0, none⟩) 1 1) (by rfl) (by rfl) (.slice r2b (k + 1) t2b) w2b h2b ?_
          refine hKt.out _ _ (fun _ => KC _ x2b) ?_
          clear hKt Kt
          try simp only [Act.put, List.setIfInBounds_toArray, List.set_cons_zero, List.set_cons_succ]
          refine anyE_ready (rs := [12]) (by kernel_rfl) (by simp) ?_
          refine AllE.cons (o := { dst := some 82, op := Op.call { callee := Callee.builtin Builtin.append, args := #[Operand.tmp 78, Operand.tmp 81], argTypes := #[48, 48] }, type := 48, pos := "vergerref5.go:229", after := #[{ on := 8, ground := Ground.data }, { on := 11, ground := Ground.data }, { on := 8, ground := Ground.chain }], guard := none }) rfl (fun Kt hKt => ?_) ?_
          · refine step_app w2b (by rfl) _ _ 48 48 (by rfl) (.slice r2b (k + 1) t2b) (.slice p1 (n - k) (cap - k)) (by rfl) (by rfl) (.slice r3b (n + 1) t3b) w3b h3b ?_
            refine hKt.out _ _ (fun _ => KC _ x3b) ?_
            clear hKt Kt
            try simp only [Act.put, List.setIfInBounds_toArray, List.set_cons_zero, List.set_cons_succ]
            refine anyE_ready (rs := [13]) (by kernel_rfl) (by simp) ?_
            refine AllE.cons (o := { dst := some 83, op := Op.nilCheck (Operand.tmp 70), type := 0, pos := "vergerref5.go:229", after := #[{ on := 0, ground := Ground.data }, { on := 0, ground := Ground.phase }, { on := 1, ground := Ground.phase }, { on := 2, ground := Ground.phase }, { on := 3, ground := Ground.phase }, { on := 4, ground := Ground.phase }, { on := 5, ground := Ground.phase }, { on := 6, ground := Ground.phase }, { on := 7, ground := Ground.phase }, { on := 8, ground := Ground.phase }, { on := 9, ground := Ground.phase }, { on := 10, ground := Ground.phase }, { on := 11, ground := Ground.phase }, { on := 12, ground := Ground.phase }], guard := none }) rfl (fun Kt hKt => ?_) ?_
            · go_simp
              refine hKt.out _ _ (fun _ => KC _ x3b) ?_
              clear hKt Kt
              try simp only [Act.put, List.setIfInBounds_toArray, List.set_cons_zero, List.set_cons_succ]
              refine anyE_take (i := 14) (oi := { dst := some 84, op := Op.fieldAddr 50 (Operand.tmp 83) 1, type := 0, pos := "vergerref5.go:229", after := #[{ on := 13, ground := Ground.data }, { on := 0, ground := Ground.phase }, { on := 1, ground := Ground.phase }, { on := 2, ground := Ground.phase }, { on := 3, ground := Ground.phase }, { on := 4, ground := Ground.phase }, { on := 5, ground := Ground.phase }, { on := 6, ground := Ground.phase }, { on := 7, ground := Ground.phase }, { on := 8, ground := Ground.phase }, { on := 9, ground := Ground.phase }, { on := 10, ground := Ground.phase }, { on := 11, ground := Ground.phase }, { on := 12, ground := Ground.phase }], guard := none }) (v := ?_) rfl (by kernel_rfl) (by kernel_rfl) (by kernel_rfl) (by kernel_rfl) (fun c a w h => hQ c a _ _ w h) (Or.inl ⟨by rfl, ?_⟩) (KC _ x3b) ?_
              rotate_left
              · (intro w hSw; (try dsimp only at hSw); go_simp; try with_reducible rfl)
              simp only [Act.put, List.setIfInBounds_toArray, List.set_cons_zero, List.set_cons_succ]
              refine anyE_ready (rs := [15]) (by kernel_rfl) (by simp) ?_
              refine AllE.cons (o := { dst := none, op := Op.store 48 (Operand.tmp 84) (Operand.tmp 82), type := 0, pos := "vergerref5.go:229", after := #[{ on := 14, ground := Ground.data }, { on := 12, ground := Ground.data }, { on := 12, ground := Ground.chain }, { on := 0, ground := Ground.phase }, { on := 1, ground := Ground.phase }, { on := 2, ground := Ground.phase }, { on := 3, ground := Ground.phase }, { on := 4, ground := Ground.phase }, { on := 5, ground := Ground.phase }, { on := 6, ground := Ground.phase }, { on := 7, ground := Ground.phase }, { on := 8, ground := Ground.phase }, { on := 9, ground := Ground.phase }, { on := 10, ground := Ground.phase }, { on := 11, ground := Ground.phase }, { on := 12, ground := Ground.phase }], guard := none }) rfl (fun Kt hKt => ?_) ?_
              · go_simp
                refine hKt.out _ _ (fun h => absurd rfl h) ?_
                clear hKt Kt
                try simp only [Act.put, List.setIfInBounds_toArray, List.set_cons_zero, List.set_cons_succ]
                refine anyE_done (by kernel_rfl) ?_ _
                exact h w3b r3b t3b x3b O3b f3b m3b _ _ _ _ _ _ _ _ _ _ _ _ _ _ _
              exact AllE.nil
            exact AllE.nil
          exact AllE.nil
        exact AllE.nil
      exact AllE.nil
    exact AllE.nil
  refine AllE.cons (o := { dst := some 77, op := Op.buildSlice 48 1 #[(0, Operand.tmp 76)], type := 48, pos := "vergerref5.go:229", after := #[{ on := 6, ground := Ground.data }], guard := none }) rfl (fun Kt hKt => ?_) ?_
  · go_simp
    refine hKt.out _ _ (fun _ => KC _ vB) ?_
    clear hKt Kt
    try simp only [Act.put, List.setIfInBounds_toArray, List.set_cons_zero, List.set_cons_succ]
    refine anyE_ready (rs := [1]) (by kernel_rfl) (by simp) ?_
    refine AllE.cons (o := { dst := some 71, op := Op.buildSlice 48 0 #[], type := 48, pos := "vergerref5.go:229", after := #[], guard := none }) rfl (fun Kt hKt => ?_) ?_
    · go_simp
      refine hKt.out _ _ (fun _ => KC _ vc) ?_
      clear hKt Kt
      try simp only [Act.put, List.setIfInBounds_toArray, List.set_cons_zero, List.set_cons_succ]
      refine anyE_ready (rs := [5]) (by kernel_rfl) (by simp) ?_
      refine AllE.cons (o := { dst := some 75, op := Op.call { callee := Callee.builtin Builtin.append, args := #[Operand.tmp 71, Operand.tmp 74], argTypes := #[48, 48] }, type := 48, pos := "vergerref5.go:229", after := #[{ on := 1, ground := Ground.data }, { on := 4, ground := Ground.data }], guard := none }) rfl (fun Kt hKt => ?_) ?_
      · refine step_app (((wr.alloc (.cells #[.int .i64 m, .slice p K q] 79)).alloc (.cells #[] 79)).drew) (by rfl) _ _ 48 48 (by rfl) (.slice (some ⟨(Z + 1), 0, none⟩) 0 0) (.slice (some ⟨g, off, none⟩) k cap) (by rfl) (by rfl) (.slice r1c k t1c) w1c h1c ?_
        refine hKt.out _ _ (fun _ => KC _ x1c) ?_
        clear hKt Kt
        try simp only [Act.put, List.setIfInBounds_toArray, List.set_cons_zero, List.set_cons_succ]
        refine anyE_ready (rs := [8]) (by kernel_rfl) (by simp) ?_
        refine AllE.cons (o := { dst := some 78, op := Op.call { callee := Callee.builtin Builtin.append, args := #[Operand.tmp 75, Operand.tmp 77], argTypes := #[48, 48] }, type := 48, pos := "vergerref5.go:229", after := #[{ on := 5, ground := Ground.data }, { on := 7, ground := Ground.data }, { on := 5, ground := Ground.chain }], guard := none }) rfl (fun Kt hKt => ?_) ?_
        · refine step_app w1c (by rfl) _ _ 48 48 (by rfl) (.slice r1c k t1c) (.slice (some ⟨Z, 0, none⟩) 1 1) (by rfl) (by rfl) (.slice r2c (k + 1) t2c) w2c h2c ?_
          refine hKt.out _ _ (fun _ => KC _ x2c) ?_
          clear hKt Kt
          try simp only [Act.put, List.setIfInBounds_toArray, List.set_cons_zero, List.set_cons_succ]
          refine anyE_ready (rs := [12]) (by kernel_rfl) (by simp) ?_
          refine AllE.cons (o := { dst := some 82, op := Op.call { callee := Callee.builtin Builtin.append, args := #[Operand.tmp 78, Operand.tmp 81], argTypes := #[48, 48] }, type := 48, pos := "vergerref5.go:229", after := #[{ on := 8, ground := Ground.data }, { on := 11, ground := Ground.data }, { on := 8, ground := Ground.chain }], guard := none }) rfl (fun Kt hKt => ?_) ?_
          · refine step_app w2c (by rfl) _ _ 48 48 (by rfl) (.slice r2c (k + 1) t2c) (.slice p1 (n - k) (cap - k)) (by rfl) (by rfl) (.slice r3c (n + 1) t3c) w3c h3c ?_
            refine hKt.out _ _ (fun _ => KC _ x3c) ?_
            clear hKt Kt
            try simp only [Act.put, List.setIfInBounds_toArray, List.set_cons_zero, List.set_cons_succ]
            refine anyE_ready (rs := [13]) (by kernel_rfl) (by simp) ?_
            refine AllE.cons (o := { dst := some 83, op := Op.nilCheck (Operand.tmp 70), type := 0, pos := "vergerref5.go:229", after := #[{ on := 0, ground := Ground.data }, { on := 0, ground := Ground.phase }, { on := 1, ground := Ground.phase }, { on := 2, ground := Ground.phase }, { on := 3, ground := Ground.phase }, { on := 4, ground := Ground.phase }, { on := 5, ground := Ground.phase }, { on := 6, ground := Ground.phase }, { on := 7, ground := Ground.phase }, { on := 8, ground := Ground.phase }, { on := 9, ground := Ground.phase }, { on := 10, ground := Ground.phase }, { on := 11, ground := Ground.phase }, { on := 12, ground := Ground.phase }], guard := none }) rfl (fun Kt hKt => ?_) ?_
            · go_simp
              refine hKt.out _ _ (fun _ => KC _ x3c) ?_
              clear hKt Kt
              try simp only [Act.put, List.setIfInBounds_toArray, List.set_cons_zero, List.set_cons_succ]
              refine anyE_take (i := 14) (oi := { dst := some 84, op := Op.fieldAddr 50 (Operand.tmp 83) 1, type := 0, pos := "vergerref5.go:229", after := #[{ on := 13, ground := Ground.data }, { on := 0, ground := Ground.phase }, { on := 1, ground := Ground.phase }, { on := 2, ground := Ground.phase }, { on := 3, ground := Ground.phase }, { on := 4, ground := Ground.phase }, { on := 5, ground := Ground.phase }, { on := 6, ground := Ground.phase }, { on := 7, ground := Ground.phase }, { on := 8, ground := Ground.phase }, { on := 9, ground := Ground.phase }, { on := 10, ground := Ground.phase }, { on := 11, ground := Ground.phase }, { on := 12, ground := Ground.phase }], guard := none }) (v := ?_) rfl (by kernel_rfl) (by kernel_rfl) (by kernel_rfl) (by kernel_rfl) (fun c a w h => hQ c a _ _ w h) (Or.inl ⟨by rfl, ?_⟩) (KC _ x3c) ?_
              rotate_left
              · (intro w hSw; (try dsimp only at hSw); go_simp; try with_reducible rfl)
              simp only [Act.put, List.setIfInBounds_toArray, List.set_cons_zero, List.set_cons_succ]
              refine anyE_ready (rs := [15]) (by kernel_rfl) (by simp) ?_
              refine AllE.cons (o := { dst := none, op := Op.store 48 (Operand.tmp 84) (Operand.tmp 82), type := 0, pos := "vergerref5.go:229", after := #[{ on := 14, ground := Ground.data }, { on := 12, ground := Ground.data }, { on := 12, ground := Ground.chain }, { on := 0, ground := Ground.phase }, { on := 1, ground := Ground.phase }, { on := 2, ground := Ground.phase }, { on := 3, ground := Ground.phase }, { on := 4, ground := Ground.phase }, { on := 5, ground := Ground.phase }, { on := 6, ground := Ground.phase }, { on := 7, ground := Ground.phase }, { on := 8, ground := Ground.phase }, { on := 9, ground := Ground.phase }, { on := 10, ground := Ground.phase }, { on := 11, ground := Ground.phase }, { on := 12, ground := Ground.phase }], guard := none }) rfl (fun Kt hKt => ?_) ?_
              · go_simp
                refine hKt.out _ _ (fun h => absurd rfl h) ?_
                clear hKt Kt
                try simp only [Act.put, List.setIfInBounds_toArray, List.set_cons_zero, List.set_cons_succ]
                refine anyE_done (by kernel_rfl) ?_ _
                exact h w3c r3c t3c x3c O3c f3c m3c _ _ _ _ _ _ _ _ _ _ _ _ _ _ _
              exact AllE.nil
            exact AllE.nil
          exact AllE.nil
        exact AllE.nil
      exact AllE.nil
    exact AllE.nil
  exact AllE.nil

set_option maxHeartbeats 4000000 in
set_option maxRecDepth 100000 in
theorem radd_reg13k {Q : Exit → Act → World → Prop} (hQ : ∀ c (a : Act) (d : Tmp) v w, Q (.panic c) (a.put (some d) v) w → Q (.panic c) a w) {t1 t2 t3 t6 t8 t9 t10 t11 t12 t13 t14 t15 t16 t17 t18 t19 t20 t21 t22 t23 t24 t25 t26 t27 t28 t29 t30 t31 t32 t33 t34 t35 t36 t37 t38 t39 t40 t41 t42 t43 t44 t45 t46 t47 t48 t49 t50 t51 t52 t53 t54 t55 t56 t57 t58 t59 t60 t61 t62 t63 t64 t65 t66 t67 t68 t69 t70 t71 t72 t73 t74 t75 t76 t77 t78 t79 t80 t81 t82 t83 t84 t85 t86 t87 t88 t89 t90 t91 : Value} {n cap k S R4 m K q v : Nat} {a p p1 : Option Addr} {d : List Ent} {y : Value} {c1 c2 : List Bk} {wr : World}
    (kn : k = n) (hn : n ≤ 9000) (hc : n ≤ cap) (hcb : cap ≤ 9223372036854775807) (hp1 : (if cap = k then a else Option.map (fun (x : Addr) => x.add (k * 2)) a) = p1) (hm : lv d = m) (hK : d.length = K) (box : wr.heap[R4]? = some (.cells #[.int .i64 m, .slice p K q] 79 (0, 0))) (cell : wr.heap[S + 1]? = some (.cells #[.int .u64 v, y] 50 (0, 0)))
    (R1 : Reads wr a k (flatB c1)) (R2 : Reads wr p1 (n - k) (flatB c2))
    (h : ∀ z r t, Below wr.heap.size wr z → OwnZ 79 z (wr.heap.size + 1) (.slice r (n + 1) t) (n + 1) (flatB (c1 ++ [(⟨d, p, q⟩ : Bk)] ++ c2)) → n + 1 ≤ t → t ≤ maxLen → ∀ f70 f71 f72 f73 f74 f75 f76 f77 f78 f79 f80 f81 f82 f83 f84 : Value, Q .normal { tmps := #[.pointer (some ⟨S + 1, 0, none⟩), t1, t2, t3, .pointer (some ⟨R4, 0, none⟩), .slice a n cap, t6, .int .i64 (k : Int), t8, t9, t10, t11, t12, t13, t14, t15, t16, t17, t18, t19, t20, t21, t22, t23, t24, t25, t26, t27, t28, t29, t30, t31, t32, t33, t34, t35, t36, t37, t38, t39, t40, t41, t42, t43, t44, t45, t46, t47, t48, t49, t50, t51, t52, t53, t54, t55, t56, t57, t58, t59, t60, t61, t62, t63, t64, t65, t66, t67, t68, t69, f70, f71, f72, f73, f74, f75, f76, f77, f78, f79, f80, f81, f82, f83, f84, t85, t86, t87, t88, t89, t90, t91], defers := [] } (z.setCell ⟨S + 1, 1, none⟩ (.slice r (n + 1) t))) :
    Code.wp Try.prog (Code.region 13 #[{ dst := some 70, op := Op.move (Operand.tmp 0), type := 47, pos := "vergerref5.go:229", after := #[], guard := none }, { dst := some 71, op := Op.buildSlice 48 0 #[], type := 48, pos := "vergerref5.go:229", after := #[], guard := none }, { dst := some 72, op := Op.move (Operand.tmp 5), type := 48, pos := "vergerref5.go:229", after := #[], guard := none }, { dst := some 73, op := Op.move (Operand.tmp 7), type := 3, pos := "vergerref5.go:229", after := #[], guard := none }, { dst := some 74, op := Op.slice 48 (Operand.tmp 72) none (some (Operand.tmp 73)) none, type := 48, pos := "vergerref5.go:229", after := #[{ on := 2, ground := Ground.data }, { on := 3, ground := Ground.data }], guard := none }, { dst := some 75, op := Op.call { callee := Callee.builtin Builtin.append, args := #[Operand.tmp 71, Operand.tmp 74], argTypes := #[48, 48] }, type := 48, pos := "vergerref5.go:229", after := #[{ on := 1, ground := Ground.data }, { on := 4, ground := Ground.data }], guard := none }, { dst := some 76, op := Op.load 79 (Operand.tmp 4), type := 79, pos := "vergerref5.go:229", after := #[], guard := none }, { dst := some 77, op := Op.buildSlice 48 1 #[(0, Operand.tmp 76)], type := 48, pos := "vergerref5.go:229", after := #[{ on := 6, ground := Ground.data }], guard := none }, { dst := some 78, op := Op.call { callee := Callee.builtin Builtin.append, args := #[Operand.tmp 75, Operand.tmp 77], argTypes := #[48, 48] }, type := 48, pos := "vergerref5.go:229", after := #[{ on := 5, ground := Ground.data }, { on := 7, ground := Ground.data }, { on := 5, ground := Ground.chain }], guard := none }, { dst := some 79, op := Op.move (Operand.tmp 5), type := 48, pos := "vergerref5.go:229", after := #[], guard := none }, { dst := some 80, op := Op.move (Operand.tmp 7), type := 3, pos := "vergerref5.go:229", after := #[], guard := none }, { dst := some 81, op := Op.slice 48 (Operand.tmp 79) (some (Operand.tmp 80)) none none, type := 48, pos := "vergerref5.go:229", after := #[{ on := 9, ground := Ground.data }, { on := 10, ground := Ground.data }], guard := none }, { dst := some 82, op := Op.call { callee := Callee.builtin Builtin.append, args := #[Operand.tmp 78, Operand.tmp 81], argTypes := #[48, 48] }, type := 48, pos := "vergerref5.go:229", after := #[{ on := 8, ground := Ground.data }, { on := 11, ground := Ground.data }, { on := 8, ground := Ground.chain }], guard := none }, { dst := some 83, op := Op.nilCheck (Operand.tmp 70), type := 0, pos := "vergerref5.go:229", after := #[{ on := 0, ground := Ground.data }, { on := 0, ground := Ground.phase }, { on := 1, ground := Ground.phase }, { on := 2, ground := Ground.phase }, { on := 3, ground := Ground.phase }, { on := 4, ground := Ground.phase }, { on := 5, ground := Ground.phase }, { on := 6, ground := Ground.phase }, { on := 7, ground := Ground.phase }, { on := 8, ground := Ground.phase }, { on := 9, ground := Ground.phase }, { on := 10, ground := Ground.phase }, { on := 11, ground := Ground.phase }, { on := 12, ground := Ground.phase }], guard := none }, { dst := some 84, op := Op.fieldAddr 50 (Operand.tmp 83) 1, type := 0, pos := "vergerref5.go:229", after := #[{ on := 13, ground := Ground.data }, { on := 0, ground := Ground.phase }, { on := 1, ground := Ground.phase }, { on := 2, ground := Ground.phase }, { on := 3, ground := Ground.phase }, { on := 4, ground := Ground.phase }, { on := 5, ground := Ground.phase }, { on := 6, ground := Ground.phase }, { on := 7, ground := Ground.phase }, { on := 8, ground := Ground.phase }, { on := 9, ground := Ground.phase }, { on := 10, ground := Ground.phase }, { on := 11, ground := Ground.phase }, { on := 12, ground := Ground.phase }], guard := none }, { dst := none, op := Op.store 48 (Operand.tmp 84) (Operand.tmp 82), type := 0, pos := "vergerref5.go:229", after := #[{ on := 14, ground := Ground.data }, { on := 12, ground := Ground.data }, { on := 12, ground := Ground.chain }, { on := 0, ground := Ground.phase }, { on := 1, ground := Ground.phase }, { on := 2, ground := Ground.phase }, { on := 3, ground := Ground.phase }, { on := 4, ground := Ground.phase }, { on := 5, ground := Ground.phase }, { on := 6, ground := Ground.phase }, { on := 7, ground := Ground.phase }, { on := 8, ground := Ground.phase }, { on := 9, ground := Ground.phase }, { on := 10, ground := Ground.phase }, { on := 11, ground := Ground.phase }, { on := 12, ground := Ground.phase }], guard := none }] true) Q { tmps := #[.pointer (some ⟨S + 1, 0, none⟩), t1, t2, t3, .pointer (some ⟨R4, 0, none⟩), .slice a n cap, t6, .int .i64 (k : Int), t8, t9, t10, t11, t12, t13, t14, t15, t16, t17, t18, t19, t20, t21, t22, t23, t24, t25, t26, t27, t28, t29, t30, t31, t32, t33, t34, t35, t36, t37, t38, t39, t40, t41, t42, t43, t44, t45, t46, t47, t48, t49, t50, t51, t52, t53, t54, t55, t56, t57, t58, t59, t60, t61, t62, t63, t64, t65, t66, t67, t68, t69, t70, t71, t72, t73, t74, t75, t76, t77, t78, t79, t80, t81, t82, t83, t84, t85, t86, t87, t88, t89, t90, t91], defers := [] } wr := by
  have hk : k ≤ n := by omega
  have sR := lt_of_block box
  have sS := lt_of_block cell
  obtain ⟨Z, hZ⟩ : ∃ Z, wr.heap.size = Z := ⟨_, rfl⟩
  have q0 : Below wr.heap.size wr wr.drew := bel_D _
  have vB : Below wr.heap.size wr (wr.alloc (.cells #[.int .i64 m, .slice p K q] 79)).drew := (bel_alloc _ _).drew
  have KC : ∀ v', Below wr.heap.size wr v' → v'.cell? ⟨R4, 0, none⟩ = some (.int .i64 m) ∧ v'.cell? ⟨R4, 1, none⟩ = some (.slice p K q) := fun v' hv => ⟨shr0 ((hv.block R4 sR).trans box), shr1 ((hv.block R4 sR).trans box)⟩
  have j1 : (k : Int) ≤ (cap : Int) := by omega
  have j2 : (k : Int) ≤ (n : Int) := by omega
  have j3 : (0 : Int) ≤ (k : Int) := by omega
  have j4 : (n : Int) ≤ (cap : Int) := by omega
  have mx := mixed
  have e3 : k + 1 + (n - k) = n + 1 := by omega
  have va : Below wr.heap.size wr (wr.alloc (.cells #[] 79)).drew := (bel_alloc _ _).drew
  obtain ⟨r1a, t1a, w1a, h1a, o1a, b1a, _, _⟩ := push0 (g := Z) (cap := cap) (R1.below va) (by omega)
  have x1a : Below wr.heap.size wr w1a := va.trans (b1a.mono va.size)
  obtain ⟨Y, hY⟩ : ∃ Y, w1a.heap.size = Y := ⟨_, rfl⟩
  have vd : Below w1a.heap.size w1a (w1a.alloc (.cells #[.int .i64 m, .slice p K q] 79)) := bel_alloc _ _
  have xd : Below wr.heap.size wr (w1a.alloc (.cells #[.int .i64 m, .slice p K q] 79)) := x1a.trans (vd.mono x1a.size)
  obtain ⟨r2a, t2a, w2a, h2a, o2a, b2a, _, _, _⟩ := pushB (cap := 1) (o1a.below vd) (reads_one (G := Y) (d := d) (p := p) (q := q) (by rw [← hY]; exact heap_alloc_new w1a _) hm hK) (by omega) (Nat.le_trans b1a.size vd.size)
  have x2a : Below wr.heap.size wr w2a := xd.trans (b2a.mono va.size)
  obtain ⟨r3a, t3a, w3a, h3a, o3a, b3a, _, f3a, m3a⟩ := pushB (cap := cap - k) o2a (R2.below x2a) (by omega) (Nat.le_trans (Nat.le_trans b1a.size vd.size) b2a.size)
  have x3a : Below wr.heap.size wr w3a := x2a.trans (b3a.mono va.size)
  rw [e3] at h3a o3a f3a
  have c3a := (x3a.block (S + 1) sS).trans cell
  have sa1 := shr1 c3a
  have sa2 := shrf c3a 1
  have O3a : OwnZ 79 w3a (wr.heap.size + 1) (.slice r3a (n + 1) t3a) (n + 1) (flatB (c1 ++ [(⟨d, p, q⟩ : Bk)] ++ c2)) := by
    rcases o3a with o | o
    · exact .inl (own_low o (by simp))
    · exact .inr o
  have vb : Below wr.heap.size wr ((wr.alloc (.cells #[] 79)).alloc (.cells #[.int .i64 m, .slice p K q] 79)).drew := ((bel_alloc wr _).alloc (by simp) _).drew
  obtain ⟨r1b, t1b, w1b, h1b, o1b, b1b, _, _⟩ := push0 (g := Z) (cap := cap) (R1.below vb) (by omega)
  have x1b : Below wr.heap.size wr w1b := vb.trans (b1b.mono vb.size)
  have gb : (((wr.alloc (.cells #[] 79)).alloc (.cells #[.int .i64 m, .slice p K q] 79)).drew).heap[(Z + 1)]? = some (.cells #[.int .i64 m, .slice p K q] 79 (0, 0)) := by have h := heap_alloc_new (wr.alloc (.cells #[] 79)) (.cells #[.int .i64 m, .slice p K q] 79); rw [show (wr.alloc (.cells #[] 79)).heap.size = Z + 1 by simp [hZ]] at h; exact h
  obtain ⟨r2b, t2b, w2b, h2b, o2b, b2b, _, _, _⟩ := pushB (cap := 1) o1b (reads_one (G := (Z + 1)) (d := d) (p := p) (q := q) ((b1b.block _ (lt_of_block gb)).trans gb) hm hK) (by omega) b1b.size
  have x2b : Below wr.heap.size wr w2b := x1b.trans (b2b.mono vb.size)
  obtain ⟨r3b, t3b, w3b, h3b, o3b, b3b, _, f3b, m3b⟩ := pushB (cap := cap - k) o2b (R2.below x2b) (by omega) (Nat.le_trans b1b.size b2b.size)
  have x3b : Below wr.heap.size wr w3b := x2b.trans (b3b.mono vb.size)
  rw [e3] at h3b o3b f3b
  have c3b := (x3b.block (S + 1) sS).trans cell
  have sb1 := shr1 c3b
  have sb2 := shrf c3b 1
  have O3b : OwnZ 79 w3b (wr.heap.size + 1) (.slice r3b (n + 1) t3b) (n + 1) (flatB (c1 ++ [(⟨d, p, q⟩ : Bk)] ++ c2)) := by
    rcases o3b with o | o
    · exact .inl (own_low o (by simp))
    · exact .inr o
  have vc : Below wr.heap.size wr ((wr.alloc (.cells #[.int .i64 m, .slice p K q] 79)).alloc (.cells #[] 79)).drew := ((bel_alloc wr _).alloc (by simp) _).drew
  obtain ⟨r1c, t1c, w1c, h1c, o1c, b1c, _, _⟩ := push0 (g := (Z + 1)) (cap := cap) (R1.below vc) (by omega)
  have x1c : Below wr.heap.size wr w1c := vc.trans (b1c.mono vc.size)
  have gc : (((wr.alloc (.cells #[.int .i64 m, .slice p K q] 79)).alloc (.cells #[] 79)).drew).heap[Z]? = some (.cells #[.int .i64 m, .slice p K q] 79 (0, 0)) := by rw [← hZ]; exact (((Below.refl _ _).alloc (Nat.le_refl _) (.cells #[] 79)).block _ (by simp)).trans (heap_alloc_new wr (.cells #[.int .i64 m, .slice p K q] 79))
  obtain ⟨r2c, t2c, w2c, h2c, o2c, b2c, _, _, _⟩ := pushB (cap := 1) o1c (reads_one (G := Z) (d := d) (p := p) (q := q) ((b1c.block _ (lt_of_block gc)).trans gc) hm hK) (by omega) b1c.size
  have x2c : Below wr.heap.size wr w2c := x1c.trans (b2c.mono vc.size)
  obtain ⟨r3c, t3c, w3c, h3c, o3c, b3c, _, f3c, m3c⟩ := pushB (cap := cap - k) o2c (R2.below x2c) (by omega) (Nat.le_trans b1c.size b2c.size)
  have x3c : Below wr.heap.size wr w3c := x2c.trans (b3c.mono vc.size)
  rw [e3] at h3c o3c f3c
  have c3c := (x3c.block (S + 1) sS).trans cell
  have sc1 := shr1 c3c
  have sc2 := shrf c3c 1
  have O3c : OwnZ 79 w3c (wr.heap.size + 1) (.slice r3c (n + 1) t3c) (n + 1) (flatB (c1 ++ [(⟨d, p, q⟩ : Bk)] ++ c2)) := by
    rcases o3c with o | o
    · exact .inl (own_low o (by simp))
    · exact .inr o
  obtain rfl : k = n := kn
  rw [Nat.sub_self] at h3a h3b h3c
  clear R1 R2 o1a o1b o1c o2a o2b o2c c3a c3b c3c gb gc
  refine anyE_start (S := (fun v' => v'.cell? ⟨R4, 0, none⟩ = some (.int .i64 m) ∧ v'.cell? ⟨R4, 1, none⟩ = some (.slice p K q))) (L := 15) (by kernel_rfl) ?_
  refine anyE_take (i := 0) (oi := { dst := some 70, op := Op.move (Operand.tmp 0), type := 47, pos := "vergerref5.go:229", after := #[], guard := none }) (v := ?_) rfl (by kernel_rfl) (by kernel_rfl) (by kernel_rfl) (by kernel_rfl) (fun c a w h => hQ c a _ _ w h) (Or.inl ⟨by rfl, ?_⟩) (KC _ q0) ?_
  rotate_left
  · (intro w hSw; (try dsimp only at hSw); go_simp; try with_reducible rfl)
  simp only [Act.put, List.setIfInBounds_toArray, List.set_cons_zero, List.set_cons_succ]
  refine anyE_take (i := 2) (oi := { dst := some 72, op := Op.move (Operand.tmp 5), type := 48, pos := "vergerref5.go:229", after := #[], guard := none }) (v := ?_) rfl (by kernel_rfl) (by kernel_rfl) (by kernel_rfl) (by kernel_rfl) (fun c a w h => hQ c a _ _ w h) (Or.inl ⟨by rfl, ?_⟩) (KC _ q0) ?_
  rotate_left
  · (intro w hSw; (try dsimp only at hSw); go_simp; try with_reducible rfl)
  simp only [Act.put, List.setIfInBounds_toArray, List.set_cons_zero, List.set_cons_succ]
  refine anyE_take (i := 3) (oi := { dst := some 73, op := Op.move (Operand.tmp 7), type := 3, pos := "vergerref5.go:229", after := #[], guard := none }) (v := ?_) rfl (by kernel_rfl) (by kernel_rfl) (by kernel_rfl) (by kernel_rfl) (fun c a w h => hQ c a _ _ w h) (Or.inl ⟨by rfl, ?_⟩) (KC _ q0) ?_
  rotate_left
  · (intro w hSw; (try dsimp only at hSw); go_simp; try with_reducible rfl)
  simp only [Act.put, List.setIfInBounds_toArray, List.set_cons_zero, List.set_cons_succ]
  refine anyE_take (i := 4) (oi := { dst := some 74, op := Op.slice 48 (Operand.tmp 72) none (some (Operand.tmp 73)) none, type := 48, pos := "vergerref5.go:229", after := #[{ on := 2, ground := Ground.data }, { on := 3, ground := Ground.data }], guard := none }) (v := ?_) rfl (by kernel_rfl) (by kernel_rfl) (by kernel_rfl) (by kernel_rfl) (fun c a w h => hQ c a _ _ w h) (Or.inl ⟨by rfl, ?_⟩) (KC _ q0) ?_
  rotate_left
  · (intro w hSw; (try dsimp only at hSw); go_simp; try with_reducible rfl)
  simp only [Act.put, List.setIfInBounds_toArray, List.set_cons_zero, List.set_cons_succ]
  refine anyE_take (i := 6) (oi := { dst := some 76, op := Op.load 79 (Operand.tmp 4), type := 79, pos := "vergerref5.go:229", after := #[], guard := none }) (v := ?_) rfl (by kernel_rfl) (by kernel_rfl) (by kernel_rfl) (by kernel_rfl) (fun c a w h => hQ c a _ _ w h) (Or.inl ⟨by rfl, ?_⟩) (KC _ q0) ?_
  rotate_left
  · (intro w hSw; (try dsimp only at hSw); go_simp; try with_reducible rfl)
  simp only [Act.put, List.setIfInBounds_toArray, List.set_cons_zero, List.set_cons_succ]
  refine anyE_take (i := 9) (oi := { dst := some 79, op := Op.move (Operand.tmp 5), type := 48, pos := "vergerref5.go:229", after := #[], guard := none }) (v := ?_) rfl (by kernel_rfl) (by kernel_rfl) (by kernel_rfl) (by kernel_rfl) (fun c a w h => hQ c a _ _ w h) (Or.inl ⟨by rfl, ?_⟩) (KC _ q0) ?_
  rotate_left
  · (intro w hSw; (try dsimp only at hSw); go_simp; try with_reducible rfl)
  simp only [Act.put, List.setIfInBounds_toArray, List.set_cons_zero, List.set_cons_succ]
  refine anyE_take (i := 10) (oi := { dst := some 80, op := Op.move (Operand.tmp 7), type := 3, pos := "vergerref5.go:229", after := #[], guard := none }) (v := ?_) rfl (by kernel_rfl) (by kernel_rfl) (by kernel_rfl) (by kernel_rfl) (fun c a w h => hQ c a _ _ w h) (Or.inl ⟨by rfl, ?_⟩) (KC _ q0) ?_
  rotate_left
  · (intro w hSw; (try dsimp only at hSw); go_simp; try with_reducible rfl)
  simp only [Act.put, List.setIfInBounds_toArray, List.set_cons_zero, List.set_cons_succ]
  refine anyE_take (i := 11) (oi := { dst := some 81, op := Op.slice 48 (Operand.tmp 79) (some (Operand.tmp 80)) none none, type := 48, pos := "vergerref5.go:229", after := #[{ on := 9, ground := Ground.data }, { on := 10, ground := Ground.data }], guard := none }) (v := ?_) rfl (by kernel_rfl) (by kernel_rfl) (by kernel_rfl) (by kernel_rfl) (fun c a w h => hQ c a _ _ w h) (Or.inl ⟨by rfl, ?_⟩) (KC _ q0) ?_
  rotate_left
  · (intro w hSw; (try dsimp only at hSw); go_simp; try with_reducible rfl)
  simp only [Act.put, List.setIfInBounds_toArray, List.set_cons_zero, List.set_cons_succ]
  refine anyE_ready (rs := [1, 7]) (by kernel_rfl) (by simp) ?_
  refine AllE.cons (o := { dst := some 71, op := Op.buildSlice 48 0 #[], type := 48, pos := "vergerref5.go:229", after := #[], guard := none }) rfl (fun Kt hKt => ?_) ?_
  · go_simp
    refine hKt.out _ _ (fun _ => KC _ va) ?_
    clear hKt Kt
    try simp only [Act.put, List.setIfInBounds_toArray, List.set_cons_zero, List.set_cons_succ]
    refine anyE_ready (rs := [5, 7]) (by kernel_rfl) (by simp) ?_
    refine AllE.cons (o := { dst := some 75, op := Op.call { callee := Callee.builtin Builtin.append, args := #[Operand.tmp 71, Operand.tmp 74], argTypes := #[48, 48] }, type := 48, pos := "vergerref5.go:229", after := #[{ on := 1, ground := Ground.data }, { on := 4, ground := Ground.data }], guard := none }) rfl (fun Kt hKt => ?_) ?_
    · refine step_app ((wr.alloc (.cells #[] 79)).drew) (by rfl) _ _ 48 48 (by rfl) (.slice (some ⟨Z, 0, none⟩) 0 0) (.slice a k cap) (by rfl) (by rfl) (.slice r1a k t1a) w1a h1a ?_
      refine hKt.out _ _ (fun _ => KC _ x1a) ?_
      clear hKt Kt
      try simp only [Act.put, List.setIfInBounds_toArray, List.set_cons_zero, List.set_cons_succ]
      refine anyE_ready (rs := [7]) (by kernel_rfl) (by simp) ?_
      refine AllE.cons (o := { dst := some 77, op := Op.buildSlice 48 1 #[(0, Operand.tmp 76)], type := 48, pos := "vergerref5.go:229", after := #[{ on := 6, ground := Ground.data }], guard := none }) rfl (fun Kt hKt => ?_) ?_
      · go_simp
        refine hKt.out _ _ (fun _ => KC _ xd) ?_
        clear hKt Kt
        try simp only [Act.put, List.setIfInBounds_toArray, List.set_cons_zero, List.set_cons_succ]
        refine anyE_ready (rs := [8]) (by kernel_rfl) (by simp) ?_
        refine AllE.cons (o := { dst := some 78, op := Op.call { callee := Callee.builtin Builtin.append, args := #[Operand.tmp 75, Operand.tmp 77], argTypes := #[48, 48] }, type := 48, pos := "vergerref5.go:229", after := #[{ on := 5, ground := Ground.data }, { on := 7, ground := Ground.data }, { on := 5, ground := Ground.chain }], guard := none }) rfl (fun Kt hKt => ?_) ?_
        · refine step_app (w1a.alloc (.cells #[.int .i64 m, .slice p K q] 79)) (by rfl) _ _ 48 48 (by rfl) (.slice r1a k t1a) (.slice (some ⟨Y, 0, none⟩) 1 1) (by rfl) (by rfl) (.slice r2a (k + 1) t2a) w2a h2a ?_
          refine hKt.out _ _ (fun _ => KC _ x2a) ?_
          clear hKt Kt
          try simp only [Act.put, List.setIfInBounds_toArray, List.set_cons_zero, List.set_cons_succ]
          refine anyE_ready (rs := [12]) (by kernel_rfl) (by simp) ?_
          refine AllE.cons (o := { dst := some 82, op := Op.call { callee := Callee.builtin Builtin.append, args := #[Operand.tmp 78, Operand.tmp 81], argTypes := #[48, 48] }, type := 48, pos := "vergerref5.go:229", after := #[{ on := 8, ground := Ground.data }, { on := 11, ground := Ground.data }, { on := 8, ground := Ground.chain }], guard := none }) rfl (fun Kt hKt => ?_) ?_
          · refine step_app w2a (by rfl) _ _ 48 48 (by rfl) (.slice r2a (k + 1) t2a) (.slice p1 0 (cap - k)) (by rfl) (by rfl) (.slice r3a (k + 1) t3a) w3a h3a ?_
            refine hKt.out _ _ (fun _ => KC _ x3a) ?_
            clear hKt Kt
            try simp only [Act.put, List.setIfInBounds_toArray, List.set_cons_zero, List.set_cons_succ]
            refine anyE_ready (rs := [13]) (by kernel_rfl) (by simp) ?_
            refine AllE.cons (o := { dst := some 83, op := Op.nilCheck (Operand.tmp 70), type := 0, pos := "vergerref5.go:229", after := #[{ on := 0, ground := Ground.data }, { on := 0, ground := Ground.phase }, { on := 1, ground := Ground.phase }, { on := 2, ground := Ground.phase }, { on := 3, ground := Ground.phase }, { on := 4, ground := Ground.phase }, { on := 5, ground := Ground.phase }, { on := 6, ground := Ground.phase }, { on := 7, ground := Ground.phase }, { on := 8, ground := Ground.phase }, { on := 9, ground := Ground.phase }, { on := 10, ground := Ground.phase }, { on := 11, ground := Ground.phase }, { on := 12, ground := Ground.phase }], guard := none }) rfl (fun Kt hKt => ?_) ?_
            · go_simp
              refine hKt.out _ _ (fun _ => KC _ x3a) ?_
              clear hKt Kt
              try simp only [Act.put, List.setIfInBounds_toArray, List.set_cons_zero, List.set_cons_succ]
              refine anyE_take (i := 14) (oi := { dst := some 84, op := Op.fieldAddr 50 (Operand.tmp 83) 1, type := 0, pos := "vergerref5.go:229", after := #[{ on := 13, ground := Ground.data }, { on := 0, ground := Ground.phase }, { on := 1, ground := Ground.phase }, { on := 2, ground := Ground.phase }, { on := 3, ground := Ground.phase }, { on := 4, ground := Ground.phase }, { on := 5, ground := Ground.phase }, { on := 6, ground := Ground.phase }, { on := 7, ground := Ground.phase }, { on := 8, ground := Ground.phase }, { on := 9, ground := Ground.phase }, { on := 10, ground := Ground.phase }, { on := 11, ground := Ground.phase }, { on := 12, ground := Ground.phase }], guard := none }) (v := ?_) rfl (by kernel_rfl) (by kernel_rfl) (by kernel_rfl) (by kernel_rfl) (fun c a w h => hQ c a _ _ w h) (Or.inl ⟨by rfl, ?_⟩) (KC _ x3a) ?_
              rotate_left
              · (intro w hSw; (try dsimp only at hSw); go_simp; try with_reducible rfl)
              simp only [Act.put, List.setIfInBounds_toArray, List.set_cons_zero, List.set_cons_succ]
              refine anyE_ready (rs := [15]) (by kernel_rfl) (by simp) ?_
              refine AllE.cons (o := { dst := none, op := Op.store 48 (Operand.tmp 84) (Operand.tmp 82), type := 0, pos := "vergerref5.go:229", after := #[{ on := 14, ground := Ground.data }, { on := 12, ground := Ground.data }, { on := 12, ground := Ground.chain }, { on := 0, ground := Ground.phase }, { on := 1, ground := Ground.phase }, { on := 2, ground := Ground.phase }, { on := 3, ground := Ground.phase }, { on := 4, ground := Ground.phase }, { on := 5, ground := Ground.phase }, { on := 6, ground := Ground.phase }, { on := 7, ground := Ground.phase }, { on := 8, ground := Ground.phase }, { on := 9, ground := Ground.phase }, { on := 10, ground := Ground.phase }, { on := 11, ground := Ground.phase }, { on := 12, ground := Ground.phase }], guard := none }) rfl (fun Kt hKt => ?_) ?_
              · go_simp
                refine hKt.out _ _ (fun h => absurd rfl h) ?_
                clear hKt Kt
                try simp only [Act.put, List.setIfInBounds_toArray, List.set_cons_zero, List.set_cons_succ]
                refine anyE_done (by kernel_rfl) ?_ _
                exact h w3a r3a t3a x3a O3a f3a m3a _ _ _ _ _ _ _ _ _ _ _ _ _ _ _
              exact AllE.nil
            exact AllE.nil
          exact AllE.nil
        exact AllE.nil
      exact AllE.nil
    refine AllE.cons (o := { dst := some 77, op := Op.buildSlice 48 1 #[(0, Operand.tmp 76)], type := 48, pos := "vergerref5.go:229", after := #[{ on := 6, ground := Ground.data }], guard := none }) rfl (fun Kt hKt => ?_) ?_
    · go_simp
      refine hKt.out _ _ (fun _ => KC _ vb) ?_
      clear hKt Kt
      try simp only [Act.put, List.setIfInBounds_toArray, List.set_cons_zero, List.set_cons_succ]
      refine anyE_ready (rs := [5]) (by kernel_rfl) (by simp) ?_
      refine AllE.cons (o := { dst := some 75, op := Op.call { callee := Callee.builtin Builtin.append, args := #[Operand.tmp 71, Operand.tmp 74], argTypes := #[48, 48] }, type := 48, pos := "vergerref5.go:229", after := #[{ on := 1, ground := Ground.data }, { on := 4, ground := Ground.data }], guard := none }) rfl (fun Kt hKt => ?_) ?_
      · refine step_app (((wr.alloc (.cells #[] 79)).alloc (.cells #[.int .i64 m, .slice p K q] 79)).drew) (by rfl) _ _ 48 48 (by rfl) (.slice (some ⟨Z, 0, none⟩) 0 0) (.slice a k cap) (by rfl) (by rfl) (.slice r1b k t1b) w1b h1b ?_
        refine hKt.out _ _ (fun _ => KC _ x1b) ?_
        clear hKt Kt
        try simp only [Act.put, List.setIfInBounds_toArray, List.set_cons_zero, List.set_cons_succ]
        refine anyE_ready (rs := [8]) (by kernel_rfl) (by simp) ?_
        refine AllE.cons (o := { dst := some 78, op := Op.call { callee := Callee.builtin Builtin.append, args := #[Operand.tmp 75, Operand.tmp 77], argTypes := #[48, 48] }, type := 48, pos := "vergerref5.go:229", after := #[{ on := 5, ground := Ground.data }, { on := 7, ground := Ground.data }, { on := 5, ground := Ground.chain }], guard := none }) rfl (fun Kt hKt => ?_) ?_
        · refine step_app w1b (by rfl) _ _ 48 48 (by rfl) (.slice r1b k t1b) (.slice (some ⟨(Z + 1), 0, none⟩) 1 1) (by rfl) (by rfl) (.slice r2b (k + 1) t2b) w2b h2b ?_
          refine hKt.out _ _ (fun _ => KC _ x2b) ?_
          clear hKt Kt
          try simp only [Act.put, List.setIfInBounds_toArray, List.set_cons_zero, List.set_cons_succ]
          refine anyE_ready (rs := [12]) (by kernel_rfl) (by simp) ?_
          refine AllE.cons (o := { dst := some 82, op := Op.call { callee := Callee.builtin Builtin.append, args := #[Operand.tmp 78, Operand.tmp 81], argTypes := #[48, 48] }, type := 48, pos := "vergerref5.go:229", after := #[{ on := 8, ground := Ground.data }, { on := 11, ground := Ground.data }, { on := 8, ground := Ground.chain }], guard := none }) rfl (fun Kt hKt => ?_) ?_
          · refine step_app w2b (by rfl) _ _ 48 48 (by rfl) (.slice r2b (k + 1) t2b) (.slice p1 0 (cap - k)) (by rfl) (by rfl) (.slice r3b (k + 1) t3b) w3b h3b ?_
            refine hKt.out _ _ (fun _ => KC _ x3b) ?_
            clear hKt Kt
            try simp only [Act.put, List.setIfInBounds_toArray, List.set_cons_zero, List.set_cons_succ]
            refine anyE_ready (rs := [13]) (by kernel_rfl) (by simp) ?_
            refine AllE.cons (o := { dst := some 83, op := Op.nilCheck (Operand.tmp 70), type := 0, pos := "vergerref5.go:229", after := #[{ on := 0, ground := Ground.data }, { on := 0, ground := Ground.phase }, { on := 1, ground := Ground.phase }, { on := 2, ground := Ground.phase }, { on := 3, ground := Ground.phase }, { on := 4, ground := Ground.phase }, { on := 5, ground := Ground.phase }, { on := 6, ground := Ground.phase }, { on := 7, ground := Ground.phase }, { on := 8, ground := Ground.phase }, { on := 9, ground := Ground.phase }, { on := 10, ground := Ground.phase }, { on := 11, ground := Ground.phase }, { on := 12, ground := Ground.phase }], guard := none }) rfl (fun Kt hKt => ?_) ?_
            · go_simp
              refine hKt.out _ _ (fun _ => KC _ x3b) ?_
              clear hKt Kt
              try simp only [Act.put, List.setIfInBounds_toArray, List.set_cons_zero, List.set_cons_succ]
              refine anyE_take (i := 14) (oi := { dst := some 84, op := Op.fieldAddr 50 (Operand.tmp 83) 1, type := 0, pos := "vergerref5.go:229", after := #[{ on := 13, ground := Ground.data }, { on := 0, ground := Ground.phase }, { on := 1, ground := Ground.phase }, { on := 2, ground := Ground.phase }, { on := 3, ground := Ground.phase }, { on := 4, ground := Ground.phase }, { on := 5, ground := Ground.phase }, { on := 6, ground := Ground.phase }, { on := 7, ground := Ground.phase }, { on := 8, ground := Ground.phase }, { on := 9, ground := Ground.phase }, { on := 10, ground := Ground.phase }, { on := 11, ground := Ground.phase }, { on := 12, ground := Ground.phase }], guard := none }) (v := ?_) rfl (by kernel_rfl) (by kernel_rfl) (by kernel_rfl) (by kernel_rfl) (fun c a w h => hQ c a _ _ w h) (Or.inl ⟨by rfl, ?_⟩) (KC _ x3b) ?_
              rotate_left
              · (intro w hSw; (try dsimp only at hSw); go_simp; try with_reducible rfl)
              simp only [Act.put, List.setIfInBounds_toArray, List.set_cons_zero, List.set_cons_succ]
              refine anyE_ready (rs := [15]) (by kernel_rfl) (by simp) ?_
              refine AllE.cons (o := { dst := none, op := Op.store 48 (Operand.tmp 84) (Operand.tmp 82), type := 0, pos := "vergerref5.go:229", after := #[{ on := 14, ground := Ground.data }, { on := 12, ground := Ground.data }, { on := 12, ground := Ground.chain }, { on := 0, ground := Ground.phase }, { on := 1, ground := Ground.phase }, { on := 2, ground := Ground.phase }, { on := 3, ground := Ground.phase }, { on := 4, ground := Ground.phase }, { on := 5, ground := Ground.phase }, { on := 6, ground := Ground.phase }, { on := 7, ground := Ground.phase }, { on := 8, ground := Ground.phase }, { on := 9, ground := Ground.phase }, { on := 10, ground := Ground.phase }, { on := 11, ground := Ground.phase }, { on := 12, ground := Ground.phase }], guard := none }) rfl (fun Kt hKt => ?_) ?_
              · go_simp
                refine hKt.out _ _ (fun h => absurd rfl h) ?_
                clear hKt Kt
                try simp only [Act.put, List.setIfInBounds_toArray, List.set_cons_zero, List.set_cons_succ]
                refine anyE_done (by kernel_rfl) ?_ _
                exact h w3b r3b t3b x3b O3b f3b m3b _ _ _ _ _ _ _ _ _ _ _ _ _ _ _
              exact AllE.nil
            exact AllE.nil
          exact AllE.nil
        exact AllE.nil
      exact AllE.nil
    exact AllE.nil
  refine AllE.cons (o := { dst := some 77, op := Op.buildSlice 48 1 #[(0, Operand.tmp 76)], type := 48, pos := "vergerref5.go:229", after := #[{ on := 6, ground := Ground.data }], guard := none }) rfl (fun Kt hKt => ?_) ?_
  · go_simp
    refine hKt.out _ _ (fun _ => KC _ vB) ?_
    clear hKt Kt
    try simp only [Act.put, List.setIfInBounds_toArray, List.set_cons_zero, List.set_cons_succ]
    refine anyE_ready (rs := [1]) (by kernel_rfl) (by simp) ?_
    refine AllE.cons (o := { dst := some 71, op := Op.buildSlice 48 0 #[], type := 48, pos := "vergerref5.go:229", after := #[], guard := none }) rfl (fun Kt hKt => ?_) ?_
    · go_simp
      refine hKt.out _ _ (fun _ => KC _ vc) ?_
      clear hKt Kt
      try simp only [Act.put, List.setIfInBounds_toArray, List.set_cons_zero, List.set_cons_succ]
      refine anyE_ready (rs := [5]) (by kernel_rfl) (by simp) ?_
      refine AllE.cons (o := { dst := some 75, op := Op.call { callee := Callee.builtin Builtin.append, args := #[Operand.tmp 71, Operand.tmp 74], argTypes := #[48, 48] }, type := 48, pos := "vergerref5.go:229", after := #[{ on := 1, ground := Ground.data }, { on := 4, ground := Ground.data }], guard := none }) rfl (fun Kt hKt => ?_) ?_
      · refine step_app (((wr.alloc (.cells #[.int .i64 m, .slice p K q] 79)).alloc (.cells #[] 79)).drew) (by rfl) _ _ 48 48 (by rfl) (.slice (some ⟨(Z + 1), 0, none⟩) 0 0) (.slice a k cap) (by rfl) (by rfl) (.slice r1c k t1c) w1c h1c ?_
        refine hKt.out _ _ (fun _ => KC _ x1c) ?_
        clear hKt Kt
        try simp only [Act.put, List.setIfInBounds_toArray, List.set_cons_zero, List.set_cons_succ]
        refine anyE_ready (rs := [8]) (by kernel_rfl) (by simp) ?_
        refine AllE.cons (o := { dst := some 78, op := Op.call { callee := Callee.builtin Builtin.append, args := #[Operand.tmp 75, Operand.tmp 77], argTypes := #[48, 48] }, type := 48, pos := "vergerref5.go:229", after := #[{ on := 5, ground := Ground.data }, { on := 7, ground := Ground.data }, { on := 5, ground := Ground.chain }], guard := none }) rfl (fun Kt hKt => ?_) ?_
        · refine step_app w1c (by rfl) _ _ 48 48 (by rfl) (.slice r1c k t1c) (.slice (some ⟨Z, 0, none⟩) 1 1) (by rfl) (by rfl) (.slice r2c (k + 1) t2c) w2c h2c ?_
          refine hKt.out _ _ (fun _ => KC _ x2c) ?_
          clear hKt Kt
          try simp only [Act.put, List.setIfInBounds_toArray, List.set_cons_zero, List.set_cons_succ]
          refine anyE_ready (rs := [12]) (by kernel_rfl) (by simp) ?_
          refine AllE.cons (o := { dst := some 82, op := Op.call { callee := Callee.builtin Builtin.append, args := #[Operand.tmp 78, Operand.tmp 81], argTypes := #[48, 48] }, type := 48, pos := "vergerref5.go:229", after := #[{ on := 8, ground := Ground.data }, { on := 11, ground := Ground.data }, { on := 8, ground := Ground.chain }], guard := none }) rfl (fun Kt hKt => ?_) ?_
          · refine step_app w2c (by rfl) _ _ 48 48 (by rfl) (.slice r2c (k + 1) t2c) (.slice p1 0 (cap - k)) (by rfl) (by rfl) (.slice r3c (k + 1) t3c) w3c h3c ?_
            refine hKt.out _ _ (fun _ => KC _ x3c) ?_
            clear hKt Kt
            try simp only [Act.put, List.setIfInBounds_toArray, List.set_cons_zero, List.set_cons_succ]
            refine anyE_ready (rs := [13]) (by kernel_rfl) (by simp) ?_
            refine AllE.cons (o := { dst := some 83, op := Op.nilCheck (Operand.tmp 70), type := 0, pos := "vergerref5.go:229", after := #[{ on := 0, ground := Ground.data }, { on := 0, ground := Ground.phase }, { on := 1, ground := Ground.phase }, { on := 2, ground := Ground.phase }, { on := 3, ground := Ground.phase }, { on := 4, ground := Ground.phase }, { on := 5, ground := Ground.phase }, { on := 6, ground := Ground.phase }, { on := 7, ground := Ground.phase }, { on := 8, ground := Ground.phase }, { on := 9, ground := Ground.phase }, { on := 10, ground := Ground.phase }, { on := 11, ground := Ground.phase }, { on := 12, ground := Ground.phase }], guard := none }) rfl (fun Kt hKt => ?_) ?_
            · go_simp
              refine hKt.out _ _ (fun _ => KC _ x3c) ?_
              clear hKt Kt
              try simp only [Act.put, List.setIfInBounds_toArray, List.set_cons_zero, List.set_cons_succ]
              refine anyE_take (i := 14) (oi := { dst := some 84, op := Op.fieldAddr 50 (Operand.tmp 83) 1, type := 0, pos := "vergerref5.go:229", after := #[{ on := 13, ground := Ground.data }, { on := 0, ground := Ground.phase }, { on := 1, ground := Ground.phase }, { on := 2, ground := Ground.phase }, { on := 3, ground := Ground.phase }, { on := 4, ground := Ground.phase }, { on := 5, ground := Ground.phase }, { on := 6, ground := Ground.phase }, { on := 7, ground := Ground.phase }, { on := 8, ground := Ground.phase }, { on := 9, ground := Ground.phase }, { on := 10, ground := Ground.phase }, { on := 11, ground := Ground.phase }, { on := 12, ground := Ground.phase }], guard := none }) (v := ?_) rfl (by kernel_rfl) (by kernel_rfl) (by kernel_rfl) (by kernel_rfl) (fun c a w h => hQ c a _ _ w h) (Or.inl ⟨by rfl, ?_⟩) (KC _ x3c) ?_
              rotate_left
              · (intro w hSw; (try dsimp only at hSw); go_simp; try with_reducible rfl)
              simp only [Act.put, List.setIfInBounds_toArray, List.set_cons_zero, List.set_cons_succ]
              refine anyE_ready (rs := [15]) (by kernel_rfl) (by simp) ?_
              refine AllE.cons (o := { dst := none, op := Op.store 48 (Operand.tmp 84) (Operand.tmp 82), type := 0, pos := "vergerref5.go:229", after := #[{ on := 14, ground := Ground.data }, { on := 12, ground := Ground.data }, { on := 12, ground := Ground.chain }, { on := 0, ground := Ground.phase }, { on := 1, ground := Ground.phase }, { on := 2, ground := Ground.phase }, { on := 3, ground := Ground.phase }, { on := 4, ground := Ground.phase }, { on := 5, ground := Ground.phase }, { on := 6, ground := Ground.phase }, { on := 7, ground := Ground.phase }, { on := 8, ground := Ground.phase }, { on := 9, ground := Ground.phase }, { on := 10, ground := Ground.phase }, { on := 11, ground := Ground.phase }, { on := 12, ground := Ground.phase }], guard := none }) rfl (fun Kt hKt => ?_) ?_
              · go_simp
                refine hKt.out _ _ (fun h => absurd rfl h) ?_
                clear hKt Kt
                try simp only [Act.put, List.setIfInBounds_toArray, List.set_cons_zero, List.set_cons_succ]
                refine anyE_done (by kernel_rfl) ?_ _
                exact h w3c r3c t3c x3c O3c f3c m3c _ _ _ _ _ _ _ _ _ _ _ _ _ _ _
              exact AllE.nil
            exact AllE.nil
          exact AllE.nil
        exact AllE.nil
      exact AllE.nil
    exact AllE.nil
  exact AllE.nil
end Go.Proofs.Ytboccihcomaaoaa

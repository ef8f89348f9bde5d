/- Drawn regions of SharedPlays. -/
import Derived.Deep.RegionHeld3
import Derived.Test.YtboccihcomaaoaaShrQ
import Derived.Test.YtboccihcomaaoaaAnyE
namespace Go.Proofs.Ytboccihcomaaoaa
open Go.RowKit Go.Lib Go.Sort
set_option linter.unusedVariables false

set_option maxHeartbeats 4000000 in
set_option maxRecDepth 100000 in
theorem spl_reg12 {Q : Exit → Act → World → Prop} (hQ : ∀ c (a : Act) (d : Tmp) v w, Q (.panic c) (a.put (some d) v) w → Q (.panic c) a w) {t0 t1 t2 t3 t4 t5 t6 t7 t9 t10 t11 t12 t13 t14 t15 t16 t17 t18 t19 t20 t21 t22 t23 t24 t25 t26 t27 t28 t29 t30 t31 t32 t33 t34 t35 t36 t37 t38 t39 t40 t41 t42 t43 t44 t45 t46 t47 t48 t49 t50 t51 t52 t53 t54 t55 t56 t57 t58 t59 t60 t61 t62 t63 t64 t65 t66 t67 t68 t69 t70 t71 t72 t73 t74 t75 t76 t77 t78 t79 t80 t81 t82 t83 t84 t85 t86 t87 t88 t89 t90 t91 t92 t93 t94 t95 t96 t97 t98 t99 t100 t101 t102 t103 t104 t105 t106 t107 t108 t109 t110 t111 t112 t113 t114 t115 t116 t117 t118 t119 t120 t121 t122 t123 t124 t125 t126 t127 t128 t129 t130 t131 t132 t133 t134 t135 t136 t137 t138 t139 t140 t141 t142 t143 t144 t145 t146 t147 t148 t149 t150 t151 t152 t153 t154 t155 t156 t157 t158 t159 t160 t161 t162 t163 t164 t165 t166 t167 t168 t169 t170 t171 t172 t173 t174 t175 t176 t177 t178 : Value} {S B12 v n cap : Nat} {a : Option Addr} {wr : World}
    (cell : wr.heap[S + 1]? = some (.cells #[.int .u64 v, .slice a n cap] 50 (0, 0))) (hB : wr.heap.size = B12)
    (h : ∀ f54 f55 f56 f57 f58 f59 f60 f61 f62 f63 : Value, Q .normal { tmps := #[t0, t1, t2, t3, t4, t5, t6, t7, .pointer (some ⟨S + 1, 0, none⟩), t9, t10, t11, .pointer (some ⟨B12, 0, none⟩), t13, t14, t15, t16, t17, t18, t19, t20, t21, t22, t23, t24, t25, t26, t27, t28, t29, t30, t31, t32, t33, t34, t35, t36, t37, t38, t39, t40, t41, t42, t43, t44, t45, t46, t47, t48, t49, t50, t51, t52, t53, f54, f55, f56, f57, f58, f59, f60, f61, f62, f63, t64, t65, t66, t67, t68, t69, t70, t71, t72, t73, t74, t75, t76, t77, t78, t79, t80, t81, t82, t83, t84, t85, t86, t87, t88, t89, t90, t91, t92, t93, t94, t95, t96, t97, t98, t99, t100, t101, t102, t103, t104, t105, t106, t107, t108, t109, t110, t111, t112, t113, t114, t115, t116, t117, t118, t119, t120, t121, t122, t123, t124, t125, t126, t127, t128, t129, t130, t131, t132, t133, t134, t135, t136, t137, t138, t139, t140, t141, t142, t143, t144, t145, t146, t147, t148, t149, t150, t151, t152, t153, t154, t155, t156, t157, t158, t159, t160, t161, t162, t163, t164, t165, t166, t167, t168, t169, t170, t171, t172, t173, t174, t175, t176, t177, t178], defers := [] } (wr.alloc (.cells #[.int .u64 v, .slice a n cap] 50)).drew) :
    Code.wp Try.prog (Code.region 12 #[{ dst := some 54, op := Op.move (Operand.tmp 8), type := 47, pos := "law.go:69", after := #[], guard := none }, { dst := some 55, op := Op.nilCheck (Operand.tmp 54), type := 0, pos := "law.go:69", after := #[{ on := 0, ground := Ground.data }], guard := none }, { dst := some 56, op := Op.fieldAddr 50 (Operand.tmp 55) 0, type := 0, pos := "law.go:69", after := #[{ on := 1, ground := Ground.data }], guard := none }, { dst := some 57, op := Op.load 27 (Operand.tmp 56), type := 27, pos := "law.go:69", after := #[{ on := 2, ground := Ground.data }], guard := none }, { dst := some 58, op := Op.move (Operand.tmp 8), type := 47, pos := "law.go:69", after := #[], guard := none }, { dst := some 59, op := Op.nilCheck (Operand.tmp 58), type := 0, pos := "law.go:69", after := #[{ on := 4, ground := Ground.data }], guard := none }, { dst := some 60, op := Op.fieldAddr 50 (Operand.tmp 59) 1, type := 0, pos := "law.go:69", after := #[{ on := 5, ground := Ground.data }], guard := none }, { dst := some 61, op := Op.load 48 (Operand.tmp 60), type := 48, pos := "law.go:69", after := #[{ on := 6, ground := Ground.data }], guard := none }, { dst := some 62, op := Op.build 50 #[(0, Operand.tmp 57), (1, Operand.tmp 61)], type := 50, pos := "law.go:69", after := #[{ on := 3, ground := Ground.data }, { on := 7, ground := Ground.data }], guard := none }, { dst := some 63, op := Op.box 50 (Operand.tmp 62), type := 47, pos := "law.go:69", after := #[{ on := 8, ground := Ground.data }], guard := none }, { dst := some 12, op := Op.assign (Operand.tmp 63), type := 47, pos := "law.go:69", after := #[{ on := 9, ground := Ground.data }, { on := 0, ground := Ground.phase }, { on := 1, ground := Ground.phase }, { on := 2, ground := Ground.phase }, { on := 3, ground := Ground.phase }, { on := 4, ground := Ground.phase }, { on := 5, ground := Ground.phase }, { on := 6, ground := Ground.phase }, { on := 7, ground := Ground.phase }, { on := 8, ground := Ground.phase }, { on := 9, ground := Ground.phase }], guard := none }] true) Q { tmps := #[t0, t1, t2, t3, t4, t5, t6, t7, .pointer (some ⟨S + 1, 0, none⟩), t9, t10, t11, t12, t13, t14, t15, t16, t17, t18, t19, t20, t21, t22, t23, t24, t25, t26, t27, t28, t29, t30, t31, t32, t33, t34, t35, t36, t37, t38, t39, t40, t41, t42, t43, t44, t45, t46, t47, t48, t49, t50, t51, t52, t53, t54, t55, t56, t57, t58, t59, t60, t61, t62, t63, t64, t65, t66, t67, t68, t69, t70, t71, t72, t73, t74, t75, t76, t77, t78, t79, t80, t81, t82, t83, t84, t85, t86, t87, t88, t89, t90, t91, t92, t93, t94, t95, t96, t97, t98, t99, t100, t101, t102, t103, t104, t105, t106, t107, t108, t109, t110, t111, t112, t113, t114, t115, t116, t117, t118, t119, t120, t121, t122, t123, t124, t125, t126, t127, t128, t129, t130, t131, t132, t133, t134, t135, t136, t137, t138, t139, t140, t141, t142, t143, t144, t145, t146, t147, t148, t149, t150, t151, t152, t153, t154, t155, t156, t157, t158, t159, t160, t161, t162, t163, t164, t165, t166, t167, t168, t169, t170, t171, t172, t173, t174, t175, t176, t177, t178], defers := [] } wr := by
  have sS := lt_of_block cell
  have x0 : Below wr.heap.size wr wr.drew := (Below.refl _ _).drew
  have x1 : Below wr.heap.size wr (wr.alloc (.cells #[.int .u64 v, .slice a n cap] 50)).drew := ((Below.refl _ _).alloc (Nat.le_refl _) _).drew
  have KC : ∀ W, Below wr.heap.size wr W → W.cell? ⟨S + 1, 0, none⟩ = some (.int .u64 v) ∧ W.cell? ⟨S + 1, 1, none⟩ = some (.slice a n cap) := fun W hW => ⟨shr0 ((hW.block _ sS).trans cell), shr1 ((hW.block _ sS).trans cell)⟩
  have mx := mixed
  refine anyE_start (S := (fun v' => v'.cell? ⟨S + 1, 0, none⟩ = some (.int .u64 v) ∧ v'.cell? ⟨S + 1, 1, none⟩ = some (.slice a n cap))) (L := 10) (by kernel_rfl) ?_
  refine anyE_take (i := 0) (oi := { dst := some 54, op := Op.move (Operand.tmp 8), type := 47, pos := "law.go:69", after := #[], guard := none }) (v := ?_) rfl (by kernel_rfl) (by kernel_rfl) (by kernel_rfl) (by kernel_rfl) (fun c a w h => hQ c a _ _ w h) (Or.inl ⟨by rfl, ?_⟩) (KC _ x0) ?_
  rotate_left
  · (intro w hSw; (try dsimp only at hSw); go_simp; try with_reducible rfl)
  simp only [Act.put, List.setIfInBounds_toArray, List.set_cons_zero, List.set_cons_succ]
  refine anyE_take (i := 1) (oi := { dst := some 55, op := Op.nilCheck (Operand.tmp 54), type := 0, pos := "law.go:69", after := #[{ on := 0, ground := Ground.data }], guard := none }) (v := ?_) rfl (by kernel_rfl) (by kernel_rfl) (by kernel_rfl) (by kernel_rfl) (fun c a w h => hQ c a _ _ w h) (Or.inl ⟨by rfl, ?_⟩) (KC _ x0) ?_
  rotate_left
  · (intro w hSw; (try dsimp only at hSw); go_simp; try with_reducible rfl)
  simp only [Act.put, List.setIfInBounds_toArray, List.set_cons_zero, List.set_cons_succ]
  refine anyE_take (i := 2) (oi := { dst := some 56, op := Op.fieldAddr 50 (Operand.tmp 55) 0, type := 0, pos := "law.go:69", after := #[{ on := 1, ground := Ground.data }], guard := none }) (v := ?_) rfl (by kernel_rfl) (by kernel_rfl) (by kernel_rfl) (by kernel_rfl) (fun c a w h => hQ c a _ _ w h) (Or.inl ⟨by rfl, ?_⟩) (KC _ x0) ?_
  rotate_left
  · (intro w hSw; (try dsimp only at hSw); go_simp; try with_reducible rfl)
  simp only [Act.put, List.setIfInBounds_toArray, List.set_cons_zero, List.set_cons_succ]
  refine anyE_take (i := 3) (oi := { dst := some 57, op := Op.load 27 (Operand.tmp 56), type := 27, pos := "law.go:69", after := #[{ on := 2, ground := Ground.data }], guard := none }) (v := ?_) rfl (by kernel_rfl) (by kernel_rfl) (by kernel_rfl) (by kernel_rfl) (fun c a w h => hQ c a _ _ w h) (Or.inl ⟨by rfl, ?_⟩) (KC _ x0) ?_
  rotate_left
  · (intro w hSw; (try dsimp only at hSw); go_simp; try with_reducible rfl)
  simp only [Act.put, List.setIfInBounds_toArray, List.set_cons_zero, List.set_cons_succ]
  refine anyE_take (i := 4) (oi := { dst := some 58, op := Op.move (Operand.tmp 8), type := 47, pos := "law.go:69", after := #[], guard := none }) (v := ?_) rfl (by kernel_rfl) (by kernel_rfl) (by kernel_rfl) (by kernel_rfl) (fun c a w h => hQ c a _ _ w h) (Or.inl ⟨by rfl, ?_⟩) (KC _ x0) ?_
  rotate_left
  · (intro w hSw; (try dsimp only at hSw); go_simp; try with_reducible rfl)
  simp only [Act.put, List.setIfInBounds_toArray, List.set_cons_zero, List.set_cons_succ]
  refine anyE_take (i := 5) (oi := { dst := some 59, op := Op.nilCheck (Operand.tmp 58), type := 0, pos := "law.go:69", after := #[{ on := 4, ground := Ground.data }], guard := none }) (v := ?_) rfl (by kernel_rfl) (by kernel_rfl) (by kernel_rfl) (by kernel_rfl) (fun c a w h => hQ c a _ _ w h) (Or.inl ⟨by rfl, ?_⟩) (KC _ x0) ?_
  rotate_left
  · (intro w hSw; (try dsimp only at hSw); go_simp; try with_reducible rfl)
  simp only [Act.put, List.setIfInBounds_toArray, List.set_cons_zero, List.set_cons_succ]
  refine anyE_take (i := 6) (oi := { dst := some 60, op := Op.fieldAddr 50 (Operand.tmp 59) 1, type := 0, pos := "law.go:69", after := #[{ on := 5, ground := Ground.data }], guard := none }) (v := ?_) rfl (by kernel_rfl) (by kernel_rfl) (by kernel_rfl) (by kernel_rfl) (fun c a w h => hQ c a _ _ w h) (Or.inl ⟨by rfl, ?_⟩) (KC _ x0) ?_
  rotate_left
  · (intro w hSw; (try dsimp only at hSw); go_simp; try with_reducible rfl)
  simp only [Act.put, List.setIfInBounds_toArray, List.set_cons_zero, List.set_cons_succ]
  refine anyE_take (i := 7) (oi := { dst := some 61, op := Op.load 48 (Operand.tmp 60), type := 48, pos := "law.go:69", after := #[{ on := 6, ground := Ground.data }], guard := none }) (v := ?_) rfl (by kernel_rfl) (by kernel_rfl) (by kernel_rfl) (by kernel_rfl) (fun c a w h => hQ c a _ _ w h) (Or.inl ⟨by rfl, ?_⟩) (KC _ x0) ?_
  rotate_left
  · (intro w hSw; (try dsimp only at hSw); go_simp; try with_reducible rfl)
  simp only [Act.put, List.setIfInBounds_toArray, List.set_cons_zero, List.set_cons_succ]
  refine anyE_take (i := 8) (oi := { dst := some 62, op := Op.build 50 #[(0, Operand.tmp 57), (1, Operand.tmp 61)], type := 50, pos := "law.go:69", after := #[{ on := 3, ground := Ground.data }, { on := 7, ground := Ground.data }], guard := none }) (v := ?_) rfl (by kernel_rfl) (by kernel_rfl) (by kernel_rfl) (by kernel_rfl) (fun c a w h => hQ c a _ _ w h) (Or.inl ⟨by rfl, ?_⟩) (KC _ x0) ?_
  rotate_left
  · (intro w hSw; (try dsimp only at hSw); go_simp; try with_reducible rfl)
  simp only [Act.put, List.setIfInBounds_toArray, List.set_cons_zero, List.set_cons_succ]
  refine anyE_ready (rs := [9]) (by kernel_rfl) (by simp) ?_
  refine AllE.cons (o := { dst := some 63, op := Op.box 50 (Operand.tmp 62), type := 47, pos := "law.go:69", after := #[{ on := 8, ground := Ground.data }], guard := none }) rfl (fun Kt hKt => ?_) ?_
  · go_simp
    refine hKt.out _ _ (fun _ => KC _ x1) ?_
    clear hKt Kt
    try simp only [Act.put, List.setIfInBounds_toArray, List.set_cons_zero, List.set_cons_succ]
    refine anyE_ready (rs := [10]) (by kernel_rfl) (by simp) ?_
    refine AllE.cons (o := { dst := some 12, op := Op.assign (Operand.tmp 63), type := 47, pos := "law.go:69", after := #[{ on := 9, ground := Ground.data }, { on := 0, ground := Ground.phase }, { on := 1, ground := Ground.phase }, { on := 2, ground := Ground.phase }, { on := 3, ground := Ground.phase }, { on := 4, ground := Ground.phase }, { on := 5, ground := Ground.phase }, { on := 6, ground := Ground.phase }, { on := 7, ground := Ground.phase }, { on := 8, ground := Ground.phase }, { on := 9, ground := Ground.phase }], guard := none }) rfl (fun Kt hKt => ?_) ?_
    · go_simp
      refine hKt.out _ _ (fun h => absurd rfl h) ?_
      clear hKt Kt
      try simp only [Act.put, List.setIfInBounds_toArray, List.set_cons_zero, List.set_cons_succ]
      refine anyE_done (by kernel_rfl) ?_ _
      exact h _ _ _ _ _ _ _ _ _ _
    exact AllE.nil
  exact AllE.nil

set_option maxHeartbeats 4000000 in
set_option maxRecDepth 100000 in
theorem spl_reg24 {Q : Exit → Act → World → Prop} (hQ : ∀ c (a : Act) (d : Tmp) v w, Q (.panic c) (a.put (some d) v) w → Q (.panic c) a w) {t0 t1 t2 t3 t4 t5 t6 t9 t11 t12 t13 t14 t15 t16 t17 t18 t19 t20 t21 t22 t23 t24 t25 t26 t27 t28 t29 t30 t31 t32 t33 t34 t35 t36 t37 t38 t39 t40 t41 t42 t43 t44 t45 t46 t47 t48 t49 t50 t51 t52 t53 t54 t55 t56 t57 t58 t59 t60 t61 t62 t63 t64 t65 t66 t67 t68 t69 t70 t71 t72 t73 t74 t75 t76 t77 t78 t79 t80 t81 t82 t83 t84 t85 t86 t87 t88 t89 t90 t91 t92 t93 t94 t95 t96 t97 t98 t99 t100 t101 t102 t103 t104 t105 t106 t107 t108 t109 t110 t111 t112 t113 t114 t115 t116 t117 t118 t119 t120 t121 t122 t123 t124 t125 t126 t127 t128 t129 t130 t131 t132 t133 t134 t135 t136 t137 t138 t139 t140 t141 t142 t143 t144 t145 t146 t147 t148 t149 t150 t151 t152 t153 t154 t155 t156 t157 t158 t159 t160 t161 t162 t163 t164 t165 t166 t167 t168 t169 t170 t171 t172 t173 t174 t175 t176 t177 t178 : Value} {S B10 : Nat} {id : Int} {b : Bool} {J1 J2 : World → Prop} {wr : World}
    (k0 : wr.drew.cell? ⟨B10, 1, none⟩ = some (.int .i64 id)) (k1 : ∀ W, J1 W → W.cell? ⟨B10, 1, none⟩ = some (.int .i64 id)) (k2 : ∀ W, J2 W → W.cell? ⟨B10, 1, none⟩ = some (.int .i64 id))
    (C1 : Calls Try.prog 11 #[.pointer (some ⟨S, 0, none⟩), .int .i64 id] wr.drew fun r w' => r = .returned (.bool b) ∧ J1 w')
    (C2 : ∀ W, J1 W → Calls Try.prog 19 #[.pointer (some ⟨S + 1, 0, none⟩), .int .i64 id] W fun r w' => r = .returned (.bool b) ∧ J2 w')
    (h : ∀ z, J2 z → ∀ f100 f101 f102 f103 f104 f105 f106 f107 : Value, Q .normal { tmps := #[t0, t1, t2, t3, t4, t5, t6, .pointer (some ⟨S, 0, none⟩), .pointer (some ⟨S + 1, 0, none⟩), t9, .pointer (some ⟨B10, 0, none⟩), t11, t12, t13, t14, t15, t16, t17, t18, t19, t20, t21, t22, t23, t24, t25, t26, t27, t28, t29, t30, t31, t32, t33, t34, t35, t36, t37, t38, t39, t40, t41, t42, t43, t44, t45, t46, t47, t48, t49, t50, t51, t52, t53, t54, t55, t56, t57, t58, t59, t60, t61, t62, t63, t64, t65, t66, t67, t68, t69, t70, t71, t72, t73, t74, t75, t76, t77, t78, t79, t80, t81, t82, t83, t84, t85, t86, t87, t88, t89, t90, t91, t92, t93, t94, t95, t96, t97, t98, t99, f100, f101, f102, f103, f104, f105, f106, f107, .bool false, t109, t110, t111, t112, t113, t114, t115, t116, t117, t118, t119, t120, t121, t122, t123, t124, t125, t126, t127, t128, t129, t130, t131, t132, t133, t134, t135, t136, t137, t138, t139, t140, t141, t142, t143, t144, t145, t146, t147, t148, t149, t150, t151, t152, t153, t154, t155, t156, t157, t158, t159, t160, t161, t162, t163, t164, t165, t166, t167, t168, t169, t170, t171, t172, t173, t174, t175, t176, t177, t178], defers := [] } z) :
    Code.wp Try.prog (Code.region 24 #[{ dst := some 100, op := Op.move (Operand.tmp 7), type := 24, pos := "law.go:75", after := #[], guard := none }, { dst := some 101, op := Op.fieldAddr 52 (Operand.tmp 10) 1, type := 0, pos := "law.go:75", after := #[], guard := none }, { dst := some 102, op := Op.load 3 (Operand.tmp 101), type := 3, pos := "law.go:75", after := #[{ on := 1, ground := Ground.data }], guard := none }, { dst := some 103, op := Op.call { callee := Callee.value (Operand.func 11), args := #[Operand.tmp 100, Operand.tmp 102], argTypes := #[24, 3] }, type := 4, pos := "law.go:75", after := #[{ on := 0, ground := Ground.data }, { on := 2, ground := Ground.data }], guard := none }, { dst := some 104, op := Op.move (Operand.tmp 8), type := 47, pos := "law.go:75", after := #[], guard := none }, { dst := some 105, op := Op.fieldAddr 52 (Operand.tmp 10) 1, type := 0, pos := "law.go:75", after := #[], guard := none }, { dst := some 106, op := Op.load 3 (Operand.tmp 105), type := 3, pos := "law.go:75", after := #[{ on := 5, ground := Ground.data }], guard := none }, { dst := some 107, op := Op.call { callee := Callee.value (Operand.func 19), args := #[Operand.tmp 104, Operand.tmp 106], argTypes := #[47, 3] }, type := 4, pos := "law.go:75", after := #[{ on := 4, ground := Ground.data }, { on := 6, ground := Ground.data }, { on := 3, ground := Ground.chain }], guard := none }, { dst := some 108, op := Op.binOp BinOp.neq 4 (Operand.tmp 103) (Operand.tmp 107) 4, type := 4, pos := "law.go:75", after := #[{ on := 3, ground := Ground.data }, { on := 7, ground := Ground.data }], guard := none }] true) Q { tmps := #[t0, t1, t2, t3, t4, t5, t6, .pointer (some ⟨S, 0, none⟩), .pointer (some ⟨S + 1, 0, none⟩), t9, .pointer (some ⟨B10, 0, none⟩), t11, t12, t13, t14, t15, t16, t17, t18, t19, t20, t21, t22, t23, t24, t25, t26, t27, t28, t29, t30, t31, t32, t33, t34, t35, t36, t37, t38, t39, t40, t41, t42, t43, t44, t45, t46, t47, t48, t49, t50, t51, t52, t53, t54, t55, t56, t57, t58, t59, t60, t61, t62, t63, t64, t65, t66, t67, t68, t69, t70, t71, t72, t73, t74, t75, t76, t77, t78, t79, t80, t81, t82, t83, t84, t85, t86, t87, t88, t89, t90, t91, t92, t93, t94, t95, t96, t97, t98, t99, t100, t101, t102, t103, t104, t105, t106, t107, t108, t109, t110, t111, t112, t113, t114, t115, t116, t117, t118, t119, t120, t121, t122, t123, t124, t125, t126, t127, t128, t129, t130, t131, t132, t133, t134, t135, t136, t137, t138, t139, t140, t141, t142, t143, t144, t145, t146, t147, t148, t149, t150, t151, t152, t153, t154, t155, t156, t157, t158, t159, t160, t161, t162, t163, t164, t165, t166, t167, t168, t169, t170, t171, t172, t173, t174, t175, t176, t177, t178], defers := [] } wr := by
  have mx := mixed
  refine wp_region_held_drew (S := (fun v' => v'.cell? ⟨B10, 1, none⟩ = some (.int .i64 id))) (by kernel_rfl) (k0) (fun hHeld => ?_)
  refine wpAnyH_take (i := 0) (oi := { dst := some 100, op := Op.move (Operand.tmp 7), type := 24, pos := "law.go:75", after := #[], guard := none }) (v := ?_) rfl (by kernel_rfl) (by kernel_rfl) (by kernel_rfl) (fun c a w h => hQ c a _ _ w h) (Or.inl ⟨by rfl, ?_⟩) (by assumption) ?_
  rotate_left
  · (intro w hSw; (try dsimp only at hSw); go_simp; try with_reducible rfl)
  simp only [Act.put, List.setIfInBounds_toArray, List.set_cons_zero, List.set_cons_succ]
  refine wpAnyH_take (i := 1) (oi := { dst := some 101, op := Op.fieldAddr 52 (Operand.tmp 10) 1, type := 0, pos := "law.go:75", after := #[], guard := none }) (v := ?_) rfl (by kernel_rfl) (by kernel_rfl) (by kernel_rfl) (fun c a w h => hQ c a _ _ w h) (Or.inl ⟨by rfl, ?_⟩) (by assumption) ?_
  rotate_left
  · (intro w hSw; (try dsimp only at hSw); go_simp; try with_reducible rfl)
  simp only [Act.put, List.setIfInBounds_toArray, List.set_cons_zero, List.set_cons_succ]
  refine wpAnyH_take (i := 2) (oi := { dst := some 102, op := Op.load 3 (Operand.tmp 101), type := 3, pos := "law.go:75", after := #[{ on := 1, ground := Ground.data }], guard := none }) (v := ?_) rfl (by kernel_rfl) (by kernel_rfl) (by kernel_rfl) (fun c a w h => hQ c a _ _ w h) (Or.inl ⟨by rfl, ?_⟩) (by assumption) ?_
  rotate_left
  · (intro w hSw; (try dsimp only at hSw); go_simp; try with_reducible rfl)
  simp only [Act.put, List.setIfInBounds_toArray, List.set_cons_zero, List.set_cons_succ]
  refine wpAnyH_take (i := 4) (oi := { dst := some 104, op := Op.move (Operand.tmp 8), type := 47, pos := "law.go:75", after := #[], guard := none }) (v := ?_) rfl (by kernel_rfl) (by kernel_rfl) (by kernel_rfl) (fun c a w h => hQ c a _ _ w h) (Or.inl ⟨by rfl, ?_⟩) (by assumption) ?_
  rotate_left
  · (intro w hSw; (try dsimp only at hSw); go_simp; try with_reducible rfl)
  simp only [Act.put, List.setIfInBounds_toArray, List.set_cons_zero, List.set_cons_succ]
  refine wpAnyH_take (i := 5) (oi := { dst := some 105, op := Op.fieldAddr 52 (Operand.tmp 10) 1, type := 0, pos := "law.go:75", after := #[], guard := none }) (v := ?_) rfl (by kernel_rfl) (by kernel_rfl) (by kernel_rfl) (fun c a w h => hQ c a _ _ w h) (Or.inl ⟨by rfl, ?_⟩) (by assumption) ?_
  rotate_left
  · (intro w hSw; (try dsimp only at hSw); go_simp; try with_reducible rfl)
  simp only [Act.put, List.setIfInBounds_toArray, List.set_cons_zero, List.set_cons_succ]
  refine wpAnyH_take (i := 6) (oi := { dst := some 106, op := Op.load 3 (Operand.tmp 105), type := 3, pos := "law.go:75", after := #[{ on := 5, ground := Ground.data }], guard := none }) (v := ?_) rfl (by kernel_rfl) (by kernel_rfl) (by kernel_rfl) (fun c a w h => hQ c a _ _ w h) (Or.inl ⟨by rfl, ?_⟩) (by assumption) ?_
  rotate_left
  · (intro w hSw; (try dsimp only at hSw); go_simp; try with_reducible rfl)
  simp only [Act.put, List.setIfInBounds_toArray, List.set_cons_zero, List.set_cons_succ]
  refine wpAnyH_ready (rs := [3]) (by kernel_rfl) (by simp) ?_
  refine AllReadyH.cons (o := { dst := some 103, op := Op.call { callee := Callee.value (Operand.func 11), args := #[Operand.tmp 100, Operand.tmp 102], argTypes := #[24, 3] }, type := 4, pos := "law.go:75", after := #[{ on := 0, ground := Ground.data }, { on := 2, ground := Ground.data }], guard := none }) rfl (fun Kt hKt => ?_) AllReadyH.nil
  go_simp
  (with_reducible refine Calls.mono C1 ?_)
  rintro r w1 ⟨rfl, d1⟩
  go_wp2_with fail
  refine hKt.out _ _ (k1 _ d1) (fun hHeld => ?_)
  clear hKt Kt
  try simp only [Act.put, List.setIfInBounds_toArray, List.set_cons_zero, List.set_cons_succ]
  refine wpAnyH_ready (rs := [7]) (by kernel_rfl) (by simp) ?_
  refine AllReadyH.cons (o := { dst := some 107, op := Op.call { callee := Callee.value (Operand.func 19), args := #[Operand.tmp 104, Operand.tmp 106], argTypes := #[47, 3] }, type := 4, pos := "law.go:75", after := #[{ on := 4, ground := Ground.data }, { on := 6, ground := Ground.data }, { on := 3, ground := Ground.chain }], guard := none }) rfl (fun Kt hKt => ?_) AllReadyH.nil
  go_simp
  (with_reducible refine Calls.mono (C2 _ d1) ?_)
  rintro r w2 ⟨rfl, d2⟩
  go_wp2_with fail
  refine hKt.out _ _ (k2 _ d2) (fun hHeld => ?_)
  clear hKt Kt
  try simp only [Act.put, List.setIfInBounds_toArray, List.set_cons_zero, List.set_cons_succ]
  refine wpAnyH_take (i := 8) (oi := { dst := some 108, op := Op.binOp BinOp.neq 4 (Operand.tmp 103) (Operand.tmp 107) 4, type := 4, pos := "law.go:75", after := #[{ on := 3, ground := Ground.data }, { on := 7, ground := Ground.data }], guard := none }) (v := ?_) rfl (by kernel_rfl) (by kernel_rfl) (by kernel_rfl) (fun c a w h => hQ c a _ _ w h) (Or.inl ⟨by rfl, ?_⟩) (by assumption) ?_
  rotate_left
  · (intro w hSw; (try dsimp only at hSw); go_simp; try with_reducible rfl)
  simp only [Act.put, List.setIfInBounds_toArray, List.set_cons_zero, List.set_cons_succ]
  refine wpAnyH_done (by kernel_rfl) ?_ _
  exact h w2 d2 _ _ _ _ _ _ _ _
end Go.Proofs.Ytboccihcomaaoaa

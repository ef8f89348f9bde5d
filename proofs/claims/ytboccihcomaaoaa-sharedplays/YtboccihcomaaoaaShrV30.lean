/- The drawn region of SharedPlays that holds both against each other. -/
import Derived.Test.YtboccihcomaaoaaShrSA
namespace Go.Proofs.Ytboccihcomaaoaa
open Go.RowKit Go.Lib Go.Sort
set_option linter.unusedVariables false

set_option maxHeartbeats 8000000 in
set_option maxRecDepth 100000 in
theorem spl_reg30 {Q : Exit → Act → World → Prop} (hQ : ∀ c (a : Act) (d : Tmp) v w, Q (.panic c) (a.put (some d) v) w → Q (.panic c) a w) {t0 t1 t2 t3 t4 t5 t6 t9 t10 t13 t14 t15 t22 t23 t24 t25 t26 t27 t28 t29 t30 t31 t32 t33 t34 t35 t36 t37 t38 t39 t40 t41 t42 t43 t44 t45 t46 t47 t48 t49 t50 t51 t52 t53 t54 t55 t56 t57 t58 t59 t60 t61 t62 t63 t64 t65 t66 t67 t68 t69 t70 t71 t72 t73 t74 t75 t76 t77 t78 t79 t80 t81 t82 t83 t84 t85 t86 t87 t88 t89 t90 t91 t92 t93 t94 t95 t96 t97 t98 t99 t100 t101 t102 t103 t104 t105 t106 t107 t108 t109 t110 t111 t112 t113 t114 t115 t116 t117 t118 t119 t120 t121 t122 t123 t124 t125 t126 t127 t128 t129 t130 t131 t132 t133 t134 t135 t136 t137 t138 t139 t140 t141 t142 t143 t144 t145 t146 t147 t148 t149 t150 t151 t152 t153 t154 t155 t156 t157 t158 t159 t160 t161 t162 t163 t164 t165 t166 t167 t168 t169 t170 t171 t172 t173 t174 t175 t176 t177 t178 : Value} {S B11 B12 B17 B19 v0 n0 c0 v n T ca k K : Nat} {a0 pa : Option Addr} {ls : List (List Ent)} {D : List Ent} {x : Ent} {ok : Bool} {wr : World}
    (KC : ∀ W, Below wr.heap.size wr W → W.cell? ⟨B11, 0, none⟩ = some (.int .u64 v0) ∧ W.cell? ⟨B11, 1, none⟩ = some (.slice a0 n0 c0) ∧ W.cell? ⟨B17, 0, none⟩ = some (.int .u64 x.1) ∧ W.cell? ⟨B17, 1, none⟩ = some (.int .i64 x.2) ∧ W.cell? ⟨B19, 0, none⟩ = some (.int .u64 x.1) ∧ W.cell? ⟨B19, 1, none⟩ = some (.int .i64 x.2))
    (C1 : ∀ W, Below wr.heap.size wr W → Calls Try.prog 26 #[.agg #[.int .u64 v0, .slice a0 n0 c0], .pointer (some ⟨B12, 0, none⟩)] W fun r w' => r = .returned (.bool true) ∧ Below W.heap.size W w')
    (C2 : ∀ W, Below wr.heap.size wr W → Calls Try.prog 9 #[.pointer (some ⟨S, 0, none⟩)] W (SnapIs W v n ls))
    (C3 : ∀ W a c base, Below wr.heap.size wr W → Bls W base a n c ls → Calls Try.prog 26 #[.agg #[.int .u64 v, .slice a n c], .pointer (some ⟨S + 1, 0, none⟩)] W fun r w' => r = .returned (.bool true) ∧ Below W.heap.size W w')
    (C4 : ∀ W, Below wr.heap.size wr W → Calls Try.prog 12 #[.pointer (some ⟨S, 0, none⟩)] W (PivO W T D))
    (L5 : IsL wr pa ca D) (hT : D.length = T) (hT2 : T ≤ 100000)
    (C6 : ∀ W, Below wr.heap.size wr W → Calls Try.prog 14 #[.pointer (some ⟨S, 0, none⟩)] W fun r w' => r = .returned (.int .i64 T) ∧ Below W.heap.size W w')
    (C7 : ∀ W, Below wr.heap.size wr W → Calls Try.prog 27 #[.pointer (some ⟨S, 0, none⟩), .int .i64 (k : Int)] W (PivO W K (D.take K))) (hK : min k T = K)
    (h : ∀ z, Below wr.heap.size wr z → ∀ f130 f131 f132 f133 f134 f135 f136 f137 f138 f139 f140 f141 f142 f143 f144 f145 f146 f147 f148 f149 f150 f151 f152 f153 f154 f155 f156 f157 f158 f159 f160 f161 f162 f163 f164 f165 f166 f167 f168 f169 f170 f171 f172 f173 f174 f175 f176 : Value, Q .normal { tmps := #[t0, t1, t2, t3, t4, t5, t6, .pointer (some ⟨S, 0, none⟩), .pointer (some ⟨S + 1, 0, none⟩), t9, t10, .pointer (some ⟨B11, 0, none⟩), .pointer (some ⟨B12, 0, none⟩), t13, t14, t15, .slice pa T ca, .pointer (some ⟨B17, 0, none⟩), .bool ok, .pointer (some ⟨B19, 0, none⟩), .bool ok, .int .i64 (k : Int), t22, t23, t24, t25, t26, t27, t28, t29, t30, t31, t32, t33, t34, t35, t36, t37, t38, t39, t40, t41, t42, t43, t44, t45, t46, t47, t48, t49, t50, t51, t52, t53, t54, t55, t56, t57, t58, t59, t60, t61, t62, t63, t64, t65, t66, t67, t68, t69, t70, t71, t72, t73, t74, t75, t76, t77, t78, t79, t80, t81, t82, t83, t84, t85, t86, t87, t88, t89, t90, t91, t92, t93, t94, t95, t96, t97, t98, t99, t100, t101, t102, t103, t104, t105, t106, t107, t108, t109, t110, t111, t112, t113, t114, t115, t116, t117, t118, t119, t120, t121, t122, t123, t124, t125, t126, t127, t128, t129, f130, f131, f132, f133, f134, f135, f136, f137, f138, f139, f140, f141, f142, f143, f144, f145, f146, f147, f148, f149, f150, f151, f152, f153, f154, f155, f156, f157, f158, f159, f160, f161, f162, f163, f164, f165, f166, f167, f168, f169, f170, f171, f172, f173, f174, f175, f176, .bool false, t178], defers := [] } z) :
    Code.wp Try.prog (Code.region 30 #[{ dst := some 130, op := Op.load 30 (Operand.tmp 11), type := 30, pos := "law.go:92", after := #[], guard := none }, { dst := some 131, op := Op.move (Operand.tmp 12), type := 47, pos := "law.go:92", after := #[], guard := none }, { dst := some 132, op := Op.call { callee := Callee.value (Operand.func 26), args := #[Operand.tmp 130, Operand.tmp 131], argTypes := #[30, 47] }, type := 4, pos := "law.go:92", after := #[{ on := 0, ground := Ground.data }, { on := 1, ground := Ground.data }], guard := none }, { dst := some 133, op := Op.unOp UnOp.not 4 (Operand.tmp 132), type := 4, pos := "law.go:92", after := #[{ on := 2, ground := Ground.data }], guard := none }, { dst := some 134, op := Op.move (Operand.tmp 133), type := 4, pos := "law.go:92", after := #[{ on := 3, ground := Ground.data }, { on := 2, ground := Ground.chain }], guard := none }, { dst := some 135, op := Op.move (Operand.tmp 7), type := 24, pos := "law.go:92", after := #[{ on := 4, ground := Ground.guard }], guard := some (4, false) }, { dst := some 136, op := Op.call { callee := Callee.value (Operand.func 9), args := #[Operand.tmp 135], argTypes := #[24] }, type := 30, pos := "law.go:92", after := #[{ on := 5, ground := Ground.data }, { on := 4, ground := Ground.chain }, { on := 4, ground := Ground.guard }], guard := some (4, false) }, { dst := some 137, op := Op.move (Operand.tmp 8), type := 47, pos := "law.go:92", after := #[{ on := 4, ground := Ground.guard }], guard := some (4, false) }, { dst := some 138, op := Op.call { callee := Callee.value (Operand.func 26), args := #[Operand.tmp 136, Operand.tmp 137], argTypes := #[30, 47] }, type := 4, pos := "law.go:92", after := #[{ on := 6, ground := Ground.data }, { on := 7, ground := Ground.data }, { on := 6, ground := Ground.chain }, { on := 4, ground := Ground.guard }], guard := some (4, false) }, { dst := some 139, op := Op.unOp UnOp.not 4 (Operand.tmp 138), type := 4, pos := "law.go:92", after := #[{ on := 8, ground := Ground.data }, { on := 4, ground := Ground.guard }], guard := some (4, false) }, { dst := some 140, op := Op.pick (Operand.tmp 134) (Operand.const (Value.bool true)) (Operand.tmp 139), type := 4, pos := "law.go:92", after := #[{ on := 4, ground := Ground.data }, { on := 9, ground := Ground.data }], guard := none }, { dst := some 141, op := Op.move (Operand.tmp 140), type := 4, pos := "law.go:92", after := #[{ on := 10, ground := Ground.data }, { on := 8, ground := Ground.chain }], guard := none }, { dst := some 142, op := Op.move (Operand.tmp 7), type := 24, pos := "law.go:92", after := #[{ on := 11, ground := Ground.guard }], guard := some (11, false) }, { dst := some 143, op := Op.call { callee := Callee.value (Operand.func 12), args := #[Operand.tmp 142], argTypes := #[24] }, type := 32, pos := "law.go:92", after := #[{ on := 12, ground := Ground.data }, { on := 11, ground := Ground.chain }, { on := 11, ground := Ground.guard }], guard := some (11, false) }, { dst := some 144, op := Op.move (Operand.tmp 16), type := 32, pos := "law.go:92", after := #[{ on := 11, ground := Ground.guard }], guard := some (11, false) }, { dst := some 145, op := Op.call { callee := Callee.value (Operand.func 13), args := #[Operand.tmp 143, Operand.tmp 144], argTypes := #[32, 32] }, type := 4, pos := "law.go:92", after := #[{ on := 13, ground := Ground.data }, { on := 14, ground := Ground.data }, { on := 13, ground := Ground.chain }, { on := 11, ground := Ground.guard }], guard := some (11, false) }, { dst := some 146, op := Op.unOp UnOp.not 4 (Operand.tmp 145), type := 4, pos := "law.go:92", after := #[{ on := 15, ground := Ground.data }, { on := 11, ground := Ground.guard }], guard := some (11, false) }, { dst := some 147, op := Op.pick (Operand.tmp 141) (Operand.const (Value.bool true)) (Operand.tmp 146), type := 4, pos := "law.go:92", after := #[{ on := 11, ground := Ground.data }, { on := 16, ground := Ground.data }], guard := none }, { dst := some 148, op := Op.move (Operand.tmp 147), type := 4, pos := "law.go:92", after := #[{ on := 17, ground := Ground.data }, { on := 15, ground := Ground.chain }], guard := none }, { dst := some 149, op := Op.move (Operand.tmp 7), type := 24, pos := "law.go:92", after := #[{ on := 18, ground := Ground.guard }], guard := some (18, false) }, { dst := some 150, op := Op.call { callee := Callee.value (Operand.func 14), args := #[Operand.tmp 149], argTypes := #[24] }, type := 3, pos := "law.go:92", after := #[{ on := 19, ground := Ground.data }, { on := 18, ground := Ground.chain }, { on := 18, ground := Ground.guard }], guard := some (18, false) }, { dst := some 151, op := Op.move (Operand.tmp 16), type := 32, pos := "law.go:92", after := #[{ on := 18, ground := Ground.guard }], guard := some (18, false) }, { dst := some 152, op := Op.call { callee := Callee.builtin Builtin.len, args := #[Operand.tmp 151], argTypes := #[32] }, type := 3, pos := "law.go:92", after := #[{ on := 21, ground := Ground.data }, { on := 18, ground := Ground.guard }], guard := some (18, false) }, { dst := some 153, op := Op.binOp BinOp.neq 3 (Operand.tmp 150) (Operand.tmp 152) 3, type := 4, pos := "law.go:92", after := #[{ on := 20, ground := Ground.data }, { on := 22, ground := Ground.data }, { on := 18, ground := Ground.guard }], guard := some (18, false) }, { dst := some 154, op := Op.pick (Operand.tmp 148) (Operand.const (Value.bool true)) (Operand.tmp 153), type := 4, pos := "law.go:92", after := #[{ on := 18, ground := Ground.data }, { on := 23, ground := Ground.data }], guard := none }, { dst := some 155, op := Op.move (Operand.tmp 154), type := 4, pos := "law.go:92", after := #[{ on := 24, ground := Ground.data }, { on := 20, ground := Ground.chain }], guard := none }, { dst := some 156, op := Op.load 37 (Operand.tmp 17), type := 37, pos := "law.go:92", after := #[{ on := 25, ground := Ground.guard }], guard := some (25, false) }, { dst := some 157, op := Op.load 37 (Operand.tmp 19), type := 37, pos := "law.go:92", after := #[{ on := 25, ground := Ground.guard }], guard := some (25, false) }, { dst := some 158, op := Op.binOp BinOp.neq 37 (Operand.tmp 156) (Operand.tmp 157) 37, type := 4, pos := "law.go:92", after := #[{ on := 26, ground := Ground.data }, { on := 27, ground := Ground.data }, { on := 25, ground := Ground.guard }], guard := some (25, false) }, { dst := some 159, op := Op.pick (Operand.tmp 155) (Operand.const (Value.bool true)) (Operand.tmp 158), type := 4, pos := "law.go:92", after := #[{ on := 25, ground := Ground.data }, { on := 28, ground := Ground.data }], guard := none }, { dst := some 160, op := Op.move (Operand.tmp 159), type := 4, pos := "law.go:92", after := #[{ on := 29, ground := Ground.data }, { on := 25, ground := Ground.chain }], guard := none }, { dst := some 161, op := Op.move (Operand.tmp 18), type := 4, pos := "law.go:92", after := #[{ on := 30, ground := Ground.guard }], guard := some (30, false) }, { dst := some 162, op := Op.move (Operand.tmp 20), type := 4, pos := "law.go:92", after := #[{ on := 30, ground := Ground.guard }], guard := some (30, false) }, { dst := some 163, op := Op.binOp BinOp.neq 4 (Operand.tmp 161) (Operand.tmp 162) 4, type := 4, pos := "law.go:92", after := #[{ on := 31, ground := Ground.data }, { on := 32, ground := Ground.data }, { on := 30, ground := Ground.guard }], guard := some (30, false) }, { dst := some 164, op := Op.pick (Operand.tmp 160) (Operand.const (Value.bool true)) (Operand.tmp 163), type := 4, pos := "law.go:92", after := #[{ on := 30, ground := Ground.data }, { on := 33, ground := Ground.data }], guard := none }, { dst := some 165, op := Op.move (Operand.tmp 164), type := 4, pos := "law.go:92", after := #[{ on := 34, ground := Ground.data }, { on := 30, ground := Ground.chain }], guard := none }, { dst := some 166, op := Op.move (Operand.tmp 7), type := 24, pos := "law.go:92", after := #[{ on := 35, ground := Ground.guard }], guard := some (35, false) }, { dst := some 167, op := Op.move (Operand.tmp 21), type := 3, pos := "law.go:92", after := #[{ on := 35, ground := Ground.guard }], guard := some (35, false) }, { dst := some 168, op := Op.call { callee := Callee.value (Operand.func 27), args := #[Operand.tmp 166, Operand.tmp 167], argTypes := #[24, 3] }, type := 32, pos := "law.go:92", after := #[{ on := 36, ground := Ground.data }, { on := 37, ground := Ground.data }, { on := 35, ground := Ground.chain }, { on := 35, ground := Ground.guard }], guard := some (35, false) }, { dst := some 169, op := Op.move (Operand.tmp 16), type := 32, pos := "law.go:92", after := #[{ on := 35, ground := Ground.guard }], guard := some (35, false) }, { dst := some 170, op := Op.move (Operand.tmp 21), type := 3, pos := "law.go:92", after := #[{ on := 35, ground := Ground.guard }], guard := some (35, false) }, { dst := some 171, op := Op.move (Operand.tmp 16), type := 32, pos := "law.go:92", after := #[{ on := 35, ground := Ground.guard }], guard := some (35, false) }, { dst := some 172, op := Op.call { callee := Callee.builtin Builtin.len, args := #[Operand.tmp 171], argTypes := #[32] }, type := 3, pos := "law.go:92", after := #[{ on := 41, ground := Ground.data }, { on := 35, ground := Ground.guard }], guard := some (35, false) }, { dst := some 173, op := Op.call { callee := Callee.builtin Builtin.min, args := #[Operand.tmp 170, Operand.tmp 172], argTypes := #[3, 3] }, type := 3, pos := "law.go:92", after := #[{ on := 40, ground := Ground.data }, { on := 42, ground := Ground.data }, { on := 35, ground := Ground.guard }], guard := some (35, false) }, { dst := some 174, op := Op.slice 32 (Operand.tmp 169) none (some (Operand.tmp 173)) none, type := 32, pos := "law.go:92", after := #[{ on := 39, ground := Ground.data }, { on := 43, ground := Ground.data }, { on := 35, ground := Ground.guard }], guard := some (35, false) }, { dst := some 175, op := Op.call { callee := Callee.value (Operand.func 13), args := #[Operand.tmp 168, Operand.tmp 174], argTypes := #[32, 32] }, type := 4, pos := "law.go:92", after := #[{ on := 38, ground := Ground.data }, { on := 44, ground := Ground.data }, { on := 38, ground := Ground.chain }, { on := 35, ground := Ground.guard }], guard := some (35, false) }, { dst := some 176, op := Op.unOp UnOp.not 4 (Operand.tmp 175), type := 4, pos := "law.go:92", after := #[{ on := 45, ground := Ground.data }, { on := 35, ground := Ground.guard }], guard := some (35, false) }, { dst := some 177, op := Op.pick (Operand.tmp 165) (Operand.const (Value.bool true)) (Operand.tmp 176), type := 4, pos := "law.go:92", after := #[{ on := 35, ground := Ground.data }, { on := 46, ground := Ground.data }], guard := none }] true) Q { tmps := #[t0, t1, t2, t3, t4, t5, t6, .pointer (some ⟨S, 0, none⟩), .pointer (some ⟨S + 1, 0, none⟩), t9, t10, .pointer (some ⟨B11, 0, none⟩), .pointer (some ⟨B12, 0, none⟩), t13, t14, t15, .slice pa T ca, .pointer (some ⟨B17, 0, none⟩), .bool ok, .pointer (some ⟨B19, 0, none⟩), .bool ok, .int .i64 (k : Int), t22, t23, t24, t25, t26, t27, t28, t29, t30, t31, t32, t33, t34, t35, t36, t37, t38, t39, t40, t41, t42, t43, t44, t45, t46, t47, t48, t49, t50, t51, t52, t53, t54, t55, t56, t57, t58, t59, t60, t61, t62, t63, t64, t65, t66, t67, t68, t69, t70, t71, t72, t73, t74, t75, t76, t77, t78, t79, t80, t81, t82, t83, t84, t85, t86, t87, t88, t89, t90, t91, t92, t93, t94, t95, t96, t97, t98, t99, t100, t101, t102, t103, t104, t105, t106, t107, t108, t109, t110, t111, t112, t113, t114, t115, t116, t117, t118, t119, t120, t121, t122, t123, t124, t125, t126, t127, t128, t129, t130, t131, t132, t133, t134, t135, t136, t137, t138, t139, t140, t141, t142, t143, t144, t145, t146, t147, t148, t149, t150, t151, t152, t153, t154, t155, t156, t157, t158, t159, t160, t161, t162, t163, t164, t165, t166, t167, t168, t169, t170, t171, t172, t173, t174, t175, t176, t177, t178], defers := [] } wr := by
  have x0 : Below wr.heap.size wr wr.drew := (Below.refl _ _).drew
  have s5 : ∀ W p q, Below wr.heap.size wr W → IsL W p q D → Calls Try.prog 13 #[.slice p T q, .slice pa T ca] W fun r w' => r = .returned (.bool true) ∧ Below W.heap.size W w' := fun W p q hW hL => sameN (B := true) hL (L5.below hW) hT hT (decide_eq_true rfl)
  have hKT : K ≤ T := by omega
  have s8 : ∀ W p q, Below wr.heap.size wr W → IsL W p q (D.take K) → Calls Try.prog 13 #[.slice p K q, .slice pa K ca] W fun r w' => r = .returned (.bool true) ∧ Below W.heap.size W w' := fun W p q hW hL => sameN (B := true) hL ((L5.below hW).take K) (by rw [List.length_take]; omega) (by rw [List.length_take]; omega) (decide_eq_true rfl)
  have hcap : T ≤ ca := by have := L5.le; omega
  have m1 : min (k : Int) (T : Int) = (K : Int) := by omega
  have j0 : (0 : Int) ≤ (K : Int) := by omega
  have j1 : (K : Int) ≤ (ca : Int) := by omega
  have j2 : (T : Int) ≤ (ca : Int) := by omega
  have mx := mixed
  refine wp_region_held_drew (S := (fun v' => v'.cell? ⟨B11, 0, none⟩ = some (.int .u64 v0) ∧ v'.cell? ⟨B11, 1, none⟩ = some (.slice a0 n0 c0) ∧ v'.cell? ⟨B17, 0, none⟩ = some (.int .u64 x.1) ∧ v'.cell? ⟨B17, 1, none⟩ = some (.int .i64 x.2) ∧ v'.cell? ⟨B19, 0, none⟩ = some (.int .u64 x.1) ∧ v'.cell? ⟨B19, 1, none⟩ = some (.int .i64 x.2))) (by kernel_rfl) (KC _ x0) (fun hHeld => ?_)
  refine wpAnyH_take (i := 0) (oi := { dst := some 130, op := Op.load 30 (Operand.tmp 11), type := 30, pos := "law.go:92", after := #[], guard := none }) (v := ?_) rfl (by kernel_rfl) (by kernel_rfl) (by kernel_rfl) (fun c a w h => hQ c a _ _ w h) (Or.inl ⟨by rfl, ?_⟩) (by assumption) ?_
  rotate_left
  · (intro w hSw; (try dsimp only at hSw); go_simp; try with_reducible rfl)
  simp only [Act.put, List.setIfInBounds_toArray, List.set_cons_zero, List.set_cons_succ]
  refine wpAnyH_take (i := 1) (oi := { dst := some 131, op := Op.move (Operand.tmp 12), type := 47, pos := "law.go:92", after := #[], guard := none }) (v := ?_) rfl (by kernel_rfl) (by kernel_rfl) (by kernel_rfl) (fun c a w h => hQ c a _ _ w h) (Or.inl ⟨by rfl, ?_⟩) (by assumption) ?_
  rotate_left
  · (intro w hSw; (try dsimp only at hSw); go_simp; try with_reducible rfl)
  simp only [Act.put, List.setIfInBounds_toArray, List.set_cons_zero, List.set_cons_succ]
  refine wpAnyH_ready (rs := [2]) (by kernel_rfl) (by simp) ?_
  refine AllReadyH.cons (o := { dst := some 132, op := Op.call { callee := Callee.value (Operand.func 26), args := #[Operand.tmp 130, Operand.tmp 131], argTypes := #[30, 47] }, type := 4, pos := "law.go:92", after := #[{ on := 0, ground := Ground.data }, { on := 1, ground := Ground.data }], guard := none }) rfl (fun Kt hKt => ?_) AllReadyH.nil
  go_simp
  (with_reducible refine Calls.mono (C1 _ x0) ?_)
  rintro r w1 ⟨rfl, d1⟩
  have x1 : Below wr.heap.size wr w1 := x0.trans (d1.mono x0.size)
  go_wp2_with fail
  refine hKt.out _ _ (KC _ x1) (fun hHeld => ?_)
  clear hKt Kt
  try simp only [Act.put, List.setIfInBounds_toArray, List.set_cons_zero, List.set_cons_succ]
  refine wpAnyH_take (i := 3) (oi := { dst := some 133, op := Op.unOp UnOp.not 4 (Operand.tmp 132), type := 4, pos := "law.go:92", after := #[{ on := 2, ground := Ground.data }], guard := none }) (v := ?_) rfl (by kernel_rfl) (by kernel_rfl) (by kernel_rfl) (fun c a w h => hQ c a _ _ w h) (Or.inl ⟨by rfl, ?_⟩) (by assumption) ?_
  rotate_left
  · (intro w hSw; (try dsimp only at hSw); go_simp; try with_reducible rfl)
  simp only [Act.put, List.setIfInBounds_toArray, List.set_cons_zero, List.set_cons_succ]
  refine wpAnyH_take (i := 4) (oi := { dst := some 134, op := Op.move (Operand.tmp 133), type := 4, pos := "law.go:92", after := #[{ on := 3, ground := Ground.data }, { on := 2, ground := Ground.chain }], guard := none }) (v := ?_) rfl (by kernel_rfl) (by kernel_rfl) (by kernel_rfl) (fun c a w h => hQ c a _ _ w h) (Or.inl ⟨by rfl, ?_⟩) (by assumption) ?_
  rotate_left
  · (intro w hSw; (try dsimp only at hSw); go_simp; try with_reducible rfl)
  simp only [Act.put, List.setIfInBounds_toArray, List.set_cons_zero, List.set_cons_succ]
  refine wpAnyH_take (i := 5) (oi := { dst := some 135, op := Op.move (Operand.tmp 7), type := 24, pos := "law.go:92", after := #[{ on := 4, ground := Ground.guard }], guard := some (4, false) }) (v := ?_) rfl (by kernel_rfl) (by kernel_rfl) (by kernel_rfl) (fun c a w h => hQ c a _ _ w h) (Or.inl ⟨by rfl, ?_⟩) (by assumption) ?_
  rotate_left
  · (intro w hSw; (try dsimp only at hSw); go_simp; try with_reducible rfl)
  simp only [Act.put, List.setIfInBounds_toArray, List.set_cons_zero, List.set_cons_succ]
  refine wpAnyH_take (i := 7) (oi := { dst := some 137, op := Op.move (Operand.tmp 8), type := 47, pos := "law.go:92", after := #[{ on := 4, ground := Ground.guard }], guard := some (4, false) }) (v := ?_) rfl (by kernel_rfl) (by kernel_rfl) (by kernel_rfl) (fun c a w h => hQ c a _ _ w h) (Or.inl ⟨by rfl, ?_⟩) (by assumption) ?_
  rotate_left
  · (intro w hSw; (try dsimp only at hSw); go_simp; try with_reducible rfl)
  simp only [Act.put, List.setIfInBounds_toArray, List.set_cons_zero, List.set_cons_succ]
  refine wpAnyH_ready (rs := [6]) (by kernel_rfl) (by simp) ?_
  refine AllReadyH.cons (o := { dst := some 136, op := Op.call { callee := Callee.value (Operand.func 9), args := #[Operand.tmp 135], argTypes := #[24] }, type := 30, pos := "law.go:92", after := #[{ on := 5, ground := Ground.data }, { on := 4, ground := Ground.chain }, { on := 4, ground := Ground.guard }], guard := some (4, false) }) rfl (fun Kt hKt => ?_) AllReadyH.nil
  go_simp
  (with_reducible refine Calls.mono (C2 _ x1) ?_)
  rintro r w2 ⟨a2, c2, rfl, l2, d2⟩
  have x2 : Below wr.heap.size wr w2 := x1.trans (d2.mono x1.size)
  go_wp2_with fail
  refine hKt.out _ _ (KC _ x2) (fun hHeld => ?_)
  clear hKt Kt
  try simp only [Act.put, List.setIfInBounds_toArray, List.set_cons_zero, List.set_cons_succ]
  refine wpAnyH_ready (rs := [8]) (by kernel_rfl) (by simp) ?_
  refine AllReadyH.cons (o := { dst := some 138, op := Op.call { callee := Callee.value (Operand.func 26), args := #[Operand.tmp 136, Operand.tmp 137], argTypes := #[30, 47] }, type := 4, pos := "law.go:92", after := #[{ on := 6, ground := Ground.data }, { on := 7, ground := Ground.data }, { on := 6, ground := Ground.chain }, { on := 4, ground := Ground.guard }], guard := some (4, false) }) rfl (fun Kt hKt => ?_) AllReadyH.nil
  go_simp
  (with_reducible refine Calls.mono (C3 _ a2 c2 _ x2 l2) ?_)
  rintro r w3 ⟨rfl, d3⟩
  have x3 : Below wr.heap.size wr w3 := x2.trans (d3.mono x2.size)
  go_wp2_with fail
  refine hKt.out _ _ (KC _ x3) (fun hHeld => ?_)
  clear hKt Kt
  try simp only [Act.put, List.setIfInBounds_toArray, List.set_cons_zero, List.set_cons_succ]
  refine wpAnyH_take (i := 9) (oi := { dst := some 139, op := Op.unOp UnOp.not 4 (Operand.tmp 138), type := 4, pos := "law.go:92", after := #[{ on := 8, ground := Ground.data }, { on := 4, ground := Ground.guard }], guard := some (4, false) }) (v := ?_) rfl (by kernel_rfl) (by kernel_rfl) (by kernel_rfl) (fun c a w h => hQ c a _ _ w h) (Or.inl ⟨by rfl, ?_⟩) (by assumption) ?_
  rotate_left
  · (intro w hSw; (try dsimp only at hSw); go_simp; try with_reducible rfl)
  simp only [Act.put, List.setIfInBounds_toArray, List.set_cons_zero, List.set_cons_succ]
  refine wpAnyH_take (i := 10) (oi := { dst := some 140, op := Op.pick (Operand.tmp 134) (Operand.const (Value.bool true)) (Operand.tmp 139), type := 4, pos := "law.go:92", after := #[{ on := 4, ground := Ground.data }, { on := 9, ground := Ground.data }], guard := none }) (v := ?_) rfl (by kernel_rfl) (by kernel_rfl) (by kernel_rfl) (fun c a w h => hQ c a _ _ w h) (Or.inl ⟨by rfl, ?_⟩) (by assumption) ?_
  rotate_left
  · (intro w hSw; (try dsimp only at hSw); go_simp; try with_reducible rfl)
  simp only [Act.put, List.setIfInBounds_toArray, List.set_cons_zero, List.set_cons_succ]
  refine wpAnyH_take (i := 11) (oi := { dst := some 141, op := Op.move (Operand.tmp 140), type := 4, pos := "law.go:92", after := #[{ on := 10, ground := Ground.data }, { on := 8, ground := Ground.chain }], guard := none }) (v := ?_) rfl (by kernel_rfl) (by kernel_rfl) (by kernel_rfl) (fun c a w h => hQ c a _ _ w h) (Or.inl ⟨by rfl, ?_⟩) (by assumption) ?_
  rotate_left
  · (intro w hSw; (try dsimp only at hSw); go_simp; try with_reducible rfl)
  simp only [Act.put, List.setIfInBounds_toArray, List.set_cons_zero, List.set_cons_succ]
  refine wpAnyH_take (i := 12) (oi := { dst := some 142, op := Op.move (Operand.tmp 7), type := 24, pos := "law.go:92", after := #[{ on := 11, ground := Ground.guard }], guard := some (11, false) }) (v := ?_) rfl (by kernel_rfl) (by kernel_rfl) (by kernel_rfl) (fun c a w h => hQ c a _ _ w h) (Or.inl ⟨by rfl, ?_⟩) (by assumption) ?_
  rotate_left
  · (intro w hSw; (try dsimp only at hSw); go_simp; try with_reducible rfl)
  simp only [Act.put, List.setIfInBounds_toArray, List.set_cons_zero, List.set_cons_succ]
  refine wpAnyH_take (i := 14) (oi := { dst := some 144, op := Op.move (Operand.tmp 16), type := 32, pos := "law.go:92", after := #[{ on := 11, ground := Ground.guard }], guard := some (11, false) }) (v := ?_) rfl (by kernel_rfl) (by kernel_rfl) (by kernel_rfl) (fun c a w h => hQ c a _ _ w h) (Or.inl ⟨by rfl, ?_⟩) (by assumption) ?_
  rotate_left
  · (intro w hSw; (try dsimp only at hSw); go_simp; try with_reducible rfl)
  simp only [Act.put, List.setIfInBounds_toArray, List.set_cons_zero, List.set_cons_succ]
  refine wpAnyH_ready (rs := [13]) (by kernel_rfl) (by simp) ?_
  refine AllReadyH.cons (o := { dst := some 143, op := Op.call { callee := Callee.value (Operand.func 12), args := #[Operand.tmp 142], argTypes := #[24] }, type := 32, pos := "law.go:92", after := #[{ on := 12, ground := Ground.data }, { on := 11, ground := Ground.chain }, { on := 11, ground := Ground.guard }], guard := some (11, false) }) rfl (fun Kt hKt => ?_) AllReadyH.nil
  go_simp
  (with_reducible refine Calls.mono (C4 _ x3) ?_)
  rintro r w4 ⟨a4, c4, rfl, o4, d4⟩
  have x4 : Below wr.heap.size wr w4 := x3.trans (d4.mono x3.size)
  go_wp2_with fail
  refine hKt.out _ _ (KC _ x4) (fun hHeld => ?_)
  clear hKt Kt
  try simp only [Act.put, List.setIfInBounds_toArray, List.set_cons_zero, List.set_cons_succ]
  refine wpAnyH_ready (rs := [15]) (by kernel_rfl) (by simp) ?_
  refine AllReadyH.cons (o := { dst := some 145, op := Op.call { callee := Callee.value (Operand.func 13), args := #[Operand.tmp 143, Operand.tmp 144], argTypes := #[32, 32] }, type := 4, pos := "law.go:92", after := #[{ on := 13, ground := Ground.data }, { on := 14, ground := Ground.data }, { on := 13, ground := Ground.chain }, { on := 11, ground := Ground.guard }], guard := some (11, false) }) rfl (fun Kt hKt => ?_) AllReadyH.nil
  go_simp
  (with_reducible refine Calls.mono (s5 _ a4 c4 x4 o4.is) ?_)
  rintro r w5 ⟨rfl, d5⟩
  have x5 : Below wr.heap.size wr w5 := x4.trans (d5.mono x4.size)
  go_wp2_with fail
  refine hKt.out _ _ (KC _ x5) (fun hHeld => ?_)
  clear hKt Kt
  try simp only [Act.put, List.setIfInBounds_toArray, List.set_cons_zero, List.set_cons_succ]
  refine wpAnyH_take (i := 16) (oi := { dst := some 146, op := Op.unOp UnOp.not 4 (Operand.tmp 145), type := 4, pos := "law.go:92", after := #[{ on := 15, ground := Ground.data }, { on := 11, ground := Ground.guard }], guard := some (11, false) }) (v := ?_) rfl (by kernel_rfl) (by kernel_rfl) (by kernel_rfl) (fun c a w h => hQ c a _ _ w h) (Or.inl ⟨by rfl, ?_⟩) (by assumption) ?_
  rotate_left
  · (intro w hSw; (try dsimp only at hSw); go_simp; try with_reducible rfl)
  simp only [Act.put, List.setIfInBounds_toArray, List.set_cons_zero, List.set_cons_succ]
  refine wpAnyH_take (i := 17) (oi := { dst := some 147, op := Op.pick (Operand.tmp 141) (Operand.const (Value.bool true)) (Operand.tmp 146), type := 4, pos := "law.go:92", after := #[{ on := 11, ground := Ground.data }, { on := 16, ground := Ground.data }], guard := none }) (v := ?_) rfl (by kernel_rfl) (by kernel_rfl) (by kernel_rfl) (fun c a w h => hQ c a _ _ w h) (Or.inl ⟨by rfl, ?_⟩) (by assumption) ?_
  rotate_left
  · (intro w hSw; (try dsimp only at hSw); go_simp; try with_reducible rfl)
  simp only [Act.put, List.setIfInBounds_toArray, List.set_cons_zero, List.set_cons_succ]
  refine wpAnyH_take (i := 18) (oi := { dst := some 148, op := Op.move (Operand.tmp 147), type := 4, pos := "law.go:92", after := #[{ on := 17, ground := Ground.data }, { on := 15, ground := Ground.chain }], guard := none }) (v := ?_) rfl (by kernel_rfl) (by kernel_rfl) (by kernel_rfl) (fun c a w h => hQ c a _ _ w h) (Or.inl ⟨by rfl, ?_⟩) (by assumption) ?_
  rotate_left
  · (intro w hSw; (try dsimp only at hSw); go_simp; try with_reducible rfl)
  simp only [Act.put, List.setIfInBounds_toArray, List.set_cons_zero, List.set_cons_succ]
  refine wpAnyH_take (i := 19) (oi := { dst := some 149, op := Op.move (Operand.tmp 7), type := 24, pos := "law.go:92", after := #[{ on := 18, ground := Ground.guard }], guard := some (18, false) }) (v := ?_) rfl (by kernel_rfl) (by kernel_rfl) (by kernel_rfl) (fun c a w h => hQ c a _ _ w h) (Or.inl ⟨by rfl, ?_⟩) (by assumption) ?_
  rotate_left
  · (intro w hSw; (try dsimp only at hSw); go_simp; try with_reducible rfl)
  simp only [Act.put, List.setIfInBounds_toArray, List.set_cons_zero, List.set_cons_succ]
  refine wpAnyH_take (i := 21) (oi := { dst := some 151, op := Op.move (Operand.tmp 16), type := 32, pos := "law.go:92", after := #[{ on := 18, ground := Ground.guard }], guard := some (18, false) }) (v := ?_) rfl (by kernel_rfl) (by kernel_rfl) (by kernel_rfl) (fun c a w h => hQ c a _ _ w h) (Or.inl ⟨by rfl, ?_⟩) (by assumption) ?_
  rotate_left
  · (intro w hSw; (try dsimp only at hSw); go_simp; try with_reducible rfl)
  simp only [Act.put, List.setIfInBounds_toArray, List.set_cons_zero, List.set_cons_succ]
  refine wpAnyH_take (i := 22) (oi := { dst := some 152, op := Op.call { callee := Callee.builtin Builtin.len, args := #[Operand.tmp 151], argTypes := #[32] }, type := 3, pos := "law.go:92", after := #[{ on := 21, ground := Ground.data }, { on := 18, ground := Ground.guard }], guard := some (18, false) }) (v := ?_) rfl (by kernel_rfl) (by kernel_rfl) (by kernel_rfl) (fun c a w h => hQ c a _ _ w h) (Or.inl ⟨by rfl, ?_⟩) (by assumption) ?_
  rotate_left
  · (intro w hSw; (try dsimp only at hSw); go_simp; try with_reducible rfl)
  simp only [Act.put, List.setIfInBounds_toArray, List.set_cons_zero, List.set_cons_succ]
  refine wpAnyH_ready (rs := [20]) (by kernel_rfl) (by simp) ?_
  refine AllReadyH.cons (o := { dst := some 150, op := Op.call { callee := Callee.value (Operand.func 14), args := #[Operand.tmp 149], argTypes := #[24] }, type := 3, pos := "law.go:92", after := #[{ on := 19, ground := Ground.data }, { on := 18, ground := Ground.chain }, { on := 18, ground := Ground.guard }], guard := some (18, false) }) rfl (fun Kt hKt => ?_) AllReadyH.nil
  go_simp
  (with_reducible refine Calls.mono (C6 _ x5) ?_)
  rintro r w6 ⟨rfl, d6⟩
  have x6 : Below wr.heap.size wr w6 := x5.trans (d6.mono x5.size)
  go_wp2_with fail
  refine hKt.out _ _ (KC _ x6) (fun hHeld => ?_)
  clear hKt Kt
  try simp only [Act.put, List.setIfInBounds_toArray, List.set_cons_zero, List.set_cons_succ]
  refine wpAnyH_take (i := 23) (oi := { dst := some 153, op := Op.binOp BinOp.neq 3 (Operand.tmp 150) (Operand.tmp 152) 3, type := 4, pos := "law.go:92", after := #[{ on := 20, ground := Ground.data }, { on := 22, ground := Ground.data }, { on := 18, ground := Ground.guard }], guard := some (18, false) }) (v := ?_) rfl (by kernel_rfl) (by kernel_rfl) (by kernel_rfl) (fun c a w h => hQ c a _ _ w h) (Or.inl ⟨by rfl, ?_⟩) (by assumption) ?_
  rotate_left
  · (intro w hSw; (try dsimp only at hSw); go_simp; try with_reducible rfl)
  simp only [Act.put, List.setIfInBounds_toArray, List.set_cons_zero, List.set_cons_succ]
  refine wpAnyH_take (i := 24) (oi := { dst := some 154, op := Op.pick (Operand.tmp 148) (Operand.const (Value.bool true)) (Operand.tmp 153), type := 4, pos := "law.go:92", after := #[{ on := 18, ground := Ground.data }, { on := 23, ground := Ground.data }], guard := none }) (v := ?_) rfl (by kernel_rfl) (by kernel_rfl) (by kernel_rfl) (fun c a w h => hQ c a _ _ w h) (Or.inl ⟨by rfl, ?_⟩) (by assumption) ?_
  rotate_left
  · (intro w hSw; (try dsimp only at hSw); go_simp; try with_reducible rfl)
  simp only [Act.put, List.setIfInBounds_toArray, List.set_cons_zero, List.set_cons_succ]
  refine wpAnyH_take (i := 25) (oi := { dst := some 155, op := Op.move (Operand.tmp 154), type := 4, pos := "law.go:92", after := #[{ on := 24, ground := Ground.data }, { on := 20, ground := Ground.chain }], guard := none }) (v := ?_) rfl (by kernel_rfl) (by kernel_rfl) (by kernel_rfl) (fun c a w h => hQ c a _ _ w h) (Or.inl ⟨by rfl, ?_⟩) (by assumption) ?_
  rotate_left
  · (intro w hSw; (try dsimp only at hSw); go_simp; try with_reducible rfl)
  simp only [Act.put, List.setIfInBounds_toArray, List.set_cons_zero, List.set_cons_succ]
  refine wpAnyH_take (i := 26) (oi := { dst := some 156, op := Op.load 37 (Operand.tmp 17), type := 37, pos := "law.go:92", after := #[{ on := 25, ground := Ground.guard }], guard := some (25, false) }) (v := ?_) rfl (by kernel_rfl) (by kernel_rfl) (by kernel_rfl) (fun c a w h => hQ c a _ _ w h) (Or.inl ⟨by rfl, ?_⟩) (by assumption) ?_
  rotate_left
  · (intro w hSw; (try dsimp only at hSw); go_simp; try with_reducible rfl)
  simp only [Act.put, List.setIfInBounds_toArray, List.set_cons_zero, List.set_cons_succ]
  refine wpAnyH_take (i := 27) (oi := { dst := some 157, op := Op.load 37 (Operand.tmp 19), type := 37, pos := "law.go:92", after := #[{ on := 25, ground := Ground.guard }], guard := some (25, false) }) (v := ?_) rfl (by kernel_rfl) (by kernel_rfl) (by kernel_rfl) (fun c a w h => hQ c a _ _ w h) (Or.inl ⟨by rfl, ?_⟩) (by assumption) ?_
  rotate_left
  · (intro w hSw; (try dsimp only at hSw); go_simp; try with_reducible rfl)
  simp only [Act.put, List.setIfInBounds_toArray, List.set_cons_zero, List.set_cons_succ]
  refine wpAnyH_take (i := 28) (oi := { dst := some 158, op := Op.binOp BinOp.neq 37 (Operand.tmp 156) (Operand.tmp 157) 37, type := 4, pos := "law.go:92", after := #[{ on := 26, ground := Ground.data }, { on := 27, ground := Ground.data }, { on := 25, ground := Ground.guard }], guard := some (25, false) }) (v := ?_) rfl (by kernel_rfl) (by kernel_rfl) (by kernel_rfl) (fun c a w h => hQ c a _ _ w h) (Or.inl ⟨by rfl, ?_⟩) (by assumption) ?_
  rotate_left
  · (intro w hSw; (try dsimp only at hSw); go_simp; try with_reducible rfl)
  simp only [Act.put, List.setIfInBounds_toArray, List.set_cons_zero, List.set_cons_succ]
  refine wpAnyH_take (i := 29) (oi := { dst := some 159, op := Op.pick (Operand.tmp 155) (Operand.const (Value.bool true)) (Operand.tmp 158), type := 4, pos := "law.go:92", after := #[{ on := 25, ground := Ground.data }, { on := 28, ground := Ground.data }], guard := none }) (v := ?_) rfl (by kernel_rfl) (by kernel_rfl) (by kernel_rfl) (fun c a w h => hQ c a _ _ w h) (Or.inl ⟨by rfl, ?_⟩) (by assumption) ?_
  rotate_left
  · (intro w hSw; (try dsimp only at hSw); go_simp; try with_reducible rfl)
  simp only [Act.put, List.setIfInBounds_toArray, List.set_cons_zero, List.set_cons_succ]
  refine wpAnyH_take (i := 30) (oi := { dst := some 160, op := Op.move (Operand.tmp 159), type := 4, pos := "law.go:92", after := #[{ on := 29, ground := Ground.data }, { on := 25, ground := Ground.chain }], guard := none }) (v := ?_) rfl (by kernel_rfl) (by kernel_rfl) (by kernel_rfl) (fun c a w h => hQ c a _ _ w h) (Or.inl ⟨by rfl, ?_⟩) (by assumption) ?_
  rotate_left
  · (intro w hSw; (try dsimp only at hSw); go_simp; try with_reducible rfl)
  simp only [Act.put, List.setIfInBounds_toArray, List.set_cons_zero, List.set_cons_succ]
  refine wpAnyH_take (i := 31) (oi := { dst := some 161, op := Op.move (Operand.tmp 18), type := 4, pos := "law.go:92", after := #[{ on := 30, ground := Ground.guard }], guard := some (30, false) }) (v := ?_) rfl (by kernel_rfl) (by kernel_rfl) (by kernel_rfl) (fun c a w h => hQ c a _ _ w h) (Or.inl ⟨by rfl, ?_⟩) (by assumption) ?_
  rotate_left
  · (intro w hSw; (try dsimp only at hSw); go_simp; try with_reducible rfl)
  simp only [Act.put, List.setIfInBounds_toArray, List.set_cons_zero, List.set_cons_succ]
  refine wpAnyH_take (i := 32) (oi := { dst := some 162, op := Op.move (Operand.tmp 20), type := 4, pos := "law.go:92", after := #[{ on := 30, ground := Ground.guard }], guard := some (30, false) }) (v := ?_) rfl (by kernel_rfl) (by kernel_rfl) (by kernel_rfl) (fun c a w h => hQ c a _ _ w h) (Or.inl ⟨by rfl, ?_⟩) (by assumption) ?_
  rotate_left
  · (intro w hSw; (try dsimp only at hSw); go_simp; try with_reducible rfl)
  simp only [Act.put, List.setIfInBounds_toArray, List.set_cons_zero, List.set_cons_succ]
  refine wpAnyH_take (i := 33) (oi := { dst := some 163, op := Op.binOp BinOp.neq 4 (Operand.tmp 161) (Operand.tmp 162) 4, type := 4, pos := "law.go:92", after := #[{ on := 31, ground := Ground.data }, { on := 32, ground := Ground.data }, { on := 30, ground := Ground.guard }], guard := some (30, false) }) (v := ?_) rfl (by kernel_rfl) (by kernel_rfl) (by kernel_rfl) (fun c a w h => hQ c a _ _ w h) (Or.inl ⟨by rfl, ?_⟩) (by assumption) ?_
  rotate_left
  · (intro w hSw; (try dsimp only at hSw); go_simp; try with_reducible rfl)
  simp only [Act.put, List.setIfInBounds_toArray, List.set_cons_zero, List.set_cons_succ]
  refine wpAnyH_take (i := 34) (oi := { dst := some 164, op := Op.pick (Operand.tmp 160) (Operand.const (Value.bool true)) (Operand.tmp 163), type := 4, pos := "law.go:92", after := #[{ on := 30, ground := Ground.data }, { on := 33, ground := Ground.data }], guard := none }) (v := ?_) rfl (by kernel_rfl) (by kernel_rfl) (by kernel_rfl) (fun c a w h => hQ c a _ _ w h) (Or.inl ⟨by rfl, ?_⟩) (by assumption) ?_
  rotate_left
  · (intro w hSw; (try dsimp only at hSw); go_simp; try with_reducible rfl)
  simp only [Act.put, List.setIfInBounds_toArray, List.set_cons_zero, List.set_cons_succ]
  refine wpAnyH_take (i := 35) (oi := { dst := some 165, op := Op.move (Operand.tmp 164), type := 4, pos := "law.go:92", after := #[{ on := 34, ground := Ground.data }, { on := 30, ground := Ground.chain }], guard := none }) (v := ?_) rfl (by kernel_rfl) (by kernel_rfl) (by kernel_rfl) (fun c a w h => hQ c a _ _ w h) (Or.inl ⟨by rfl, ?_⟩) (by assumption) ?_
  rotate_left
  · (intro w hSw; (try dsimp only at hSw); go_simp; try with_reducible rfl)
  simp only [Act.put, List.setIfInBounds_toArray, List.set_cons_zero, List.set_cons_succ]
  refine wpAnyH_take (i := 36) (oi := { dst := some 166, op := Op.move (Operand.tmp 7), type := 24, pos := "law.go:92", after := #[{ on := 35, ground := Ground.guard }], guard := some (35, false) }) (v := ?_) rfl (by kernel_rfl) (by kernel_rfl) (by kernel_rfl) (fun c a w h => hQ c a _ _ w h) (Or.inl ⟨by rfl, ?_⟩) (by assumption) ?_
  rotate_left
  · (intro w hSw; (try dsimp only at hSw); go_simp; try with_reducible rfl)
  simp only [Act.put, List.setIfInBounds_toArray, List.set_cons_zero, List.set_cons_succ]
  refine wpAnyH_take (i := 37) (oi := { dst := some 167, op := Op.move (Operand.tmp 21), type := 3, pos := "law.go:92", after := #[{ on := 35, ground := Ground.guard }], guard := some (35, false) }) (v := ?_) rfl (by kernel_rfl) (by kernel_rfl) (by kernel_rfl) (fun c a w h => hQ c a _ _ w h) (Or.inl ⟨by rfl, ?_⟩) (by assumption) ?_
  rotate_left
  · (intro w hSw; (try dsimp only at hSw); go_simp; try with_reducible rfl)
  simp only [Act.put, List.setIfInBounds_toArray, List.set_cons_zero, List.set_cons_succ]
  refine wpAnyH_take (i := 39) (oi := { dst := some 169, op := Op.move (Operand.tmp 16), type := 32, pos := "law.go:92", after := #[{ on := 35, ground := Ground.guard }], guard := some (35, false) }) (v := ?_) rfl (by kernel_rfl) (by kernel_rfl) (by kernel_rfl) (fun c a w h => hQ c a _ _ w h) (Or.inl ⟨by rfl, ?_⟩) (by assumption) ?_
  rotate_left
  · (intro w hSw; (try dsimp only at hSw); go_simp; try with_reducible rfl)
  simp only [Act.put, List.setIfInBounds_toArray, List.set_cons_zero, List.set_cons_succ]
  refine wpAnyH_take (i := 40) (oi := { dst := some 170, op := Op.move (Operand.tmp 21), type := 3, pos := "law.go:92", after := #[{ on := 35, ground := Ground.guard }], guard := some (35, false) }) (v := ?_) rfl (by kernel_rfl) (by kernel_rfl) (by kernel_rfl) (fun c a w h => hQ c a _ _ w h) (Or.inl ⟨by rfl, ?_⟩) (by assumption) ?_
  rotate_left
  · (intro w hSw; (try dsimp only at hSw); go_simp; try with_reducible rfl)
  simp only [Act.put, List.setIfInBounds_toArray, List.set_cons_zero, List.set_cons_succ]
  refine wpAnyH_take (i := 41) (oi := { dst := some 171, op := Op.move (Operand.tmp 16), type := 32, pos := "law.go:92", after := #[{ on := 35, ground := Ground.guard }], guard := some (35, false) }) (v := ?_) rfl (by kernel_rfl) (by kernel_rfl) (by kernel_rfl) (fun c a w h => hQ c a _ _ w h) (Or.inl ⟨by rfl, ?_⟩) (by assumption) ?_
  rotate_left
  · (intro w hSw; (try dsimp only at hSw); go_simp; try with_reducible rfl)
  simp only [Act.put, List.setIfInBounds_toArray, List.set_cons_zero, List.set_cons_succ]
  refine wpAnyH_take (i := 42) (oi := { dst := some 172, op := Op.call { callee := Callee.builtin Builtin.len, args := #[Operand.tmp 171], argTypes := #[32] }, type := 3, pos := "law.go:92", after := #[{ on := 41, ground := Ground.data }, { on := 35, ground := Ground.guard }], guard := some (35, false) }) (v := ?_) rfl (by kernel_rfl) (by kernel_rfl) (by kernel_rfl) (fun c a w h => hQ c a _ _ w h) (Or.inl ⟨by rfl, ?_⟩) (by assumption) ?_
  rotate_left
  · (intro w hSw; (try dsimp only at hSw); go_simp; try with_reducible rfl)
  simp only [Act.put, List.setIfInBounds_toArray, List.set_cons_zero, List.set_cons_succ]
  refine wpAnyH_take (i := 43) (oi := { dst := some 173, op := Op.call { callee := Callee.builtin Builtin.min, args := #[Operand.tmp 170, Operand.tmp 172], argTypes := #[3, 3] }, type := 3, pos := "law.go:92", after := #[{ on := 40, ground := Ground.data }, { on := 42, ground := Ground.data }, { on := 35, ground := Ground.guard }], guard := some (35, false) }) (v := ?_) rfl (by kernel_rfl) (by kernel_rfl) (by kernel_rfl) (fun c a w h => hQ c a _ _ w h) (Or.inl ⟨by rfl, ?_⟩) (by assumption) ?_
  rotate_left
  · (intro w hSw; (try dsimp only at hSw); go_simp; try with_reducible rfl)
  simp only [Act.put, List.setIfInBounds_toArray, List.set_cons_zero, List.set_cons_succ]
  refine wpAnyH_take (i := 44) (oi := { dst := some 174, op := Op.slice 32 (Operand.tmp 169) none (some (Operand.tmp 173)) none, type := 32, pos := "law.go:92", after := #[{ on := 39, ground := Ground.data }, { on := 43, ground := Ground.data }, { on := 35, ground := Ground.guard }], guard := some (35, false) }) (v := ?_) rfl (by kernel_rfl) (by kernel_rfl) (by kernel_rfl) (fun c a w h => hQ c a _ _ w h) (Or.inl ⟨by rfl, ?_⟩) (by assumption) ?_
  rotate_left
  · (intro w hSw; (try dsimp only at hSw); go_simp; try with_reducible rfl)
  simp only [Act.put, List.setIfInBounds_toArray, List.set_cons_zero, List.set_cons_succ]
  refine wpAnyH_ready (rs := [38]) (by kernel_rfl) (by simp) ?_
  refine AllReadyH.cons (o := { dst := some 168, op := Op.call { callee := Callee.value (Operand.func 27), args := #[Operand.tmp 166, Operand.tmp 167], argTypes := #[24, 3] }, type := 32, pos := "law.go:92", after := #[{ on := 36, ground := Ground.data }, { on := 37, ground := Ground.data }, { on := 35, ground := Ground.chain }, { on := 35, ground := Ground.guard }], guard := some (35, false) }) rfl (fun Kt hKt => ?_) AllReadyH.nil
  go_simp
  (with_reducible refine Calls.mono (C7 _ x6) ?_)
  rintro r w7 ⟨a7, c7, rfl, o7, d7⟩
  have x7 : Below wr.heap.size wr w7 := x6.trans (d7.mono x6.size)
  go_wp2_with fail
  refine hKt.out _ _ (KC _ x7) (fun hHeld => ?_)
  clear hKt Kt
  try simp only [Act.put, List.setIfInBounds_toArray, List.set_cons_zero, List.set_cons_succ]
  refine wpAnyH_ready (rs := [45]) (by kernel_rfl) (by simp) ?_
  refine AllReadyH.cons (o := { dst := some 175, op := Op.call { callee := Callee.value (Operand.func 13), args := #[Operand.tmp 168, Operand.tmp 174], argTypes := #[32, 32] }, type := 4, pos := "law.go:92", after := #[{ on := 38, ground := Ground.data }, { on := 44, ground := Ground.data }, { on := 38, ground := Ground.chain }, { on := 35, ground := Ground.guard }], guard := some (35, false) }) rfl (fun Kt hKt => ?_) AllReadyH.nil
  go_simp
  (with_reducible refine Calls.mono (s8 _ a7 c7 x7 o7.is) ?_)
  rintro r w8 ⟨rfl, d8⟩
  have x8 : Below wr.heap.size wr w8 := x7.trans (d8.mono x7.size)
  go_wp2_with fail
  refine hKt.out _ _ (KC _ x8) (fun hHeld => ?_)
  clear hKt Kt
  try simp only [Act.put, List.setIfInBounds_toArray, List.set_cons_zero, List.set_cons_succ]
  refine wpAnyH_take (i := 46) (oi := { dst := some 176, op := Op.unOp UnOp.not 4 (Operand.tmp 175), type := 4, pos := "law.go:92", after := #[{ on := 45, ground := Ground.data }, { on := 35, ground := Ground.guard }], guard := some (35, false) }) (v := ?_) rfl (by kernel_rfl) (by kernel_rfl) (by kernel_rfl) (fun c a w h => hQ c a _ _ w h) (Or.inl ⟨by rfl, ?_⟩) (by assumption) ?_
  rotate_left
  · (intro w hSw; (try dsimp only at hSw); go_simp; try with_reducible rfl)
  simp only [Act.put, List.setIfInBounds_toArray, List.set_cons_zero, List.set_cons_succ]
  refine wpAnyH_take (i := 47) (oi := { dst := some 177, op := Op.pick (Operand.tmp 165) (Operand.const (Value.bool true)) (Operand.tmp 176), type := 4, pos := "law.go:92", after := #[{ on := 35, ground := Ground.data }, { on := 46, ground := Ground.data }], guard := none }) (v := ?_) rfl (by kernel_rfl) (by kernel_rfl) (by kernel_rfl) (fun c a w h => hQ c a _ _ w h) (Or.inl ⟨by rfl, ?_⟩) (by assumption) ?_
  rotate_left
  · (intro w hSw; (try dsimp only at hSw); go_simp; try with_reducible rfl)
  simp only [Act.put, List.setIfInBounds_toArray, List.set_cons_zero, List.set_cons_succ]
  refine wpAnyH_done (by kernel_rfl) ?_ _
  exact h w8 x8 _ _ _ _ _ _ _ _ _ _ _ _ _ _ _ _ _ _ _ _ _ _ _ _ _ _ _ _ _ _ _ _ _ _ _ _ _ _ _ _ _ _ _ _ _ _ _
end Go.Proofs.Ytboccihcomaaoaa

/- wheel's ring: put. -/
import Derived.Test.YtbopobgnmkhabaaDoorWhB
import Derived.Test.YtbopobgnmkhabaaDoorTmB
import Derived.Test.YtbopobgnmkhabaaDoorTmJ
import Derived.Test.YtbopobgnmkhabaaDoorAnyF
namespace Go.Proofs.YtbopobgnmkhabaaDoor
open Go.RowKit Go.Lib Go.Sort
set_option linter.unusedVariables false

/-- Nothing but blocks of X has turned. -/
structure Fr (X : Nat → Prop) (w w' : World) : Prop where
  os : w'.os = w.os
  tape : w'.tape = w.tape
  output : w'.output = w.output
  size : w.heap.size ≤ w'.heap.size
  block : ∀ k, k < w.heap.size → ¬ X k → w'.heap[k]? = w.heap[k]?
theorem Fr.refl (X : Nat → Prop) (w : World) : Fr X w w := ⟨rfl, rfl, rfl, Nat.le_refl _, fun _ _ _ => rfl⟩
theorem Fr.trans {X Y : Nat → Prop} {u v w : World} (h : Fr X u v) (k : Fr Y v w) (hY : ∀ j, Y j → X j ∨ u.heap.size ≤ j) : Fr X u w :=
  ⟨k.os.trans h.os, k.tape.trans h.tape, k.output.trans h.output, Nat.le_trans h.size k.size, fun j hj hx => (k.block j (Nat.lt_of_lt_of_le hj h.size) (fun hy => by rcases hY j hy with hy | hy; exact hx hy; omega)).trans (h.block j hj hx)⟩
theorem Fr.mono {X Y : Nat → Prop} {w w' : World} (h : Fr X w w') (hxy : ∀ j, X j → Y j) : Fr Y w w' := ⟨h.os, h.tape, h.output, h.size, fun j hj hy => h.block j hj (fun hx => hy (hxy j hx))⟩
theorem Fr.of_grown {row : Option Nat} {w w' : World} (h : w.grownBy w' row) : Fr (fun k => row = some k) w w' := ⟨h.os, h.tape, h.output, h.size, fun j hj hx => h.block j hj (fun e => hx e.symm)⟩
theorem Fr.below {X : Nat → Prop} {w w' : World} (h : Below w.heap.size w w') : Fr X w w' := ⟨h.os, h.tape, h.output, h.size, fun j hj _ => h.block j hj⟩
theorem Fr.toBelow {X : Nat → Prop} {w w' : World} (h : Fr X w w') {b : Nat} (hb : ∀ k, X k → b ≤ k) (hw : b ≤ w.heap.size) : Below b w w' := ⟨h.os, h.tape, h.output, h.size, fun j hj => h.block j (by omega) (fun hx => by have := hb j hx; omega)⟩
theorem Fr.setCell (X : Nat → Prop) (w : World) (B k : Nat) (v : Value) (hB : X B) : Fr X w (w.setCell ⟨B, k, none⟩ v) := ⟨rfl, rfl, rfl, by simp, fun j _ hj => heap_setCell_other _ _ j _ (fun e => hj (by rw [e]; exact hB))⟩
theorem Hd.fr {X : Nat → Prop} {w w' : World} {B : Nat} {hd : Nat → Value} (h : Hd w B hd) (f : Fr X w w') (hB : ¬ X B) : Hd w' B hd := h.of_block (f.block B h.lt hB)
theorem OwnF.fr {X : Nat → Prop} {w w' : World} {base : Nat} {v : Value} {d : List Ent} (h : OwnF w base v d) (f : Fr X w w') (hk : ∀ k, rowB v = some k → ¬ X k) : OwnF w' base v d := h.of_block fun k e => f.block k (h.rowLt e).2 (hk k e)
/-- A head is no row of timers. -/
theorem Hd.ne {w : World} {B base : Nat} {hd : Nat → Value} {v : Value} {d : List Ent} (h : Hd w B hd) (o : OwnF w base v d) : rowB v ≠ some B := fun e => by
  obtain ⟨cs, h1⟩ := o.rowT e
  obtain ⟨ds, h2⟩ := h.typ
  rw [h1] at h2
  simp only [Option.some.injEq, Obj.cells.injEq] at h2
  exact absurd h2.2.1 (by decide)

/-- An append whose run is known, at a step of a region that draws its order. -/
theorem step_app {ops : Array Oper} {o : Oper} {a : Act} {K : Act → World → Prop} {Q : Exit → Act → World → Prop} {E : Prop} (w : World) (hgd : o.guard = none) (s x : Operand) (t tn : TypeId)
    (ho : o.op = .call { callee := .builtin .append, args := #[s, x], argTypes := #[t, tn] }) (vs vx : Value) (hs : a.eval s = vs) (hx : a.eval x = vx)
    (v' : Value) (w' : World) (hr : (Builtin.append_ #[t, tn] o.type #[vs, vx]).run Tryd.prog w = .ok v' w') (h : K (a.put o.dst v') w') :
    if Region.wanted o (yielded ops a.tmps) = true then Oper.wp Tryd.prog o a w K Q else E := by
  have hw : Region.wanted o (yielded ops a.tmps) = true := by simp [Region.wanted, hgd]
  rw [if_pos hw]
  exact Lib.wp_append_run w s x t tn ho vs vx hs hx v' w' hr h

set_option maxHeartbeats 4000000 in
set_option maxRecDepth 100000 in
theorem rput_any (B R s base u : Nat) (hd : Nat → Value) (v : Value) (d : List Ent) (t : Ent) (w : World) (h : Hd w B hd) (hR : R + 65 ≤ 263) (hs : s < 64) (hu : hd R = .int .u64 u) (hub : u < B64) (hv : hd (R + 1 + s) = v) (o : OwnF w base v d) (hdl : d.length ≤ 100000) (hbase : base ≤ w.heap.size) :
    Calls Tryd.prog 32 #[.pointer (some ⟨B, R, none⟩), .int .i64 s, .agg #[.int .u64 t.1, .int .i64 t.2]] w fun e w' => e = .returned (.tuple #[]) ∧
      ∃ v', Hd w' B (hset (hset hd (R + 1 + s) v') R (.int .u64 ((u ||| 2 ^ s : Nat) : Int))) ∧ OwnF w' base v' (d ++ [t]) ∧ Fr (fun k => k = B ∨ rowB v = some k) w w' ∧ ∀ k, rowB v' = some k → rowB v = some k ∨ w.heap.size ≤ k := by
  obtain ⟨S, hS⟩ : ∃ S, w.heap.size = S := ⟨_, rfl⟩
  obtain ⟨u0, hu0⟩ : ∃ u0, w.alloc (.cells #[.int .u64 t.1, .int .i64 t.2] 33) = u0 := ⟨_, rfl⟩
  obtain ⟨W1, hW1⟩ : ∃ W1, (u0.alloc (.cells #[.int .u64 t.1, .int .i64 t.2] 33)).drew = W1 := ⟨_, rfl⟩
  have b0 : Below w.heap.size w u0 := by rw [← hu0]; exact (Below.refl _ _).alloc (Nat.le_refl _) _
  have s0 : u0.heap.size = S + 1 := by rw [← hu0, ← hS]; simp
  have b1 : Below u0.heap.size u0 W1 := by rw [← hW1]; exact ((Below.refl _ _).alloc (Nat.le_refl _) _).drew
  have b01 : Below w.heap.size w W1 := b0.trans (b1.mono b0.size)
  have L1 : IsL W1 (some ⟨S + 1, 0, none⟩) 1 [t] := by
    rw [← hW1, ← s0]
    exact (IsL.one u0 t).below ((Below.refl _ _).drew)
  obtain ⟨v2, w2, hr, o2, g2, n2⟩ := appF (o.below b01) L1 (by simp; omega) (by have := b01.size; omega) 28
  obtain ⟨pa, pc, e2, _, _, _, _⟩ := o2.isL
  obtain ⟨pn, hpn⟩ : ∃ n, (d ++ [t]).length = n := ⟨_, rfl⟩
  rw [hpn] at e2
  subst e2
  have hBl := h.lt
  have h1 : Hd W1 B hd := h.of_block (b01.block B hBl)
  have h2 : Hd w2 B hd := h1.of_block (g2.block B h1.lt (fun e => Hd.ne h o e.symm))
  have h3 := h2.set (R + 1 + s) (.slice pa pn pc)
  obtain ⟨w3, hw3⟩ : ∃ w3, w2.setCell ⟨B, R + 1 + s, none⟩ (.slice pa pn pc) = w3 := ⟨_, rfl⟩
  rw [hw3] at h3
  have h4 := h3.set R (.int .u64 ((u ||| 2 ^ s : Nat) : Int))
  obtain ⟨va, vc, e0, _, hvc, hvm, _⟩ := o.isL
  obtain ⟨vn, hvn⟩ : ∃ n, d.length = n := ⟨_, rfl⟩
  rw [hvn] at e0
  have hv' : hd (R + 1 + s) = .slice va vn vc := hv.trans e0
  have K0 : Aside (u0.drew.cell? ⟨B, R + 1 + s, none⟩ = some (.slice va vn vc) ∧ u0.drew.cell? ⟨S, 0, none⟩ = some (.int .u64 t.1) ∧ u0.drew.cell? ⟨S, 1, none⟩ = some (.int .i64 t.2)) := by
    refine ⟨?_, ?_, ?_⟩
    · have := (h.of_block (b0.block B hBl)).cell (k := R + 1 + s) (by omega); rw [hv'] at this; exact this
    · show u0.cell? _ = _; rw [← hu0, ← hS]; simp [go_sem]
    · show u0.cell? _ = _; rw [← hu0, ← hS]; simp [go_sem]
  have K1 : Aside (W1.cell? ⟨B, R + 1 + s, none⟩ = some (.slice va vn vc) ∧ W1.cell? ⟨S, 0, none⟩ = some (.int .u64 t.1) ∧ W1.cell? ⟨S, 1, none⟩ = some (.int .i64 t.2)) := by
    refine ⟨?_, ?_, ?_⟩
    · have := h1.cell (k := R + 1 + s) (by omega); rw [hv'] at this; exact this
    · exact (b1.cell (p := ⟨S, 0, none⟩) (show S < u0.heap.size by omega)).trans K0.out.2.1
    · exact (b1.cell (p := ⟨S, 1, none⟩) (show S < u0.heap.size by omega)).trans K0.out.2.2
  have hne : ∀ k, S ≤ k → rowB v ≠ some k := fun k hk e => by have := (o.rowLt e).2; omega
  have K2 : Aside (w2.cell? ⟨B, R + 1 + s, none⟩ = some (.slice va vn vc) ∧ w2.cell? ⟨S, 0, none⟩ = some (.int .u64 t.1) ∧ w2.cell? ⟨S, 1, none⟩ = some (.int .i64 t.2)) := by
    refine ⟨?_, g2.cell K1.out.2.1 (fun e => hne S (Nat.le_refl _) e.symm), g2.cell K1.out.2.2 (fun e => hne S (Nat.le_refl _) e.symm)⟩
    have := h2.cell (k := R + 1 + s) (by omega); rw [hv'] at this; exact this
  have K3 : Aside (w3.drew.cell? ⟨B, R, none⟩ = some (.int .u64 u)) := by
    have := h3.cell (k := R) (by omega)
    rw [hset_ne _ _ (by omega), hu] at this
    exact this
  have f4 : Fr (fun k => k = B ∨ rowB v = some k) w (w3.setCell ⟨B, R, none⟩ (.int .u64 ((u ||| 2 ^ s : Nat) : Int))) := by
    have x1 : Fr (fun k => k = B ∨ rowB v = some k) w w2 := ((Fr.below b01).trans (Fr.of_grown g2) (fun j hj => .inl (.inr hj)))
    have x2 : Fr (fun k => k = B ∨ rowB v = some k) w2 w3 := by rw [← hw3]; exact Fr.setCell _ _ _ _ _ (.inl rfl)
    exact (x1.trans x2 (fun j hj => .inl hj)).trans (Fr.setCell _ _ _ _ _ (.inl rfl)) (fun j hj => .inl hj)
  have o4 : OwnF (w3.setCell ⟨B, R, none⟩ (.int .u64 ((u ||| 2 ^ s : Nat) : Int))) base (.slice pa pn pc) (d ++ [t]) := by
    have hk : ∀ k, rowB (.slice pa pn pc) = some k → k ≠ B := fun k hk e => by
      rcases n2 k hk with hk | hk
      · exact Hd.ne h o (by rw [hk, e])
      · have := h1.lt; omega
    refine o2.of_block fun k e => ?_
    rw [heap_setCell_other _ _ _ _ (hk k e), ← hw3, heap_setCell_other _ _ _ _ (hk k e)]
  have FIN : Aside (∃ v', Hd (w3.setCell ⟨B, R, none⟩ (.int .u64 ((u ||| 2 ^ s : Nat) : Int))).drew B (hset (hset hd (R + 1 + s) v') R (.int .u64 ((u ||| 2 ^ s : Nat) : Int))) ∧ OwnF (w3.setCell ⟨B, R, none⟩ (.int .u64 ((u ||| 2 ^ s : Nat) : Int))).drew base v' (d ++ [t]) ∧ Fr (fun k => k = B ∨ rowB v = some k) w (w3.setCell ⟨B, R, none⟩ (.int .u64 ((u ||| 2 ^ s : Nat) : Int))).drew ∧ ∀ k, rowB v' = some k → rowB v = some k ∨ w.heap.size ≤ k) :=
    ⟨.slice pa pn pc, h4.of_block rfl, o4.of_block (fun _ _ => rfl), f4.trans (Fr.below (X := fun _ => False) ((Below.refl _ _).drew)) (fun j hj => hj.elim), fun k hk => by
      rcases n2 k hk with x | x
      · exact .inl x
      · have := b01.size; exact .inr (by omega)⟩
  have HU0 : Hid _ := hu0
  have HW1 : Hid _ := hW1
  have HW3 : Hid _ := hw3
  have c1 : w2.frozen? ⟨B, R + 1 + s, none⟩ = false := h2.frozen _
  have c2 : w3.frozen? ⟨B, R, none⟩ = false := h3.frozen _
  have z0 : w3.cell? ⟨B, R, none⟩ = some (.int .u64 u) := K3.out
  have z2 : w2.cell? ⟨B, R + 1 + s, none⟩ = some (.slice va vn vc) := K2.out.1
  have bB : B < w2.heap.size := h2.lt
  have hs1 : (s : Int) < 64 := by omega
  have x1 : IntKind.u64.wrap (2 ^ s) = ((2 ^ s : Nat) : Int) := by
    have : 2 ^ s < 2 ^ 64 := Nat.pow_lt_pow_right (by omega) hs
    have e : (2 ^ s : Int) = ((2 ^ s : Nat) : Int) := by push_cast; rfl
    rw [e, IntKind.wrap_u64]
    generalize 2 ^ s = P at this
    omega
  have x2 : bits BinOp.or IntKind.u64 (u : Int) ((2 ^ s : Nat) : Int) = ((u ||| 2 ^ s : Nat) : Int) := bits_or_u64_nat u (2 ^ s) hub (Nat.pow_lt_pow_right (by omega) hs)
  have X1 : Hid _ := x1
  have X2 : Hid _ := x2
  have mx := mixed
  rw [e0] at hr
  simp only [List.length_singleton] at hr
  clear h o b0 b1 b01 L1 o2 g2 n2 h1 h2 h3 h4 f4 o4 hne hu0 hW1 hw3 hu hv hv' e0 hub x1 x2
  go_enter Tryd.func32, Tryd.ntmps32
  go_upto_region 1 with fail
  rw [HU0.out]
  refine anyE_start (S := (fun v0 => v0.cell? ⟨B, R + 1 + s, none⟩ = some (.slice va vn vc) ∧ v0.cell? ⟨S, 0, none⟩ = some (.int .u64 t.1) ∧ v0.cell? ⟨S, 1, none⟩ = some (.int .i64 t.2))) (L := 14) (by kernel_rfl) ?_
  refine anyE_take (i := 0) (oi := { dst := some 6, op := Op.move (Operand.tmp 0), type := 82, pos := "wheel.go:75", after := #[], guard := none }) (v := ?_) rfl (by kernel_rfl)  (by kernel_rfl) (by kernel_rfl) (by kernel_rfl) (fun _ _ _ h => h) (Or.inl ⟨by rfl, ?_⟩) (K0.out) ?_
  rotate_left
  · (intro w hSw; (try dsimp only at hSw); go_simp; try with_reducible rfl)
  simp only [Act.put, List.setIfInBounds_toArray, List.set_cons_zero, List.set_cons_succ]
  refine anyE_take (i := 1) (oi := { dst := some 7, op := Op.move (Operand.tmp 1), type := 3, pos := "wheel.go:75", after := #[], guard := none }) (v := ?_) rfl (by kernel_rfl)  (by kernel_rfl) (by kernel_rfl) (by kernel_rfl) (fun _ _ _ h => h) (Or.inl ⟨by rfl, ?_⟩) (K0.out) ?_
  rotate_left
  · (intro w hSw; (try dsimp only at hSw); go_simp; try with_reducible rfl)
  simp only [Act.put, List.setIfInBounds_toArray, List.set_cons_zero, List.set_cons_succ]
  refine anyE_take (i := 2) (oi := { dst := some 8, op := Op.move (Operand.tmp 0), type := 82, pos := "wheel.go:75", after := #[], guard := none }) (v := ?_) rfl (by kernel_rfl)  (by kernel_rfl) (by kernel_rfl) (by kernel_rfl) (fun _ _ _ h => h) (Or.inl ⟨by rfl, ?_⟩) (K0.out) ?_
  rotate_left
  · (intro w hSw; (try dsimp only at hSw); go_simp; try with_reducible rfl)
  simp only [Act.put, List.setIfInBounds_toArray, List.set_cons_zero, List.set_cons_succ]
  refine anyE_take (i := 3) (oi := { dst := some 9, op := Op.move (Operand.tmp 1), type := 3, pos := "wheel.go:75", after := #[], guard := none }) (v := ?_) rfl (by kernel_rfl)  (by kernel_rfl) (by kernel_rfl) (by kernel_rfl) (fun _ _ _ h => h) (Or.inl ⟨by rfl, ?_⟩) (K0.out) ?_
  rotate_left
  · (intro w hSw; (try dsimp only at hSw); go_simp; try with_reducible rfl)
  simp only [Act.put, List.setIfInBounds_toArray, List.set_cons_zero, List.set_cons_succ]
  refine anyE_take (i := 4) (oi := { dst := some 10, op := Op.nilCheck (Operand.tmp 8), type := 0, pos := "wheel.go:75", after := #[{ on := 2, ground := Ground.data }], guard := none }) (v := ?_) rfl (by kernel_rfl)  (by kernel_rfl) (by kernel_rfl) (by kernel_rfl) (fun _ _ _ h => h) (Or.inl ⟨by rfl, ?_⟩) (K0.out) ?_
  rotate_left
  · (intro w hSw; (try dsimp only at hSw); go_simp; try with_reducible rfl)
  simp only [Act.put, List.setIfInBounds_toArray, List.set_cons_zero, List.set_cons_succ]
  refine anyE_take (i := 5) (oi := { dst := some 11, op := Op.fieldAddr 58 (Operand.tmp 10) 1, type := 0, pos := "wheel.go:75", after := #[{ on := 4, ground := Ground.data }], guard := none }) (v := ?_) rfl (by kernel_rfl)  (by kernel_rfl) (by kernel_rfl) (by kernel_rfl) (fun _ _ _ h => h) (Or.inl ⟨by rfl, ?_⟩) (K0.out) ?_
  rotate_left
  · (intro w hSw; (try dsimp only at hSw); go_simp; try with_reducible rfl)
  simp only [Act.put, List.setIfInBounds_toArray, List.set_cons_zero, List.set_cons_succ]
  refine anyE_take (i := 6) (oi := { dst := some 12, op := Op.indexAddr 56 (Operand.tmp 11) (Operand.tmp 9), type := 0, pos := "wheel.go:75", after := #[{ on := 5, ground := Ground.data }, { on := 3, ground := Ground.data }], guard := none }) (v := ?_) rfl (by kernel_rfl)  (by kernel_rfl) (by kernel_rfl) (by kernel_rfl) (fun _ _ _ h => h) (Or.inl ⟨by rfl, ?_⟩) (K0.out) ?_
  rotate_left
  · (intro w hSw; (try dsimp only at hSw); go_simp; try with_reducible rfl)
  simp only [Act.put, List.setIfInBounds_toArray, List.set_cons_zero, List.set_cons_succ]
  refine anyE_take (i := 7) (oi := { dst := some 13, op := Op.load 28 (Operand.tmp 12), type := 28, pos := "wheel.go:75", after := #[{ on := 6, ground := Ground.data }], guard := none }) (v := ?_) rfl (by kernel_rfl)  (by kernel_rfl) (by kernel_rfl) (by kernel_rfl) (fun _ _ _ h => h) (Or.inl ⟨by rfl, ?_⟩) (K0.out) ?_
  rotate_left
  · (intro w hSw; (try dsimp only at hSw); go_simp; try with_reducible rfl)
  simp only [Act.put, List.setIfInBounds_toArray, List.set_cons_zero, List.set_cons_succ]
  refine anyE_take (i := 8) (oi := { dst := some 14, op := Op.load 33 (Operand.tmp 5), type := 33, pos := "wheel.go:75", after := #[], guard := none }) (v := ?_) rfl (by kernel_rfl)  (by kernel_rfl) (by kernel_rfl) (by kernel_rfl) (fun _ _ _ h => h) (Or.inl ⟨by rfl, ?_⟩) (K0.out) ?_
  rotate_left
  · (intro w hSw; (try dsimp only at hSw); go_simp; try with_reducible rfl)
  simp only [Act.put, List.setIfInBounds_toArray, List.set_cons_zero, List.set_cons_succ]
  refine anyF_take [12, 13] (i := 11) (oi := { dst := some 17, op := Op.nilCheck (Operand.tmp 6), type := 0, pos := "wheel.go:75", after := #[{ on := 0, ground := Ground.data }], guard := none }) (v := ?_) rfl (by kernel_rfl) (by kernel_rfl)  (by kernel_rfl) (by kernel_rfl) (by kernel_rfl) (fun _ _ _ h => h) (Or.inl ⟨by rfl, ?_⟩) (K0.out) ?_
  rotate_left
  · (intro w hSw; (try dsimp only at hSw); go_simp; try with_reducible rfl)
  simp only [Act.put, List.setIfInBounds_toArray, List.set_cons_zero, List.set_cons_succ]
  refine anyF_take [13] (i := 12) (oi := { dst := some 18, op := Op.fieldAddr 58 (Operand.tmp 17) 1, type := 0, pos := "wheel.go:75", after := #[{ on := 11, ground := Ground.data }], guard := none }) (v := ?_) rfl (by kernel_rfl) (by kernel_rfl)  (by kernel_rfl) (by kernel_rfl) (by kernel_rfl) (fun _ _ _ h => h) (Or.inl ⟨by rfl, ?_⟩) (K0.out) ?_
  rotate_left
  · (intro w hSw; (try dsimp only at hSw); go_simp; try with_reducible rfl)
  simp only [Act.put, List.setIfInBounds_toArray, List.set_cons_zero, List.set_cons_succ]
  refine anyE_ready (rs := [9]) (by kernel_rfl) (by simp) ?_
  refine AllE.cons (o := { dst := some 15, op := Op.buildSlice 28 1 #[(0, Operand.tmp 14)], type := 28, pos := "wheel.go:75", after := #[{ on := 8, ground := Ground.data }], guard := none }) rfl (fun Kt hKt => ?_) ?_
  · go_simp
    rw [HW1.out]
    refine hKt.out _ _ (fun _ => K1.out) ?_
    clear hKt Kt
    try simp only [Act.put, List.setIfInBounds_toArray, List.set_cons_zero, List.set_cons_succ]
    refine anyE_ready (rs := [10]) (by kernel_rfl) (by simp) ?_
    refine AllE.cons (o := { dst := some 16, op := Op.call { callee := Callee.builtin Builtin.append, args := #[Operand.tmp 13, Operand.tmp 15], argTypes := #[28, 28] }, type := 28, pos := "wheel.go:75", after := #[{ on := 7, ground := Ground.data }, { on := 9, ground := Ground.data }], guard := none }) rfl (fun Kt hKt => ?_) ?_
    · refine step_app W1 (by rfl) _ _ 28 28 (by rfl) (.slice va vn vc) (.slice (some ⟨S + 1, 0, none⟩) 1 1) (by rfl) (by rfl) (.slice pa pn pc) w2 hr ?_
      refine hKt.out _ _ (fun _ => K2.out) ?_
      clear hKt Kt
      try simp only [Act.put, List.setIfInBounds_toArray, List.set_cons_zero, List.set_cons_succ]
      refine anyE_take (i := 13) (oi := { dst := some 19, op := Op.indexAddr 56 (Operand.tmp 18) (Operand.tmp 7), type := 0, pos := "wheel.go:75", after := #[{ on := 12, ground := Ground.data }, { on := 1, ground := Ground.data }, { on := 0, ground := Ground.phase }, { on := 1, ground := Ground.phase }, { on := 2, ground := Ground.phase }, { on := 3, ground := Ground.phase }, { on := 4, ground := Ground.phase }, { on := 5, ground := Ground.phase }, { on := 6, ground := Ground.phase }, { on := 7, ground := Ground.phase }, { on := 8, ground := Ground.phase }, { on := 9, ground := Ground.phase }, { on := 10, ground := Ground.phase }], guard := none }) (v := ?_) rfl (by kernel_rfl)  (by kernel_rfl) (by kernel_rfl) (by kernel_rfl) (fun _ _ _ h => h) (Or.inl ⟨by rfl, ?_⟩) (K2.out) ?_
      rotate_left
      · (intro w hSw; (try dsimp only at hSw); go_simp; try with_reducible rfl)
      simp only [Act.put, List.setIfInBounds_toArray, List.set_cons_zero, List.set_cons_succ]
      refine anyE_ready (rs := [14]) (by kernel_rfl) (by simp) ?_
      refine AllE.cons (o := { dst := none, op := Op.store 28 (Operand.tmp 19) (Operand.tmp 16), type := 0, pos := "wheel.go:75", after := #[{ on := 13, ground := Ground.data }, { on := 10, ground := Ground.data }, { on := 10, ground := Ground.chain }, { on := 0, ground := Ground.phase }, { on := 1, ground := Ground.phase }, { on := 2, ground := Ground.phase }, { on := 3, ground := Ground.phase }, { on := 4, ground := Ground.phase }, { on := 5, ground := Ground.phase }, { on := 6, ground := Ground.phase }, { on := 7, ground := Ground.phase }, { on := 8, ground := Ground.phase }, { on := 9, ground := Ground.phase }, { on := 10, ground := Ground.phase }], guard := none }) rfl (fun Kt hKt => ?_) ?_
      · go_simp
        rw [HW3.out]
        refine hKt.out _ _ (fun h => absurd rfl h) ?_
        clear hKt Kt
        try simp only [Act.put, List.setIfInBounds_toArray, List.set_cons_zero, List.set_cons_succ]
        refine anyE_done (by kernel_rfl) ?_ _
        go_wp2_with fail
        refine anyE_start (S := (fun v0 => v0.cell? ⟨B, R, none⟩ = some (.int .u64 u))) (L := 9) (by kernel_rfl) ?_
        refine anyE_take (i := 0) (oi := { dst := some 20, op := Op.move (Operand.tmp 0), type := 82, pos := "wheel.go:76", after := #[], guard := none }) (v := ?_) rfl (by kernel_rfl)  (by kernel_rfl) (by kernel_rfl) (by kernel_rfl) (fun _ _ _ h => h) (Or.inl ⟨by rfl, ?_⟩) (K3.out) ?_
        rotate_left
        · (intro w hSw; (try dsimp only at hSw); go_simp; try with_reducible rfl)
        simp only [Act.put, List.setIfInBounds_toArray, List.set_cons_zero, List.set_cons_succ]
        refine anyE_take (i := 1) (oi := { dst := some 21, op := Op.nilCheck (Operand.tmp 20), type := 0, pos := "wheel.go:76", after := #[{ on := 0, ground := Ground.data }], guard := none }) (v := ?_) rfl (by kernel_rfl)  (by kernel_rfl) (by kernel_rfl) (by kernel_rfl) (fun _ _ _ h => h) (Or.inl ⟨by rfl, ?_⟩) (K3.out) ?_
        rotate_left
        · (intro w hSw; (try dsimp only at hSw); go_simp; try with_reducible rfl)
        simp only [Act.put, List.setIfInBounds_toArray, List.set_cons_zero, List.set_cons_succ]
        refine anyE_take (i := 2) (oi := { dst := some 22, op := Op.fieldAddr 58 (Operand.tmp 21) 0, type := 0, pos := "wheel.go:76", after := #[{ on := 1, ground := Ground.data }], guard := none }) (v := ?_) rfl (by kernel_rfl)  (by kernel_rfl) (by kernel_rfl) (by kernel_rfl) (fun _ _ _ h => h) (Or.inl ⟨by rfl, ?_⟩) (K3.out) ?_
        rotate_left
        · (intro w hSw; (try dsimp only at hSw); go_simp; try with_reducible rfl)
        simp only [Act.put, List.setIfInBounds_toArray, List.set_cons_zero, List.set_cons_succ]
        refine anyE_take (i := 3) (oi := { dst := some 23, op := Op.load 25 (Operand.tmp 22), type := 25, pos := "wheel.go:76", after := #[{ on := 2, ground := Ground.data }], guard := none }) (v := ?_) rfl (by kernel_rfl)  (by kernel_rfl) (by kernel_rfl) (by kernel_rfl) (fun _ _ _ h => h) (Or.inl ⟨by rfl, ?_⟩) (K3.out) ?_
        rotate_left
        · (intro w hSw; (try dsimp only at hSw); go_simp; try with_reducible rfl)
        simp only [Act.put, List.setIfInBounds_toArray, List.set_cons_zero, List.set_cons_succ]
        refine anyE_take (i := 4) (oi := { dst := some 24, op := Op.move (Operand.tmp 1), type := 3, pos := "wheel.go:76", after := #[], guard := none }) (v := ?_) rfl (by kernel_rfl)  (by kernel_rfl) (by kernel_rfl) (by kernel_rfl) (fun _ _ _ h => h) (Or.inl ⟨by rfl, ?_⟩) (K3.out) ?_
        rotate_left
        · (intro w hSw; (try dsimp only at hSw); go_simp; try with_reducible rfl)
        simp only [Act.put, List.setIfInBounds_toArray, List.set_cons_zero, List.set_cons_succ]
        refine anyE_take (i := 5) (oi := { dst := some 25, op := Op.binOp BinOp.shl 25 (Operand.const (Value.int IntKind.u64 1)) (Operand.tmp 24) 3, type := 25, pos := "wheel.go:76", after := #[{ on := 4, ground := Ground.data }], guard := none }) (v := ?_) rfl (by kernel_rfl)  (by kernel_rfl) (by kernel_rfl) (by kernel_rfl) (fun _ _ _ h => h) (Or.inl ⟨by rfl, ?_⟩) (K3.out) ?_
        rotate_left
        · (intro w hSw; (try dsimp only at hSw); go_simp; try with_reducible rfl)
        simp only [Act.put, List.setIfInBounds_toArray, List.set_cons_zero, List.set_cons_succ]
        refine anyE_take (i := 6) (oi := { dst := some 26, op := Op.binOp BinOp.or 25 (Operand.tmp 23) (Operand.tmp 25) 25, type := 25, pos := "wheel.go:76", after := #[{ on := 3, ground := Ground.data }, { on := 5, ground := Ground.data }], guard := none }) (v := ?_) rfl (by kernel_rfl)  (by kernel_rfl) (by kernel_rfl) (by kernel_rfl) (fun _ _ _ h => h) (Or.inl ⟨by rfl, ?_⟩) (K3.out) ?_
        rotate_left
        · (intro w hSw; (try dsimp only at hSw); go_simp; try with_reducible rfl)
        simp only [Act.put, List.setIfInBounds_toArray, List.set_cons_zero, List.set_cons_succ]
        refine anyF_take [8] (i := 7) (oi := { dst := some 27, op := Op.nilCheck (Operand.tmp 20), type := 0, pos := "wheel.go:76", after := #[{ on := 0, ground := Ground.data }, { on := 0, ground := Ground.phase }, { on := 1, ground := Ground.phase }, { on := 2, ground := Ground.phase }, { on := 3, ground := Ground.phase }, { on := 4, ground := Ground.phase }, { on := 5, ground := Ground.phase }, { on := 6, ground := Ground.phase }], guard := none }) (v := ?_) rfl (by kernel_rfl) (by kernel_rfl)  (by kernel_rfl) (by kernel_rfl) (by kernel_rfl) (fun _ _ _ h => h) (Or.inl ⟨by rfl, ?_⟩) (K3.out) ?_
        rotate_left
        · (intro w hSw; (try dsimp only at hSw); go_simp; try with_reducible rfl)
        simp only [Act.put, List.setIfInBounds_toArray, List.set_cons_zero, List.set_cons_succ]
        refine anyE_take (i := 8) (oi := { dst := some 28, op := Op.fieldAddr 58 (Operand.tmp 27) 0, type := 0, pos := "wheel.go:76", after := #[{ on := 7, ground := Ground.data }, { on := 0, ground := Ground.phase }, { on := 1, ground := Ground.phase }, { on := 2, ground := Ground.phase }, { on := 3, ground := Ground.phase }, { on := 4, ground := Ground.phase }, { on := 5, ground := Ground.phase }, { on := 6, ground := Ground.phase }], guard := none }) (v := ?_) rfl (by kernel_rfl)  (by kernel_rfl) (by kernel_rfl) (by kernel_rfl) (fun _ _ _ h => h) (Or.inl ⟨by rfl, ?_⟩) (K3.out) ?_
        rotate_left
        · (intro w hSw; (try dsimp only at hSw); go_simp; try with_reducible rfl)
        simp only [Act.put, List.setIfInBounds_toArray, List.set_cons_zero, List.set_cons_succ]
        refine anyE_ready (rs := [9]) (by kernel_rfl) (by simp) ?_
        refine AllE.cons (o := { dst := none, op := Op.store 25 (Operand.tmp 28) (Operand.tmp 26), type := 0, pos := "wheel.go:76", after := #[{ on := 8, ground := Ground.data }, { on := 6, ground := Ground.data }, { on := 0, ground := Ground.phase }, { on := 1, ground := Ground.phase }, { on := 2, ground := Ground.phase }, { on := 3, ground := Ground.phase }, { on := 4, ground := Ground.phase }, { on := 5, ground := Ground.phase }, { on := 6, ground := Ground.phase }], guard := none }) rfl (fun Kt hKt => ?_) ?_
        · go_simp
          refine hKt.out _ _ (fun h => absurd rfl h) ?_
          clear hKt Kt
          try simp only [Act.put, List.setIfInBounds_toArray, List.set_cons_zero, List.set_cons_succ]
          refine anyE_done (by kernel_rfl) ?_ _
          rw [X1.out, X2.out]
          go_wp2
          go_end0
          exact ⟨rfl, FIN.out⟩
        exact AllE.nil
      exact AllE.nil
    exact AllE.nil
  exact AllE.nil
end Go.Proofs.YtbopobgnmkhabaaDoor

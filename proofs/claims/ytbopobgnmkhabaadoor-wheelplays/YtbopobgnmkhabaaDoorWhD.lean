/- wheel's ring: drop. -/
import Derived.Test.YtbopobgnmkhabaaDoorWhC
import Derived.Test.YtbopobgnmkhabaaDoorWhN
namespace Go.Proofs.YtbopobgnmkhabaaDoor
open Go.RowKit Go.Lib Go.Sort
set_option linter.unusedVariables false

theorem Hd.congr {w : World} {B : Nat} {hd he : Nat → Value} (h : Hd w B hd) (e : ∀ k, k < 263 → hd k = he k) : Hd w B he := by
  obtain ⟨cs, h1, h2, h3⟩ := h
  exact ⟨cs, h1, h2, fun k hk => by rw [h3 k hk, e k hk]⟩
def nilV : Value := .slice none 0 0
/-- What drop leaves of a mask. -/
def dropU (u s : Nat) (d : List Ent) : Nat := if d = [] then clr u (2 ^ s) else u
def DropIs (w : World) (B R s base u : Nat) (hd : Nat → Value) (v : Value) (d : List Ent) (w' : World) : Prop :=
  ∃ v', Hd w' B (hset (hset hd (R + 1 + s) v') R (.int .u64 ((dropU u s d : Nat) : Int))) ∧ OwnF w' base v' d ∧ Fr (fun k => k = B ∨ rowB v = some k) w w' ∧ ∀ k, rowB v' = some k → rowB v = some k
set_option maxHeartbeats 4000000 in
set_option maxRecDepth 100000 in
theorem rdrop_any (B R s base u : Nat) (hd : Nat → Value) (v : Value) (d : List Ent) (t : Ent) (w : World) (h : Hd w B hd) (hR : R + 65 ≤ 263) (hs : s < 64) (hu : hd R = .int .u64 u) (hub : u < B64) (hv : hd (R + 1 + s) = v) (o : OwnF w base v d) (hdn : d.Nodup) (ht : t ∈ d) :
    Calls Tryd.prog 43 #[.pointer (some ⟨B, R, none⟩), .int .i64 s, .agg #[.int .u64 t.1, .int .i64 t.2]] w fun e w' => e = .returned (.tuple #[]) ∧ DropIs w B R s base u hd v (d.erase t) w' := by
  obtain ⟨S, hS⟩ : ∃ S, w.heap.size = S := ⟨_, rfl⟩
  obtain ⟨u0, hu0⟩ : ∃ u0, w.alloc (.cells #[.int .u64 t.1, .int .i64 t.2] 33) = u0 := ⟨_, rfl⟩
  have b0 : Below w.heap.size w u0 := by rw [← hu0]; exact (Below.refl _ _).alloc (Nat.le_refl _) _
  have b0d : Below w.heap.size w u0.drew := b0.drew
  have hBl := h.lt
  have h0 : Hd u0.drew B hd := h.of_block (b0d.block B hBl)
  have wo := without_any v base d t u0.drew (o.below b0d) hdn ht
  obtain ⟨va, vc, e0, -, hvc, hvm, -⟩ := o.isL
  obtain ⟨vn, hvn⟩ : ∃ n, d.length = n := ⟨_, rfl⟩
  rw [hvn] at e0
  have hv' : hd (R + 1 + s) = .slice va vn vc := hv.trans e0
  have K0 : Aside (u0.drew.cell? ⟨B, R + 1 + s, none⟩ = some (.slice va vn vc) ∧ u0.drew.cell? ⟨S, 0, none⟩ = some (.int .u64 t.1) ∧ u0.drew.cell? ⟨S, 1, none⟩ = some (.int .i64 t.2)) := by
    refine ⟨?_, ?_, ?_⟩
    · have := h0.cell (k := R + 1 + s) (by omega); rw [hv'] at this; exact this
    · show u0.cell? _ = _; rw [← hu0, ← hS]; simp [go_sem]
    · show u0.cell? _ = _; rw [← hu0, ← hS]; simp [go_sem]
  have hne : ∀ k, S ≤ k → rowB v ≠ some k := fun k hk e => by have := (o.rowLt e).2; omega
  have hnB := Hd.ne h o
  have W0 : Aside (Calls Tryd.prog 44 #[.slice va vn vc, .agg #[.int .u64 t.1, .int .i64 t.2]] u0.drew fun r w' => ∃ v', r = .returned v' ∧ OwnF w' base v' (d.erase t) ∧ rowB v' = rowB v ∧ u0.drew.grownBy w' (rowB v)) := by rw [← e0]; exact wo
  have NX : Aside (∀ w1 pa pn pc, OwnF w1 base (.slice pa pn pc) (d.erase t) → rowB (.slice pa pn pc) = rowB v → u0.drew.grownBy w1 (rowB v) →
      (w1.cell? ⟨B, R + 1 + s, none⟩ = some (.slice va vn vc) ∧ w1.cell? ⟨S, 0, none⟩ = some (.int .u64 t.1) ∧ w1.cell? ⟨S, 1, none⟩ = some (.int .i64 t.2)) ∧ Hd (w1.setCell ⟨B, R + 1 + s, none⟩ (.slice pa pn pc)) B (hset hd (R + 1 + s) (.slice pa pn pc)) ∧ w1.frozen? ⟨B, R + 1 + s, none⟩ = false ∧
      OwnF (w1.setCell ⟨B, R + 1 + s, none⟩ (.slice pa pn pc)) base (.slice pa pn pc) (d.erase t) ∧ Fr (fun k => k = B ∨ rowB v = some k) w (w1.setCell ⟨B, R + 1 + s, none⟩ (.slice pa pn pc)) ∧ pn = (d.erase t).length) := by
    intro w1 pa pn pc o1 r1 g1
    have h1 : Hd w1 B hd := h0.of_block (g1.block B h0.lt (fun e => hnB e.symm))
    refine ⟨⟨?_, g1.cell K0.out.2.1 (fun e => hne S (Nat.le_refl _) e.symm), g1.cell K0.out.2.2 (fun e => hne S (Nat.le_refl _) e.symm)⟩, h1.set _ _, h1.frozen _, o1.of_block (fun k hk => heap_setCell_other _ _ _ _ (fun e => hnB (by rw [← r1, hk, e]))), ?_, ?_⟩
    · have := h1.cell (k := R + 1 + s) (by omega); rw [hv'] at this; exact this
    · exact ((Fr.below b0d).trans (Fr.of_grown g1) (fun j hj => .inl (.inr hj))).trans (Fr.setCell _ _ _ _ _ (.inl rfl)) (fun j hj => .inl hj)
    · obtain ⟨_, _, e, _⟩ := o1.isL
      injection e
  have HU0 : Hid _ := hu0
  have HUu : Hid (hd R = .int .u64 u) := hu
  have hub2 : u < 18446744073709551616 := hub
  have hp : 2 ^ s < 18446744073709551616 := show 2 ^ s < 2 ^ 64 from Nat.pow_lt_pow_right (by omega) hs
  have x1 : IntKind.u64.wrap (2 ^ s) = ((2 ^ s : Nat) : Int) := by
    have e : (2 ^ s : Int) = ((2 ^ s : Nat) : Int) := by push_cast; rfl
    rw [e, IntKind.wrap_u64]
    generalize 2 ^ s = P at hp
    omega
  have x2 : bits BinOp.andNot IntKind.u64 (u : Int) ((2 ^ s : Nat) : Int) = ((clr u (2 ^ s) : Nat) : Int) := u64_andNot_nat u (2 ^ s) hub2 hp
  have X1 : Hid _ := x1
  have X2 : Hid _ := x2
  have hs1 : (s : Int) < 64 := by omega
  have mx := mixed
  clear h o b0 b0d hBl h0 wo hvm hvc hv hv' e0 hne hnB hu0 hu hub hub2 hp x1 x2 hdn ht hvn
  go_enter Tryd.func43, Tryd.ntmps43
  go_upto_region 1 with fail
  rw [HU0.out]
  refine anyE_start (S := (fun v0 => v0.cell? ⟨B, R + 1 + s, none⟩ = some (.slice va vn vc) ∧ v0.cell? ⟨S, 0, none⟩ = some (.int .u64 t.1) ∧ v0.cell? ⟨S, 1, none⟩ = some (.int .i64 t.2))) (L := 13) (by kernel_rfl) ?_
  refine anyE_take (i := 0) (oi := { dst := some 6, op := Op.move (Operand.tmp 0), type := 82, pos := "wheel.go:81", after := #[], guard := none }) (v := ?_) rfl (by kernel_rfl)  (by kernel_rfl) (by kernel_rfl) (by kernel_rfl) (fun _ _ _ h => h) (Or.inl ⟨by rfl, ?_⟩) (K0.out) ?_
  rotate_left
  · (intro w hSw; (try dsimp only at hSw); go_simp; try with_reducible rfl)
  simp only [Act.put, List.setIfInBounds_toArray, List.set_cons_zero, List.set_cons_succ]
  refine anyE_take (i := 1) (oi := { dst := some 7, op := Op.move (Operand.tmp 1), type := 3, pos := "wheel.go:81", after := #[], guard := none }) (v := ?_) rfl (by kernel_rfl)  (by kernel_rfl) (by kernel_rfl) (by kernel_rfl) (fun _ _ _ h => h) (Or.inl ⟨by rfl, ?_⟩) (K0.out) ?_
  rotate_left
  · (intro w hSw; (try dsimp only at hSw); go_simp; try with_reducible rfl)
  simp only [Act.put, List.setIfInBounds_toArray, List.set_cons_zero, List.set_cons_succ]
  refine anyE_take (i := 2) (oi := { dst := some 8, op := Op.move (Operand.tmp 0), type := 82, pos := "wheel.go:81", after := #[], guard := none }) (v := ?_) rfl (by kernel_rfl)  (by kernel_rfl) (by kernel_rfl) (by kernel_rfl) (fun _ _ _ h => h) (Or.inl ⟨by rfl, ?_⟩) (K0.out) ?_
  rotate_left
  · (intro w hSw; (try dsimp only at hSw); go_simp; try with_reducible rfl)
  simp only [Act.put, List.setIfInBounds_toArray, List.set_cons_zero, List.set_cons_succ]
  refine anyE_take (i := 3) (oi := { dst := some 9, op := Op.move (Operand.tmp 1), type := 3, pos := "wheel.go:81", after := #[], guard := none }) (v := ?_) rfl (by kernel_rfl)  (by kernel_rfl) (by kernel_rfl) (by kernel_rfl) (fun _ _ _ h => h) (Or.inl ⟨by rfl, ?_⟩) (K0.out) ?_
  rotate_left
  · (intro w hSw; (try dsimp only at hSw); go_simp; try with_reducible rfl)
  simp only [Act.put, List.setIfInBounds_toArray, List.set_cons_zero, List.set_cons_succ]
  refine anyE_take (i := 4) (oi := { dst := some 10, op := Op.nilCheck (Operand.tmp 8), type := 0, pos := "wheel.go:81", after := #[{ on := 2, ground := Ground.data }], guard := none }) (v := ?_) rfl (by kernel_rfl)  (by kernel_rfl) (by kernel_rfl) (by kernel_rfl) (fun _ _ _ h => h) (Or.inl ⟨by rfl, ?_⟩) (K0.out) ?_
  rotate_left
  · (intro w hSw; (try dsimp only at hSw); go_simp; try with_reducible rfl)
  simp only [Act.put, List.setIfInBounds_toArray, List.set_cons_zero, List.set_cons_succ]
  refine anyE_take (i := 5) (oi := { dst := some 11, op := Op.fieldAddr 58 (Operand.tmp 10) 1, type := 0, pos := "wheel.go:81", after := #[{ on := 4, ground := Ground.data }], guard := none }) (v := ?_) rfl (by kernel_rfl)  (by kernel_rfl) (by kernel_rfl) (by kernel_rfl) (fun _ _ _ h => h) (Or.inl ⟨by rfl, ?_⟩) (K0.out) ?_
  rotate_left
  · (intro w hSw; (try dsimp only at hSw); go_simp; try with_reducible rfl)
  simp only [Act.put, List.setIfInBounds_toArray, List.set_cons_zero, List.set_cons_succ]
  refine anyE_take (i := 6) (oi := { dst := some 12, op := Op.indexAddr 56 (Operand.tmp 11) (Operand.tmp 9), type := 0, pos := "wheel.go:81", after := #[{ on := 5, ground := Ground.data }, { on := 3, ground := Ground.data }], guard := none }) (v := ?_) rfl (by kernel_rfl)  (by kernel_rfl) (by kernel_rfl) (by kernel_rfl) (fun _ _ _ h => h) (Or.inl ⟨by rfl, ?_⟩) (K0.out) ?_
  rotate_left
  · (intro w hSw; (try dsimp only at hSw); go_simp; try with_reducible rfl)
  simp only [Act.put, List.setIfInBounds_toArray, List.set_cons_zero, List.set_cons_succ]
  refine anyE_take (i := 7) (oi := { dst := some 13, op := Op.load 28 (Operand.tmp 12), type := 28, pos := "wheel.go:81", after := #[{ on := 6, ground := Ground.data }], guard := none }) (v := ?_) rfl (by kernel_rfl)  (by kernel_rfl) (by kernel_rfl) (by kernel_rfl) (fun _ _ _ h => h) (Or.inl ⟨by rfl, ?_⟩) (K0.out) ?_
  rotate_left
  · (intro w hSw; (try dsimp only at hSw); go_simp; try with_reducible rfl)
  simp only [Act.put, List.setIfInBounds_toArray, List.set_cons_zero, List.set_cons_succ]
  refine anyE_take (i := 8) (oi := { dst := some 14, op := Op.load 33 (Operand.tmp 5), type := 33, pos := "wheel.go:81", after := #[], guard := none }) (v := ?_) rfl (by kernel_rfl)  (by kernel_rfl) (by kernel_rfl) (by kernel_rfl) (fun _ _ _ h => h) (Or.inl ⟨by rfl, ?_⟩) (K0.out) ?_
  rotate_left
  · (intro w hSw; (try dsimp only at hSw); go_simp; try with_reducible rfl)
  simp only [Act.put, List.setIfInBounds_toArray, List.set_cons_zero, List.set_cons_succ]
  refine anyF_take [11, 12] (i := 10) (oi := { dst := some 16, op := Op.nilCheck (Operand.tmp 6), type := 0, pos := "wheel.go:81", after := #[{ on := 0, ground := Ground.data }], guard := none }) (v := ?_) rfl (by kernel_rfl) (by kernel_rfl)  (by kernel_rfl) (by kernel_rfl) (by kernel_rfl) (fun _ _ _ h => h) (Or.inl ⟨by rfl, ?_⟩) (K0.out) ?_
  rotate_left
  · (intro w hSw; (try dsimp only at hSw); go_simp; try with_reducible rfl)
  simp only [Act.put, List.setIfInBounds_toArray, List.set_cons_zero, List.set_cons_succ]
  refine anyF_take [12] (i := 11) (oi := { dst := some 17, op := Op.fieldAddr 58 (Operand.tmp 16) 1, type := 0, pos := "wheel.go:81", after := #[{ on := 10, ground := Ground.data }], guard := none }) (v := ?_) rfl (by kernel_rfl) (by kernel_rfl)  (by kernel_rfl) (by kernel_rfl) (by kernel_rfl) (fun _ _ _ h => h) (Or.inl ⟨by rfl, ?_⟩) (K0.out) ?_
  rotate_left
  · (intro w hSw; (try dsimp only at hSw); go_simp; try with_reducible rfl)
  simp only [Act.put, List.setIfInBounds_toArray, List.set_cons_zero, List.set_cons_succ]
  refine anyE_ready (rs := [9]) (by kernel_rfl) (by simp) ?_
  refine AllE.cons (o := { dst := some 15, op := Op.call { callee := Callee.value (Operand.func 44), args := #[Operand.tmp 13, Operand.tmp 14], argTypes := #[28, 33] }, type := 28, pos := "wheel.go:81", after := #[{ on := 7, ground := Ground.data }, { on := 8, ground := Ground.data }], guard := none }) rfl (fun Kt hKt => ?_) ?_
  · go_simp
    (with_reducible refine Calls.mono W0.out ?_)
    rintro x_ w1 ⟨v', rfl, o1, r1, g1⟩
    obtain ⟨pa, pc, e1, -⟩ := o1.isL
    obtain ⟨pn, hpn⟩ : ∃ n, (d.erase t).length = n := ⟨_, rfl⟩
    rw [hpn] at e1
    subst e1
    obtain ⟨y1, y2, y3, y4, y5, -⟩ := NX.out w1 pa pn pc o1 r1 g1
    have z1 := y1.1
    have Y2 : Aside (Hd (w1.setCell ⟨B, R + 1 + s, none⟩ (.slice pa pn pc)) B (hset hd (R + 1 + s) (.slice pa pn pc))) := y2
    have Y4 : Aside (OwnF (w1.setCell ⟨B, R + 1 + s, none⟩ (.slice pa pn pc)) base (.slice pa pn pc) (d.erase t)) := y4
    have Y5 : Aside (Fr (fun k => k = B ∨ rowB v = some k) w (w1.setCell ⟨B, R + 1 + s, none⟩ (.slice pa pn pc))) := y5
    have R1 : Aside (rowB (.slice pa pn pc) = rowB v) := r1
    have HPN : Hid _ := hpn
    clear o1 r1 g1 y2 y4 y5 W0 NX K0 hpn
    dsimp only
    refine hKt.out _ _ (fun _ => y1) ?_
    clear hKt Kt
    try simp only [Act.put, List.setIfInBounds_toArray, List.set_cons_zero, List.set_cons_succ]
    refine anyE_take (i := 12) (oi := { dst := some 18, op := Op.indexAddr 56 (Operand.tmp 17) (Operand.tmp 7), type := 0, pos := "wheel.go:81", after := #[{ on := 11, ground := Ground.data }, { on := 1, ground := Ground.data }, { on := 0, ground := Ground.phase }, { on := 1, ground := Ground.phase }, { on := 2, ground := Ground.phase }, { on := 3, ground := Ground.phase }, { on := 4, ground := Ground.phase }, { on := 5, ground := Ground.phase }, { on := 6, ground := Ground.phase }, { on := 7, ground := Ground.phase }, { on := 8, ground := Ground.phase }, { on := 9, ground := Ground.phase }], guard := none }) (v := ?_) rfl (by kernel_rfl)  (by kernel_rfl) (by kernel_rfl) (by kernel_rfl) (fun _ _ _ h => h) (Or.inl ⟨by rfl, ?_⟩) (y1) ?_
    rotate_left
    · (intro w hSw; (try dsimp only at hSw); go_simp; try with_reducible rfl)
    simp only [Act.put, List.setIfInBounds_toArray, List.set_cons_zero, List.set_cons_succ]
    refine anyE_ready (rs := [13]) (by kernel_rfl) (by simp) ?_
    refine AllE.cons (o := { dst := none, op := Op.store 28 (Operand.tmp 18) (Operand.tmp 15), type := 0, pos := "wheel.go:81", after := #[{ on := 12, ground := Ground.data }, { on := 9, ground := Ground.data }, { on := 9, ground := Ground.chain }, { on := 0, ground := Ground.phase }, { on := 1, ground := Ground.phase }, { on := 2, ground := Ground.phase }, { on := 3, ground := Ground.phase }, { on := 4, ground := Ground.phase }, { on := 5, ground := Ground.phase }, { on := 6, ground := Ground.phase }, { on := 7, ground := Ground.phase }, { on := 8, ground := Ground.phase }, { on := 9, ground := Ground.phase }], guard := none }) rfl (fun Kt hKt => ?_) ?_
    · go_simp
      refine hKt.out _ _ (fun h => absurd rfl h) ?_
      clear hKt Kt
      try simp only [Act.put, List.setIfInBounds_toArray, List.set_cons_zero, List.set_cons_succ]
      refine anyE_done (by kernel_rfl) ?_ _
      obtain ⟨w2, hw2⟩ : ∃ w2, (w1.setCell ⟨B, R + 1 + s, none⟩ (.slice pa pn pc)) = w2 := ⟨_, rfl⟩
      rw [hw2] at Y2 Y4 Y5
      rw [hw2]
      clear hw2 z1 y1 y3
      have q0 := Y2.out.cell (k := R + 1 + s) (by omega)
      rw [hset_same] at q0
      have q1 := Y2.out.frozen (R + 1 + s)
      have bB := Y2.out.lt
      by_cases hE0 : d.erase t = []
      · have HE : Hid (d.erase t = []) := hE0
        obtain rfl : pn = 0 := by rw [← HPN.out, hE0]; rfl
        clear hE0
        have h3 := Y2.out.set (R + 1 + s) nilV
        obtain ⟨w3, hw3⟩ : ∃ w3, w2.setCell ⟨B, R + 1 + s, none⟩ nilV = w3 := ⟨_, rfl⟩
        rw [hw3] at h3
        have HW3 : Hid (w2.setCell ⟨B, R + 1 + s, none⟩ (.slice none 0 0) = w3) := hw3
        have q2 := h3.frozen R
        have q4 := h3.cell (k := R) (by omega)
        rw [hset_ne _ _ (by omega), hset_ne _ _ (by omega), HUu.out] at q4
        have q3 : w3.drew.cell? ⟨B, R, none⟩ = some (.int .u64 u) := q4
        have FIN : Aside (DropIs w B R s base u hd v (d.erase t) (w3.setCell ⟨B, R, none⟩ (.int .u64 ((clr u (2 ^ s) : Nat) : Int))).drew) := by
          refine ⟨nilV, ?_, ?_, ?_, fun k hk => by cases hk⟩
          · refine ((h3.set R (.int .u64 ((clr u (2 ^ s) : Nat) : Int))).of_block rfl).congr fun k hk => ?_
            unfold dropU
            rw [if_pos HE.out]
            by_cases c1 : k = R
            · subst c1; rw [hset_same, hset_same]
            · rw [hset_ne _ _ c1, hset_ne _ _ c1]
              by_cases c2 : k = R + 1 + s
              · subst c2; rw [hset_same, hset_same]
              · rw [hset_ne _ _ c2, hset_ne _ _ c2, hset_ne _ _ c2]
          · rw [HE.out]; exact OwnF.nil _ _
          · refine ((Y5.out.trans (by rw [← hw3]; exact Fr.setCell _ _ _ _ _ (.inl rfl)) (fun j hj => .inl hj)).trans (Fr.setCell _ _ _ _ _ (.inl rfl)) (fun j hj => .inl hj)).trans (Fr.below (X := fun _ => False) ((Below.refl _ _).drew)) (fun j hj => hj.elim)
        clear h3 hw3
        go_upto_region 4 with fail
        rw [HW3.out]
        refine anyE_start (S := (fun v0 => v0.cell? ⟨B, R, none⟩ = some (.int .u64 u))) (L := 9) (by kernel_rfl) ?_
        refine anyE_take (i := 0) (oi := { dst := some 32, op := Op.move (Operand.tmp 0), type := 82, pos := "wheel.go:84", after := #[], guard := none }) (v := ?_) rfl (by kernel_rfl)  (by kernel_rfl) (by kernel_rfl) (by kernel_rfl) (fun _ _ _ h => h) (Or.inl ⟨by rfl, ?_⟩) (q3) ?_
        rotate_left
        · (intro w hSw; (try dsimp only at hSw); go_simp; try with_reducible rfl)
        simp only [Act.put, List.setIfInBounds_toArray, List.set_cons_zero, List.set_cons_succ]
        refine anyE_take (i := 1) (oi := { dst := some 33, op := Op.nilCheck (Operand.tmp 32), type := 0, pos := "wheel.go:84", after := #[{ on := 0, ground := Ground.data }], guard := none }) (v := ?_) rfl (by kernel_rfl)  (by kernel_rfl) (by kernel_rfl) (by kernel_rfl) (fun _ _ _ h => h) (Or.inl ⟨by rfl, ?_⟩) (q3) ?_
        rotate_left
        · (intro w hSw; (try dsimp only at hSw); go_simp; try with_reducible rfl)
        simp only [Act.put, List.setIfInBounds_toArray, List.set_cons_zero, List.set_cons_succ]
        refine anyE_take (i := 2) (oi := { dst := some 34, op := Op.fieldAddr 58 (Operand.tmp 33) 0, type := 0, pos := "wheel.go:84", after := #[{ on := 1, ground := Ground.data }], guard := none }) (v := ?_) rfl (by kernel_rfl)  (by kernel_rfl) (by kernel_rfl) (by kernel_rfl) (fun _ _ _ h => h) (Or.inl ⟨by rfl, ?_⟩) (q3) ?_
        rotate_left
        · (intro w hSw; (try dsimp only at hSw); go_simp; try with_reducible rfl)
        simp only [Act.put, List.setIfInBounds_toArray, List.set_cons_zero, List.set_cons_succ]
        refine anyE_take (i := 3) (oi := { dst := some 35, op := Op.load 25 (Operand.tmp 34), type := 25, pos := "wheel.go:84", after := #[{ on := 2, ground := Ground.data }], guard := none }) (v := ?_) rfl (by kernel_rfl)  (by kernel_rfl) (by kernel_rfl) (by kernel_rfl) (fun _ _ _ h => h) (Or.inl ⟨by rfl, ?_⟩) (q3) ?_
        rotate_left
        · (intro w hSw; (try dsimp only at hSw); go_simp; try with_reducible rfl)
        simp only [Act.put, List.setIfInBounds_toArray, List.set_cons_zero, List.set_cons_succ]
        refine anyE_take (i := 4) (oi := { dst := some 36, op := Op.move (Operand.tmp 1), type := 3, pos := "wheel.go:84", after := #[], guard := none }) (v := ?_) rfl (by kernel_rfl)  (by kernel_rfl) (by kernel_rfl) (by kernel_rfl) (fun _ _ _ h => h) (Or.inl ⟨by rfl, ?_⟩) (q3) ?_
        rotate_left
        · (intro w hSw; (try dsimp only at hSw); go_simp; try with_reducible rfl)
        simp only [Act.put, List.setIfInBounds_toArray, List.set_cons_zero, List.set_cons_succ]
        refine anyE_take (i := 5) (oi := { dst := some 37, op := Op.binOp BinOp.shl 25 (Operand.const (Value.int IntKind.u64 1)) (Operand.tmp 36) 3, type := 25, pos := "wheel.go:84", after := #[{ on := 4, ground := Ground.data }], guard := none }) (v := ?_) rfl (by kernel_rfl)  (by kernel_rfl) (by kernel_rfl) (by kernel_rfl) (fun _ _ _ h => h) (Or.inl ⟨by rfl, ?_⟩) (q3) ?_
        rotate_left
        · (intro w hSw; (try dsimp only at hSw); go_simp; try with_reducible rfl)
        simp only [Act.put, List.setIfInBounds_toArray, List.set_cons_zero, List.set_cons_succ]
        refine anyE_take (i := 6) (oi := { dst := some 38, op := Op.binOp BinOp.andNot 25 (Operand.tmp 35) (Operand.tmp 37) 25, type := 25, pos := "wheel.go:84", after := #[{ on := 3, ground := Ground.data }, { on := 5, ground := Ground.data }], guard := none }) (v := ?_) rfl (by kernel_rfl)  (by kernel_rfl) (by kernel_rfl) (by kernel_rfl) (fun _ _ _ h => h) (Or.inl ⟨by rfl, ?_⟩) (q3) ?_
        rotate_left
        · (intro w hSw; (try dsimp only at hSw); go_simp; try with_reducible rfl)
        simp only [Act.put, List.setIfInBounds_toArray, List.set_cons_zero, List.set_cons_succ]
        refine anyF_take [8] (i := 7) (oi := { dst := some 39, op := Op.nilCheck (Operand.tmp 32), type := 0, pos := "wheel.go:84", after := #[{ on := 0, ground := Ground.data }, { on := 0, ground := Ground.phase }, { on := 1, ground := Ground.phase }, { on := 2, ground := Ground.phase }, { on := 3, ground := Ground.phase }, { on := 4, ground := Ground.phase }, { on := 5, ground := Ground.phase }, { on := 6, ground := Ground.phase }], guard := none }) (v := ?_) rfl (by kernel_rfl) (by kernel_rfl)  (by kernel_rfl) (by kernel_rfl) (by kernel_rfl) (fun _ _ _ h => h) (Or.inl ⟨by rfl, ?_⟩) (q3) ?_
        rotate_left
        · (intro w hSw; (try dsimp only at hSw); go_simp; try with_reducible rfl)
        simp only [Act.put, List.setIfInBounds_toArray, List.set_cons_zero, List.set_cons_succ]
        refine anyE_take (i := 8) (oi := { dst := some 40, op := Op.fieldAddr 58 (Operand.tmp 39) 0, type := 0, pos := "wheel.go:84", after := #[{ on := 7, ground := Ground.data }, { on := 0, ground := Ground.phase }, { on := 1, ground := Ground.phase }, { on := 2, ground := Ground.phase }, { on := 3, ground := Ground.phase }, { on := 4, ground := Ground.phase }, { on := 5, ground := Ground.phase }, { on := 6, ground := Ground.phase }], guard := none }) (v := ?_) rfl (by kernel_rfl)  (by kernel_rfl) (by kernel_rfl) (by kernel_rfl) (fun _ _ _ h => h) (Or.inl ⟨by rfl, ?_⟩) (q3) ?_
        rotate_left
        · (intro w hSw; (try dsimp only at hSw); go_simp; try with_reducible rfl)
        simp only [Act.put, List.setIfInBounds_toArray, List.set_cons_zero, List.set_cons_succ]
        refine anyE_ready (rs := [9]) (by kernel_rfl) (by simp) ?_
        refine AllE.cons (o := { dst := none, op := Op.store 25 (Operand.tmp 40) (Operand.tmp 38), type := 0, pos := "wheel.go:84", after := #[{ on := 8, ground := Ground.data }, { on := 6, ground := Ground.data }, { on := 0, ground := Ground.phase }, { on := 1, ground := Ground.phase }, { on := 2, ground := Ground.phase }, { on := 3, ground := Ground.phase }, { on := 4, ground := Ground.phase }, { on := 5, ground := Ground.phase }, { on := 6, ground := Ground.phase }], guard := none }) rfl (fun Kt hKt => ?_) ?_
        · go_simp
          refine hKt.out _ _ (fun h => absurd rfl h) ?_
          clear hKt Kt
          try simp only [Act.put, List.setIfInBounds_toArray, List.set_cons_zero, List.set_cons_succ]
          refine anyE_done (by kernel_rfl) ?_ _
          rw [X1.out, X2.out]
          go_wp2
          go_end0
          exact ⟨rfl, FIN.out⟩
        exact AllE.nil
      · have HE : Hid (¬ d.erase t = []) := hE0
        have hn0 : ¬ pn = 0 := fun e => hE0 (List.length_eq_zero_iff.1 (HPN.out.trans e))
        have hn1 : ((pn : Int) == 0) = false := by simp; omega
        clear hE0
        have FIN : Aside (DropIs w B R s base u hd v (d.erase t) w2) := by
          refine ⟨_, Y2.out.congr fun k hk => ?_, Y4.out, Y5.out, fun k hk => by rw [← R1.out]; exact hk⟩
          unfold dropU
          rw [if_neg HE.out]
          by_cases c1 : k = R
          · subst c1; rw [hset_same, hset_ne _ _ (by omega)]; exact HUu.out
          · rw [hset_ne _ _ c1]
        go_wp2
        go_end0
        exact ⟨rfl, FIN.out⟩
    exact AllE.nil
  exact AllE.nil
end Go.Proofs.YtbopobgnmkhabaaDoor

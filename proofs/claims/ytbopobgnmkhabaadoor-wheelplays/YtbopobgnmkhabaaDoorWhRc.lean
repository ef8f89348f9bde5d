/- The document's wheel: Cancel, Advance. -/
import Derived.Test.YtbopobgnmkhabaaDoorWhRa
namespace Go.Proofs.YtbopobgnmkhabaaDoor
open Go.RowKit Go.Lib Go.Sort Go.WideMaps Go.Maps
set_option linter.unusedVariables false
variable {w w' : World} {X : Nat → Prop} {B now : Nat} {T : List Ent}
/-- The first one of an ID goes. -/
theorem can_at : ∀ {T : List Ent} {i : Int} (k : Nat) (hk : k < T.length), T[k].2 = i → (∀ j (hj : j < T.length), j < k → T[j].2 ≠ i) → (dueOf T i).isSome = true ∧ canT T i = T.take k ++ T.drop (k + 1)
  | [], i, k, hk, _, _ => by simp at hk
  | x :: T, i, 0, _, h, _ => by
    have h' : x.2 = i := h
    have e : dueOf (x :: T) i = some x.1 := by rw [dueOf, if_pos h']
    refine ⟨by rw [e]; rfl, ?_⟩
    unfold canT
    rw [e]
    have ex : (x.1, i) = x := by rw [← h']
    simp [ex]
  | x :: T, i, k + 1, hk, h, hn => by
    have h0 : x.2 ≠ i := hn 0 (by simp) (by omega)
    obtain ⟨q1, q2⟩ := can_at (T := T) k (by simpa using hk) h (fun j hj hjk => hn (j + 1) (by simpa using hj) (by omega))
    have e : dueOf (x :: T) i = dueOf T i := by rw [dueOf, if_neg h0]
    refine ⟨by rw [e]; exact q1, ?_⟩
    unfold canT at q2 ⊢
    rw [e]
    obtain ⟨v, hv⟩ := Option.isSome_iff_exists.1 q1
    rw [hv] at q2 ⊢
    simp only at q2 ⊢
    rw [List.erase_cons_tail (by
      intro hc
      have : x = (v, i) := by simpa using hc
      exact h0 (by rw [this])), q2]
    rfl
theorem can_none {T : List Ent} {i : Int} (h : ∀ j (hj : j < T.length), T[j].2 ≠ i) : (dueOf T i).isSome = false ∧ canT T i = T := by
  have e : dueOf T i = none := by
    cases e : dueOf T i with
    | none => rfl
    | some v =>
      obtain ⟨j, hj, ej⟩ := List.mem_iff_getElem.1 (dueOf_some e)
      exact absurd (by rw [ej]) (h j hj)
  refine ⟨by rw [e]; rfl, ?_⟩
  unfold canT
  rw [e]
set_option maxHeartbeats 8000000 in
set_option maxRecDepth 100000 in
theorem vcancel_any (h : RWh w X B now T) (hT : TOk T) (i : Int) : Calls Tryd.prog 17 #[.pointer (some ⟨B, 0, none⟩), .int .i64 i] w fun e w' => e = .returned (.bool (dueOf T i).isSome) ∧ RGo w X B now (canT T i) w' := by
  have RR : Aside (RWh w X B now T) := h
  have hTl := hT.len
  obtain ⟨a, cap, -, c1, il, frz, hBl⟩ := h.open
  have hcap := il.le
  have hbig := il.big
  unfold maxLen at hbig
  have H : Aside (IsL w a cap T) := il
  have mx := mixed
  clear h il hT
  go_enter Tryd.func17, Tryd.ntmps17
  go_wp2
  go_loop [5] (fun s5 => ∃ k : Nat, s5 = .int .i64 k ∧ k ≤ T.length ∧ Aside (∀ j (hj : j < T.length), j < k → T[j].2 ≠ i)) (fun s5 => T.length - (intOf s5).toNat)
  case atStart => exact ⟨0, rfl, by omega, (fun j _ h => absurd h (by omega) : ∀ j (hj : j < T.length), j < 0 → T[j].2 ≠ i)⟩
  case round =>
    obtain ⟨k, rfl, hk, A⟩ := hrel
    by_cases hlt : k < T.length
    · have hz : (k : Int) < (T.length : Int) := by omega
      obtain ⟨b, off, ha, hb, d1, d2⟩ := H.out.elem k T[k] (List.getElem?_eq_getElem hlt)
      obtain ⟨x, hx⟩ : ∃ x, T[k].2 = x := ⟨_, rfl⟩
      rw [hx] at d2
      have HX : Hid _ := hx
      clear hx d1
      by_cases e : x = i
      · obtain ⟨q1, q2⟩ := can_at k hlt (HX.out.trans e) A.out
        have HH : Hid _ := q1
        have e2 : (x == i) = true := by simpa using e
        clear e q1
        have k1 : (k : Int) ≤ (cap : Int) := by omega
        have k2 : (k : Int) + 1 ≤ (T.length : Int) := by omega
        have k3 : (0 : Int) ≤ (k : Int) + 1 := by omega
        have k4 : (0 : Int) ≤ (k : Int) := by omega
        have k5 : ((k : Int) + 1).toNat = k + 1 := by omega
        have wk : IntKind.i64.wrap ((k : Int) + 1) = (k : Int) + 1 := by rw [IntKind.wrap_i64]; omega
        obtain ⟨p1, hp1⟩ : ∃ p1, (if cap = k + 1 then a else a.map (·.add ((k + 1) * 2))) = p1 := ⟨_, rfl⟩
        have l1 : (T.take k).length = k := by simp; omega
        have l2 : (T.drop (k + 1)).length = T.length - (k + 1) := by simp
        have b0 : Below w.heap.size w (w.alloc (.cells #[] 33)).drew := ((Below.refl _ _).alloc (Nat.le_refl _) _).drew
        have o0 : OwnE (w.alloc (.cells #[] 33)).drew w.heap.size (.slice (some ⟨w.heap.size, 0, none⟩) 0 0) [] := OwnE.made (base := w.heap.size) w #[] 0 (Nat.le_refl _) (by unfold maxLen; omega) rfl
        obtain ⟨v1, w1, h1, o1, g1⟩ := app_run (d := []) (c := T.take k) o0 ((H.out.below b0).take k) (by simp; omega) b0.size 28
        obtain ⟨r1, t1, rfl, _⟩ := o1.isL
        have b1 : Below w.heap.size w w1 := OwnE.grown o0 b0 g1 b0.size
        have L1 := (H.out.below b1).drop (k + 1) hlt
        rw [hp1] at L1
        obtain ⟨v2, w2, h2, o2, g2⟩ := app_run (c := T.drop (k + 1)) o1 L1 (by simp; omega) b1.size 28
        obtain ⟨r2, t2, rfl, m2⟩ := o2.isL
        have b2 : Below w.heap.size w w2 := OwnE.grown o1 b1 g2 b1.size
        rw [List.nil_append, l1] at h1 h2
        rw [l2] at h2
        rw [List.nil_append] at o2
        obtain ⟨n2, hn2⟩ : ∃ n2, (T.take k ++ T.drop (k + 1)).length = n2 := ⟨_, rfl⟩
        have F : Aside (RGo w X B now (canT T i) (w2.setCell ⟨B, 1, none⟩ (.slice r2 n2 t2))) := by
          rw [← q2] at o2 hn2
          rw [← hn2]
          exact RR.out.store b2 o2
        rw [hn2] at h2
        have KC : Aside (∀ v, Below w.heap.size w v → v.cell? ⟨B, 1, none⟩ = some (.slice a T.length cap)) := fun v hv => (hv.cell (p := ⟨B, 1, none⟩) hBl).trans c1
        have fb : w2.frozen? ⟨B, 1, none⟩ = false := (b2.frozen (p := ⟨B, 1, none⟩) hBl).trans (frz 1)
        have zb : w2.cell? ⟨B, 1, none⟩ = some (.slice a T.length cap) := KC.out _ b2
        have yb : B < w2.heap.size := Nat.lt_of_lt_of_le hBl b2.size
        have bd : Below w.heap.size w w.drew := (Below.refl _ _).drew
        clear hn2 m2 o0 o1 o2 g1 g2 L1 q2 A l1 l2
        subst ha
        rw [Option.map_some, Addr.add_lit] at hp1
        go_upto_region 5 with fail
        refine anyE_start (S := (fun v0 => v0.cell? ⟨B, 1, none⟩ = some (.slice (some ⟨b, off, none⟩) T.length cap))) (L := 19) (by kernel_rfl) ?_
        refine anyE_take (i := 0) (oi := { dst := some 25, op := Op.move (Operand.tmp 0), type := 43, pos := "vergerref12.go:88", after := #[], guard := none }) (v := ?_) rfl (by kernel_rfl)  (by kernel_rfl) (by kernel_rfl) (by kernel_rfl) (fun _ _ _ h => h) (Or.inl ⟨by rfl, ?_⟩) (KC.out _ bd) ?_
        rotate_left
        · (intro w hSw; (try dsimp only at hSw); go_simp; try with_reducible rfl)
        simp only [Act.put, List.setIfInBounds_toArray, List.set_cons_zero, List.set_cons_succ]
        refine anyE_take (i := 2) (oi := { dst := some 27, op := Op.move (Operand.tmp 0), type := 43, pos := "vergerref12.go:88", after := #[], guard := none }) (v := ?_) rfl (by kernel_rfl)  (by kernel_rfl) (by kernel_rfl) (by kernel_rfl) (fun _ _ _ h => h) (Or.inl ⟨by rfl, ?_⟩) (KC.out _ bd) ?_
        rotate_left
        · (intro w hSw; (try dsimp only at hSw); go_simp; try with_reducible rfl)
        simp only [Act.put, List.setIfInBounds_toArray, List.set_cons_zero, List.set_cons_succ]
        refine anyE_take (i := 3) (oi := { dst := some 28, op := Op.nilCheck (Operand.tmp 27), type := 0, pos := "vergerref12.go:88", after := #[{ on := 2, ground := Ground.data }], guard := none }) (v := ?_) rfl (by kernel_rfl)  (by kernel_rfl) (by kernel_rfl) (by kernel_rfl) (fun _ _ _ h => h) (Or.inl ⟨by rfl, ?_⟩) (KC.out _ bd) ?_
        rotate_left
        · (intro w hSw; (try dsimp only at hSw); go_simp; try with_reducible rfl)
        simp only [Act.put, List.setIfInBounds_toArray, List.set_cons_zero, List.set_cons_succ]
        refine anyE_take (i := 4) (oi := { dst := some 29, op := Op.fieldAddr 45 (Operand.tmp 28) 1, type := 0, pos := "vergerref12.go:88", after := #[{ on := 3, ground := Ground.data }], guard := none }) (v := ?_) rfl (by kernel_rfl)  (by kernel_rfl) (by kernel_rfl) (by kernel_rfl) (fun _ _ _ h => h) (Or.inl ⟨by rfl, ?_⟩) (KC.out _ bd) ?_
        rotate_left
        · (intro w hSw; (try dsimp only at hSw); go_simp; try with_reducible rfl)
        simp only [Act.put, List.setIfInBounds_toArray, List.set_cons_zero, List.set_cons_succ]
        refine anyE_take (i := 5) (oi := { dst := some 30, op := Op.load 28 (Operand.tmp 29), type := 28, pos := "vergerref12.go:88", after := #[{ on := 4, ground := Ground.data }], guard := none }) (v := ?_) rfl (by kernel_rfl)  (by kernel_rfl) (by kernel_rfl) (by kernel_rfl) (fun _ _ _ h => h) (Or.inl ⟨by rfl, ?_⟩) (KC.out _ bd) ?_
        rotate_left
        · (intro w hSw; (try dsimp only at hSw); go_simp; try with_reducible rfl)
        simp only [Act.put, List.setIfInBounds_toArray, List.set_cons_zero, List.set_cons_succ]
        refine anyE_take (i := 6) (oi := { dst := some 31, op := Op.move (Operand.tmp 5), type := 3, pos := "vergerref12.go:88", after := #[], guard := none }) (v := ?_) rfl (by kernel_rfl)  (by kernel_rfl) (by kernel_rfl) (by kernel_rfl) (fun _ _ _ h => h) (Or.inl ⟨by rfl, ?_⟩) (KC.out _ bd) ?_
        rotate_left
        · (intro w hSw; (try dsimp only at hSw); go_simp; try with_reducible rfl)
        simp only [Act.put, List.setIfInBounds_toArray, List.set_cons_zero, List.set_cons_succ]
        refine anyE_take (i := 7) (oi := { dst := some 32, op := Op.slice 28 (Operand.tmp 30) none (some (Operand.tmp 31)) none, type := 28, pos := "vergerref12.go:88", after := #[{ on := 5, ground := Ground.data }, { on := 6, ground := Ground.data }], guard := none }) (v := ?_) rfl (by kernel_rfl)  (by kernel_rfl) (by kernel_rfl) (by kernel_rfl) (fun _ _ _ h => h) (Or.inl ⟨by rfl, ?_⟩) (KC.out _ bd) ?_
        rotate_left
        · (intro w hSw; (try dsimp only at hSw); go_simp; try with_reducible rfl)
        simp only [Act.put, List.setIfInBounds_toArray, List.set_cons_zero, List.set_cons_succ]
        refine anyE_take (i := 9) (oi := { dst := some 34, op := Op.move (Operand.tmp 0), type := 43, pos := "vergerref12.go:88", after := #[], guard := none }) (v := ?_) rfl (by kernel_rfl)  (by kernel_rfl) (by kernel_rfl) (by kernel_rfl) (fun _ _ _ h => h) (Or.inl ⟨by rfl, ?_⟩) (KC.out _ bd) ?_
        rotate_left
        · (intro w hSw; (try dsimp only at hSw); go_simp; try with_reducible rfl)
        simp only [Act.put, List.setIfInBounds_toArray, List.set_cons_zero, List.set_cons_succ]
        refine anyE_take (i := 10) (oi := { dst := some 35, op := Op.nilCheck (Operand.tmp 34), type := 0, pos := "vergerref12.go:88", after := #[{ on := 9, ground := Ground.data }], guard := none }) (v := ?_) rfl (by kernel_rfl)  (by kernel_rfl) (by kernel_rfl) (by kernel_rfl) (fun _ _ _ h => h) (Or.inl ⟨by rfl, ?_⟩) (KC.out _ bd) ?_
        rotate_left
        · (intro w hSw; (try dsimp only at hSw); go_simp; try with_reducible rfl)
        simp only [Act.put, List.setIfInBounds_toArray, List.set_cons_zero, List.set_cons_succ]
        refine anyE_take (i := 11) (oi := { dst := some 36, op := Op.fieldAddr 45 (Operand.tmp 35) 1, type := 0, pos := "vergerref12.go:88", after := #[{ on := 10, ground := Ground.data }], guard := none }) (v := ?_) rfl (by kernel_rfl)  (by kernel_rfl) (by kernel_rfl) (by kernel_rfl) (fun _ _ _ h => h) (Or.inl ⟨by rfl, ?_⟩) (KC.out _ bd) ?_
        rotate_left
        · (intro w hSw; (try dsimp only at hSw); go_simp; try with_reducible rfl)
        simp only [Act.put, List.setIfInBounds_toArray, List.set_cons_zero, List.set_cons_succ]
        refine anyE_take (i := 12) (oi := { dst := some 37, op := Op.load 28 (Operand.tmp 36), type := 28, pos := "vergerref12.go:88", after := #[{ on := 11, ground := Ground.data }], guard := none }) (v := ?_) rfl (by kernel_rfl)  (by kernel_rfl) (by kernel_rfl) (by kernel_rfl) (fun _ _ _ h => h) (Or.inl ⟨by rfl, ?_⟩) (KC.out _ bd) ?_
        rotate_left
        · (intro w hSw; (try dsimp only at hSw); go_simp; try with_reducible rfl)
        simp only [Act.put, List.setIfInBounds_toArray, List.set_cons_zero, List.set_cons_succ]
        refine anyE_take (i := 13) (oi := { dst := some 38, op := Op.move (Operand.tmp 5), type := 3, pos := "vergerref12.go:88", after := #[], guard := none }) (v := ?_) rfl (by kernel_rfl)  (by kernel_rfl) (by kernel_rfl) (by kernel_rfl) (fun _ _ _ h => h) (Or.inl ⟨by rfl, ?_⟩) (KC.out _ bd) ?_
        rotate_left
        · (intro w hSw; (try dsimp only at hSw); go_simp; try with_reducible rfl)
        simp only [Act.put, List.setIfInBounds_toArray, List.set_cons_zero, List.set_cons_succ]
        refine anyE_take (i := 14) (oi := { dst := some 39, op := Op.binOp BinOp.add 3 (Operand.tmp 38) (Operand.const (Value.int IntKind.i64 1)) 3, type := 3, pos := "vergerref12.go:88", after := #[{ on := 13, ground := Ground.data }], guard := none }) (v := ?_) rfl (by kernel_rfl)  (by kernel_rfl) (by kernel_rfl) (by kernel_rfl) (fun _ _ _ h => h) (Or.inl ⟨by rfl, ?_⟩) (KC.out _ bd) ?_
        rotate_left
        · (intro w hSw; (try dsimp only at hSw); go_simp; try with_reducible rfl)
        simp only [Act.put, List.setIfInBounds_toArray, List.set_cons_zero, List.set_cons_succ]
        refine anyE_take (i := 15) (oi := { dst := some 40, op := Op.slice 28 (Operand.tmp 37) (some (Operand.tmp 39)) none none, type := 28, pos := "vergerref12.go:88", after := #[{ on := 12, ground := Ground.data }, { on := 14, ground := Ground.data }], guard := none }) (v := ?_) rfl (by kernel_rfl)  (by kernel_rfl) (by kernel_rfl) (by kernel_rfl) (fun _ _ _ h => h) (Or.inl ⟨by rfl, ?_⟩) (KC.out _ bd) ?_
        rotate_left
        · (intro w hSw; (try dsimp only at hSw); go_simp; try with_reducible rfl)
        simp only [Act.put, List.setIfInBounds_toArray, List.set_cons_zero, List.set_cons_succ]
        refine anyE_ready (rs := [1]) (by kernel_rfl) (by simp) ?_
        refine AllE.cons (o := { dst := some 26, op := Op.buildSlice 28 0 #[], type := 28, pos := "vergerref12.go:88", after := #[], guard := none }) rfl (fun Kt hKt => ?_) ?_
        · go_simp
          refine hKt.out _ _ (fun _ => KC.out _ b0) ?_
          clear hKt Kt
          try simp only [Act.put, List.setIfInBounds_toArray, List.set_cons_zero, List.set_cons_succ]
          refine anyE_ready (rs := [8]) (by kernel_rfl) (by simp) ?_
          refine AllE.cons (o := { dst := some 33, op := Op.call { callee := Callee.builtin Builtin.append, args := #[Operand.tmp 26, Operand.tmp 32], argTypes := #[28, 28] }, type := 28, pos := "vergerref12.go:88", after := #[{ on := 1, ground := Ground.data }, { on := 7, ground := Ground.data }], guard := none }) rfl (fun Kt hKt => ?_) ?_
          · refine step_app (w.alloc (.cells #[] 33)).drew (by rfl) _ _ 28 28 (by rfl) (.slice (some ⟨w.heap.size, 0, none⟩) 0 0) (.slice (some ⟨b, off, none⟩) k cap) (by rfl) (by rfl) (.slice r1 k t1) w1 h1 ?_
            refine hKt.out _ _ (fun _ => KC.out _ b1) ?_
            clear hKt Kt
            try simp only [Act.put, List.setIfInBounds_toArray, List.set_cons_zero, List.set_cons_succ]
            refine anyE_ready (rs := [16]) (by kernel_rfl) (by simp) ?_
            refine AllE.cons (o := { dst := some 41, op := Op.call { callee := Callee.builtin Builtin.append, args := #[Operand.tmp 33, Operand.tmp 40], argTypes := #[28, 28] }, type := 28, pos := "vergerref12.go:88", after := #[{ on := 8, ground := Ground.data }, { on := 15, ground := Ground.data }, { on := 8, ground := Ground.chain }], guard := none }) rfl (fun Kt hKt => ?_) ?_
            · refine step_app w1 (by rfl) _ _ 28 28 (by rfl) (.slice r1 k t1) (.slice p1 (T.length - (k + 1)) (cap - (k + 1))) (by rfl) (by rfl) (.slice r2 n2 t2) w2 h2 ?_
              refine hKt.out _ _ (fun _ => KC.out _ b2) ?_
              clear hKt Kt
              try simp only [Act.put, List.setIfInBounds_toArray, List.set_cons_zero, List.set_cons_succ]
              refine anyF_take [18] (i := 17) (oi := { dst := some 42, op := Op.nilCheck (Operand.tmp 25), type := 0, pos := "vergerref12.go:88", after := #[{ on := 0, ground := Ground.data }, { on := 0, ground := Ground.phase }, { on := 1, ground := Ground.phase }, { on := 2, ground := Ground.phase }, { on := 3, ground := Ground.phase }, { on := 4, ground := Ground.phase }, { on := 5, ground := Ground.phase }, { on := 6, ground := Ground.phase }, { on := 7, ground := Ground.phase }, { on := 8, ground := Ground.phase }, { on := 9, ground := Ground.phase }, { on := 10, ground := Ground.phase }, { on := 11, ground := Ground.phase }, { on := 12, ground := Ground.phase }, { on := 13, ground := Ground.phase }, { on := 14, ground := Ground.phase }, { on := 15, ground := Ground.phase }, { on := 16, ground := Ground.phase }], guard := none }) (v := ?_) rfl (by kernel_rfl) (by kernel_rfl)  (by kernel_rfl) (by kernel_rfl) (by kernel_rfl) (fun _ _ _ h => h) (Or.inl ⟨by rfl, ?_⟩) (KC.out _ b2) ?_
              rotate_left
              · (intro w hSw; (try dsimp only at hSw); go_simp; try with_reducible rfl)
              simp only [Act.put, List.setIfInBounds_toArray, List.set_cons_zero, List.set_cons_succ]
              refine anyE_take (i := 18) (oi := { dst := some 43, op := Op.fieldAddr 45 (Operand.tmp 42) 1, type := 0, pos := "vergerref12.go:88", after := #[{ on := 17, ground := Ground.data }, { on := 0, ground := Ground.phase }, { on := 1, ground := Ground.phase }, { on := 2, ground := Ground.phase }, { on := 3, ground := Ground.phase }, { on := 4, ground := Ground.phase }, { on := 5, ground := Ground.phase }, { on := 6, ground := Ground.phase }, { on := 7, ground := Ground.phase }, { on := 8, ground := Ground.phase }, { on := 9, ground := Ground.phase }, { on := 10, ground := Ground.phase }, { on := 11, ground := Ground.phase }, { on := 12, ground := Ground.phase }, { on := 13, ground := Ground.phase }, { on := 14, ground := Ground.phase }, { on := 15, ground := Ground.phase }, { on := 16, ground := Ground.phase }], guard := none }) (v := ?_) rfl (by kernel_rfl)  (by kernel_rfl) (by kernel_rfl) (by kernel_rfl) (fun _ _ _ h => h) (Or.inl ⟨by rfl, ?_⟩) (KC.out _ b2) ?_
              rotate_left
              · (intro w hSw; (try dsimp only at hSw); go_simp; try with_reducible rfl)
              simp only [Act.put, List.setIfInBounds_toArray, List.set_cons_zero, List.set_cons_succ]
              refine anyE_ready (rs := [19]) (by kernel_rfl) (by simp) ?_
              refine AllE.cons (o := { dst := none, op := Op.store 28 (Operand.tmp 43) (Operand.tmp 41), type := 0, pos := "vergerref12.go:88", after := #[{ on := 18, ground := Ground.data }, { on := 16, ground := Ground.data }, { on := 16, ground := Ground.chain }, { on := 0, ground := Ground.phase }, { on := 1, ground := Ground.phase }, { on := 2, ground := Ground.phase }, { on := 3, ground := Ground.phase }, { on := 4, ground := Ground.phase }, { on := 5, ground := Ground.phase }, { on := 6, ground := Ground.phase }, { on := 7, ground := Ground.phase }, { on := 8, ground := Ground.phase }, { on := 9, ground := Ground.phase }, { on := 10, ground := Ground.phase }, { on := 11, ground := Ground.phase }, { on := 12, ground := Ground.phase }, { on := 13, ground := Ground.phase }, { on := 14, ground := Ground.phase }, { on := 15, ground := Ground.phase }, { on := 16, ground := Ground.phase }], guard := none }) rfl (fun Kt hKt => ?_) ?_
              · go_simp
                refine hKt.out _ _ (fun h => absurd rfl h) ?_
                clear hKt Kt
                try simp only [Act.put, List.setIfInBounds_toArray, List.set_cons_zero, List.set_cons_succ]
                refine anyE_done (by kernel_rfl) ?_ _
                go_wp2
                go_ret
                exact ⟨by rw [HH.out]; rfl, F.out⟩
              exact AllE.nil
            exact AllE.nil
          exact AllE.nil
        exact AllE.nil
      · have E : Hid _ := e
        have e2 : (x == i) = false := by simpa using e
        rw [ha] at c1
        go_wp2
        go_round
        case rel =>
          refine ⟨k + 1, by go_num, by omega, (fun j hj hjk => ?_ : ∀ j (hj : j < T.length), j < k + 1 → T[j].2 ≠ i)⟩
          by_cases e : j = k
          · subst e; rw [HX.out]; exact E.out
          · exact A.out j hj (by omega)
        case measure => simp [intOf]; omega
    · have hz : ¬ (k : Int) < (T.length : Int) := by omega
      obtain ⟨q1, q2⟩ := can_none (T := T) (i := i) (fun j hj => A.out j hj (by omega))
      have F : Aside (RGo w X B now (canT T i) w) := by rw [q2]; exact RGo.same RR.out
      have HH : Hid _ := q1
      clear q1 q2 A
      go_wp2
      go_ret
      exact ⟨by rw [HH.out]; rfl, F.out⟩

theorem due_take {T : List Ent} (hs : Srt T) (now k : Nat) (hk : k ≤ T.length) (h1 : ∀ j (hj : j < T.length), j < k → T[j].1 ≤ (now : Int)) (h2 : ∀ h : k < T.length, (now : Int) < T[k].1) : dueL now T = T.take k ∧ restL now T = T.drop k := by
  have hd : ∀ x ∈ T.drop k, (now : Int) < x.1 := fun x hx => by
    obtain ⟨j, hj, rfl⟩ := List.mem_iff_getElem.1 hx
    rw [List.getElem_drop]
    have hj' : k + j < T.length := by simpa using Nat.add_lt_of_lt_sub' (by simpa using hj)
    have h0 := h2 (by omega)
    have := hs.le (show k ≤ k + j by omega) hj'
    rcases (ltE_not _ _).1 this with q | ⟨q, _⟩ <;> omega
  have ht : ∀ x ∈ T.take k, x.1 ≤ (now : Int) := fun x hx => by
    obtain ⟨j, hj, rfl⟩ := List.mem_iff_getElem.1 hx
    rw [List.getElem_take]
    have hj' : j < k ∧ j < T.length := by simp only [List.length_take] at hj; omega
    exact h1 j hj'.2 hj'.1
  have e : T = T.take k ++ T.drop k := (List.take_append_drop k T).symm
  constructor
  · unfold dueL
    conv => lhs; rw [e]
    rw [List.filter_append, List.filter_eq_self.2 (fun x hx => by simpa using ht x hx), List.filter_eq_nil_iff.2 (fun x hx => by have := hd x hx; simp only [decide_eq_true_eq]; omega), List.append_nil]
  · unfold restL
    conv => lhs; rw [e]
    rw [List.filter_append, List.filter_eq_nil_iff.2 (fun x hx => by have := ht x hx; simp only [decide_eq_true_eq]; omega), List.filter_eq_self.2 (fun x hx => by simpa using hd x hx), List.nil_append]
end Go.Proofs.YtbopobgnmkhabaaDoor

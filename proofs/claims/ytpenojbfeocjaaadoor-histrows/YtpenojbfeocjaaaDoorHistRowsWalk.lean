/- The walk of 'HistRows'. -/
import Derived.Test.YtpenojbfeocjaaaDoorHiK
import Derived.Test.YtpenojbfeocjaaaDoorHiA
import Derived.Test.YtpenojbfeocjaaaDoorMask
import Derived.Shelf.Abstract
import Derived.WalkSmall
namespace Go.Proofs.YtpenojbfeocjaaaDoor
open Go.RowKit Go.Lib Go.WideMaps Go.Maps
set_option linter.unusedVariables false
set_option maxRecDepth 10000

/-- An append whose run is known, at a step of a region that draws its order. -/
theorem step_app {ops : Array Oper} {o : Oper} {a : Act} {K : Act → World → Prop} {Q : Exit → Act → World → Prop} {E : Prop} (w : World) (hgd : o.guard = none) (s x : Operand) (t tn : TypeId)
    (ho : o.op = .call { callee := .builtin .append, args := #[s, x], argTypes := #[t, tn] }) (vs vx : Value) (hs : a.eval s = vs) (hx : a.eval x = vx)
    (v' : Value) (w' : World) (hr : (Builtin.append_ #[t, tn] o.type #[vs, vx]).run Tryd.prog w = .ok v' w') (h : K (a.put o.dst v') w') :
    if Region.wanted o (yielded ops a.tmps) = true then Oper.wp Tryd.prog o a w K Q else E := by
  have hw : Region.wanted o (yielded ops a.tmps) = true := by simp [Region.wanted, hgd]
  rw [if_pos hw]
  exact Lib.wp_append_run w s x t tn ho vs vx hs hx v' w' hr h
/-- One event left out of a row. -/
theorem cut_run {u : World} {a : Option Addr} {c N K L : Nat} (h : IsG rE u a c (rowsH N)) (hL : 4 * N = L) (hK : K < L) (hN : N ≤ 20) :
    ∃ p v1 w1 a2 c2 w2, (if c = K + 1 then a else a.map (·.add ((K + 1) * 6))) = p ∧ (Builtin.append_ #[24, 24] 24 #[.slice (some ⟨u.heap.size, 0, none⟩) 0 0, .slice a K c]).run Tryd.prog (u.alloc (.cells #[] 27)) = .ok v1 w1 ∧
      (Builtin.append_ #[24, 24] 24 #[v1, .slice p (L - (K + 1)) (c - (K + 1))]).run Tryd.prog w1 = .ok (.slice a2 (L - 1) c2) w2 ∧ IsG rE w2 a2 c2 (cutH K (rowsH N)) ∧ Below u.heap.size u w2 := by
  have hl := rowsH_len N
  rw [hL] at hl
  have b1 := bel1 u (.cells #[] 27)
  have o0 : OwnG rE (u.alloc (.cells #[] 27)) u.heap.size (.slice (some ⟨u.heap.size, 0, none⟩) 0 0) [] := OwnG.zero rE u (Nat.le_refl _)
  have l1 : ((rowsH N).take K).length = K := by rw [List.length_take]; omega
  have l2 : ((rowsH N).drop (K + 1)).length = L - (K + 1) := by rw [List.length_drop, hl]
  obtain ⟨v1, w1, r1, o1, g1⟩ := appG o0 ((h.take K).below b1) (by rw [l1]; simp; omega) b1.size 24
  have b2 : Below u.heap.size u w1 := b1.trans g1
  rw [l1] at r1
  obtain ⟨v2, w2, r2, o2, g2⟩ := appG o1 ((h.drop (K + 1) (by omega)).below b2) (by rw [l2, List.nil_append, l1]; omega) b2.size 24
  rw [l2] at r2
  obtain ⟨a2, c2, rfl, i2⟩ := o2.isG
  have e2 : ([] ++ (rowsH N).take K ++ (rowsH N).drop (K + 1)) = cutH K (rowsH N) := by rw [List.nil_append]; rfl
  rw [e2] at r2 i2
  rw [cutH_len (by omega), hL] at r2
  exact ⟨_, v1, w1, a2, c2, w2, rfl, r1, r2, i2, b2.trans g2⟩
set_option maxHeartbeats 16000000 in
set_option maxRecDepth 100000 in
theorem histRows_walk (x y : Int) (w : World) (wx : (Lit.int .i64 x).wf = true) (wy : (Lit.int .i64 y).wf = true) (t : Tb w) :
    Calls Tryd.prog 3 #[.int .i64 x, .int .i64 y] w fun e w' => e = .returned (.bool true) ∧ Below w.heap.size w w' := by
  obtain ⟨P, hP, P0, P1⟩ : ∃ Q, bits .and .i64 x 255 = Q ∧ 0 ≤ Q ∧ Q < 256 := ⟨_, mask_i64 x 8 255 256 (by omega) rfl rfl, by omega, by omega⟩
  obtain ⟨Q, hQ, Q0, Q1⟩ : ∃ Q, bits .and .i64 y 65535 = Q ∧ 0 ≤ Q ∧ Q < 65536 := ⟨_, mask_i64 y 16 65535 65536 (by omega) rfl rfl, by omega, by omega⟩
  obtain ⟨N, hN, N1, N2⟩ : ∃ A : Nat, P.tmod 20 + 1 = (A : Int) ∧ 1 ≤ A ∧ A ≤ 20 := by
    rw [Int.tmod_eq_emod_of_nonneg P0]
    exact ⟨(P % 20 + 1).toNat, by omega, by omega, by omega⟩
  have hN2 : IntKind.i64.wrap (P.tmod 20 + 1) = (N : Int) := by rw [hN, IntKind.wrap_i64]; omega
  have hN0 : IntKind.i64.wrap (P.tmod 20) = P.tmod 20 := by rw [IntKind.wrap_i64]; omega
  obtain ⟨L, hL⟩ : ∃ L, 4 * N = L := ⟨_, rfl⟩
  obtain ⟨K, hK, K1⟩ : ∃ A : Nat, Q.tmod (L : Int) = (A : Int) ∧ A < L := by
    rw [Int.tmod_eq_emod_of_nonneg Q0]
    have h1 := Int.emod_nonneg Q (show (L : Int) ≠ 0 by omega)
    have h2 := Int.emod_lt_of_pos Q (show (0 : Int) < (L : Int) by omega)
    exact ⟨(Q % (L : Int)).toNat, by omega, by omega⟩
  have L0 : ¬ (L : Int) = 0 := by omega
  have L1 : IntKind.i64.wrap (K : Int) = (K : Int) := by rw [IntKind.wrap_i64]; omega
  have hQm : ¬ (Q = -9223372036854775808 ∧ (L : Int) = -1) := by omega
  clear P0 P1 Q0 Q1 wx wy
  obtain ⟨X, hX⟩ : ∃ X, w.heap.size = X := ⟨_, rfl⟩
  obtain ⟨u1, hu1⟩ : ∃ u, w.alloc (.cells #[.int .i64 1, .int .i64 0, .int .i64 64] 23) = u := ⟨_, rfl⟩
  have s1 : u1.heap.size = X + 1 := by rw [← hu1, alloc_sz, hX]
  have B1 : Aside (Below X w u1) := by show Below _ _ _; rw [← hu1, ← hX]; exact bel1 _ _
  have T1 : Aside (Tb u1) := t.below (by rw [← hu1]; exact bel1 _ _)
  have C1 : Aside (u1.cell? ⟨X, 0, none⟩ = some (.int .i64 1) ∧ u1.cell? ⟨X, 1, none⟩ = some (.int .i64 0) ∧ u1.cell? ⟨X, 2, none⟩ = some (.int .i64 64)) := by
    refine ⟨?_, ?_, ?_⟩ <;> rw [← hu1, ← hX, cell_fresh] <;> rfl
  have CB : Aside (∀ w', Below (X + 1) u1 w' → w'.cell? ⟨X, 0, none⟩ = some (.int .i64 1) ∧ w'.cell? ⟨X, 1, none⟩ = some (.int .i64 0) ∧ w'.cell? ⟨X, 2, none⟩ = some (.int .i64 64)) := fun w' hb => by
    obtain ⟨e0, e1, e2⟩ := C1.out
    exact ⟨(hb.cell (p := ⟨X, 0, none⟩) (by show X < _; omega)).trans e0, (hb.cell (p := ⟨X, 1, none⟩) (by show X < _; omega)).trans e1, (hb.cell (p := ⟨X, 2, none⟩) (by show X < _; omega)).trans e2⟩
  have FINB : Aside (∀ w', Below (X + 1) u1 w' → Below w.heap.size w w') := fun w' hb => by rw [hX]; exact B1.out.trans (hb.mono (by omega))
  have O0 : Aside (OwnG rE u1 (X + 1) (.slice none 0 0) (rowsH 0)) := OwnG.nil _ _ _
  have G0 : Aside (Below (X + 1) u1 u1) := Below.refl _ _
  have S1 : Aside _ := s1
  have HX : Aside _ := hX
  have HU : Aside _ := hu1
  clear hu1 t C1 s1
  go_enter Tryd.func3, Tryd.ntmps3
  go_upto_region 3 with fail
  try rw [HU.out]
  try simp only [hX]
  clear hX
  go_wp2_with fail
  go_loopg [6, 7] N (fun kx s6 s7 wr => ∃ (I : Nat) (v : Value), v = s6 ∧ s7 = .int .i64 (I + 1 : Nat) ∧ I ≤ N ∧ N - I ≤ kx ∧ Aside (OwnG rE wr (X + 1) v (rowsH I)) ∧ Aside (Below (X + 1) u1 wr))
  case atStart => exact ⟨0, _, rfl, rfl, by omega, by omega, O0, G0⟩
  case round =>
    obtain ⟨I, v, rfl, rfl, hI, hkx, O, G⟩ := hrel
    have hXs : Aside (X + 1 ≤ wr.heap.size) := by have := G.out.size; have := S1.out; show _ ≤ _; omega
    by_cases hlt : I < N
    · have hz : (((I + 1 : Nat) : Int)) ≤ (N : Int) := by omega
      have hw1 : IntKind.i64.wrap (((I + 1 : Nat) : Int) - 1) = (I : Int) := by rw [IntKind.wrap_i64]; omega
      have hw2 : IntKind.u64.wrap (I : Int) = (I : Int) := by rw [IntKind.wrap_u64]; omega
      have hw3 : IntKind.u64.wrap ((I : Int) + 1) = ((I + 1 : Nat) : Int) := by rw [IntKind.wrap_u64]; omega
      obtain ⟨v', w', hr, o', b'⟩ := O.out.pushL (task I) (by rw [rowsH_len]; show 4 * I + 4 ≤ _; omega) hXs.out 24
      have hr2 : (Builtin.append_ #[24, 24] 24 #[v, .slice (some ⟨wr.heap.size, 0, none⟩) 4 4]).run Tryd.prog (wr.alloc (.cells #[.int .i64 1, .int .i64 (-1), .int .i64 ((I + 1 : Nat) : Int), .int .u64 0, .int .u64 I, .int .u64 0, .int .i64 2, .int .i64 0, .int .i64 ((I + 1 : Nat) : Int), .int .u64 I, .int .u64 I, .int .u64 0, .int .i64 3, .int .i64 0, .int .i64 ((I + 1 : Nat) : Int), .int .u64 I, .int .u64 I, .int .u64 0, .int .i64 4, .int .i64 0, .int .i64 ((I + 1 : Nat) : Int), .int .u64 0, .int .u64 ((I + 1 : Nat) : Int), .int .u64 0] 27)) = .ok v' w' := hr
      have NO : Aside (OwnG rE w' (X + 1) v' (rowsH (I + 1))) := o'
      have NG : Aside (Below (X + 1) u1 w') := G.out.trans b'
      clear hr o' b' O G
      obtain ⟨J, hJ⟩ : ∃ J : Nat, I + 1 = J := ⟨_, rfl⟩
      rw [hJ] at NO hz hw1 hw3 hr2 ⊢
      go_wp2_with (at_builtin; refine wpList_app _ rfl _ _ 24 rfl _ _ rfl rfl v' w' hr2 ?_; clear hr2)
      go_roundg (N - J)
      case measure => omega
      case rel => exact ⟨J, _, rfl, by go_num, by omega, Nat.le_refl _, NO, NG⟩
    · have e0 : I = N := by omega
      subst e0
      have hz : ¬ ((I : Int) + 1 ≤ (I : Int)) := by omega
      obtain ⟨a, c, rfl, hg⟩ := O.out.isG
      have H0 : Aside (IsG rE wr a c (rowsH I)) := hg
      have RK : Aside (∀ x ∈ rowsH I, x.ok) := rowsH_ok (by omega)
      have RL : Aside ((rowsH I).length ≤ 10000) := by show _ ≤ _; rw [rowsH_len]; omega
      have RF : Aside (okB rw0 (rowsH I) = true) := ok_all N1 N2
      have hln := rowsH_len I
      have hcl := clH_len I
      have P1 := ok_any (t := 1) (k := 0) (c := 64) (by decide) a c (rowsH I) wr hg RK.out RL.out
      rw [hln, hL] at P1
      rw [hln, hL]
      have HL : Aside _ := hL
      have G : Aside (Below (X + 1) u1 wr) := G
      obtain ⟨c0, c1, c2⟩ := CB.out _ G.out
      have HN2 : Aside _ := N2
      have HN1 : Aside _ := N1
      have HK1 : Aside _ := K1
      clear O hg hln hcl N1 N2 hN hN2 hN0 hL
      go_wp2_with fail
      refine P1.mono ?_
      rintro r w1 ⟨z, rfl, hz1, b1⟩
      have e1 : z = 0 := by unfold OkIs at hz1; rw [if_pos RF.out] at hz1; exact hz1
      subst e1
      have G1 : Aside (Below (X + 1) u1 w1) := G.out.trans (b1.mono hXs.out)
      have H1 : IsG rE w1 a c (rowsH I) := H0.out.below b1
      have P2 := claims_any H1 RL.out
      rw [rowsH_len, HL.out, clH_len] at P2
      clear P1 c0 c1 c2 hz1 b1
      go_wp2_with fail
      refine P2.mono ?_
      rintro r w2 ⟨a2, k2, rfl, -, b2⟩
      have G2 : Aside (Below (X + 1) u1 w2) := G1.out.trans (b2.mono (by have := G1.out.size; have := S1.out; omega))
      have H2 : IsG rE w2 a c (rowsH I) := H1.below b2
      have P3 := claims_any H2 RL.out
      rw [rowsH_len, HL.out, clH_len] at P3
      clear P2 b2 H1
      go_wp2_with fail
      refine P3.mono ?_
      rintro r w3 ⟨a3, k3, rfl, g3, b3⟩
      have G3 : Aside (Below (X + 1) u1 w3) := G2.out.trans (b3.mono (by have := G2.out.size; have := S1.out; omega))
      have H3 : IsG rE w3 a c (rowsH I) := H2.below b3
      have P4 := vSorted_yes g3 (clH_srt I)
      rw [clH_len] at P4
      clear P3 b3 H2 g3
      go_wp2_with fail
      refine P4.mono ?_
      rintro r w4 ⟨rfl, b4⟩
      have b4 := b4.below
      have G4 : Aside (Below (X + 1) u1 w4) := G3.out.trans (b4.mono (by have := G3.out.size; have := S1.out; omega))
      have H4 : IsG rE w4 a c (rowsH I) := H3.below b4
      have P5 := ready_none H4 RK.out RL.out RF.out (rowsH_g I)
      rw [rowsH_len, HL.out] at P5
      clear P4 b4 H3
      go_wp2_with fail
      refine P5.mono ?_
      rintro r w5 ⟨rfl, b5⟩
      have G5 : Aside (Below (X + 1) u1 w5) := G4.out.trans (b5.mono (by have := G4.out.size; have := S1.out; omega))
      have H5 : Aside (IsG rE w5 a c (rowsH I)) := H4.below b5
      clear P5 b5 H4
      go_wp2_with fail
      obtain ⟨Y, hY⟩ : ∃ Y, w5.heap.size = Y := ⟨_, rfl⟩
      obtain ⟨p, v1, w6, a6, c6, w7, hp, r1, r2, g7, b7⟩ := cut_run (u := w5.drew) (c := c) (N := I) (K := K) (L := L) (H5.out.below ((Below.refl _ _).drew)) HL.out HK1.out HN2.out
      rw [show w5.drew.heap.size = Y from hY] at r1
      have R1 : Aside _ := r1
      have R2 : Aside _ := r2
      have hle := H5.out.le
      have hbig := H5.out.big
      unfold maxLen at hbig
      rw [rowsH_len, HL.out] at hle
      have k0 : (0 : Int) ≤ (K : Int) := by omega
      have k1 : (K : Int) ≤ (c : Int) := by omega
      have k2 : (K : Int) ≤ (L : Int) := by omega
      have k3 : IntKind.i64.wrap ((K : Int) + 1) = ((K + 1 : Nat) : Int) := by rw [IntKind.wrap_i64]; omega
      have k4 : ((K + 1 : Nat) : Int) ≤ (L : Int) := by omega
      have k5 : (0 : Int) ≤ ((K + 1 : Nat) : Int) := by omega
      have G7 : Aside (Below (X + 1) u1 w7) := G5.out.trans ((((Below.refl w5.heap.size w5).drew).trans b7).mono (by have := G5.out.size; have := S1.out; omega))
      have H7 : Aside (IsG rE w7 a6 c6 (cutH K (rowsH I))) := g7
      have HYY : Aside _ := hY
      obtain ⟨K2, hK2⟩ : ∃ K2, K + 1 = K2 := ⟨_, rfl⟩
      rw [hK2] at hp R2 k3 k4 k5
      clear r1 r2 g7 b7
      go_wp2_with fail
      refine wp_region_held_drew (S := (fun _ => True)) (by kernel_rfl) (trivial) (fun hHeld => ?_)
      refine wpAnyH_take (i := 1) (oi := { dst := some 74, op := Op.move (Operand.tmp 6), type := 24, pos := "extra.go:58", after := #[], guard := none }) (v := ?_) rfl (by kernel_rfl) (by kernel_rfl) (by kernel_rfl) (fun _ _ _ h => h) (Or.inl ⟨by rfl, ?_⟩) (by assumption) ?_
      rotate_left
      · (intro w hSw; (try dsimp only at hSw); go_simp; try with_reducible rfl)
      simp only [Act.put, List.setIfInBounds_toArray, List.set_cons_zero, List.set_cons_succ]
      refine wpAnyH_take (i := 2) (oi := { dst := some 75, op := Op.move (Operand.tmp 9), type := 3, pos := "extra.go:58", after := #[], guard := none }) (v := ?_) rfl (by kernel_rfl) (by kernel_rfl) (by kernel_rfl) (fun _ _ _ h => h) (Or.inl ⟨by rfl, ?_⟩) (by assumption) ?_
      rotate_left
      · (intro w hSw; (try dsimp only at hSw); go_simp; try with_reducible rfl)
      simp only [Act.put, List.setIfInBounds_toArray, List.set_cons_zero, List.set_cons_succ]
      refine wpAnyH_take (i := 3) (oi := { dst := some 76, op := Op.slice 24 (Operand.tmp 74) none (some (Operand.tmp 75)) none, type := 24, pos := "extra.go:58", after := #[{ on := 1, ground := Ground.data }, { on := 2, ground := Ground.data }], guard := none }) (v := ?_) rfl (by kernel_rfl) (by kernel_rfl) (by kernel_rfl) (fun _ _ _ h => h) (Or.inl ⟨by rfl, ?_⟩) (by assumption) ?_
      rotate_left
      · (intro w hSw; (try dsimp only at hSw); go_simp; try with_reducible rfl)
      simp only [Act.put, List.setIfInBounds_toArray, List.set_cons_zero, List.set_cons_succ]
      refine wpAnyH_take (i := 5) (oi := { dst := some 78, op := Op.move (Operand.tmp 6), type := 24, pos := "extra.go:58", after := #[], guard := none }) (v := ?_) rfl (by kernel_rfl) (by kernel_rfl) (by kernel_rfl) (fun _ _ _ h => h) (Or.inl ⟨by rfl, ?_⟩) (by assumption) ?_
      rotate_left
      · (intro w hSw; (try dsimp only at hSw); go_simp; try with_reducible rfl)
      simp only [Act.put, List.setIfInBounds_toArray, List.set_cons_zero, List.set_cons_succ]
      refine wpAnyH_take (i := 6) (oi := { dst := some 79, op := Op.move (Operand.tmp 9), type := 3, pos := "extra.go:58", after := #[], guard := none }) (v := ?_) rfl (by kernel_rfl) (by kernel_rfl) (by kernel_rfl) (fun _ _ _ h => h) (Or.inl ⟨by rfl, ?_⟩) (by assumption) ?_
      rotate_left
      · (intro w hSw; (try dsimp only at hSw); go_simp; try with_reducible rfl)
      simp only [Act.put, List.setIfInBounds_toArray, List.set_cons_zero, List.set_cons_succ]
      refine wpAnyH_take (i := 7) (oi := { dst := some 80, op := Op.binOp BinOp.add 3 (Operand.tmp 79) (Operand.const (Value.int IntKind.i64 1)) 3, type := 3, pos := "extra.go:58", after := #[{ on := 6, ground := Ground.data }], guard := none }) (v := ?_) rfl (by kernel_rfl) (by kernel_rfl) (by kernel_rfl) (fun _ _ _ h => h) (Or.inl ⟨by rfl, ?_⟩) (by assumption) ?_
      rotate_left
      · (intro w hSw; (try dsimp only at hSw); go_simp; try with_reducible rfl)
      simp only [Act.put, List.setIfInBounds_toArray, List.set_cons_zero, List.set_cons_succ]
      refine wpAnyH_take (i := 8) (oi := { dst := some 81, op := Op.slice 24 (Operand.tmp 78) (some (Operand.tmp 80)) none none, type := 24, pos := "extra.go:58", after := #[{ on := 5, ground := Ground.data }, { on := 7, ground := Ground.data }], guard := none }) (v := ?_) rfl (by kernel_rfl) (by kernel_rfl) (by kernel_rfl) (fun _ _ _ h => h) (Or.inl ⟨by rfl, ?_⟩) (by assumption) ?_
      rotate_left
      · (intro w hSw; (try dsimp only at hSw); go_simp; try with_reducible rfl)
      simp only [Act.put, List.setIfInBounds_toArray, List.set_cons_zero, List.set_cons_succ]
      refine wpAnyH_ready (rs := [0]) (by kernel_rfl) (by simp) ?_
      refine AllReadyH.cons (o := { dst := some 73, op := Op.buildSlice 24 0 #[], type := 24, pos := "extra.go:58", after := #[], guard := none }) rfl (fun Kt hKt => ?_) AllReadyH.nil
      go_simp
      skip
      refine hKt.out _ _ (trivial) (fun hHeld => ?_)
      clear hKt Kt
      try simp only [Act.put, List.setIfInBounds_toArray, List.set_cons_zero, List.set_cons_succ]
      refine wpAnyH_ready (rs := [4]) (by kernel_rfl) (by simp) ?_
      refine AllReadyH.cons (o := { dst := some 77, op := Op.call { callee := Callee.builtin Builtin.append, args := #[Operand.tmp 73, Operand.tmp 76], argTypes := #[24, 24] }, type := 24, pos := "extra.go:58", after := #[{ on := 0, ground := Ground.data }, { on := 3, ground := Ground.data }], guard := none }) rfl (fun Kt hKt => ?_) AllReadyH.nil
      refine step_app _ (by rfl) _ _ 24 24 (by rfl) (.slice (some ⟨Y, 0, none⟩) 0 0) (.slice a K c) (by rfl) (by rfl) v1 w6 R1.out ?_
      refine hKt.out _ _ (trivial) (fun hHeld => ?_)
      clear hKt Kt
      try simp only [Act.put, List.setIfInBounds_toArray, List.set_cons_zero, List.set_cons_succ]
      refine wpAnyH_ready (rs := [9]) (by kernel_rfl) (by simp) ?_
      refine AllReadyH.cons (o := { dst := some 82, op := Op.call { callee := Callee.builtin Builtin.append, args := #[Operand.tmp 77, Operand.tmp 81], argTypes := #[24, 24] }, type := 24, pos := "extra.go:58", after := #[{ on := 4, ground := Ground.data }, { on := 8, ground := Ground.data }, { on := 4, ground := Ground.chain }], guard := none }) rfl (fun Kt hKt => ?_) AllReadyH.nil
      refine step_app _ (by rfl) _ _ 24 24 (by rfl) v1 (.slice p (L - K2) (c - K2)) (by rfl) (by rfl) (.slice a6 (L - 1) c6) w7 R2.out ?_
      refine hKt.out _ _ (trivial) (fun hHeld => ?_)
      clear hKt Kt
      try simp only [Act.put, List.setIfInBounds_toArray, List.set_cons_zero, List.set_cons_succ]
      refine wpAnyH_take (i := 10) (oi := { dst := some 10, op := Op.assign (Operand.tmp 82), type := 24, pos := "extra.go:58", after := #[{ on := 9, ground := Ground.data }, { on := 9, ground := Ground.chain }, { on := 0, ground := Ground.phase }, { on := 1, ground := Ground.phase }, { on := 2, ground := Ground.phase }, { on := 3, ground := Ground.phase }, { on := 4, ground := Ground.phase }, { on := 5, ground := Ground.phase }, { on := 6, ground := Ground.phase }, { on := 7, ground := Ground.phase }, { on := 8, ground := Ground.phase }, { on := 9, ground := Ground.phase }], guard := none }) (v := ?_) rfl (by kernel_rfl) (by kernel_rfl) (by kernel_rfl) (fun _ _ _ h => h) (Or.inl ⟨by rfl, ?_⟩) (by assumption) ?_
      rotate_left
      · (intro w hSw; (try dsimp only at hSw); go_simp; try with_reducible rfl)
      simp only [Act.put, List.setIfInBounds_toArray, List.set_cons_zero, List.set_cons_succ]
      refine wpAnyH_done (by kernel_rfl) ?_ _
      clear hp R1 R2 k0 k1 k2 k3 k4 k5 hle hbig HYY hY
      obtain ⟨c0, c1, c2⟩ := CB.out _ G7.out
      have P6 := ok_any (t := 1) (k := 0) (c := 64) (by decide) a6 c6 (cutH K (rowsH I)) w7 H7.out (cutH_ok (by have := HN2.out; omega)) (by have := HK1.out; have := HL.out; have := HN2.out; rw [cutH_len (by omega)]; omega)
      rw [cutH_len (by have := HK1.out; have := HL.out; omega), HL.out] at P6
      have OC : okB rw0 (cutH K (rowsH I)) = decide (K % 4 = 3) := ok_cut HN1.out HN2.out (by have := HK1.out; have := HL.out; omega)
      by_cases h3 : K % 4 = 3
      · have m1 : (K : Int).tmod 4 = 3 := by rw [Int.tmod_eq_emod_of_nonneg (by omega)]; omega
        have m2 : IntKind.i64.wrap 3 = 3 := by decide
        have OC2 : Aside (∀ z, OkIs z (cutH K (rowsH I)) → z = 0) := fun z hz => by unfold OkIs at hz; rw [OC, decide_eq_true h3, if_pos rfl] at hz; exact hz
        clear OC h3
        go_wp2_with fail
        refine P6.mono ?_
        rintro r w8 ⟨z, rfl, hz8, b8⟩
        obtain rfl := OC2.out z hz8
        have G8 : Aside (Below (X + 1) u1 w8) := G7.out.trans (b8.mono (by have := G7.out.size; have := S1.out; omega))
        have T8 : Tb w8 := T1.out.below (by have := G8.out; rw [← S1.out] at this; exact this)
        clear P6 c0 c1 c2 b8 hz8
        go_wp2_with fail
        refine (awake_any w8 T8).mono ?_
        rintro r w9 ⟨rfl, b9⟩
        go_wp2_with fail
        go_ret
        exact ⟨rfl, FINB.out _ (G8.out.trans (b9.mono (by have := G8.out.size; have := S1.out; omega)))⟩
      · obtain ⟨M, m1, m3⟩ : ∃ M : Int, (K : Int).tmod 4 = M ∧ 0 ≤ M ∧ M < 3 := by
          rw [Int.tmod_eq_emod_of_nonneg (by omega)]
          exact ⟨_, rfl, by omega, by omega⟩
        have m2 : IntKind.i64.wrap M = M := by rw [IntKind.wrap_i64]; omega
        have m4 : ¬ M = 3 := by omega
        have OC2 : Aside (∀ z, OkIs z (cutH K (rowsH I)) → z = 3) := fun z hz => by unfold OkIs at hz; rw [OC, decide_eq_false h3, if_neg (by simp)] at hz; exact hz
        clear OC h3 m3
        go_wp2_with fail
        refine P6.mono ?_
        rintro r w8 ⟨z, rfl, hz8, b8⟩
        obtain rfl := OC2.out z hz8
        have G8 : Aside (Below (X + 1) u1 w8) := G7.out.trans (b8.mono (by have := G7.out.size; have := S1.out; omega))
        have T8 : Tb w8 := T1.out.below (by have := G8.out; rw [← S1.out] at this; exact this)
        clear P6 c0 c1 c2 b8 hz8
        go_wp2_with fail
        refine (awake_any w8 T8).mono ?_
        rintro r w9 ⟨rfl, b9⟩
        go_wp2_with fail
        go_ret
        exact ⟨rfl, FINB.out _ (G8.out.trans (b9.mono (by have := G8.out.size; have := S1.out; omega)))⟩
end Go.Proofs.YtpenojbfeocjaaaDoor

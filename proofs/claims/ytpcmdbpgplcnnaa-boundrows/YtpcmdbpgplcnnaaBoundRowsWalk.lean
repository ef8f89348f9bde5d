/- The walk of 'BoundRows'. -/
import Derived.Test.YtpcmdbpgplcnnaaBnZ
import Derived.Test.YtpcmdbpgplcnnaaBnXr
import Derived.Shelf.Abstract
namespace Go.Proofs.Ytpcmdbpgplcnnaa
open Go.RowKit Go.Lib Go.WideMaps Go.Maps
set_option linter.unusedVariables false
set_option maxRecDepth 10000

/-- One more event at the end of the row in the box. -/
theorem LBx.push1 {w : World} {X n : Nat} {v : Value} {d : List EvR} (h : LBx w X v d n) (hd : d.length < 100000) (e : EvR) : ∃ a l k w', (Builtin.append_ #[22, 22] 22 #[v, .slice (some ⟨w.heap.size, 0, none⟩) 1 1]).run Try.prog (w.alloc (.cells #[.int .i64 e.k, .int .i64 e.t, .int .i64 e.i, .int .u64 e.y, .int .u64 e.c, .int .u64 e.n] 25)) = .ok (.slice a l k) w' ∧
    w'.cell? ⟨X, 0, none⟩ = some v ∧ w'.frozen? ⟨X, 0, none⟩ = false ∧ LSt w (w'.setCell ⟨X, 0, none⟩ (.slice a l k)) X (d ++ [e]) n := by
  obtain ⟨v2, w2, hr, o2, b2⟩ := h.o.push e (by omega) h.sz 22
  obtain ⟨a2, k2, rfl, G2⟩ := o2.isG
  have g2 := (b2.block X (by omega)).trans h.hl
  refine ⟨a2, _, k2, w2, hr, by rw [cell_of_row _ _ _ _ _ _ g2]; rfl, by simp [World.frozen?, g2], ⟨_, h.setRow b2 o2⟩, ?_⟩
  have bm : Below X w w2 := b2.mono (by omega)
  exact bm.setCell (Nat.le_refl _) _
theorem LSt.tr {w w1 w2 : World} {X n : Nat} {d : List EvR} (h : Below X w w1) (k : LSt w1 w2 X d n) : LSt w w2 X d n := ⟨k.1, h.trans k.2⟩
set_option maxHeartbeats 8000000 in
set_option maxRecDepth 100000 in
theorem boundRows_walk (x y : Int) (w : World) (wx : (Lit.int .i64 x).wf = true) (wy : (Lit.int .i64 y).wf = true) :
    Calls Try.prog 3 #[.int .i64 x, .int .i64 y] w fun e w' => e = .returned (.bool true) ∧ Below w.heap.size w w' := by
  clear wx wy
  obtain ⟨P, hP, P0, P1⟩ : ∃ Q, bits .and .i64 x 255 = Q ∧ 0 ≤ Q ∧ Q < 256 := ⟨_, mask_i64 x 8 255 256 (by omega) rfl rfl, by omega, by omega⟩
  obtain ⟨Q, hQ, Q0, Q1⟩ : ∃ Q, bits .and .i64 y 255 = Q ∧ 0 ≤ Q ∧ Q < 256 := ⟨_, mask_i64 y 8 255 256 (by omega) rfl rfl, by omega, by omega⟩
  obtain ⟨A, hA, hA2⟩ : ∃ A : Nat, P.tmod 20 = (A : Int) ∧ A < 20 := by
    rw [Int.tmod_eq_emod_of_nonneg P0]
    exact ⟨(P % 20).toNat, by omega, by omega⟩
  obtain ⟨B, hB, hB2⟩ : ∃ A : Nat, Q.tmod 20 = (A : Int) ∧ A < 20 := by
    rw [Int.tmod_eq_emod_of_nonneg Q0]
    exact ⟨(Q % 20).toNat, by omega, by omega⟩
  clear P0 P1 Q0 Q1
  have E1 := Go.Proofs.enters_of Try.func6 (by kernel_rfl) rfl
  obtain ⟨X, hX⟩ : ∃ X, w.heap.size = X := ⟨_, rfl⟩
  obtain ⟨u1, hu1⟩ : ∃ u, (w.alloc (.cells #[.slice none 0 0] 22)).alloc (.cells #[.int .i64 0] 3) = u := ⟨_, rfl⟩
  have L1 : LBx u1 X (.slice none 0 0) [] 0 := by
    have b2 := bel1 (w.alloc (.cells #[.slice none 0 0] 22)) (.cells #[.int .i64 0] 3)
    have h1 := heap_alloc_new w (.cells #[.slice none 0 0] 22)
    have h2 := heap_alloc_new (w.alloc (.cells #[.slice none 0 0] 22)) (.cells #[.int .i64 0] 3)
    rw [alloc_sz, hX] at h2
    rw [hX] at h1
    rw [← hu1]
    exact ⟨(b2.block X (by rw [alloc_sz]; omega)).trans h1, h2, OwnG.nil _ _ _, by rw [alloc_sz, alloc_sz]; omega⟩
  have B1 : Aside (Below X w u1) := by
    show Below _ _ _
    rw [← hu1, ← hX]
    exact Below.tr (bel1 _ _) (bel1 _ _)
  have HX : Aside _ := hX
  have HU : Aside _ := hu1
  have hX1 : w.heap.size + 1 = X + 1 := by omega
  have HX1 : Aside _ := hX1
  have L1 : Aside (LBx u1 X (.slice none 0 0) [] 0) := L1
  clear hu1
  go_enter Try.func3, Try.ntmps3
  go_upto_region 4 with fail
  rw [HU.out]
  try simp only [hX]
  clear hX hX1
  go_wp2_with fail
  refine (put_any (y := 50) L1.out (by omega) (by decide)).mono ?_
  rintro r w2 ⟨rfl, S2⟩
  have S2 : Aside (LSt w w2 X (rows1 0) 1) := LSt.tr B1.out S2
  clear L1 B1
  go_wp2_with fail
  go_loopg [8] A (fun kx s8 wr => ∃ I : Nat, s8 = .int .i64 I ∧ I ≤ A ∧ A - I ≤ kx ∧ Aside (LSt w wr X (rows1 I) (I + 1)))
  case atStart => exact ⟨0, rfl, by omega, by omega, S2⟩
  case round =>
    clear S2
    obtain ⟨I, rfl, hI, hkx, SI⟩ := hrel
    by_cases hlt : I < A
    · have hz : (I : Int) < (A : Int) := by omega
      have hw : IntKind.u64.wrap (I : Int) = (I : Int) := by rw [IntKind.wrap_u64]; omega
      obtain ⟨⟨v, LI⟩, BI⟩ := SI.out
      have PC := put_any (y := I) LI (by omega) (by rw [rows1_len]; omega)
      have BI : Aside (Below X w wr) := BI
      clear LI SI
      go_wp2_with fail
      refine PC.mono ?_
      rintro r w3 ⟨rfl, S3⟩
      have S3 : Aside (LSt w w3 X (rows1 (I + 1)) (I + 1 + 1)) := by
        rw [rows1_next] at S3
        exact LSt.tr BI.out S3
      clear PC
      go_wp2_with fail
      go_roundg (A - (I + 1))
      case measure => omega
      case rel => exact ⟨I + 1, by go_num, by omega, Nat.le_refl _, S3⟩
    · have hz : ¬ (I : Int) < (A : Int) := by omega
      have e0 : I = A := by omega
      subst e0
      obtain ⟨⟨v, LI⟩, BI⟩ := SI.out
      have BI : Aside (Below X w wr) := BI
      obtain ⟨c0, c1⟩ := LI.cells
      obtain ⟨f0, f1⟩ := LI.frozen
      obtain ⟨a4, l4, k4, w4, hr4, c4, f4, S4⟩ := LI.push1 (by rw [rows1_len]; omega) ⟨10, 1, 1, 50, 0, 0⟩
      dsimp only at hr4
      have S4 : Aside (LSt w (w4.setCell ⟨X, 0, none⟩ (.slice a4 l4 k4)) X (rows2 I 0) (I + 1)) := by
        show LSt _ _ _ ((rows1 I ++ [_]) ++ []) _
        rw [List.append_nil]
        exact LSt.tr BI.out S4
      obtain ⟨w5, hw5⟩ : ∃ u, w4.setCell ⟨X, 0, none⟩ (.slice a4 l4 k4) = u := ⟨_, rfl⟩
      rw [hw5] at S4
      have HW5 : Aside _ := hw5
      clear LI SI BI hw5
      go_wp2_with (at_builtin; refine wpList_app _ rfl _ _ 22 rfl _ _ rfl rfl (.slice a4 l4 k4) w4 hr4 ?_; clear hr4)
      rw [HW5.out]
      go_loopg [9] B (fun kx s9 wr => ∃ J : Nat, s9 = .int .i64 J ∧ J ≤ B ∧ B - J ≤ kx ∧ Aside (LSt w wr X (rows2 I J) (I + 1 + J)))
      case atStart => exact ⟨0, rfl, by omega, by omega, S4⟩
      case round =>
        clear S4 c0 c1 f0 f1 c4 f4
        obtain ⟨J, rfl, hJ, hkx, SJ⟩ := hrel
        by_cases hlt : J < B
        · have hz : (J : Int) < (B : Int) := by omega
          have hw : IntKind.u64.wrap (20 + (J : Int)) = ((20 + J : Nat) : Int) := by rw [IntKind.wrap_u64]; omega
          obtain ⟨⟨v, LI⟩, BI⟩ := SJ.out
          have PC := put_any (y := 20 + J) LI (by omega) (by rw [rows2_len]; omega)
          have BI : Aside _ := BI
          clear LI SJ
          go_wp2_with fail
          refine PC.mono ?_
          rintro r w3 ⟨rfl, S3⟩
          have S3 : Aside (LSt w w3 X (rows2 I (J + 1)) (I + 1 + (J + 1))) := by
            rw [rows2_next] at S3
            exact LSt.tr BI.out S3
          clear PC
          go_wp2_with fail
          go_roundg (B - (J + 1))
          case measure => omega
          case rel => exact ⟨J + 1, by go_num, by omega, Nat.le_refl _, S3⟩
        · have hz : ¬ (J : Int) < (B : Int) := by omega
          have e0 : J = B := by omega
          subst e0
          obtain ⟨⟨v, LI⟩, BI⟩ := SJ.out
          have BI : Aside _ := BI
          have PC := put_any (y := 77) LI (by omega) (by rw [rows2_len]; omega)
          clear LI SJ
          go_wp2_with fail
          refine PC.mono ?_
          rintro r w6 ⟨rfl, S6⟩
          have S6 : LSt w w6 X (rows3 I J) (I + 1 + J + 1) := by
            have e : rows2 I J ++ [mkE ((I + 1 + J + 1 : Nat) : Int), relE ((I + 1 + J + 1 : Nat) : Int) 77] = rows3 I J := by
              rw [show I + 1 + J + 1 = I + J + 2 by omega]; rfl
            rw [e] at S6
            exact LSt.tr BI.out S6
          clear PC BI
          obtain ⟨⟨v, LI⟩, BI⟩ := S6
          have BI : Aside _ := BI
          obtain ⟨c0, c1⟩ := LI.cells
          obtain ⟨f0, f1⟩ := LI.frozen
          obtain ⟨a4, l4, k4, w7, hr4, c4, f4, S7⟩ := LI.push1 (by rw [rows3_len]; omega) ⟨3, 1, 1, 50, 0, 0⟩
          dsimp only at hr4
          have S7 : LSt w (w7.setCell ⟨X, 0, none⟩ (.slice a4 l4 k4)) X (rowsL I J) (I + 1 + J + 1) := LSt.tr BI.out S7
          obtain ⟨w8, hw8⟩ : ∃ u, w7.setCell ⟨X, 0, none⟩ (.slice a4 l4 k4) = u := ⟨_, rfl⟩
          rw [hw8] at S7
          have HW8 : Aside _ := hw8
          clear LI BI hw8
          go_upto_region 17 with (at_builtin; refine wpList_app _ rfl _ _ 22 rfl _ _ rfl rfl (.slice a4 l4 k4) w7 hr4 ?_; clear hr4)
          rw [HW8.out]
          clear c0 c1 f0 f1 c4 f4
          obtain ⟨⟨v8, L8⟩, B8⟩ := S7
          obtain ⟨a8, k8, rfl, G8⟩ := L8.o.isG
          have lx : X < w8.heap.size := by have := L8.sz; omega
          have c8 := L8.cells.1
          have RO := rows_ok I J hA2 hB2
          have l3 := rows3_len I J
          have lL := rowsL_len I J
          have fits : ∀ x ∈ rowsL I J, x.fits := fit_rows (by omega) (by omega)
          have e1 := rows_at I J
          have e2 := rows_at1 I J
          have e3 : (rowsL I J)[1]? = some (relE 1 50) := rfl
          have l2 := rows2_len I J
          unfold rowsOk at RO
          simp only [Bool.and_eq_true, decide_eq_true_eq] at RO
          obtain ⟨r1, r2, r3⟩ := RO
          obtain ⟨n, hn⟩ : ∃ n, (rows3 I J).length = n := ⟨_, rfl⟩
          obtain ⟨m, hm⟩ : ∃ n, (rows2 I J).length + 1 = n := ⟨_, rfl⟩
          rw [hn] at e1 r1
          rw [hm] at e2
          obtain ⟨d, hd⟩ : ∃ d, rowsL I J = d := ⟨_, rfl⟩
          rw [hd] at G8 fits e1 e2 e3 r1 r2 r3 lL c8
          try rw [hd]
          have dl : d.length ≤ 10000 := by omega
          have k1 : IntKind.i64.wrap ((d.length : Int) - 1) = (n : Int) := by rw [IntKind.wrap_i64]; omega
          have k2 : IntKind.i64.wrap ((n : Int) - 1) = (m : Int) := by rw [IntKind.wrap_i64]; omega
          have CK : Aside (∀ V, Below w8.heap.size w8 V → V.cell? ⟨X, 0, none⟩ = some (.slice a8 d.length k8)) := fun V h => (h.cell (p := ⟨X, 0, none⟩) lx).trans c8
          have PA : Aside (∀ V, Below w8.heap.size w8 V → Calls Try.prog 7 #[.slice a8 d.length k8, .int .i64 n] V fun r w' => r = .returned (.int .i64 I) ∧ Below V.heap.size V w') := fun V h => by
            have := passed_yes (G8.below h) dl fits e1 rfl
            rw [r1] at this
            exact this
          have PB : Aside (∀ V, Below w8.heap.size w8 V → Calls Try.prog 8 #[.slice a8 d.length k8] V fun r w' => r = .returned (.int .i64 I) ∧ Below V.heap.size V w') := fun V h => by
            have := rho_any (G8.below h) dl fits
            rw [r2] at this
            exact this
          have PC : Aside (∀ V, Below w8.heap.size w8 V → Calls Try.prog 7 #[.slice a8 d.length k8, .int .i64 m] V fun r w' => r = .returned (.int .i64 (-1)) ∧ w' = V) := fun V h => passed_no (G8.below h) e2 (by show (2 : Int) ≠ 3; decide)
          have PD : Aside (∀ V, Below w8.heap.size w8 V → Calls Try.prog 9 #[.slice a8 d.length k8, .int .i64 1] V fun r w' => r = .returned (.int .i64 0) ∧ Below V.heap.size V w') := fun V h => by
            have := waitedF_yes (G8.below h) dl fits e3 rfl
            rw [r3] at this
            exact this
          have B8 : Aside (Below w.heap.size w w8) := by show Below _ _ _; rw [HX.out]; exact B8
          clear G8 L8 fits e1 e2 e3 r1 r2 r3 hd hn hm l2 l3 lL
          go_upto_region 18 with fail
          clear c8
          have c8 := CK.out w8 (Below.refl _ _)
          go_wp2_with fail
          refine (PA.out w8 (Below.refl _ _)).mono ?_
          rintro r w9 ⟨rfl, b9⟩
          clear c8
          have c8 := CK.out w9 b9
          have B9 : Aside (Below w8.heap.size w8 w9) := b9
          clear b9
          go_wp2_with fail
          refine (PB.out w9 B9.out).mono ?_
          rintro r w10 ⟨rfl, b10⟩
          have B10 : Aside (Below w8.heap.size w8 w10) := Below.tr B9.out b10
          clear c8 b10
          have c8 := CK.out w10 B10.out
          go_wp2_with fail
          refine (PC.out w10 B10.out).mono ?_
          rintro r w11 ⟨rfl, rfl⟩
          go_wp2_with fail
          refine (PD.out w11 B10.out).mono ?_
          rintro r w12 ⟨rfl, b12⟩
          have B12 : Aside (Below w8.heap.size w8 w12) := Below.tr B10.out b12
          clear c8 b12
          go_wp2_with fail
          refine (awake_any w12).mono ?_
          rintro r w13 ⟨rfl, b13⟩
          have B13 : Aside (Below w8.heap.size w8 w13) := Below.tr B12.out b13
          clear b13
          go_wp2_with fail
          go_ret
          exact ⟨rfl, Below.tr B8.out B13.out⟩
end Go.Proofs.Ytpcmdbpgplcnnaa

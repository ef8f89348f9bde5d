/- The walk of 'BlockLevels'. -/
import Derived.Test.YtoknpinlphbeoabBlkL
import Derived.Test.YtoknpinlphbeoabMask
namespace Go.Proofs.Ytoknpinlphbeoab
open Go.RowKit Go.Lib Go.Sort
set_option linter.unusedVariables false

/-- One entry more. -/
theorem app_one {w : World} {base k : Nat} {r : Option Addr} {t : Nat} {d : List Ent} (x : Ent) (h : OwnE w base (.slice r k t) d) (hl : d.length = k) (hk : k ≤ 100000) (hb : base ≤ w.heap.size) :
    ∃ r' t' w', (Builtin.append_ #[23, 23] 23 #[.slice r k t, .slice (some ⟨w.heap.size, 0, none⟩) 1 1]).run Try.prog (w.alloc (.cells #[.int .u64 x.1, .int .i64 x.2] 26)) = .ok (.slice r' (k + 1) t') w' ∧ OwnE w' base (.slice r' (k + 1) t') (d ++ [x]) ∧ Below base w w' := by
  have bv : Below w.heap.size w (w.alloc (.cells #[.int .u64 x.1, .int .i64 x.2] 26)) := (Below.refl _ _).alloc (Nat.le_refl _) _
  obtain ⟨v', w', hr, o, g⟩ := app_run (c := [x]) (h.below bv) (IsL.one w x) (by simp; omega) (Nat.le_trans hb bv.size) 23
  obtain ⟨r', t', e, _⟩ := o.isL
  have e2 : (d ++ [x]).length = k + 1 := by simp [hl]
  rw [e2] at e
  subst e
  exact ⟨r', t', w', hr, o, OwnE.grown (h.below bv) (bv.mono hb) g (Nat.le_trans hb bv.size)⟩

set_option maxHeartbeats 4000000 in
set_option maxRecDepth 100000 in
theorem blockLevels_walk (n a b : Int) (w : World) (hn : (Lit.int .i64 n).wf = true) (ha : (Lit.int .i64 a).wf = true) (hb : (Lit.int .i64 b).wf = true) :
    Calls Try.prog 3 #[.int .i64 n, .int .i64 a, .int .i64 b] w fun r w' => r = .returned (.bool true) ∧ Below w.heap.size w w' := by
  obtain ⟨S, hS⟩ : ∃ S, w.heap.size = S := ⟨_, rfl⟩
  have HS : Hid _ := hS
  obtain ⟨X, hX, X0, X1⟩ : ∃ X, bits .and .i64 n 255 = X ∧ 0 ≤ X ∧ X < 256 := ⟨_, mask_i64 n 8 255 256 (by omega) rfl rfl, by omega, by omega⟩
  obtain ⟨Y, hY, Y0, Y1⟩ : ∃ Y, bits .and .i64 a 63 = Y ∧ 0 ≤ Y ∧ Y < 64 := ⟨_, mask_i64 a 6 63 64 (by omega) rfl rfl, by omega, by omega⟩
  obtain ⟨Z, hZ, Z0, Z1⟩ : ∃ Z, bits .and .i64 b 63 = Z ∧ 0 ≤ Z ∧ Z < 64 := ⟨_, mask_i64 b 6 63 64 (by omega) rfl rfl, by omega, by omega⟩
  obtain ⟨NN, hNN, NN1⟩ : ∃ NN : Nat, X % 200 + 1 = (NN : Int) ∧ NN ≤ 200 ∧ 0 < NN := ⟨(X % 200 + 1).toNat, by omega, by omega⟩
  obtain ⟨A, hA, A1⟩ : ∃ A : Nat, Y + 1 = (A : Int) ∧ A ≤ 64 ∧ 0 < A := ⟨(Y + 1).toNat, by omega, by omega⟩
  obtain ⟨C, hC, C1⟩ : ∃ C : Nat, Z + 1 = (C : Int) ∧ C ≤ 64 ∧ 0 < C := ⟨(Z + 1).toNat, by omega, by omega⟩
  have lv := level_any NN (by omega)
  obtain ⟨m, hm⟩ : ∃ m, lvl NN = m := ⟨_, rfl⟩
  rw [hm] at lv
  have m20 : m ≤ 20 := by rw [← hm]; exact lvl_le (by omega)
  obtain ⟨P, hP⟩ : ∃ P, 2 ^ m = P := ⟨_, rfl⟩
  have r1 : NN ≤ P := by rw [← hP, ← hm]; exact lvl_room NN
  have pw := pow_i64 m P (by omega) hP
  have t1 : ¬ (m : Int) < 0 := by omega
  have t2 : decide ((m : Int) < 0) = false := decide_eq_false t1
  have t3 : ¬ (P : Int) < (NN : Int) := by omega
  have t4 : decide ((P : Int) < (NN : Int)) = false := decide_eq_false t3
  have t4n : decide (P < NN) = false := decide_eq_false (by omega)
  obtain ⟨j, hj, jj⟩ : ∃ j : Nat, (0 < m → (m : Int) - 1 = (j : Int)) ∧ j ≤ 20 ∧ (0 < m → 2 ^ j < NN) := ⟨m - 1, by omega, by omega, fun h => by rw [← hm] at h ⊢; exact lvl_least (by omega)⟩
  obtain ⟨Q, hQ⟩ : ∃ Q, 2 ^ j = Q := ⟨_, rfl⟩
  have pj := pow_i64 j Q (by omega) hQ
  rw [hQ] at jj
  clear hm hP hQ
  have wX : ∀ q : Int, 0 ≤ q → q < 13 → IntKind.u64.wrap q = q := fun q h1 h2 => by rw [IntKind.wrap_u64, Int.emod_eq_of_lt (by omega) (by omega)]
  have WX : Hid _ := wX
  clear wX
  go_enter Try.func3, Try.ntmps3
  go_wp2_with fail
  refine (lv _).mono ?_
  rintro r w1 ⟨rfl, e1⟩
  obtain rfl := e1.symm
  by_cases hm0 : 0 < m
  · have h1 := hj hm0
    have h2 := jj.2 hm0
    have t5 : (0 : Int) < (m : Int) := by omega
    have t6 : decide ((0 : Int) < (m : Int)) = true := decide_eq_true t5
    have t7 : ¬ (NN : Int) ≤ (Q : Int) := by omega
    have t7n : decide (NN ≤ Q) = false := decide_eq_false (by omega)
    have t6n : decide (0 < m) = true := decide_eq_true (by omega)
    have wj : IntKind.i64.wrap (j : Int) = (j : Int) := by rw [IntKind.wrap_i64]; omega
    clear hj jj hm0
    go_wp2_with fail
    subst hS
    go_loopg [8, 10] A (fun kx s8 s10 wr => ∃ (k : Nat) (r : Option Addr) (t : Nat) (d : List Ent), s10 = .int .i64 k ∧ s8 = .slice r k t ∧ Hid (d.length = k) ∧ k ≤ A ∧ A - k ≤ kx ∧ Aside (OwnE wr w.heap.size (.slice r k t) d) ∧ Aside (Below w.heap.size w wr))
    case atStart => exact ⟨0, none, 0, [], rfl, rfl, rfl, by omega, by omega, OwnE.nil _ _, Below.refl _ _⟩
    case round =>
      obtain ⟨k, r1, t1, d1, rfl, rfl, HL1, hk, hkx, O, B⟩ := hrel
      have zz1 : w.heap.size ≤ wr.heap.size := by have := B.out.size; omega
      by_cases hlt : k < A
      · have hz : (k : Int) < (A : Int) := by omega
        obtain ⟨q, hq, q0, q1⟩ : ∃ q : Int, 7 * (k : Int) % 13 = q ∧ 0 ≤ q ∧ q < 13 := ⟨_, rfl, by omega, by omega⟩
        have wq := WX.out q q0 q1
        obtain ⟨r', t', w2, hr, o2, b2⟩ := app_one (q, (k : Int) + 1) O.out HL1.out (by omega) zz1
        have B2 : Aside (Below w.heap.size w w2) := B.out.trans b2
        have O2 : Aside (OwnE w2 w.heap.size (.slice r' (k + 1) t') (d1 ++ [(q, (k : Int) + 1)])) := o2
        have HL2 : Hid ((d1 ++ [(q, (k : Int) + 1)]).length = k + 1) := by show _ = _; rw [List.length_append, HL1.out]; rfl
        clear o2 b2 O B
        go_wp2_with (at_builtin; refine Lib.wpList_append_run (World.alloc wr _) rfl _ _ 23 23 rfl _ _ rfl rfl _ w2 hr ?_)
        go_roundg (A - (k + 1))
        case measure => omega
        case rel => exact ⟨k + 1, r', t', d1 ++ [(q, (k : Int) + 1)], by go_num, rfl, HL2, by omega, Nat.le_refl _, O2, B2⟩
      · have hz : ¬ (k : Int) < (A : Int) := by omega
        obtain rfl : A = k := by omega
        have D0 : Aside (Below w.heap.size w wr) := B.out
        have P0 : Aside (IsL wr r1 t1 d1) := O.out.is
        clear O B hk hkx hlt hz
        obtain ⟨wa, hwa⟩ : ∃ wa, wa = wr := ⟨_, rfl⟩
        subst hwa
        go_wp2_with fail
        go_loopg [9, 11] C (fun kx s9 s11 wr => ∃ (k : Nat) (r : Option Addr) (t : Nat) (d : List Ent), s11 = .int .i64 k ∧ s9 = .slice r k t ∧ Hid (d.length = k) ∧ k ≤ C ∧ C - k ≤ kx ∧ Aside (OwnE wr wa.heap.size (.slice r k t) d) ∧ Aside (Below wa.heap.size wa wr))
        case atStart => exact ⟨0, none, 0, [], rfl, rfl, rfl, by omega, by omega, OwnE.nil _ _, Below.refl _ _⟩
        case round =>
          obtain ⟨k, r2, t2, d2, rfl, rfl, HL2, hk, hkx, O, B⟩ := hrel
          have zz2 : wa.heap.size ≤ wr.heap.size := by have := B.out.size; omega
          by_cases hlt : k < C
          · have hz : (k : Int) < (C : Int) := by omega
            obtain ⟨q, hq, q0, q1⟩ : ∃ q : Int, 5 * (k : Int) % 11 = q ∧ 0 ≤ q ∧ q < 13 := ⟨_, rfl, by omega, by omega⟩
            have wq := WX.out q q0 q1
            obtain ⟨r', t', w2, hr, o2, b2⟩ := app_one (q, 100 + (k : Int)) O.out HL2.out (by omega) zz2
            have B2 : Aside (Below wa.heap.size wa w2) := B.out.trans b2
            have O2 : Aside (OwnE w2 wa.heap.size (.slice r' (k + 1) t') (d2 ++ [(q, 100 + (k : Int))])) := o2
            have HL2 : Hid ((d2 ++ [(q, 100 + (k : Int))]).length = k + 1) := by show _ = _; rw [List.length_append, HL2.out]; rfl
            clear o2 b2 O B
            go_wp2_with (at_builtin; refine Lib.wpList_append_run (World.alloc wr _) rfl _ _ 23 23 rfl _ _ rfl rfl _ w2 hr ?_)
            go_roundg (C - (k + 1))
            case measure => omega
            case rel => exact ⟨k + 1, r', t', d2 ++ [(q, 100 + (k : Int))], by go_num, rfl, HL2, by omega, Nat.le_refl _, O2, B2⟩
          · have hz : ¬ (k : Int) < (C : Int) := by omega
            obtain rfl : C = k := by omega
            have D1 : Aside (Below w.heap.size w wr) := D0.out.trans (B.out.mono D0.out.size)
            have P1 : Aside (IsL wr r1 t1 d1) := P0.out.below B.out
            have Q1 : Aside (IsL wr r2 t2 d2) := O.out.is
            clear O B hk hkx hlt hz D0 P0
            obtain ⟨s1, hs1⟩ : ∃ s, sortE d1 = s := ⟨_, rfl⟩
            obtain ⟨s2, hs2⟩ : ∃ s, sortE d2 = s := ⟨_, rfl⟩
            obtain ⟨e, he⟩ : ∃ s, sortE (s1 ++ s2) = s := ⟨_, rfl⟩
            obtain ⟨M1, hM1⟩ : ∃ M, lvl A = M := ⟨_, rfl⟩
            obtain ⟨M2, hM2⟩ : ∃ M, lvl C = M := ⟨_, rfl⟩
            obtain ⟨T, hT⟩ : ∃ T, A + C = T := ⟨_, rfl⟩
            obtain ⟨M3, hM3⟩ : ∃ M, lvl T = M := ⟨_, rfl⟩
            have F : Aside (sortE d1 = s1 ∧ sortE d2 = s2 ∧ sortE (s1 ++ s2) = e ∧ lvl A = M1 ∧ lvl C = M2 ∧ lvl T = M3 ∧ s1.length = A ∧ s2.length = C ∧ e.length = T ∧ A + C = T ∧ Srt s1 ∧ Srt s2 ∧ Srt e) := ⟨hs1, hs2, he, hM1, hM2, hM3, by rw [← hs1, sortE_len, HL1.out], by rw [← hs2, sortE_len, HL2.out], by rw [← he, sortE_len, List.length_append, ← hs1, ← hs2, sortE_len, sortE_len, HL1.out, HL2.out, hT], hT, by rw [← hs1]; exact sortE_srt _, by rw [← hs2]; exact sortE_srt _, by rw [← he]; exact sortE_srt _⟩
            have two : M1 = M2 → M3 = M1 + 1 := fun h => by rw [← hM3, ← hT, ← hM1]; exact lvl_two (by omega) (by omega) (by rw [hM1, hM2, h])
            have mb1 : M1 ≤ 20 := by rw [← hM1]; exact lvl_le (by omega)
            have mb2 : M2 ≤ 20 := by rw [← hM2]; exact lvl_le (by omega)
            have hT1 : (A : Int) + (C : Int) = (T : Int) := by omega
            have hT2 : T ≤ 1000000 := by omega
            clear hs1 hs2 he hM1 hM2 hM3 hT
            go_wp2_with fail
            refine (ofN P1.out HL1.out (by omega) F.out.1 F.out.2.2.2.1).mono ?_
            rintro r w11 ⟨s1a, s1c, rfl, f11, d11⟩
            have D11 : Aside (Below w.heap.size w w11) := Below.trans D1.out (Below.mono d11 D1.out.size)
            have p_11 : Aside (IsL w11 r1 t1 d1) := P1.out.below d11
            have q_11 : Aside (IsL w11 r2 t2 d2) := Q1.out.below d11
            clear D1 P1 Q1
            have s1_11 : Aside (IsL w11 s1a s1c s1) := f11
            clear f11 d11
            clear p_11
            go_wp2_with fail
            refine (ofN q_11.out HL2.out (by omega) F.out.2.1 F.out.2.2.2.2.1).mono ?_
            rintro r w12 ⟨s2a, s2c, rfl, f12, d12⟩
            have D12 : Aside (Below w.heap.size w w12) := Below.trans D11.out (Below.mono d12 D11.out.size)
            have q_12 : Aside (IsL w12 r2 t2 d2) := q_11.out.below d12
            have s1_12 : Aside (IsL w12 s1a s1c s1) := s1_11.out.below d12
            clear D11 q_11 s1_11
            have s2_12 : Aside (IsL w12 s2a s2c s2) := f12
            clear f12 d12
            clear q_12
            obtain ⟨S13, hS13⟩ : ∃ S, w12.heap.size = S := ⟨_, rfl⟩
            obtain ⟨w13, hw13⟩ : ∃ v, (World.alloc (World.alloc w12 (.cells #[.int .i64 M1, .slice s1a A s1c] 28)) (.cells #[.int .i64 M2, .slice s2a C s2c] 28)) = v := ⟨_, rfl⟩
            have Hw13 : Hid _ := hw13
            have d13 : Below w12.heap.size w12 w13 := by rw [← hw13]; exact ((Below.refl _ _).alloc (Nat.le_refl _) _).alloc (by simp) _
            have Xx_13 : Aside (Box2 S13 (.int .i64 M1) (.slice s1a A s1c) w13) := by rw [← hw13, ← hS13]; exact (Box2.new w12 (.int .i64 M1) (.slice s1a A s1c) 28).on ((Below.refl _ _).alloc (Nat.le_refl _) _)
            have xy_13 : Box2 (S13 + 1) (.int .i64 M2) (.slice s2a C s2c) w13 := by
              have := Box2.new (World.alloc w12 (.cells #[.int .i64 M1, .slice s1a A s1c] 28)) (.int .i64 M2) (.slice s2a C s2c) 28
              rw [hw13] at this
              simpa [hS13] using this
            have Xy_13 : Aside (Box2 (S13 + 1) (.int .i64 M2) (.slice s2a C s2c) w13) := xy_13
            clear xy_13
            have D13 : Aside (Below w.heap.size w w13) := Below.trans D12.out (Below.mono d13 D12.out.size)
            have s1_13 : Aside (IsL w13 s1a s1c s1) := s1_12.out.below d13
            have s2_13 : Aside (IsL w13 s2a s2c s2) := s2_12.out.below d13
            clear D12 s1_12 s2_12
            clear hw13 d13
            go_wp2_with fail
            rw [Hw13.out]
            refine (mergeN s1_13.out s2_13.out F.out.2.2.2.2.2.2.1 F.out.2.2.2.2.2.2.2.1 (by omega) F.out.2.2.1 F.out.2.2.2.2.2.2.2.2.2.1 F.out.2.2.2.2.2.1).mono ?_
            rintro r w14 ⟨ma, mc, rfl, f14, d14⟩
            have D14 : Aside (Below w.heap.size w w14) := Below.trans D13.out (Below.mono d14 D13.out.size)
            have s1_14 : Aside (IsL w14 s1a s1c s1) := s1_13.out.below d14
            have s2_14 : Aside (IsL w14 s2a s2c s2) := s2_13.out.below d14
            have Xx_14 : Aside (Box2 S13 (.int .i64 M1) (.slice s1a A s1c) w14) := Xx_13.out.on d14
            have Xy_14 : Aside (Box2 (S13 + 1) (.int .i64 M2) (.slice s2a C s2c) w14) := Xy_13.out.on d14
            clear D13 s1_13 s2_13 Xx_13 Xy_13
            have m_14 : Aside (IsL w14 ma mc e) := f14
            clear f14 d14
            obtain ⟨S15, hS15⟩ : ∃ S, w14.heap.size = S := ⟨_, rfl⟩
            have cx0 := Xx_14.out.c0
            have cx1 := Xx_14.out.c1
            have cxl : S13 < S15 := by have := Xx_14.out.lt; omega
            have cy0 := Xy_14.out.c0
            have cy1 := Xy_14.out.c1
            have cyl : (S13 + 1) < S15 := by have := Xy_14.out.lt; omega
            obtain ⟨w15, hw15⟩ : ∃ v, (World.alloc w14 (.cells #[.int .i64 M3, .slice ma T mc] 28)) = v := ⟨_, rfl⟩
            have Hw15 : Hid _ := hw15
            have d15 : Below w14.heap.size w14 w15 := by rw [← hw15]; exact (Below.refl _ _).alloc (Nat.le_refl _) _
            have Xz_15 : Aside (Box2 S15 (.int .i64 M3) (.slice ma T mc) w15) := by rw [← hw15, ← hS15]; exact Box2.new _ _ _ _
            have D15 : Aside (Below w.heap.size w w15) := Below.trans D14.out (Below.mono d15 D14.out.size)
            have s1_15 : Aside (IsL w15 s1a s1c s1) := s1_14.out.below d15
            have s2_15 : Aside (IsL w15 s2a s2c s2) := s2_14.out.below d15
            have m_15 : Aside (IsL w15 ma mc e) := m_14.out.below d15
            have Xx_15 : Aside (Box2 S13 (.int .i64 M1) (.slice s1a A s1c) w15) := Xx_14.out.on d15
            have Xy_15 : Aside (Box2 (S13 + 1) (.int .i64 M2) (.slice s2a C s2c) w15) := Xy_14.out.on d15
            clear D14 s1_14 s2_14 m_14 Xx_14 Xy_14
            clear hw15 d15
            go_wp2_with fail
            rw [Hw15.out]
            refine (okN s1_15.out F.out.2.2.2.2.2.2.2.2.2.2.1 F.out.2.2.2.2.2.2.1 (by omega) F.out.2.2.2.1).mono ?_
            rintro r w16 ⟨rfl, d16⟩
            clear cx0 cx1 cxl cy0 cy1 cyl
            have D16 : Aside (Below w.heap.size w w16) := Below.trans D15.out (Below.mono d16 D15.out.size)
            have s1_16 : Aside (IsL w16 s1a s1c s1) := s1_15.out.below d16
            have s2_16 : Aside (IsL w16 s2a s2c s2) := s2_15.out.below d16
            have m_16 : Aside (IsL w16 ma mc e) := m_15.out.below d16
            have Xx_16 : Aside (Box2 S13 (.int .i64 M1) (.slice s1a A s1c) w16) := Xx_15.out.on d16
            have Xy_16 : Aside (Box2 (S13 + 1) (.int .i64 M2) (.slice s2a C s2c) w16) := Xy_15.out.on d16
            have Xz_16 : Aside (Box2 S15 (.int .i64 M3) (.slice ma T mc) w16) := Xz_15.out.on d16
            clear D15 s1_15 s2_15 m_15 Xx_15 Xy_15 Xz_15
            clear d16
            have cx0 := Xx_16.out.c0
            have cx1 := Xx_16.out.c1
            have cy0 := Xy_16.out.c0
            have cy1 := Xy_16.out.c1
            have cz0 := Xz_16.out.c0
            have cz1 := Xz_16.out.c1
            go_wp2_with fail
            refine (okN s2_16.out F.out.2.2.2.2.2.2.2.2.2.2.2.1 F.out.2.2.2.2.2.2.2.1 (by omega) F.out.2.2.2.2.1).mono ?_
            rintro r w17 ⟨rfl, d17⟩
            clear cx0 cx1 cy0 cy1 cz0 cz1
            have D17 : Aside (Below w.heap.size w w17) := Below.trans D16.out (Below.mono d17 D16.out.size)
            have s1_17 : Aside (IsL w17 s1a s1c s1) := s1_16.out.below d17
            have s2_17 : Aside (IsL w17 s2a s2c s2) := s2_16.out.below d17
            have m_17 : Aside (IsL w17 ma mc e) := m_16.out.below d17
            have Xx_17 : Aside (Box2 S13 (.int .i64 M1) (.slice s1a A s1c) w17) := Xx_16.out.on d17
            have Xy_17 : Aside (Box2 (S13 + 1) (.int .i64 M2) (.slice s2a C s2c) w17) := Xy_16.out.on d17
            have Xz_17 : Aside (Box2 S15 (.int .i64 M3) (.slice ma T mc) w17) := Xz_16.out.on d17
            clear D16 s1_16 s2_16 m_16 Xx_16 Xy_16 Xz_16
            clear d17
            have cx0 := Xx_17.out.c0
            have cx1 := Xx_17.out.c1
            have cy0 := Xy_17.out.c0
            have cy1 := Xy_17.out.c1
            have cz0 := Xz_17.out.c0
            have cz1 := Xz_17.out.c1
            go_wp2_with fail
            refine (okN m_17.out F.out.2.2.2.2.2.2.2.2.2.2.2.2 F.out.2.2.2.2.2.2.2.2.1 hT2 F.out.2.2.2.2.2.1).mono ?_
            rintro r w18 ⟨rfl, d18⟩
            clear cx0 cx1 cy0 cy1 cz0 cz1
            have D18 : Aside (Below w.heap.size w w18) := Below.trans D17.out (Below.mono d18 D17.out.size)
            have s1_18 : Aside (IsL w18 s1a s1c s1) := s1_17.out.below d18
            have s2_18 : Aside (IsL w18 s2a s2c s2) := s2_17.out.below d18
            have m_18 : Aside (IsL w18 ma mc e) := m_17.out.below d18
            have Xx_18 : Aside (Box2 S13 (.int .i64 M1) (.slice s1a A s1c) w18) := Xx_17.out.on d18
            have Xy_18 : Aside (Box2 (S13 + 1) (.int .i64 M2) (.slice s2a C s2c) w18) := Xy_17.out.on d18
            have Xz_18 : Aside (Box2 S15 (.int .i64 M3) (.slice ma T mc) w18) := Xz_17.out.on d18
            clear D17 s1_17 s2_17 m_17 Xx_17 Xy_17 Xz_17
            clear d18
            have cx0 := Xx_18.out.c0
            have cx1 := Xx_18.out.c1
            have cy0 := Xy_18.out.c0
            have cy1 := Xy_18.out.c1
            have cz0 := Xz_18.out.c0
            have cz1 := Xz_18.out.c1
            by_cases hq : M1 = M2
            · have hq2 := two hq
              obtain rfl := hq
              have u2 : ((M3 : Int) == (M1 : Int) + 1) = true := by simp; omega
              have u3 : decide ((M3 : Int) = (M1 : Int) + 1) = true := by simp; omega
              have u4 : (M1 : Int) + 1 = (M3 : Int) := by omega
              clear hq2 two
              go_wp2_with fail
              refine (awake_any _).mono ?_
              rintro r w19 ⟨rfl, d19⟩
              clear cx0 cx1 cy0 cy1 cz0 cz1
              have D19 : Aside (Below w.heap.size w w19) := Below.trans D18.out (Below.mono d19 D18.out.size)
              have s1_19 : Aside (IsL w19 s1a s1c s1) := s1_18.out.below d19
              have s2_19 : Aside (IsL w19 s2a s2c s2) := s2_18.out.below d19
              have m_19 : Aside (IsL w19 ma mc e) := m_18.out.below d19
              have Xx_19 : Aside (Box2 S13 (.int .i64 M1) (.slice s1a A s1c) w19) := Xx_18.out.on d19
              have Xy_19 : Aside (Box2 (S13 + 1) (.int .i64 M1) (.slice s2a C s2c) w19) := Xy_18.out.on d19
              have Xz_19 : Aside (Box2 S15 (.int .i64 M3) (.slice ma T mc) w19) := Xz_18.out.on d19
              clear D18 s1_18 s2_18 m_18 Xx_18 Xy_18 Xz_18
              clear d19
              go_wp2
              go_ret
              exact ⟨rfl, D19.out⟩
            · have u1 : ¬ (M1 : Int) = (M2 : Int) := by omega
              have u3 : ((M1 : Int) == (M2 : Int)) = false := by simp; omega
              clear hq two
              go_wp2_with fail
              refine (awake_any _).mono ?_
              rintro r w19 ⟨rfl, d19⟩
              clear cx0 cx1 cy0 cy1 cz0 cz1
              have D19 : Aside (Below w.heap.size w w19) := Below.trans D18.out (Below.mono d19 D18.out.size)
              have s1_19 : Aside (IsL w19 s1a s1c s1) := s1_18.out.below d19
              have s2_19 : Aside (IsL w19 s2a s2c s2) := s2_18.out.below d19
              have m_19 : Aside (IsL w19 ma mc e) := m_18.out.below d19
              have Xx_19 : Aside (Box2 S13 (.int .i64 M1) (.slice s1a A s1c) w19) := Xx_18.out.on d19
              have Xy_19 : Aside (Box2 (S13 + 1) (.int .i64 M2) (.slice s2a C s2c) w19) := Xy_18.out.on d19
              have Xz_19 : Aside (Box2 S15 (.int .i64 M3) (.slice ma T mc) w19) := Xz_18.out.on d19
              clear D18 s1_18 s2_18 m_18 Xx_18 Xy_18 Xz_18
              clear d19
              go_wp2
              go_ret
              exact ⟨rfl, D19.out⟩
  · have t5 : ¬ (0 : Int) < (m : Int) := by omega
    have t6 : decide ((0 : Int) < (m : Int)) = false := decide_eq_false t5
    have t6n : decide (0 < m) = false := decide_eq_false (by omega)
    clear hj jj hm0 pj
    go_wp2_with fail
    subst hS
    go_loopg [8, 10] A (fun kx s8 s10 wr => ∃ (k : Nat) (r : Option Addr) (t : Nat) (d : List Ent), s10 = .int .i64 k ∧ s8 = .slice r k t ∧ Hid (d.length = k) ∧ k ≤ A ∧ A - k ≤ kx ∧ Aside (OwnE wr w.heap.size (.slice r k t) d) ∧ Aside (Below w.heap.size w wr))
    case atStart => exact ⟨0, none, 0, [], rfl, rfl, rfl, by omega, by omega, OwnE.nil _ _, Below.refl _ _⟩
    case round =>
      obtain ⟨k, r1, t1, d1, rfl, rfl, HL1, hk, hkx, O, B⟩ := hrel
      have zz1 : w.heap.size ≤ wr.heap.size := by have := B.out.size; omega
      by_cases hlt : k < A
      · have hz : (k : Int) < (A : Int) := by omega
        obtain ⟨q, hq, q0, q1⟩ : ∃ q : Int, 7 * (k : Int) % 13 = q ∧ 0 ≤ q ∧ q < 13 := ⟨_, rfl, by omega, by omega⟩
        have wq := WX.out q q0 q1
        obtain ⟨r', t', w2, hr, o2, b2⟩ := app_one (q, (k : Int) + 1) O.out HL1.out (by omega) zz1
        have B2 : Aside (Below w.heap.size w w2) := B.out.trans b2
        have O2 : Aside (OwnE w2 w.heap.size (.slice r' (k + 1) t') (d1 ++ [(q, (k : Int) + 1)])) := o2
        have HL2 : Hid ((d1 ++ [(q, (k : Int) + 1)]).length = k + 1) := by show _ = _; rw [List.length_append, HL1.out]; rfl
        clear o2 b2 O B
        go_wp2_with (at_builtin; refine Lib.wpList_append_run (World.alloc wr _) rfl _ _ 23 23 rfl _ _ rfl rfl _ w2 hr ?_)
        go_roundg (A - (k + 1))
        case measure => omega
        case rel => exact ⟨k + 1, r', t', d1 ++ [(q, (k : Int) + 1)], by go_num, rfl, HL2, by omega, Nat.le_refl _, O2, B2⟩
      · have hz : ¬ (k : Int) < (A : Int) := by omega
        obtain rfl : A = k := by omega
        have D0 : Aside (Below w.heap.size w wr) := B.out
        have P0 : Aside (IsL wr r1 t1 d1) := O.out.is
        clear O B hk hkx hlt hz
        obtain ⟨wa, hwa⟩ : ∃ wa, wa = wr := ⟨_, rfl⟩
        subst hwa
        go_wp2_with fail
        go_loopg [9, 11] C (fun kx s9 s11 wr => ∃ (k : Nat) (r : Option Addr) (t : Nat) (d : List Ent), s11 = .int .i64 k ∧ s9 = .slice r k t ∧ Hid (d.length = k) ∧ k ≤ C ∧ C - k ≤ kx ∧ Aside (OwnE wr wa.heap.size (.slice r k t) d) ∧ Aside (Below wa.heap.size wa wr))
        case atStart => exact ⟨0, none, 0, [], rfl, rfl, rfl, by omega, by omega, OwnE.nil _ _, Below.refl _ _⟩
        case round =>
          obtain ⟨k, r2, t2, d2, rfl, rfl, HL2, hk, hkx, O, B⟩ := hrel
          have zz2 : wa.heap.size ≤ wr.heap.size := by have := B.out.size; omega
          by_cases hlt : k < C
          · have hz : (k : Int) < (C : Int) := by omega
            obtain ⟨q, hq, q0, q1⟩ : ∃ q : Int, 5 * (k : Int) % 11 = q ∧ 0 ≤ q ∧ q < 13 := ⟨_, rfl, by omega, by omega⟩
            have wq := WX.out q q0 q1
            obtain ⟨r', t', w2, hr, o2, b2⟩ := app_one (q, 100 + (k : Int)) O.out HL2.out (by omega) zz2
            have B2 : Aside (Below wa.heap.size wa w2) := B.out.trans b2
            have O2 : Aside (OwnE w2 wa.heap.size (.slice r' (k + 1) t') (d2 ++ [(q, 100 + (k : Int))])) := o2
            have HL2 : Hid ((d2 ++ [(q, 100 + (k : Int))]).length = k + 1) := by show _ = _; rw [List.length_append, HL2.out]; rfl
            clear o2 b2 O B
            go_wp2_with (at_builtin; refine Lib.wpList_append_run (World.alloc wr _) rfl _ _ 23 23 rfl _ _ rfl rfl _ w2 hr ?_)
            go_roundg (C - (k + 1))
            case measure => omega
            case rel => exact ⟨k + 1, r', t', d2 ++ [(q, 100 + (k : Int))], by go_num, rfl, HL2, by omega, Nat.le_refl _, O2, B2⟩
          · have hz : ¬ (k : Int) < (C : Int) := by omega
            obtain rfl : C = k := by omega
            have D1 : Aside (Below w.heap.size w wr) := D0.out.trans (B.out.mono D0.out.size)
            have P1 : Aside (IsL wr r1 t1 d1) := P0.out.below B.out
            have Q1 : Aside (IsL wr r2 t2 d2) := O.out.is
            clear O B hk hkx hlt hz D0 P0
            obtain ⟨s1, hs1⟩ : ∃ s, sortE d1 = s := ⟨_, rfl⟩
            obtain ⟨s2, hs2⟩ : ∃ s, sortE d2 = s := ⟨_, rfl⟩
            obtain ⟨e, he⟩ : ∃ s, sortE (s1 ++ s2) = s := ⟨_, rfl⟩
            obtain ⟨M1, hM1⟩ : ∃ M, lvl A = M := ⟨_, rfl⟩
            obtain ⟨M2, hM2⟩ : ∃ M, lvl C = M := ⟨_, rfl⟩
            obtain ⟨T, hT⟩ : ∃ T, A + C = T := ⟨_, rfl⟩
            obtain ⟨M3, hM3⟩ : ∃ M, lvl T = M := ⟨_, rfl⟩
            have F : Aside (sortE d1 = s1 ∧ sortE d2 = s2 ∧ sortE (s1 ++ s2) = e ∧ lvl A = M1 ∧ lvl C = M2 ∧ lvl T = M3 ∧ s1.length = A ∧ s2.length = C ∧ e.length = T ∧ A + C = T ∧ Srt s1 ∧ Srt s2 ∧ Srt e) := ⟨hs1, hs2, he, hM1, hM2, hM3, by rw [← hs1, sortE_len, HL1.out], by rw [← hs2, sortE_len, HL2.out], by rw [← he, sortE_len, List.length_append, ← hs1, ← hs2, sortE_len, sortE_len, HL1.out, HL2.out, hT], hT, by rw [← hs1]; exact sortE_srt _, by rw [← hs2]; exact sortE_srt _, by rw [← he]; exact sortE_srt _⟩
            have two : M1 = M2 → M3 = M1 + 1 := fun h => by rw [← hM3, ← hT, ← hM1]; exact lvl_two (by omega) (by omega) (by rw [hM1, hM2, h])
            have mb1 : M1 ≤ 20 := by rw [← hM1]; exact lvl_le (by omega)
            have mb2 : M2 ≤ 20 := by rw [← hM2]; exact lvl_le (by omega)
            have hT1 : (A : Int) + (C : Int) = (T : Int) := by omega
            have hT2 : T ≤ 1000000 := by omega
            clear hs1 hs2 he hM1 hM2 hM3 hT
            go_wp2_with fail
            refine (ofN P1.out HL1.out (by omega) F.out.1 F.out.2.2.2.1).mono ?_
            rintro r w11 ⟨s1a, s1c, rfl, f11, d11⟩
            have D11 : Aside (Below w.heap.size w w11) := Below.trans D1.out (Below.mono d11 D1.out.size)
            have p_11 : Aside (IsL w11 r1 t1 d1) := P1.out.below d11
            have q_11 : Aside (IsL w11 r2 t2 d2) := Q1.out.below d11
            clear D1 P1 Q1
            have s1_11 : Aside (IsL w11 s1a s1c s1) := f11
            clear f11 d11
            clear p_11
            go_wp2_with fail
            refine (ofN q_11.out HL2.out (by omega) F.out.2.1 F.out.2.2.2.2.1).mono ?_
            rintro r w12 ⟨s2a, s2c, rfl, f12, d12⟩
            have D12 : Aside (Below w.heap.size w w12) := Below.trans D11.out (Below.mono d12 D11.out.size)
            have q_12 : Aside (IsL w12 r2 t2 d2) := q_11.out.below d12
            have s1_12 : Aside (IsL w12 s1a s1c s1) := s1_11.out.below d12
            clear D11 q_11 s1_11
            have s2_12 : Aside (IsL w12 s2a s2c s2) := f12
            clear f12 d12
            clear q_12
            obtain ⟨S13, hS13⟩ : ∃ S, w12.heap.size = S := ⟨_, rfl⟩
            obtain ⟨w13, hw13⟩ : ∃ v, (World.alloc (World.alloc w12 (.cells #[.int .i64 M1, .slice s1a A s1c] 28)) (.cells #[.int .i64 M2, .slice s2a C s2c] 28)) = v := ⟨_, rfl⟩
            have Hw13 : Hid _ := hw13
            have d13 : Below w12.heap.size w12 w13 := by rw [← hw13]; exact ((Below.refl _ _).alloc (Nat.le_refl _) _).alloc (by simp) _
            have Xx_13 : Aside (Box2 S13 (.int .i64 M1) (.slice s1a A s1c) w13) := by rw [← hw13, ← hS13]; exact (Box2.new w12 (.int .i64 M1) (.slice s1a A s1c) 28).on ((Below.refl _ _).alloc (Nat.le_refl _) _)
            have xy_13 : Box2 (S13 + 1) (.int .i64 M2) (.slice s2a C s2c) w13 := by
              have := Box2.new (World.alloc w12 (.cells #[.int .i64 M1, .slice s1a A s1c] 28)) (.int .i64 M2) (.slice s2a C s2c) 28
              rw [hw13] at this
              simpa [hS13] using this
            have Xy_13 : Aside (Box2 (S13 + 1) (.int .i64 M2) (.slice s2a C s2c) w13) := xy_13
            clear xy_13
            have D13 : Aside (Below w.heap.size w w13) := Below.trans D12.out (Below.mono d13 D12.out.size)
            have s1_13 : Aside (IsL w13 s1a s1c s1) := s1_12.out.below d13
            have s2_13 : Aside (IsL w13 s2a s2c s2) := s2_12.out.below d13
            clear D12 s1_12 s2_12
            clear hw13 d13
            go_wp2_with fail
            rw [Hw13.out]
            refine (mergeN s1_13.out s2_13.out F.out.2.2.2.2.2.2.1 F.out.2.2.2.2.2.2.2.1 (by omega) F.out.2.2.1 F.out.2.2.2.2.2.2.2.2.2.1 F.out.2.2.2.2.2.1).mono ?_
            rintro r w14 ⟨ma, mc, rfl, f14, d14⟩
            have D14 : Aside (Below w.heap.size w w14) := Below.trans D13.out (Below.mono d14 D13.out.size)
            have s1_14 : Aside (IsL w14 s1a s1c s1) := s1_13.out.below d14
            have s2_14 : Aside (IsL w14 s2a s2c s2) := s2_13.out.below d14
            have Xx_14 : Aside (Box2 S13 (.int .i64 M1) (.slice s1a A s1c) w14) := Xx_13.out.on d14
            have Xy_14 : Aside (Box2 (S13 + 1) (.int .i64 M2) (.slice s2a C s2c) w14) := Xy_13.out.on d14
            clear D13 s1_13 s2_13 Xx_13 Xy_13
            have m_14 : Aside (IsL w14 ma mc e) := f14
            clear f14 d14
            obtain ⟨S15, hS15⟩ : ∃ S, w14.heap.size = S := ⟨_, rfl⟩
            have cx0 := Xx_14.out.c0
            have cx1 := Xx_14.out.c1
            have cxl : S13 < S15 := by have := Xx_14.out.lt; omega
            have cy0 := Xy_14.out.c0
            have cy1 := Xy_14.out.c1
            have cyl : (S13 + 1) < S15 := by have := Xy_14.out.lt; omega
            obtain ⟨w15, hw15⟩ : ∃ v, (World.alloc w14 (.cells #[.int .i64 M3, .slice ma T mc] 28)) = v := ⟨_, rfl⟩
            have Hw15 : Hid _ := hw15
            have d15 : Below w14.heap.size w14 w15 := by rw [← hw15]; exact (Below.refl _ _).alloc (Nat.le_refl _) _
            have Xz_15 : Aside (Box2 S15 (.int .i64 M3) (.slice ma T mc) w15) := by rw [← hw15, ← hS15]; exact Box2.new _ _ _ _
            have D15 : Aside (Below w.heap.size w w15) := Below.trans D14.out (Below.mono d15 D14.out.size)
            have s1_15 : Aside (IsL w15 s1a s1c s1) := s1_14.out.below d15
            have s2_15 : Aside (IsL w15 s2a s2c s2) := s2_14.out.below d15
            have m_15 : Aside (IsL w15 ma mc e) := m_14.out.below d15
            have Xx_15 : Aside (Box2 S13 (.int .i64 M1) (.slice s1a A s1c) w15) := Xx_14.out.on d15
            have Xy_15 : Aside (Box2 (S13 + 1) (.int .i64 M2) (.slice s2a C s2c) w15) := Xy_14.out.on d15
            clear D14 s1_14 s2_14 m_14 Xx_14 Xy_14
            clear hw15 d15
            go_wp2_with fail
            rw [Hw15.out]
            refine (okN s1_15.out F.out.2.2.2.2.2.2.2.2.2.2.1 F.out.2.2.2.2.2.2.1 (by omega) F.out.2.2.2.1).mono ?_
            rintro r w16 ⟨rfl, d16⟩
            clear cx0 cx1 cxl cy0 cy1 cyl
            have D16 : Aside (Below w.heap.size w w16) := Below.trans D15.out (Below.mono d16 D15.out.size)
            have s1_16 : Aside (IsL w16 s1a s1c s1) := s1_15.out.below d16
            have s2_16 : Aside (IsL w16 s2a s2c s2) := s2_15.out.below d16
            have m_16 : Aside (IsL w16 ma mc e) := m_15.out.below d16
            have Xx_16 : Aside (Box2 S13 (.int .i64 M1) (.slice s1a A s1c) w16) := Xx_15.out.on d16
            have Xy_16 : Aside (Box2 (S13 + 1) (.int .i64 M2) (.slice s2a C s2c) w16) := Xy_15.out.on d16
            have Xz_16 : Aside (Box2 S15 (.int .i64 M3) (.slice ma T mc) w16) := Xz_15.out.on d16
            clear D15 s1_15 s2_15 m_15 Xx_15 Xy_15 Xz_15
            clear d16
            have cx0 := Xx_16.out.c0
            have cx1 := Xx_16.out.c1
            have cy0 := Xy_16.out.c0
            have cy1 := Xy_16.out.c1
            have cz0 := Xz_16.out.c0
            have cz1 := Xz_16.out.c1
            go_wp2_with fail
            refine (okN s2_16.out F.out.2.2.2.2.2.2.2.2.2.2.2.1 F.out.2.2.2.2.2.2.2.1 (by omega) F.out.2.2.2.2.1).mono ?_
            rintro r w17 ⟨rfl, d17⟩
            clear cx0 cx1 cy0 cy1 cz0 cz1
            have D17 : Aside (Below w.heap.size w w17) := Below.trans D16.out (Below.mono d17 D16.out.size)
            have s1_17 : Aside (IsL w17 s1a s1c s1) := s1_16.out.below d17
            have s2_17 : Aside (IsL w17 s2a s2c s2) := s2_16.out.below d17
            have m_17 : Aside (IsL w17 ma mc e) := m_16.out.below d17
            have Xx_17 : Aside (Box2 S13 (.int .i64 M1) (.slice s1a A s1c) w17) := Xx_16.out.on d17
            have Xy_17 : Aside (Box2 (S13 + 1) (.int .i64 M2) (.slice s2a C s2c) w17) := Xy_16.out.on d17
            have Xz_17 : Aside (Box2 S15 (.int .i64 M3) (.slice ma T mc) w17) := Xz_16.out.on d17
            clear D16 s1_16 s2_16 m_16 Xx_16 Xy_16 Xz_16
            clear d17
            have cx0 := Xx_17.out.c0
            have cx1 := Xx_17.out.c1
            have cy0 := Xy_17.out.c0
            have cy1 := Xy_17.out.c1
            have cz0 := Xz_17.out.c0
            have cz1 := Xz_17.out.c1
            go_wp2_with fail
            refine (okN m_17.out F.out.2.2.2.2.2.2.2.2.2.2.2.2 F.out.2.2.2.2.2.2.2.2.1 hT2 F.out.2.2.2.2.2.1).mono ?_
            rintro r w18 ⟨rfl, d18⟩
            clear cx0 cx1 cy0 cy1 cz0 cz1
            have D18 : Aside (Below w.heap.size w w18) := Below.trans D17.out (Below.mono d18 D17.out.size)
            have s1_18 : Aside (IsL w18 s1a s1c s1) := s1_17.out.below d18
            have s2_18 : Aside (IsL w18 s2a s2c s2) := s2_17.out.below d18
            have m_18 : Aside (IsL w18 ma mc e) := m_17.out.below d18
            have Xx_18 : Aside (Box2 S13 (.int .i64 M1) (.slice s1a A s1c) w18) := Xx_17.out.on d18
            have Xy_18 : Aside (Box2 (S13 + 1) (.int .i64 M2) (.slice s2a C s2c) w18) := Xy_17.out.on d18
            have Xz_18 : Aside (Box2 S15 (.int .i64 M3) (.slice ma T mc) w18) := Xz_17.out.on d18
            clear D17 s1_17 s2_17 m_17 Xx_17 Xy_17 Xz_17
            clear d18
            have cx0 := Xx_18.out.c0
            have cx1 := Xx_18.out.c1
            have cy0 := Xy_18.out.c0
            have cy1 := Xy_18.out.c1
            have cz0 := Xz_18.out.c0
            have cz1 := Xz_18.out.c1
            by_cases hq : M1 = M2
            · have hq2 := two hq
              obtain rfl := hq
              have u2 : ((M3 : Int) == (M1 : Int) + 1) = true := by simp; omega
              have u3 : decide ((M3 : Int) = (M1 : Int) + 1) = true := by simp; omega
              have u4 : (M1 : Int) + 1 = (M3 : Int) := by omega
              clear hq2 two
              go_wp2_with fail
              refine (awake_any _).mono ?_
              rintro r w19 ⟨rfl, d19⟩
              clear cx0 cx1 cy0 cy1 cz0 cz1
              have D19 : Aside (Below w.heap.size w w19) := Below.trans D18.out (Below.mono d19 D18.out.size)
              have s1_19 : Aside (IsL w19 s1a s1c s1) := s1_18.out.below d19
              have s2_19 : Aside (IsL w19 s2a s2c s2) := s2_18.out.below d19
              have m_19 : Aside (IsL w19 ma mc e) := m_18.out.below d19
              have Xx_19 : Aside (Box2 S13 (.int .i64 M1) (.slice s1a A s1c) w19) := Xx_18.out.on d19
              have Xy_19 : Aside (Box2 (S13 + 1) (.int .i64 M1) (.slice s2a C s2c) w19) := Xy_18.out.on d19
              have Xz_19 : Aside (Box2 S15 (.int .i64 M3) (.slice ma T mc) w19) := Xz_18.out.on d19
              clear D18 s1_18 s2_18 m_18 Xx_18 Xy_18 Xz_18
              clear d19
              go_wp2
              go_ret
              exact ⟨rfl, D19.out⟩
            · have u1 : ¬ (M1 : Int) = (M2 : Int) := by omega
              have u3 : ((M1 : Int) == (M2 : Int)) = false := by simp; omega
              clear hq two
              go_wp2_with fail
              refine (awake_any _).mono ?_
              rintro r w19 ⟨rfl, d19⟩
              clear cx0 cx1 cy0 cy1 cz0 cz1
              have D19 : Aside (Below w.heap.size w w19) := Below.trans D18.out (Below.mono d19 D18.out.size)
              have s1_19 : Aside (IsL w19 s1a s1c s1) := s1_18.out.below d19
              have s2_19 : Aside (IsL w19 s2a s2c s2) := s2_18.out.below d19
              have m_19 : Aside (IsL w19 ma mc e) := m_18.out.below d19
              have Xx_19 : Aside (Box2 S13 (.int .i64 M1) (.slice s1a A s1c) w19) := Xx_18.out.on d19
              have Xy_19 : Aside (Box2 (S13 + 1) (.int .i64 M2) (.slice s2a C s2c) w19) := Xy_18.out.on d19
              have Xz_19 : Aside (Box2 S15 (.int .i64 M3) (.slice ma T mc) w19) := Xz_18.out.on d19
              clear D18 s1_18 s2_18 m_18 Xx_18 Xy_18 Xz_18
              clear d19
              go_wp2
              go_ret
              exact ⟨rfl, D19.out⟩
end Go.Proofs.Ytoknpinlphbeoab

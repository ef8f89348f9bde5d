/- The walk of 'BlockFirsts'. -/
import Derived.Test.YtoknpinlphbeoaaBlkP
namespace Go.Proofs.Ytoknpinlphbeoaa
open Go.RowKit Go.Lib Go.Sort
set_option linter.unusedVariables false

set_option maxHeartbeats 4000000 in
set_option maxRecDepth 100000 in
theorem blockFirsts_few (a0 b0 : Option Addr) (p0 q0 : Nat) (l c : List Ent) (n : Int) (N1 N2 T K : Nat) (w : World) (h : IsL w a0 p0 l) (hc : IsL w b0 q0 c) (h1 : l.length = N1) (h2 : c.length = N2) (l1 : N1 ≤ 120) (l2 : N2 ≤ 120) (hT : N1 + N2 = T) (hK : wth n T = K)  :
    Calls Try.prog 5 #[.slice a0 N1 p0, .slice b0 N2 q0, .int .i64 n] w fun r w' => r = .returned (.bool true) ∧ Below w.heap.size w w' := by
  have A0 : Aside (IsL w a0 p0 l) := h
  have C0 : Aside (IsL w b0 q0 c) := hc
  have k0 : K ≤ T := by rw [← hK]; exact wth_le _ _
  obtain ⟨s1, hs1⟩ : ∃ s, sortE l = s := ⟨_, rfl⟩
  obtain ⟨s2, hs2⟩ : ∃ s, sortE c = s := ⟨_, rfl⟩
  obtain ⟨e, he⟩ : ∃ s, sortE (s1 ++ s2) = s := ⟨_, rfl⟩
  obtain ⟨M1, hM1⟩ : ∃ M, lvl N1 = M := ⟨_, rfl⟩
  obtain ⟨M2, hM2⟩ : ∃ M, lvl N2 = M := ⟨_, rfl⟩
  obtain ⟨M3, hM3⟩ : ∃ M, lvl T = M := ⟨_, rfl⟩
  have F : Aside (sortE l = s1 ∧ sortE c = s2 ∧ sortE (s1 ++ s2) = e ∧ lvl N1 = M1 ∧ lvl N2 = M2 ∧ lvl T = M3 ∧ s1.length = N1 ∧ s2.length = N2 ∧ e.length = T ∧ sortE e = e ∧ wth n T = K) :=
    ⟨hs1, hs2, he, hM1, hM2, hM3, by rw [← hs1, sortE_len, h1], by rw [← hs2, sortE_len, h2], by rw [← he, sortE_len, List.length_append, ← hs1, ← hs2, sortE_len, sortE_len, h1, h2, hT], by rw [← he]; exact sortE_idem _, hK⟩
  have G1 : Hid (l.length = N1) := h1
  have G2 : Hid (c.length = N2) := h2
  have few1 := few_any a0 N1 p0 (by omega)
  have few2 := few_any b0 N2 q0 (by omega)
  rw [decide_eq_true l1] at few1
  rw [decide_eq_true l2] at few2
  have hT2 : T ≤ 1000000 := by omega
  have kT : (K : Int) ≤ (T : Int) := by omega
  have wz : wth n 0 = 0 := by unfold wth; omega
  have WZ : Hid _ := wz
  have mm : min (max n 0) (T : Int) = (K : Int) := by rw [← hK]; unfold wth; omega
  clear hs1 hs2 he hM1 hM2 hM3 h1 h2 hc h hK wz
  go_enter Try.func5, Try.ntmps5
  go_wp2_with fail
  refine (few1 _).mono ?_
  rintro r w1 ⟨rfl, ew1⟩
  obtain rfl := ew1.symm
  go_wp2_with fail
  refine (few2 _).mono ?_
  rintro r w2 ⟨rfl, ew2⟩
  obtain rfl := ew2.symm
  go_wp2_with fail
  refine (ofN A0.out G1.out (by omega) F.out.1 F.out.2.2.2.1).mono ?_
  rintro r w3 ⟨s1a, s1c, rfl, f3, d3⟩
  have D3 : Aside (Below w.heap.size w w3) := d3
  have A_3 : Aside (IsL w3 a0 p0 l) := A0.out.below d3
  have C_3 : Aside (IsL w3 b0 q0 c) := C0.out.below d3
  clear A0 C0
  have s1_3 : Aside (IsL w3 s1a s1c s1) := f3
  clear f3 d3
  clear A_3
  go_wp2_with fail
  refine (ofN C_3.out G2.out (by omega) F.out.2.1 F.out.2.2.2.2.1).mono ?_
  rintro r w4 ⟨s2a, s2c, rfl, f4, d4⟩
  have D4 : Aside (Below w.heap.size w w4) := Below.trans D3.out (Below.mono d4 D3.out.size)
  have C_4 : Aside (IsL w4 b0 q0 c) := C_3.out.below d4
  have s1_4 : Aside (IsL w4 s1a s1c s1) := s1_3.out.below d4
  clear D3 C_3 s1_3
  have s2_4 : Aside (IsL w4 s2a s2c s2) := f4
  clear f4 d4
  clear C_4
  obtain ⟨S5, hS5⟩ : ∃ S, w4.heap.size = S := ⟨_, rfl⟩
  obtain ⟨w5, hw5⟩ : ∃ v, (World.alloc (World.alloc w4 (.cells #[.int .i64 M1, .slice s1a N1 s1c] 26)) (.cells #[.int .i64 M2, .slice s2a N2 s2c] 26)) = v := ⟨_, rfl⟩
  have Hw5 : Hid _ := hw5
  have d5 : Below w4.heap.size w4 w5 := by rw [← hw5]; exact ((Below.refl _ _).alloc (Nat.le_refl _) _).alloc (by simp) _
  have Xx_5 : Aside (Box2 S5 (.int .i64 M1) (.slice s1a N1 s1c) w5) := by rw [← hw5, ← hS5]; exact (Box2.new w4 (.int .i64 M1) (.slice s1a N1 s1c) 26).on ((Below.refl _ _).alloc (Nat.le_refl _) _)
  have xy_5 : Box2 (S5 + 1) (.int .i64 M2) (.slice s2a N2 s2c) w5 := by
    have := Box2.new (World.alloc w4 (.cells #[.int .i64 M1, .slice s1a N1 s1c] 26)) (.int .i64 M2) (.slice s2a N2 s2c) 26
    rw [hw5] at this
    simpa [hS5] using this
  have Xy_5 : Aside (Box2 (S5 + 1) (.int .i64 M2) (.slice s2a N2 s2c) w5) := xy_5
  clear xy_5
  have D5 : Aside (Below w.heap.size w w5) := Below.trans D4.out (Below.mono d5 D4.out.size)
  have s1_5 : Aside (IsL w5 s1a s1c s1) := s1_4.out.below d5
  have s2_5 : Aside (IsL w5 s2a s2c s2) := s2_4.out.below d5
  clear D4 s1_4 s2_4
  clear hw5 d5
  go_wp2_with fail
  rw [Hw5.out]
  refine (mergeN s1_5.out s2_5.out F.out.2.2.2.2.2.2.1 F.out.2.2.2.2.2.2.2.1 (by omega) F.out.2.2.1 hT F.out.2.2.2.2.2.1).mono ?_
  rintro r w6 ⟨ma, mc, rfl, f6, d6⟩
  have D6 : Aside (Below w.heap.size w w6) := Below.trans D5.out (Below.mono d6 D5.out.size)
  have s1_6 : Aside (IsL w6 s1a s1c s1) := s1_5.out.below d6
  have s2_6 : Aside (IsL w6 s2a s2c s2) := s2_5.out.below d6
  have Xx_6 : Aside (Box2 S5 (.int .i64 M1) (.slice s1a N1 s1c) w6) := Xx_5.out.on d6
  have Xy_6 : Aside (Box2 (S5 + 1) (.int .i64 M2) (.slice s2a N2 s2c) w6) := Xy_5.out.on d6
  clear D5 s1_5 s2_5 Xx_5 Xy_5
  have m_6 : Aside (IsL w6 ma mc e) := f6
  clear f6 d6
  obtain ⟨S7, hS7⟩ : ∃ S, w6.heap.size = S := ⟨_, rfl⟩
  have cx0 := Xx_6.out.c0
  have cx1 := Xx_6.out.c1
  have cxl : S5 < S7 := by have := Xx_6.out.lt; omega
  have cy0 := Xy_6.out.c0
  have cy1 := Xy_6.out.c1
  have cyl : (S5 + 1) < S7 := by have := Xy_6.out.lt; omega
  obtain ⟨w7, hw7⟩ : ∃ v, (World.alloc w6 (.cells #[.int .i64 M3, .slice ma T mc] 26)) = v := ⟨_, rfl⟩
  have Hw7 : Hid _ := hw7
  have d7 : Below w6.heap.size w6 w7 := by rw [← hw7]; exact (Below.refl _ _).alloc (Nat.le_refl _) _
  have Xz_7 : Aside (Box2 S7 (.int .i64 M3) (.slice ma T mc) w7) := by rw [← hw7, ← hS7]; exact Box2.new _ _ _ _
  have D7 : Aside (Below w.heap.size w w7) := Below.trans D6.out (Below.mono d7 D6.out.size)
  have s1_7 : Aside (IsL w7 s1a s1c s1) := s1_6.out.below d7
  have s2_7 : Aside (IsL w7 s2a s2c s2) := s2_6.out.below d7
  have m_7 : Aside (IsL w7 ma mc e) := m_6.out.below d7
  have Xx_7 : Aside (Box2 S5 (.int .i64 M1) (.slice s1a N1 s1c) w7) := Xx_6.out.on d7
  have Xy_7 : Aside (Box2 (S5 + 1) (.int .i64 M2) (.slice s2a N2 s2c) w7) := Xy_6.out.on d7
  clear D6 s1_6 s2_6 m_6 Xx_6 Xy_6
  clear hw7 d7
  have hS8 : w7.heap.size = S7 + 1 := by rw [← Hw7.out]; simp [hS7]
  obtain ⟨w8, hw8⟩ : ∃ v, World.alloc w7 (.cells #[.int .i64 M1, .slice s1a N1 s1c, .int .i64 M2, .slice s2a N2 s2c] 26) = v := ⟨_, rfl⟩
  have Hw8 : Hid _ := hw8
  have d8 : Below w7.heap.size w7 w8 := by rw [← hw8]; exact (Below.refl _ _).alloc (Nat.le_refl _) _
  have D8 : Aside (Below w.heap.size w w8) := Below.trans D7.out (Below.mono d8 D7.out.size)
  have s1_8 : Aside (IsL w8 s1a s1c s1) := s1_7.out.below d8
  have s2_8 : Aside (IsL w8 s2a s2c s2) := s2_7.out.below d8
  have m_8 : Aside (IsL w8 ma mc e) := m_7.out.below d8
  have Xx_8 : Aside (Box2 S5 (.int .i64 M1) (.slice s1a N1 s1c) w8) := Xx_7.out.on d8
  have Xy_8 : Aside (Box2 (S5 + 1) (.int .i64 M2) (.slice s2a N2 s2c) w8) := Xy_7.out.on d8
  have Xz_8 : Aside (Box2 S7 (.int .i64 M3) (.slice ma T mc) w8) := Xz_7.out.on d8
  clear D7 s1_7 s2_7 m_7 Xx_7 Xy_7 Xz_7
  have bs := bs2 hw8 hS8 s1_8.out s2_8.out F.out.2.2.2.2.2.2.1 F.out.2.2.2.2.2.2.2.1
  clear hS8
  clear hw8 d8
  go_wp2_with fail
  rw [Hw7.out, Hw8.out]
  refine (pivotN bs rfl (by simp only [List.flatten_cons, List.flatten_nil, List.append_nil, List.length_append]; rw [F.out.2.2.2.2.2.2.1, F.out.2.2.2.2.2.2.2.1, hT]) hT2 F.out.2.2.2.2.2.2.2.2.2.2 (by simp only [List.flatten_cons, List.flatten_nil, List.append_nil]; rw [F.out.2.2.1])).mono ?_
  rintro r w9 ⟨pa, pc, rfl, f9, d9⟩
  clear cx0 cx1 cxl cy0 cy1 cyl
  have D9 : Aside (Below w.heap.size w w9) := Below.trans D8.out (Below.mono d9 D8.out.size)
  have s1_9 : Aside (IsL w9 s1a s1c s1) := s1_8.out.below d9
  have s2_9 : Aside (IsL w9 s2a s2c s2) := s2_8.out.below d9
  have m_9 : Aside (IsL w9 ma mc e) := m_8.out.below d9
  have Xx_9 : Aside (Box2 S5 (.int .i64 M1) (.slice s1a N1 s1c) w9) := Xx_8.out.on d9
  have Xy_9 : Aside (Box2 (S5 + 1) (.int .i64 M2) (.slice s2a N2 s2c) w9) := Xy_8.out.on d9
  have Xz_9 : Aside (Box2 S7 (.int .i64 M3) (.slice ma T mc) w9) := Xz_8.out.on d9
  clear D8 s1_8 s2_8 m_8 Xx_8 Xy_8 Xz_8
  have p_9 : Aside (IsL w9 pa pc (e.take K)) := f9
  clear f9 d9
  clear bs
  obtain ⟨S10, hS10⟩ : ∃ S, w9.heap.size = S := ⟨_, rfl⟩
  have cx0 := Xx_9.out.c0
  have cx1 := Xx_9.out.c1
  have cxl : S5 < S10 := by have := Xx_9.out.lt; omega
  have cy0 := Xy_9.out.c0
  have cy1 := Xy_9.out.c1
  have cyl : (S5 + 1) < S10 := by have := Xy_9.out.lt; omega
  have cz0 := Xz_9.out.c0
  have cz1 := Xz_9.out.c1
  have czl : S7 < S10 := by have := Xz_9.out.lt; omega
  obtain ⟨w10, hw10⟩ : ∃ v, World.alloc w9 (.cells #[.int .i64 M3, .slice ma T mc] 26) = v := ⟨_, rfl⟩
  have Hw10 : Hid _ := hw10
  have d10 : Below w9.heap.size w9 w10 := by rw [← hw10]; exact (Below.refl _ _).alloc (Nat.le_refl _) _
  have D10 : Aside (Below w.heap.size w w10) := Below.trans D9.out (Below.mono d10 D9.out.size)
  have s1_10 : Aside (IsL w10 s1a s1c s1) := s1_9.out.below d10
  have s2_10 : Aside (IsL w10 s2a s2c s2) := s2_9.out.below d10
  have m_10 : Aside (IsL w10 ma mc e) := m_9.out.below d10
  have p_10 : Aside (IsL w10 pa pc (e.take K)) := p_9.out.below d10
  have Xx_10 : Aside (Box2 S5 (.int .i64 M1) (.slice s1a N1 s1c) w10) := Xx_9.out.on d10
  have Xy_10 : Aside (Box2 (S5 + 1) (.int .i64 M2) (.slice s2a N2 s2c) w10) := Xy_9.out.on d10
  have Xz_10 : Aside (Box2 S7 (.int .i64 M3) (.slice ma T mc) w10) := Xz_9.out.on d10
  clear D9 s1_9 s2_9 m_9 p_9 Xx_9 Xy_9 Xz_9
  have bs := bs1 hw10 hS10 m_10.out F.out.2.2.2.2.2.2.2.2.1
  clear hw10 d10
  go_wp2_with fail
  rw [Hw10.out]
  refine (pivotN bs rfl (by simp only [List.flatten_cons, List.flatten_nil, List.append_nil]; exact F.out.2.2.2.2.2.2.2.2.1) hT2 F.out.2.2.2.2.2.2.2.2.2.2 (by simp only [List.flatten_cons, List.flatten_nil, List.append_nil]; rw [F.out.2.2.2.2.2.2.2.2.2.1])).mono ?_
  rintro r w11 ⟨qa, qc, rfl, f11, d11⟩
  clear cx0 cx1 cxl cy0 cy1 cyl cz0 cz1 czl
  have D11 : Aside (Below w.heap.size w w11) := Below.trans D10.out (Below.mono d11 D10.out.size)
  have s1_11 : Aside (IsL w11 s1a s1c s1) := s1_10.out.below d11
  have s2_11 : Aside (IsL w11 s2a s2c s2) := s2_10.out.below d11
  have m_11 : Aside (IsL w11 ma mc e) := m_10.out.below d11
  have p_11 : Aside (IsL w11 pa pc (e.take K)) := p_10.out.below d11
  have Xx_11 : Aside (Box2 S5 (.int .i64 M1) (.slice s1a N1 s1c) w11) := Xx_10.out.on d11
  have Xy_11 : Aside (Box2 (S5 + 1) (.int .i64 M2) (.slice s2a N2 s2c) w11) := Xy_10.out.on d11
  have Xz_11 : Aside (Box2 S7 (.int .i64 M3) (.slice ma T mc) w11) := Xz_10.out.on d11
  clear D10 s1_10 s2_10 m_10 p_10 Xx_10 Xy_10 Xz_10
  have q_11 : Aside (IsL w11 qa qc (e.take K)) := f11
  clear f11 d11
  clear bs
  have tc := m_11.out.le
  rw [F.out.2.2.2.2.2.2.2.2.1] at tc
  have kc : (K : Int) ≤ (mc : Int) := by omega
  have kz : (0 : Int) ≤ (K : Int) := by omega
  have tl : Hid ((e.take K).length = K) := by show (e.take K).length = K; rw [List.length_take, F.out.2.2.2.2.2.2.2.2.1]; omega
  have cx0 := Xx_11.out.c0
  have cx1 := Xx_11.out.c1
  have cy0 := Xy_11.out.c0
  have cy1 := Xy_11.out.c1
  have cz0 := Xz_11.out.c0
  have cz1 := Xz_11.out.c1
  go_wp2_with fail
  refine (sameN p_11.out (m_11.out.take K) tl.out tl.out (decide_eq_true rfl)).mono ?_
  rintro r w12 ⟨rfl, d12⟩
  clear cx0 cx1 cy0 cy1 cz0 cz1
  have D12 : Aside (Below w.heap.size w w12) := Below.trans D11.out (Below.mono d12 D11.out.size)
  have s1_12 : Aside (IsL w12 s1a s1c s1) := s1_11.out.below d12
  have s2_12 : Aside (IsL w12 s2a s2c s2) := s2_11.out.below d12
  have m_12 : Aside (IsL w12 ma mc e) := m_11.out.below d12
  have p_12 : Aside (IsL w12 pa pc (e.take K)) := p_11.out.below d12
  have q_12 : Aside (IsL w12 qa qc (e.take K)) := q_11.out.below d12
  have Xx_12 : Aside (Box2 S5 (.int .i64 M1) (.slice s1a N1 s1c) w12) := Xx_11.out.on d12
  have Xy_12 : Aside (Box2 (S5 + 1) (.int .i64 M2) (.slice s2a N2 s2c) w12) := Xy_11.out.on d12
  have Xz_12 : Aside (Box2 S7 (.int .i64 M3) (.slice ma T mc) w12) := Xz_11.out.on d12
  clear D11 s1_11 s2_11 m_11 p_11 q_11 Xx_11 Xy_11 Xz_11
  clear d12
  have cx0 := Xx_12.out.c0
  have cx1 := Xx_12.out.c1
  have cy0 := Xy_12.out.c0
  have cy1 := Xy_12.out.c1
  have cz0 := Xz_12.out.c0
  have cz1 := Xz_12.out.c1
  go_wp2_with fail
  refine (sameN q_12.out p_12.out tl.out tl.out (decide_eq_true rfl)).mono ?_
  rintro r w13 ⟨rfl, d13⟩
  clear cx0 cx1 cy0 cy1 cz0 cz1
  have D13 : Aside (Below w.heap.size w w13) := Below.trans D12.out (Below.mono d13 D12.out.size)
  have s1_13 : Aside (IsL w13 s1a s1c s1) := s1_12.out.below d13
  have s2_13 : Aside (IsL w13 s2a s2c s2) := s2_12.out.below d13
  have m_13 : Aside (IsL w13 ma mc e) := m_12.out.below d13
  have p_13 : Aside (IsL w13 pa pc (e.take K)) := p_12.out.below d13
  have q_13 : Aside (IsL w13 qa qc (e.take K)) := q_12.out.below d13
  have Xx_13 : Aside (Box2 S5 (.int .i64 M1) (.slice s1a N1 s1c) w13) := Xx_12.out.on d13
  have Xy_13 : Aside (Box2 (S5 + 1) (.int .i64 M2) (.slice s2a N2 s2c) w13) := Xy_12.out.on d13
  have Xz_13 : Aside (Box2 S7 (.int .i64 M3) (.slice ma T mc) w13) := Xz_12.out.on d13
  clear D12 s1_12 s2_12 m_12 p_12 q_12 Xx_12 Xy_12 Xz_12
  clear d13
  have cx0 := Xx_13.out.c0
  have cx1 := Xx_13.out.c1
  have cy0 := Xy_13.out.c0
  have cy1 := Xy_13.out.c1
  have cz0 := Xz_13.out.c0
  have cz1 := Xz_13.out.c1
  go_wp2_with fail
  refine (pivotN (d := []) (ls := []) (T := 0) (IsBs.nil _) rfl rfl (by omega) WZ.out (by simp)).mono ?_
  rintro r w14 ⟨oa, oc, rfl, f14, d14⟩
  clear cx0 cx1 cy0 cy1 cz0 cz1
  have D14 : Aside (Below w.heap.size w w14) := Below.trans D13.out (Below.mono d14 D13.out.size)
  have s1_14 : Aside (IsL w14 s1a s1c s1) := s1_13.out.below d14
  have s2_14 : Aside (IsL w14 s2a s2c s2) := s2_13.out.below d14
  have m_14 : Aside (IsL w14 ma mc e) := m_13.out.below d14
  have p_14 : Aside (IsL w14 pa pc (e.take K)) := p_13.out.below d14
  have q_14 : Aside (IsL w14 qa qc (e.take K)) := q_13.out.below d14
  have Xx_14 : Aside (Box2 S5 (.int .i64 M1) (.slice s1a N1 s1c) w14) := Xx_13.out.on d14
  have Xy_14 : Aside (Box2 (S5 + 1) (.int .i64 M2) (.slice s2a N2 s2c) w14) := Xy_13.out.on d14
  have Xz_14 : Aside (Box2 S7 (.int .i64 M3) (.slice ma T mc) w14) := Xz_13.out.on d14
  clear D13 s1_13 s2_13 m_13 p_13 q_13 Xx_13 Xy_13 Xz_13
  have o_14 : Aside (IsL w14 oa oc ([] : List Ent)) := f14
  clear f14 d14
  have cx0 := Xx_14.out.c0
  have cx1 := Xx_14.out.c1
  have cy0 := Xy_14.out.c0
  have cy1 := Xy_14.out.c1
  have cz0 := Xz_14.out.c0
  have cz1 := Xz_14.out.c1
  go_wp2_with fail
  refine (awake_any _).mono ?_
  rintro r w15 ⟨rfl, d15⟩
  clear cx0 cx1 cy0 cy1 cz0 cz1
  have D15 : Aside (Below w.heap.size w w15) := Below.trans D14.out (Below.mono d15 D14.out.size)
  have s1_15 : Aside (IsL w15 s1a s1c s1) := s1_14.out.below d15
  have s2_15 : Aside (IsL w15 s2a s2c s2) := s2_14.out.below d15
  have m_15 : Aside (IsL w15 ma mc e) := m_14.out.below d15
  have p_15 : Aside (IsL w15 pa pc (e.take K)) := p_14.out.below d15
  have q_15 : Aside (IsL w15 qa qc (e.take K)) := q_14.out.below d15
  have o_15 : Aside (IsL w15 oa oc ([] : List Ent)) := o_14.out.below d15
  have Xx_15 : Aside (Box2 S5 (.int .i64 M1) (.slice s1a N1 s1c) w15) := Xx_14.out.on d15
  have Xy_15 : Aside (Box2 (S5 + 1) (.int .i64 M2) (.slice s2a N2 s2c) w15) := Xy_14.out.on d15
  have Xz_15 : Aside (Box2 S7 (.int .i64 M3) (.slice ma T mc) w15) := Xz_14.out.on d15
  clear D14 s1_14 s2_14 m_14 p_14 q_14 o_14 Xx_14 Xy_14 Xz_14
  clear d15
  go_wp2
  go_ret
  exact ⟨rfl, D15.out⟩

set_option maxHeartbeats 4000000 in
theorem blockFirsts_walk (a0 : Option Addr) (p0 : Nat) (l : List Ent) (b0 : Option Addr) (q0 : Nat) (c : List Ent) (n : Int) (w : World) (h : IsL w a0 p0 l) (g1 : l.length ≤ 140737488355328) (hc : IsL w b0 q0 c) (g2 : c.length ≤ 140737488355328) (hw : (Lit.int .i64 n).wf = true) :
    Calls Try.prog 5 #[.slice a0 l.length p0, .slice b0 c.length q0, .int .i64 n] w fun r w' => r = .returned (.bool true) ∧ Below w.heap.size w w' := by
  by_cases f1 : l.length ≤ 120
  · by_cases f2 : c.length ≤ 120
    · exact blockFirsts_few a0 b0 p0 q0 l c n _ _ _ _ w h hc rfl rfl f1 f2 rfl rfl
    · obtain ⟨N1, h1⟩ : ∃ N, l.length = N := ⟨_, rfl⟩
      obtain ⟨N2, h2⟩ : ∃ N, c.length = N := ⟨_, rfl⟩
      rw [h1] at f1
      rw [h2] at f2
      have few1 := few_any a0 N1 p0 (by omega)
      have few2 := few_any b0 N2 q0 (by omega)
      rw [decide_eq_true f1] at few1
      rw [decide_eq_false f2] at few2
      rw [h1, h2]
      clear h hc h1 h2 g1 g2 hw f1 f2
      go_enter Try.func5, Try.ntmps5
      go_wp2_with fail
      refine (few1 _).mono ?_
      rintro r w1 ⟨rfl, e1⟩
      obtain rfl := e1.symm
      go_wp2_with fail
      refine (few2 _).mono ?_
      rintro r w1 ⟨rfl, e1⟩
      obtain rfl := e1.symm
      go_wp2_with fail
      refine (awake_any _).mono ?_
      rintro r w1 ⟨rfl, d1⟩
      go_wp2
      go_ret
      exact ⟨rfl, d1⟩
  · obtain ⟨N1, h1⟩ : ∃ N, l.length = N := ⟨_, rfl⟩
    obtain ⟨N2, h2⟩ : ∃ N, c.length = N := ⟨_, rfl⟩
    rw [h1] at f1
    have few1 := few_any a0 N1 p0 (by omega)
    rw [decide_eq_false f1] at few1
    rw [h1, h2]
    clear h hc h1 h2 g1 g2 hw f1
    go_enter Try.func5, Try.ntmps5
    go_wp2_with fail
    refine (few1 _).mono ?_
    rintro r w1 ⟨rfl, e1⟩
    obtain rfl := e1.symm
    go_wp2_with fail
    refine (awake_any _).mono ?_
    rintro r w1 ⟨rfl, d1⟩
    go_wp2
    go_ret
    exact ⟨rfl, d1⟩
end Go.Proofs.Ytoknpinlphbeoaa

/- The walk of 'BlockCuts'. -/
import Derived.Test.YtoknpinlphbeoaaBlkL
import Derived.Deep.QuietTactic
import Derived.BigQuiet
namespace Go.Proofs.Ytoknpinlphbeoaa
open Go.RowKit Go.Lib Go.Sort
set_option linter.unusedVariables false

set_option maxHeartbeats 4000000 in
set_option maxRecDepth 100000 in
theorem blockCuts_walk (a0 : Option Addr) (p0 : Nat) (l : List Ent) (n : Int) (w : World) (h : IsL w a0 p0 l) (b1 : l.length ≤ 140737488355328) (hw : (Lit.int .i64 n).wf = true) :
    Calls Try.prog 3 #[.slice a0 l.length p0, .int .i64 n] w fun r w' => r = .returned (.bool true) ∧ Below w.heap.size w w' := by
  have mx := mixed
  have L0 : Aside (IsL w a0 p0 l) := h
  obtain ⟨N, hN⟩ : ∃ N, l.length = N := ⟨_, rfl⟩
  have HN : Hid _ := hN
  rw [hN] at b1 ⊢
  have few := few_any a0 N p0 (by omega)
  clear h hN
  by_cases hf : N ≤ 120
  · rw [decide_eq_true hf] at few
    obtain ⟨s, hs⟩ : ∃ s, sortE l = s := ⟨_, rfl⟩
    obtain ⟨M, hM⟩ : ∃ M, lvl N = M := ⟨_, rfl⟩
    obtain ⟨K, hK⟩ : ∃ K, wth n N = K := ⟨_, rfl⟩
    have k0 : K ≤ N := by rw [← hK]; exact wth_le _ _
    obtain ⟨J, hJ⟩ : ∃ J, N - K = J := ⟨_, rfl⟩
    obtain ⟨M1, hM1⟩ : ∃ M, lvl K = M := ⟨_, rfl⟩
    obtain ⟨M2, hM2⟩ : ∃ M, lvl J = M := ⟨_, rfl⟩
    obtain ⟨c1, hc1⟩ : ∃ c, s.take K = c := ⟨_, rfl⟩
    obtain ⟨c2, hc2⟩ : ∃ c, s.drop K = c := ⟨_, rfl⟩
    have ss : Srt s := by rw [← hs]; exact sortE_srt l
    have sl : s.length = N := by rw [← hs, sortE_len, HN.out]
    have F : Aside (sortE l = s ∧ lvl N = M ∧ wth n N = K ∧ N - K = J ∧ lvl K = M1 ∧ lvl J = M2 ∧ sortE (s.take K) = c1 ∧ sortE (s.drop K) = c2 ∧ sortE (c1 ++ c2) = s ∧ Srt s ∧ Srt c1 ∧ Srt c2 ∧ s.length = N ∧ c1.length = K ∧ c2.length = J) := by
      refine ⟨hs, hM, hK, hJ, hM1, hM2, by rw [sortE_take ss, hc1], by rw [sortE_drop ss, hc2], by rw [← hc1, ← hc2, List.take_append_drop, sortE_id ss], ss, by rw [← hc1]; exact ss.take K, by rw [← hc2]; exact ss.drop K, sl, by rw [← hc1, List.length_take, sl]; omega, by rw [← hc2, List.length_drop, sl, hJ]⟩
    have lastf : Aside (∀ (h1 : 0 < K) (h2 : 0 < J), ∃ x y, c2[0]? = some x ∧ c1[K - 1]? = some y ∧ ltE x y = false) := fun h1 h2 => by
      refine ⟨s[K]'(by omega), s[K - 1]'(by omega), ?_, ?_, ss.get (by omega) (by omega)⟩
      · rw [← hc2, List.getElem?_drop, Nat.add_zero]; exact List.getElem?_eq_getElem _
      · rw [← hc1, List.getElem?_take_of_lt (by omega)]; exact List.getElem?_eq_getElem _
    have JK : K + J = N := by omega
    clear hs hM hK hJ hM1 hM2 hc1 hc2 ss sl hw
    go_enter Try.func3, Try.ntmps3
    go_wp2_with fail
    refine (few _).mono ?_
    rintro r w1 ⟨rfl, ew1⟩
    obtain rfl := ew1.symm
    go_wp2_with fail
    refine (ofN L0.out HN.out (by omega) F.out.1 F.out.2.1).mono ?_
    rintro r w2 ⟨sa, sc, rfl, f2, d2⟩
    have D2 : Aside (Below w.heap.size w w2) := d2
    have L_2 : Aside (IsL w2 a0 p0 l) := L0.out.below d2
    clear L0
    have s_2 : Aside (IsL w2 sa sc s) := f2
    clear f2 d2
    clear L_2
    obtain ⟨S3, hS3⟩ : ∃ S, w2.heap.size = S := ⟨_, rfl⟩
    obtain ⟨w3, hw3⟩ : ∃ v, (World.alloc w2 (.cells #[.int .i64 M, .slice sa N sc] 26)) = v := ⟨_, rfl⟩
    have Hw3 : Hid _ := hw3
    have d3 : Below w2.heap.size w2 w3 := by rw [← hw3]; exact (Below.refl _ _).alloc (Nat.le_refl _) _
    have Xb_3 : Aside (Box2 S3 (.int .i64 M) (.slice sa N sc) w3) := by rw [← hw3, ← hS3]; exact Box2.new _ _ _ _
    have D3 : Aside (Below w.heap.size w w3) := Below.trans D2.out (Below.mono d3 D2.out.size)
    have s_3 : Aside (IsL w3 sa sc s) := s_2.out.below d3
    clear D2 s_2
    clear hw3 d3
    go_wp2_with fail
    rw [Hw3.out]
    refine (cutN s_3.out F.out.2.2.2.2.2.2.2.2.2.2.2.2.1 (by omega) F.out.2.2.1 F.out.2.2.2.2.2.2.1 F.out.2.2.2.2.2.2.2.1 F.out.2.2.2.1 F.out.2.2.2.2.1 F.out.2.2.2.2.2.1).mono ?_
    rintro r w4 ⟨c1a, c1c, c2a, c2c, rfl, f4, g4, d4⟩
    have D4 : Aside (Below w.heap.size w w4) := Below.trans D3.out (Below.mono d4 D3.out.size)
    have s_4 : Aside (IsL w4 sa sc s) := s_3.out.below d4
    have Xb_4 : Aside (Box2 S3 (.int .i64 M) (.slice sa N sc) w4) := Xb_3.out.on d4
    clear D3 s_3 Xb_3
    have c1_4 : Aside (IsL w4 c1a c1c c1) := f4
    have c2_4 : Aside (IsL w4 c2a c2c c2) := g4
    clear f4 g4 d4
    obtain ⟨S5, hS5⟩ : ∃ S, w4.heap.size = S := ⟨_, rfl⟩
    have cb0 := Xb_4.out.c0
    have cb1 := Xb_4.out.c1
    have cbl : S3 < S5 := by have := Xb_4.out.lt; omega
    obtain ⟨w5, hw5⟩ : ∃ v, (World.alloc (World.alloc w4 (.cells #[.int .i64 M1, .slice c1a K c1c] 26)) (.cells #[.int .i64 M2, .slice c2a J c2c] 26)) = v := ⟨_, rfl⟩
    have Hw5 : Hid _ := hw5
    have d5 : Below w4.heap.size w4 w5 := by rw [← hw5]; exact ((Below.refl _ _).alloc (Nat.le_refl _) _).alloc (by simp) _
    have Xf_5 : Aside (Box2 S5 (.int .i64 M1) (.slice c1a K c1c) w5) := by rw [← hw5, ← hS5]; exact (Box2.new w4 (.int .i64 M1) (.slice c1a K c1c) 26).on ((Below.refl _ _).alloc (Nat.le_refl _) _)
    have xr_5 : Box2 (S5 + 1) (.int .i64 M2) (.slice c2a J c2c) w5 := by
      have := Box2.new (World.alloc w4 (.cells #[.int .i64 M1, .slice c1a K c1c] 26)) (.int .i64 M2) (.slice c2a J c2c) 26
      rw [hw5] at this
      simpa [hS5] using this
    have Xr_5 : Aside (Box2 (S5 + 1) (.int .i64 M2) (.slice c2a J c2c) w5) := xr_5
    clear xr_5
    have D5 : Aside (Below w.heap.size w w5) := Below.trans D4.out (Below.mono d5 D4.out.size)
    have s_5 : Aside (IsL w5 sa sc s) := s_4.out.below d5
    have c1_5 : Aside (IsL w5 c1a c1c c1) := c1_4.out.below d5
    have c2_5 : Aside (IsL w5 c2a c2c c2) := c2_4.out.below d5
    have Xb_5 : Aside (Box2 S3 (.int .i64 M) (.slice sa N sc) w5) := Xb_4.out.on d5
    clear D4 s_4 c1_4 c2_4 Xb_4
    clear hw5 d5
    go_wp2_with fail
    rw [Hw5.out]
    refine (mergeN c1_5.out c2_5.out F.out.2.2.2.2.2.2.2.2.2.2.2.2.2.1 F.out.2.2.2.2.2.2.2.2.2.2.2.2.2.2 (by omega) F.out.2.2.2.2.2.2.2.2.1 JK F.out.2.1).mono ?_
    rintro r w6 ⟨ma, mc, rfl, f6, d6⟩
    clear cb0 cb1 cbl
    have D6 : Aside (Below w.heap.size w w6) := Below.trans D5.out (Below.mono d6 D5.out.size)
    have s_6 : Aside (IsL w6 sa sc s) := s_5.out.below d6
    have c1_6 : Aside (IsL w6 c1a c1c c1) := c1_5.out.below d6
    have c2_6 : Aside (IsL w6 c2a c2c c2) := c2_5.out.below d6
    have Xb_6 : Aside (Box2 S3 (.int .i64 M) (.slice sa N sc) w6) := Xb_5.out.on d6
    have Xf_6 : Aside (Box2 S5 (.int .i64 M1) (.slice c1a K c1c) w6) := Xf_5.out.on d6
    have Xr_6 : Aside (Box2 (S5 + 1) (.int .i64 M2) (.slice c2a J c2c) w6) := Xr_5.out.on d6
    clear D5 s_5 c1_5 c2_5 Xb_5 Xf_5 Xr_5
    have m_6 : Aside (IsL w6 ma mc s) := f6
    clear f6 d6
    obtain ⟨S7, hS7⟩ : ∃ S, w6.heap.size = S := ⟨_, rfl⟩
    have cb0 := Xb_6.out.c0
    have cb1 := Xb_6.out.c1
    have cbl : S3 < S7 := by have := Xb_6.out.lt; omega
    have cf0 := Xf_6.out.c0
    have cf1 := Xf_6.out.c1
    have cfl : S5 < S7 := by have := Xf_6.out.lt; omega
    have cr0 := Xr_6.out.c0
    have cr1 := Xr_6.out.c1
    have crl : (S5 + 1) < S7 := by have := Xr_6.out.lt; omega
    obtain ⟨w7, hw7⟩ : ∃ v, (World.alloc w6 (.cells #[.int .i64 M, .slice ma N mc] 26)) = v := ⟨_, rfl⟩
    have Hw7 : Hid _ := hw7
    have d7 : Below w6.heap.size w6 w7 := by rw [← hw7]; exact (Below.refl _ _).alloc (Nat.le_refl _) _
    have Xm_7 : Aside (Box2 S7 (.int .i64 M) (.slice ma N mc) w7) := by rw [← hw7, ← hS7]; exact Box2.new _ _ _ _
    have D7 : Aside (Below w.heap.size w w7) := Below.trans D6.out (Below.mono d7 D6.out.size)
    have s_7 : Aside (IsL w7 sa sc s) := s_6.out.below d7
    have c1_7 : Aside (IsL w7 c1a c1c c1) := c1_6.out.below d7
    have c2_7 : Aside (IsL w7 c2a c2c c2) := c2_6.out.below d7
    have m_7 : Aside (IsL w7 ma mc s) := m_6.out.below d7
    have Xb_7 : Aside (Box2 S3 (.int .i64 M) (.slice sa N sc) w7) := Xb_6.out.on d7
    have Xf_7 : Aside (Box2 S5 (.int .i64 M1) (.slice c1a K c1c) w7) := Xf_6.out.on d7
    have Xr_7 : Aside (Box2 (S5 + 1) (.int .i64 M2) (.slice c2a J c2c) w7) := Xr_6.out.on d7
    clear D6 s_6 c1_6 c2_6 m_6 Xb_6 Xf_6 Xr_6
    clear hw7 d7
    go_wp2_with fail
    rw [Hw7.out]
    refine (sameN m_7.out s_7.out F.out.2.2.2.2.2.2.2.2.2.2.2.2.1 F.out.2.2.2.2.2.2.2.2.2.2.2.2.1 (decide_eq_true rfl)).mono ?_
    rintro r w8 ⟨rfl, d8⟩
    clear cb0 cb1 cbl cf0 cf1 cfl cr0 cr1 crl
    have D8 : Aside (Below w.heap.size w w8) := Below.trans D7.out (Below.mono d8 D7.out.size)
    have s_8 : Aside (IsL w8 sa sc s) := s_7.out.below d8
    have c1_8 : Aside (IsL w8 c1a c1c c1) := c1_7.out.below d8
    have c2_8 : Aside (IsL w8 c2a c2c c2) := c2_7.out.below d8
    have m_8 : Aside (IsL w8 ma mc s) := m_7.out.below d8
    have Xb_8 : Aside (Box2 S3 (.int .i64 M) (.slice sa N sc) w8) := Xb_7.out.on d8
    have Xf_8 : Aside (Box2 S5 (.int .i64 M1) (.slice c1a K c1c) w8) := Xf_7.out.on d8
    have Xr_8 : Aside (Box2 (S5 + 1) (.int .i64 M2) (.slice c2a J c2c) w8) := Xr_7.out.on d8
    have Xm_8 : Aside (Box2 S7 (.int .i64 M) (.slice ma N mc) w8) := Xm_7.out.on d8
    clear D7 s_7 c1_7 c2_7 m_7 Xb_7 Xf_7 Xr_7 Xm_7
    clear d8
    have jk : (K : Int) + (J : Int) = (N : Int) := by omega
    by_cases hK : 0 < K
    · by_cases hJ : 0 < J
      · clear m_8
        clear s_8
        have cb0 := Xb_8.out.c0
        have cb1 := Xb_8.out.c1
        have cf0 := Xf_8.out.c0
        have cf1 := Xf_8.out.c1
        have cr0 := Xr_8.out.c0
        have cr1 := Xr_8.out.c1
        have cm0 := Xm_8.out.c0
        have cm1 := Xm_8.out.c1
        have pK1 : (0 : Int) < (K : Int) := by omega
        have pK2 : decide ((0 : Int) < (K : Int)) = true := decide_eq_true pK1
        have pK3 : ((K : Int) == 0) = false := by simp; omega
        have pJ1 : (0 : Int) < (J : Int) := by omega
        have pJ2 : decide ((0 : Int) < (J : Int)) = true := decide_eq_true pJ1
        have pJ3 : ((J : Int) == 0) = false := by simp; omega
        obtain ⟨x, y, hx, hy, xy⟩ := lastf.out hK hJ
        have lg := refLess_grown x y w8
        simp only [xy] at lg
        obtain ⟨j, hj⟩ : ∃ j, K = j + 1 := ⟨K - 1, by omega⟩
        have hj1 : K - 1 = j := by omega
        rw [hj1] at hy
        obtain ⟨b, off, ha, hb, e0, e1⟩ := c1_8.out.elem j y hy
        subst ha
        obtain ⟨b2, off2, ha, hb2, g0, g1⟩ := c2_8.out.elem 0 x hx
        subst ha
        simp only [Nat.zero_mul, Nat.add_zero] at g0 g1
        have q1 := fun n os => cell_grown hb e0 n os
        have q2 := fun n os => cell_grown hb e1 n os
        have q3 := fun n os => cell_grown hb2 g0 n os
        have q4 := fun n os => cell_grown hb2 g1 n os
        have t4 : (K : Int) - 1 = (j : Int) := by omega
        have wj : IntKind.i64.wrap (j : Int) = (j : Int) := by rw [IntKind.wrap_i64]; omega
        have j2 : (j : Int) < (K : Int) := by omega
        clear hx hy hj hj1 e0 e1 g0 g1
        go_wp2_with fail
        clear cb0 cb1 cf0 cf1 cr0 cr1 cm0 cm1
        have cb0 := fun n os => (Xb_8.out.grows n os).1
        have cb1 := fun n os => (Xb_8.out.grows n os).2
        have cf0 := fun n os => (Xf_8.out.grows n os).1
        have cf1 := fun n os => (Xf_8.out.grows n os).2
        have cr0 := fun n os => (Xr_8.out.grows n os).1
        have cr1 := fun n os => (Xr_8.out.grows n os).2
        have cm0 := fun n os => (Xm_8.out.grows n os).1
        have cm1 := fun n os => (Xm_8.out.grows n os).2
        go_wp2_with fail
        go_quiet_grown ((first | (go_at_call 14; exact lg _ _)))
        clear cb0 cb1 cf0 cf1 cr0 cr1 cm0 cm1
        have d9 : Below w8.heap.size w8 (grow (w8.drewN nq) osq) := Grown.below ⟨nq, osq, rfl⟩
        have D9 : Aside (Below w.heap.size w (grow (w8.drewN nq) osq)) := Below.trans D8.out (Below.mono d9 D8.out.size)
        have c1_9 : Aside (IsL (grow (w8.drewN nq) osq) (some ⟨b, off, none⟩) c1c c1) := c1_8.out.below d9
        have c2_9 : Aside (IsL (grow (w8.drewN nq) osq) (some ⟨b2, off2, none⟩) c2c c2) := c2_8.out.below d9
        have Xb_9 : Aside (Box2 S3 (.int .i64 M) (.slice sa N sc) (grow (w8.drewN nq) osq)) := Xb_8.out.on d9
        have Xf_9 : Aside (Box2 S5 (.int .i64 M1) (.slice (some ⟨b, off, none⟩) K c1c) (grow (w8.drewN nq) osq)) := Xf_8.out.on d9
        have Xr_9 : Aside (Box2 (S5 + 1) (.int .i64 M2) (.slice (some ⟨b2, off2, none⟩) J c2c) (grow (w8.drewN nq) osq)) := Xr_8.out.on d9
        have Xm_9 : Aside (Box2 S7 (.int .i64 M) (.slice ma N mc) (grow (w8.drewN nq) osq)) := Xm_8.out.on d9
        clear D8 c1_8 c2_8 Xb_8 Xf_8 Xr_8 Xm_8
        clear d9
        generalize (grow (w8.drewN nq) osq) = w9 at D9 c1_9 c2_9 Xb_9 Xf_9 Xr_9 Xm_9 ⊢
        clear q1 q2 q3 q4 lg hb hb2 t4 wj j2
        have cb0 := Xb_9.out.c0
        have cb1 := Xb_9.out.c1
        have cf0 := Xf_9.out.c0
        have cf1 := Xf_9.out.c1
        have cr0 := Xr_9.out.c0
        have cr1 := Xr_9.out.c1
        have cm0 := Xm_9.out.c0
        have cm1 := Xm_9.out.c1
        go_wp2_with fail
        refine (okN c1_9.out F.out.2.2.2.2.2.2.2.2.2.2.1 F.out.2.2.2.2.2.2.2.2.2.2.2.2.2.1 (by omega) F.out.2.2.2.2.1).mono ?_
        rintro r w10 ⟨rfl, d10⟩
        clear cb0 cb1 cf0 cf1 cr0 cr1 cm0 cm1
        have D10 : Aside (Below w.heap.size w w10) := Below.trans D9.out (Below.mono d10 D9.out.size)
        have c1_10 : Aside (IsL w10 (some ⟨b, off, none⟩) c1c c1) := c1_9.out.below d10
        have c2_10 : Aside (IsL w10 (some ⟨b2, off2, none⟩) c2c c2) := c2_9.out.below d10
        have Xb_10 : Aside (Box2 S3 (.int .i64 M) (.slice sa N sc) w10) := Xb_9.out.on d10
        have Xf_10 : Aside (Box2 S5 (.int .i64 M1) (.slice (some ⟨b, off, none⟩) K c1c) w10) := Xf_9.out.on d10
        have Xr_10 : Aside (Box2 (S5 + 1) (.int .i64 M2) (.slice (some ⟨b2, off2, none⟩) J c2c) w10) := Xr_9.out.on d10
        have Xm_10 : Aside (Box2 S7 (.int .i64 M) (.slice ma N mc) w10) := Xm_9.out.on d10
        clear D9 c1_9 c2_9 Xb_9 Xf_9 Xr_9 Xm_9
        clear d10
        have cb0 := Xb_10.out.c0
        have cb1 := Xb_10.out.c1
        have cf0 := Xf_10.out.c0
        have cf1 := Xf_10.out.c1
        have cr0 := Xr_10.out.c0
        have cr1 := Xr_10.out.c1
        have cm0 := Xm_10.out.c0
        have cm1 := Xm_10.out.c1
        go_wp2_with fail
        refine (okN c2_10.out F.out.2.2.2.2.2.2.2.2.2.2.2.1 F.out.2.2.2.2.2.2.2.2.2.2.2.2.2.2 (by omega) F.out.2.2.2.2.2.1).mono ?_
        rintro r w11 ⟨rfl, d11⟩
        clear cb0 cb1 cf0 cf1 cr0 cr1 cm0 cm1
        have D11 : Aside (Below w.heap.size w w11) := Below.trans D10.out (Below.mono d11 D10.out.size)
        have c1_11 : Aside (IsL w11 (some ⟨b, off, none⟩) c1c c1) := c1_10.out.below d11
        have c2_11 : Aside (IsL w11 (some ⟨b2, off2, none⟩) c2c c2) := c2_10.out.below d11
        have Xb_11 : Aside (Box2 S3 (.int .i64 M) (.slice sa N sc) w11) := Xb_10.out.on d11
        have Xf_11 : Aside (Box2 S5 (.int .i64 M1) (.slice (some ⟨b, off, none⟩) K c1c) w11) := Xf_10.out.on d11
        have Xr_11 : Aside (Box2 (S5 + 1) (.int .i64 M2) (.slice (some ⟨b2, off2, none⟩) J c2c) w11) := Xr_10.out.on d11
        have Xm_11 : Aside (Box2 S7 (.int .i64 M) (.slice ma N mc) w11) := Xm_10.out.on d11
        clear D10 c1_10 c2_10 Xb_10 Xf_10 Xr_10 Xm_10
        clear d11
        have cb0 := Xb_11.out.c0
        have cb1 := Xb_11.out.c1
        have cf0 := Xf_11.out.c0
        have cf1 := Xf_11.out.c1
        have cr0 := Xr_11.out.c0
        have cr1 := Xr_11.out.c1
        have cm0 := Xm_11.out.c0
        have cm1 := Xm_11.out.c1
        go_wp2_with fail
        refine (awake_any _).mono ?_
        rintro r w12 ⟨rfl, d12⟩
        clear cb0 cb1 cf0 cf1 cr0 cr1 cm0 cm1
        have D12 : Aside (Below w.heap.size w w12) := Below.trans D11.out (Below.mono d12 D11.out.size)
        have c1_12 : Aside (IsL w12 (some ⟨b, off, none⟩) c1c c1) := c1_11.out.below d12
        have c2_12 : Aside (IsL w12 (some ⟨b2, off2, none⟩) c2c c2) := c2_11.out.below d12
        have Xb_12 : Aside (Box2 S3 (.int .i64 M) (.slice sa N sc) w12) := Xb_11.out.on d12
        have Xf_12 : Aside (Box2 S5 (.int .i64 M1) (.slice (some ⟨b, off, none⟩) K c1c) w12) := Xf_11.out.on d12
        have Xr_12 : Aside (Box2 (S5 + 1) (.int .i64 M2) (.slice (some ⟨b2, off2, none⟩) J c2c) w12) := Xr_11.out.on d12
        have Xm_12 : Aside (Box2 S7 (.int .i64 M) (.slice ma N mc) w12) := Xm_11.out.on d12
        clear D11 c1_11 c2_11 Xb_11 Xf_11 Xr_11 Xm_11
        clear d12
        go_wp2
        go_ret
        exact ⟨rfl, D12.out⟩
      · clear m_8
        clear s_8
        have cb0 := Xb_8.out.c0
        have cb1 := Xb_8.out.c1
        have cf0 := Xf_8.out.c0
        have cf1 := Xf_8.out.c1
        have cr0 := Xr_8.out.c0
        have cr1 := Xr_8.out.c1
        have cm0 := Xm_8.out.c0
        have cm1 := Xm_8.out.c1
        have pK1 : (0 : Int) < (K : Int) := by omega
        have pK2 : decide ((0 : Int) < (K : Int)) = true := decide_eq_true pK1
        have pK3 : ((K : Int) == 0) = false := by simp; omega
        have pJ1 : ¬ (0 : Int) < (J : Int) := by omega
        have pJ2 : decide ((0 : Int) < (J : Int)) = false := decide_eq_false pJ1
        have pJ3 : ((J : Int) == 0) = true := by simp; omega
        go_wp2_with fail
        clear cb0 cb1 cf0 cf1 cr0 cr1 cm0 cm1
        have cb0 := fun n => (Xb_8.out.drews n).1
        have cb1 := fun n => (Xb_8.out.drews n).2
        have cf0 := fun n => (Xf_8.out.drews n).1
        have cf1 := fun n => (Xf_8.out.drews n).2
        have cr0 := fun n => (Xr_8.out.drews n).1
        have cr1 := fun n => (Xr_8.out.drews n).2
        have cm0 := fun n => (Xm_8.out.drews n).1
        have cm1 := fun n => (Xm_8.out.drews n).2
        go_wp2_with fail
        go_quiet (fail)
        clear cb0 cb1 cf0 cf1 cr0 cr1 cm0 cm1
        have d9 : Below w8.heap.size w8 (w8.drewN nq) := Grown.below ⟨nq, #[], by rw [grow_empty]⟩
        have D9 : Aside (Below w.heap.size w (w8.drewN nq)) := Below.trans D8.out (Below.mono d9 D8.out.size)
        have c1_9 : Aside (IsL (w8.drewN nq) c1a c1c c1) := c1_8.out.below d9
        have c2_9 : Aside (IsL (w8.drewN nq) c2a c2c c2) := c2_8.out.below d9
        have Xb_9 : Aside (Box2 S3 (.int .i64 M) (.slice sa N sc) (w8.drewN nq)) := Xb_8.out.on d9
        have Xf_9 : Aside (Box2 S5 (.int .i64 M1) (.slice c1a K c1c) (w8.drewN nq)) := Xf_8.out.on d9
        have Xr_9 : Aside (Box2 (S5 + 1) (.int .i64 M2) (.slice c2a J c2c) (w8.drewN nq)) := Xr_8.out.on d9
        have Xm_9 : Aside (Box2 S7 (.int .i64 M) (.slice ma N mc) (w8.drewN nq)) := Xm_8.out.on d9
        clear D8 c1_8 c2_8 Xb_8 Xf_8 Xr_8 Xm_8
        clear d9
        generalize (w8.drewN nq) = w9 at D9 c1_9 c2_9 Xb_9 Xf_9 Xr_9 Xm_9 ⊢
        have cb0 := Xb_9.out.c0
        have cb1 := Xb_9.out.c1
        have cf0 := Xf_9.out.c0
        have cf1 := Xf_9.out.c1
        have cr0 := Xr_9.out.c0
        have cr1 := Xr_9.out.c1
        have cm0 := Xm_9.out.c0
        have cm1 := Xm_9.out.c1
        go_wp2_with fail
        refine (okN c1_9.out F.out.2.2.2.2.2.2.2.2.2.2.1 F.out.2.2.2.2.2.2.2.2.2.2.2.2.2.1 (by omega) F.out.2.2.2.2.1).mono ?_
        rintro r w10 ⟨rfl, d10⟩
        clear cb0 cb1 cf0 cf1 cr0 cr1 cm0 cm1
        have D10 : Aside (Below w.heap.size w w10) := Below.trans D9.out (Below.mono d10 D9.out.size)
        have c1_10 : Aside (IsL w10 c1a c1c c1) := c1_9.out.below d10
        have c2_10 : Aside (IsL w10 c2a c2c c2) := c2_9.out.below d10
        have Xb_10 : Aside (Box2 S3 (.int .i64 M) (.slice sa N sc) w10) := Xb_9.out.on d10
        have Xf_10 : Aside (Box2 S5 (.int .i64 M1) (.slice c1a K c1c) w10) := Xf_9.out.on d10
        have Xr_10 : Aside (Box2 (S5 + 1) (.int .i64 M2) (.slice c2a J c2c) w10) := Xr_9.out.on d10
        have Xm_10 : Aside (Box2 S7 (.int .i64 M) (.slice ma N mc) w10) := Xm_9.out.on d10
        clear D9 c1_9 c2_9 Xb_9 Xf_9 Xr_9 Xm_9
        clear d10
        have cb0 := Xb_10.out.c0
        have cb1 := Xb_10.out.c1
        have cf0 := Xf_10.out.c0
        have cf1 := Xf_10.out.c1
        have cr0 := Xr_10.out.c0
        have cr1 := Xr_10.out.c1
        have cm0 := Xm_10.out.c0
        have cm1 := Xm_10.out.c1
        go_wp2_with fail
        refine (awake_any _).mono ?_
        rintro r w11 ⟨rfl, d11⟩
        clear cb0 cb1 cf0 cf1 cr0 cr1 cm0 cm1
        have D11 : Aside (Below w.heap.size w w11) := Below.trans D10.out (Below.mono d11 D10.out.size)
        have c1_11 : Aside (IsL w11 c1a c1c c1) := c1_10.out.below d11
        have c2_11 : Aside (IsL w11 c2a c2c c2) := c2_10.out.below d11
        have Xb_11 : Aside (Box2 S3 (.int .i64 M) (.slice sa N sc) w11) := Xb_10.out.on d11
        have Xf_11 : Aside (Box2 S5 (.int .i64 M1) (.slice c1a K c1c) w11) := Xf_10.out.on d11
        have Xr_11 : Aside (Box2 (S5 + 1) (.int .i64 M2) (.slice c2a J c2c) w11) := Xr_10.out.on d11
        have Xm_11 : Aside (Box2 S7 (.int .i64 M) (.slice ma N mc) w11) := Xm_10.out.on d11
        clear D10 c1_10 c2_10 Xb_10 Xf_10 Xr_10 Xm_10
        clear d11
        go_wp2
        go_ret
        exact ⟨rfl, D11.out⟩
    · by_cases hJ : 0 < J
      · clear m_8
        clear s_8
        have cb0 := Xb_8.out.c0
        have cb1 := Xb_8.out.c1
        have cf0 := Xf_8.out.c0
        have cf1 := Xf_8.out.c1
        have cr0 := Xr_8.out.c0
        have cr1 := Xr_8.out.c1
        have cm0 := Xm_8.out.c0
        have cm1 := Xm_8.out.c1
        have pK1 : ¬ (0 : Int) < (K : Int) := by omega
        have pK2 : decide ((0 : Int) < (K : Int)) = false := decide_eq_false pK1
        have pK3 : ((K : Int) == 0) = true := by simp; omega
        have pJ1 : (0 : Int) < (J : Int) := by omega
        have pJ2 : decide ((0 : Int) < (J : Int)) = true := decide_eq_true pJ1
        have pJ3 : ((J : Int) == 0) = false := by simp; omega
        go_wp2_with fail
        clear cb0 cb1 cf0 cf1 cr0 cr1 cm0 cm1
        have cb0 := fun n => (Xb_8.out.drews n).1
        have cb1 := fun n => (Xb_8.out.drews n).2
        have cf0 := fun n => (Xf_8.out.drews n).1
        have cf1 := fun n => (Xf_8.out.drews n).2
        have cr0 := fun n => (Xr_8.out.drews n).1
        have cr1 := fun n => (Xr_8.out.drews n).2
        have cm0 := fun n => (Xm_8.out.drews n).1
        have cm1 := fun n => (Xm_8.out.drews n).2
        go_wp2_with fail
        go_quiet (fail)
        clear cb0 cb1 cf0 cf1 cr0 cr1 cm0 cm1
        have d9 : Below w8.heap.size w8 (w8.drewN nq) := Grown.below ⟨nq, #[], by rw [grow_empty]⟩
        have D9 : Aside (Below w.heap.size w (w8.drewN nq)) := Below.trans D8.out (Below.mono d9 D8.out.size)
        have c1_9 : Aside (IsL (w8.drewN nq) c1a c1c c1) := c1_8.out.below d9
        have c2_9 : Aside (IsL (w8.drewN nq) c2a c2c c2) := c2_8.out.below d9
        have Xb_9 : Aside (Box2 S3 (.int .i64 M) (.slice sa N sc) (w8.drewN nq)) := Xb_8.out.on d9
        have Xf_9 : Aside (Box2 S5 (.int .i64 M1) (.slice c1a K c1c) (w8.drewN nq)) := Xf_8.out.on d9
        have Xr_9 : Aside (Box2 (S5 + 1) (.int .i64 M2) (.slice c2a J c2c) (w8.drewN nq)) := Xr_8.out.on d9
        have Xm_9 : Aside (Box2 S7 (.int .i64 M) (.slice ma N mc) (w8.drewN nq)) := Xm_8.out.on d9
        clear D8 c1_8 c2_8 Xb_8 Xf_8 Xr_8 Xm_8
        clear d9
        generalize (w8.drewN nq) = w9 at D9 c1_9 c2_9 Xb_9 Xf_9 Xr_9 Xm_9 ⊢
        have cb0 := Xb_9.out.c0
        have cb1 := Xb_9.out.c1
        have cf0 := Xf_9.out.c0
        have cf1 := Xf_9.out.c1
        have cr0 := Xr_9.out.c0
        have cr1 := Xr_9.out.c1
        have cm0 := Xm_9.out.c0
        have cm1 := Xm_9.out.c1
        go_wp2_with fail
        refine (okN c2_9.out F.out.2.2.2.2.2.2.2.2.2.2.2.1 F.out.2.2.2.2.2.2.2.2.2.2.2.2.2.2 (by omega) F.out.2.2.2.2.2.1).mono ?_
        rintro r w10 ⟨rfl, d10⟩
        clear cb0 cb1 cf0 cf1 cr0 cr1 cm0 cm1
        have D10 : Aside (Below w.heap.size w w10) := Below.trans D9.out (Below.mono d10 D9.out.size)
        have c1_10 : Aside (IsL w10 c1a c1c c1) := c1_9.out.below d10
        have c2_10 : Aside (IsL w10 c2a c2c c2) := c2_9.out.below d10
        have Xb_10 : Aside (Box2 S3 (.int .i64 M) (.slice sa N sc) w10) := Xb_9.out.on d10
        have Xf_10 : Aside (Box2 S5 (.int .i64 M1) (.slice c1a K c1c) w10) := Xf_9.out.on d10
        have Xr_10 : Aside (Box2 (S5 + 1) (.int .i64 M2) (.slice c2a J c2c) w10) := Xr_9.out.on d10
        have Xm_10 : Aside (Box2 S7 (.int .i64 M) (.slice ma N mc) w10) := Xm_9.out.on d10
        clear D9 c1_9 c2_9 Xb_9 Xf_9 Xr_9 Xm_9
        clear d10
        have cb0 := Xb_10.out.c0
        have cb1 := Xb_10.out.c1
        have cf0 := Xf_10.out.c0
        have cf1 := Xf_10.out.c1
        have cr0 := Xr_10.out.c0
        have cr1 := Xr_10.out.c1
        have cm0 := Xm_10.out.c0
        have cm1 := Xm_10.out.c1
        go_wp2_with fail
        refine (awake_any _).mono ?_
        rintro r w11 ⟨rfl, d11⟩
        clear cb0 cb1 cf0 cf1 cr0 cr1 cm0 cm1
        have D11 : Aside (Below w.heap.size w w11) := Below.trans D10.out (Below.mono d11 D10.out.size)
        have c1_11 : Aside (IsL w11 c1a c1c c1) := c1_10.out.below d11
        have c2_11 : Aside (IsL w11 c2a c2c c2) := c2_10.out.below d11
        have Xb_11 : Aside (Box2 S3 (.int .i64 M) (.slice sa N sc) w11) := Xb_10.out.on d11
        have Xf_11 : Aside (Box2 S5 (.int .i64 M1) (.slice c1a K c1c) w11) := Xf_10.out.on d11
        have Xr_11 : Aside (Box2 (S5 + 1) (.int .i64 M2) (.slice c2a J c2c) w11) := Xr_10.out.on d11
        have Xm_11 : Aside (Box2 S7 (.int .i64 M) (.slice ma N mc) w11) := Xm_10.out.on d11
        clear D10 c1_10 c2_10 Xb_10 Xf_10 Xr_10 Xm_10
        clear d11
        go_wp2
        go_ret
        exact ⟨rfl, D11.out⟩
      · clear m_8
        clear s_8
        have cb0 := Xb_8.out.c0
        have cb1 := Xb_8.out.c1
        have cf0 := Xf_8.out.c0
        have cf1 := Xf_8.out.c1
        have cr0 := Xr_8.out.c0
        have cr1 := Xr_8.out.c1
        have cm0 := Xm_8.out.c0
        have cm1 := Xm_8.out.c1
        have pK1 : ¬ (0 : Int) < (K : Int) := by omega
        have pK2 : decide ((0 : Int) < (K : Int)) = false := decide_eq_false pK1
        have pK3 : ((K : Int) == 0) = true := by simp; omega
        have pJ1 : ¬ (0 : Int) < (J : Int) := by omega
        have pJ2 : decide ((0 : Int) < (J : Int)) = false := decide_eq_false pJ1
        have pJ3 : ((J : Int) == 0) = true := by simp; omega
        go_wp2_with fail
        clear cb0 cb1 cf0 cf1 cr0 cr1 cm0 cm1
        have cb0 := fun n => (Xb_8.out.drews n).1
        have cb1 := fun n => (Xb_8.out.drews n).2
        have cf0 := fun n => (Xf_8.out.drews n).1
        have cf1 := fun n => (Xf_8.out.drews n).2
        have cr0 := fun n => (Xr_8.out.drews n).1
        have cr1 := fun n => (Xr_8.out.drews n).2
        have cm0 := fun n => (Xm_8.out.drews n).1
        have cm1 := fun n => (Xm_8.out.drews n).2
        go_wp2_with fail
        go_quiet (fail)
        clear cb0 cb1 cf0 cf1 cr0 cr1 cm0 cm1
        have d9 : Below w8.heap.size w8 (w8.drewN nq) := Grown.below ⟨nq, #[], by rw [grow_empty]⟩
        have D9 : Aside (Below w.heap.size w (w8.drewN nq)) := Below.trans D8.out (Below.mono d9 D8.out.size)
        have c1_9 : Aside (IsL (w8.drewN nq) c1a c1c c1) := c1_8.out.below d9
        have c2_9 : Aside (IsL (w8.drewN nq) c2a c2c c2) := c2_8.out.below d9
        have Xb_9 : Aside (Box2 S3 (.int .i64 M) (.slice sa N sc) (w8.drewN nq)) := Xb_8.out.on d9
        have Xf_9 : Aside (Box2 S5 (.int .i64 M1) (.slice c1a K c1c) (w8.drewN nq)) := Xf_8.out.on d9
        have Xr_9 : Aside (Box2 (S5 + 1) (.int .i64 M2) (.slice c2a J c2c) (w8.drewN nq)) := Xr_8.out.on d9
        have Xm_9 : Aside (Box2 S7 (.int .i64 M) (.slice ma N mc) (w8.drewN nq)) := Xm_8.out.on d9
        clear D8 c1_8 c2_8 Xb_8 Xf_8 Xr_8 Xm_8
        clear d9
        generalize (w8.drewN nq) = w9 at D9 c1_9 c2_9 Xb_9 Xf_9 Xr_9 Xm_9 ⊢
        have cb0 := Xb_9.out.c0
        have cb1 := Xb_9.out.c1
        have cf0 := Xf_9.out.c0
        have cf1 := Xf_9.out.c1
        have cr0 := Xr_9.out.c0
        have cr1 := Xr_9.out.c1
        have cm0 := Xm_9.out.c0
        have cm1 := Xm_9.out.c1
        go_wp2_with fail
        refine (awake_any _).mono ?_
        rintro r w10 ⟨rfl, d10⟩
        clear cb0 cb1 cf0 cf1 cr0 cr1 cm0 cm1
        have D10 : Aside (Below w.heap.size w w10) := Below.trans D9.out (Below.mono d10 D9.out.size)
        have c1_10 : Aside (IsL w10 c1a c1c c1) := c1_9.out.below d10
        have c2_10 : Aside (IsL w10 c2a c2c c2) := c2_9.out.below d10
        have Xb_10 : Aside (Box2 S3 (.int .i64 M) (.slice sa N sc) w10) := Xb_9.out.on d10
        have Xf_10 : Aside (Box2 S5 (.int .i64 M1) (.slice c1a K c1c) w10) := Xf_9.out.on d10
        have Xr_10 : Aside (Box2 (S5 + 1) (.int .i64 M2) (.slice c2a J c2c) w10) := Xr_9.out.on d10
        have Xm_10 : Aside (Box2 S7 (.int .i64 M) (.slice ma N mc) w10) := Xm_9.out.on d10
        clear D9 c1_9 c2_9 Xb_9 Xf_9 Xr_9 Xm_9
        clear d10
        go_wp2
        go_ret
        exact ⟨rfl, D10.out⟩
  · rw [decide_eq_false hf] at few
    go_enter Try.func3, Try.ntmps3
    go_wp2_with fail
    refine (few _).mono ?_
    rintro r w1 ⟨rfl, e1⟩
    obtain rfl := e1.symm
    go_wp2_with fail
    refine (awake_any _).mono ?_
    rintro r w1 ⟨rfl, d1⟩
    go_wp2
    go_ret
    exact ⟨rfl, d1⟩
end Go.Proofs.Ytoknpinlphbeoaa

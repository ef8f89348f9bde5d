/- The walk of 'BlockMerges'. -/
import Derived.Test.YtoknpinlphbeoaaBlkH
import Derived.Test.YtoknpinlphbeoaaBlkR
import Derived.Deep.RegionHeld3
import Derived.Deep.QuietTactic
import Derived.BigQuiet
import Derived.Laws.EntriesVeiled
namespace Go.Proofs.Ytoknpinlphbeoaa
open Go.RowKit Go.Lib Go.Sort
set_option linter.unusedVariables false

theorem refSortN {w : World} {a : Option Addr} {p n : Nat} {c d : List Ent} (h : IsL w a p c) (hl : c.length = n) (hn : n ≤ 10000) (hs : sortE c = d) : Calls Try.prog 27 #[.slice a n p] w (PivN w n d) := by
  have := refSort_any a p c w h (by omega)
  rw [hl] at this
  refine this.mono ?_
  rintro r w' ⟨x, y, h1, h2, h3⟩
  rw [sortE_len, hl] at h1
  rw [hs] at h2
  exact ⟨x, y, h1, h2, h3⟩

set_option maxHeartbeats 4000000 in
set_option maxRecDepth 100000 in
theorem blockMerges_few (a0 b0 g0 : Option Addr) (p0 q0 gc : Nat) (l c : List Ent) (n : Int) (zs : List Int) (N1 N2 T G : Nat) (w : World) (h : IsL w a0 p0 l) (hc : IsL w b0 q0 c) (hi : IsI w g0 zs) (h1 : l.length = N1) (h2 : c.length = N2) (h3 : zs.length = G) (l1 : N1 ≤ 120) (l2 : N2 ≤ 120) (l3 : G ≤ 100) (hT : N1 + N2 = T) :
    Calls Try.prog 6 #[.slice a0 N1 p0, .slice b0 N2 q0, .int .i64 n, .slice g0 G gc] w fun r w' => r = .returned (.bool true) ∧ Below w.heap.size w w' := by
  have mx := mixed
  have hmf : ∀ (fn : Fn) (first cap : Array Value) (w : World), (Instr.makeFunc fn first cap).run Try.prog w = .ok (.func fn first cap) w := fun _ _ _ _ => rfl
  have A0 : Aside (IsL w a0 p0 l) := h
  have C0 : Aside (IsL w b0 q0 c) := hc
  have I0 : Aside (IsI w g0 zs) := hi
  obtain ⟨s1, hs1⟩ : ∃ s, sortE l = s := ⟨_, rfl⟩
  obtain ⟨s2, hs2⟩ : ∃ s, sortE c = s := ⟨_, rfl⟩
  obtain ⟨e, he⟩ : ∃ s, sortE (s1 ++ s2) = s := ⟨_, rfl⟩
  obtain ⟨f, hf⟩ : ∃ s, sortE (keepL (isIn zs) l) = s := ⟨_, rfl⟩
  obtain ⟨K, hK⟩ : ∃ K, wth n N1 = K := ⟨_, rfl⟩
  have k0 : K ≤ N1 := by rw [← hK]; exact wth_le _ _
  obtain ⟨c1, hc1⟩ : ∃ s, s1.take K = s := ⟨_, rfl⟩
  obtain ⟨c2, hc2⟩ : ∃ s, s1.drop K = s := ⟨_, rfl⟩
  obtain ⟨ZL, hZL⟩ : ∃ s, f.length = s := ⟨_, rfl⟩
  obtain ⟨M1, hM1⟩ : ∃ M, lvl N1 = M := ⟨_, rfl⟩
  obtain ⟨M2, hM2⟩ : ∃ M, lvl N2 = M := ⟨_, rfl⟩
  obtain ⟨M3, hM3⟩ : ∃ M, lvl T = M := ⟨_, rfl⟩
  obtain ⟨M4, hM4⟩ : ∃ M, lvl K = M := ⟨_, rfl⟩
  obtain ⟨M5, hM5⟩ : ∃ M, lvl (N1 - K) = M := ⟨_, rfl⟩
  obtain ⟨MS, hMS⟩ : ∃ M, lvl ZL = M := ⟨_, rfl⟩
  have ss : Srt s1 := by rw [← hs1]; exact sortE_srt l
  have sl : s1.length = N1 := by rw [← hs1, sortE_len, h1]
  have F : Aside (sortE l = s1 ∧ sortE c = s2 ∧ sortE (s1 ++ s2) = e ∧ lvl N1 = M1 ∧ lvl N2 = M2 ∧ lvl T = M3 ∧ s1.length = N1 ∧ s2.length = N2 ∧ e.length = T ∧ sortE (l ++ c) = e ∧ sortE (keepL (isIn zs) s1) = f ∧ sortE (keepL (isIn zs) l) = f ∧ f.length = ZL ∧ lvl ZL = MS ∧ wth n N1 = K ∧ sortE (s1.take K) = c1 ∧ sortE (s1.drop K) = c2 ∧ K ≤ N1 ∧ lvl K = M4 ∧ lvl (N1 - K) = M5 ∧ c1.length = K ∧ c2.length = N1 - K) :=
    ⟨hs1, hs2, he, hM1, hM2, hM3, sl, by rw [← hs2, sortE_len, h2], by rw [← he, sortE_len, List.length_append, ← hs1, ← hs2, sortE_len, sortE_len, h1, h2, hT], by rw [← he, ← hs1, ← hs2]; exact (sortE_sort l c).symm, by rw [← hf, ← hs1]; unfold keepL; rw [← sortE_filter, sortE_idem], hf, hZL, hMS, hK, by rw [sortE_take ss, hc1], by rw [sortE_drop ss, hc2], k0, hM4, hM5, by rw [← hc1, List.length_take, sl]; omega, by rw [← hc2, List.length_drop, sl]⟩
  have FT : Aside (s1.take K = c1 ∧ s1.drop K = c2 ∧ sortE c1 = c1 ∧ sortE c2 = c2) := ⟨hc1, hc2, by rw [← hc1]; exact sortE_take ss K, by rw [← hc2]; exact sortE_drop ss K⟩
  have ZN : ZL ≤ N1 := by rw [← hZL, ← hf, sortE_len, ← h1]; exact keep_len _ _
  have G1 : Hid (l.length = N1) := h1
  have G2 : Hid (c.length = N2) := h2
  have G3 : Hid (zs.length = G) := h3
  have few1 := few_any a0 N1 p0 (by omega)
  have few2 := few_any b0 N2 q0 (by omega)
  rw [decide_eq_true l1] at few1
  rw [decide_eq_true l2] at few2
  have t3 : ¬ (100 : Int) < (G : Int) := by omega
  have t3b : decide ((100 : Int) < (G : Int)) = false := decide_eq_false t3
  have t3n : decide (100 < G) = false := decide_eq_false (by omega)
  have mm : min (max n 0) (N1 : Int) = (K : Int) := by rw [← hK]; unfold wth; omega
  have EG := enters_of Try.func26 (by kernel_rfl) rfl
  clear hs1 hs2 he hf hK hc1 hc2 hZL hM1 hM2 hM3 hM4 hM5 hMS h1 h2 h3 h hc hi ss sl
  go_enter Try.func6, Try.ntmps6
  obtain ⟨S1, hS1⟩ : ∃ S, w.heap.size = S := ⟨_, rfl⟩
  obtain ⟨w1, hw1⟩ : ∃ v, (World.alloc w (.cells #[.slice g0 G gc] 43)) = v := ⟨_, rfl⟩
  have Hw1 : Hid _ := hw1
  have d1 : Below w.heap.size w w1 := by rw [← hw1]; exact (Below.refl _ _).alloc (Nat.le_refl _) _
  have xg_1 : Box1 S1 (.slice g0 G gc) w1 := by
    have := Box1.new w (.slice g0 G gc) 43
    rw [hw1] at this
    simpa [hS1] using this
  have Yg_1 : Aside (Box1 S1 (.slice g0 G gc) w1) := xg_1
  clear xg_1
  have D1 : Aside (Below w.heap.size w w1) := d1
  have A_1 : Aside (IsL w1 a0 p0 l) := A0.out.below d1
  have C_1 : Aside (IsL w1 b0 q0 c) := C0.out.below d1
  have Ig_1 : Aside (IsI w1 g0 zs) := I0.out.below d1
  clear A0 C0 I0
  clear hw1 d1
  go_wp2_with fail
  rw [Hw1.out]
  refine (few1 _).mono ?_
  rintro r w2 ⟨rfl, ew2⟩
  obtain rfl := ew2.symm
  have cg0 := Yg_1.out.c0
  go_wp2_with fail
  refine (few2 _).mono ?_
  rintro r w3 ⟨rfl, ew3⟩
  obtain rfl := ew3.symm
  go_wp2_with fail
  refine (ofN A_1.out G1.out (by omega) F.out.1 F.out.2.2.2.1).mono ?_
  rintro r w4 ⟨s1a, s1c, rfl, f4, d4⟩
  clear cg0
  have D4 : Aside (Below w.heap.size w w4) := Below.trans D1.out (Below.mono d4 D1.out.size)
  have A_4 : Aside (IsL w4 a0 p0 l) := A_1.out.below d4
  have C_4 : Aside (IsL w4 b0 q0 c) := C_1.out.below d4
  have Ig_4 : Aside (IsI w4 g0 zs) := Ig_1.out.below d4
  have Yg_4 : Aside (Box1 S1 (.slice g0 G gc) w4) := Yg_1.out.on d4
  clear D1 A_1 C_1 Ig_1 Yg_1
  have s1_4 : Aside (IsL w4 s1a s1c s1) := f4
  clear f4 d4
  have cg0 := Yg_4.out.c0
  go_wp2_with fail
  refine (ofN C_4.out G2.out (by omega) F.out.2.1 F.out.2.2.2.2.1).mono ?_
  rintro r w5 ⟨s2a, s2c, rfl, f5, d5⟩
  clear cg0
  have D5 : Aside (Below w.heap.size w w5) := Below.trans D4.out (Below.mono d5 D4.out.size)
  have A_5 : Aside (IsL w5 a0 p0 l) := A_4.out.below d5
  have C_5 : Aside (IsL w5 b0 q0 c) := C_4.out.below d5
  have s1_5 : Aside (IsL w5 s1a s1c s1) := s1_4.out.below d5
  have Ig_5 : Aside (IsI w5 g0 zs) := Ig_4.out.below d5
  have Yg_5 : Aside (Box1 S1 (.slice g0 G gc) w5) := Yg_4.out.on d5
  clear D4 A_4 C_4 s1_4 Ig_4 Yg_4
  have s2_5 : Aside (IsL w5 s2a s2c s2) := f5
  clear f5 d5
  obtain ⟨S6, hS6⟩ : ∃ S, w5.heap.size = S := ⟨_, rfl⟩
  have cg0 := Yg_5.out.c0
  have cgl : S1 < S6 := by have := Yg_5.out.lt; omega
  obtain ⟨w6, hw6⟩ : ∃ v, (World.alloc (World.alloc w5 (.cells #[.int .i64 M1, .slice s1a N1 s1c] 26)) (.cells #[.int .i64 M2, .slice s2a N2 s2c] 26)) = v := ⟨_, rfl⟩
  have Hw6 : Hid _ := hw6
  have d6 : Below w5.heap.size w5 w6 := by rw [← hw6]; exact ((Below.refl _ _).alloc (Nat.le_refl _) _).alloc (by simp) _
  have Xx_6 : Aside (Box2 S6 (.int .i64 M1) (.slice s1a N1 s1c) w6) := by rw [← hw6, ← hS6]; exact (Box2.new w5 (.int .i64 M1) (.slice s1a N1 s1c) 26).on ((Below.refl _ _).alloc (Nat.le_refl _) _)
  have xy_6 : Box2 (S6 + 1) (.int .i64 M2) (.slice s2a N2 s2c) w6 := by
    have := Box2.new (World.alloc w5 (.cells #[.int .i64 M1, .slice s1a N1 s1c] 26)) (.int .i64 M2) (.slice s2a N2 s2c) 26
    rw [hw6] at this
    simpa [hS6] using this
  have Xy_6 : Aside (Box2 (S6 + 1) (.int .i64 M2) (.slice s2a N2 s2c) w6) := xy_6
  clear xy_6
  have D6 : Aside (Below w.heap.size w w6) := Below.trans D5.out (Below.mono d6 D5.out.size)
  have A_6 : Aside (IsL w6 a0 p0 l) := A_5.out.below d6
  have C_6 : Aside (IsL w6 b0 q0 c) := C_5.out.below d6
  have s1_6 : Aside (IsL w6 s1a s1c s1) := s1_5.out.below d6
  have s2_6 : Aside (IsL w6 s2a s2c s2) := s2_5.out.below d6
  have Ig_6 : Aside (IsI w6 g0 zs) := Ig_5.out.below d6
  have Yg_6 : Aside (Box1 S1 (.slice g0 G gc) w6) := Yg_5.out.on d6
  clear D5 A_5 C_5 s1_5 s2_5 Ig_5 Yg_5
  clear hw6 d6
  go_wp2_with fail
  rw [Hw6.out]
  refine (mergeN s1_6.out s2_6.out F.out.2.2.2.2.2.2.1 F.out.2.2.2.2.2.2.2.1 (by omega) F.out.2.2.1 hT F.out.2.2.2.2.2.1).mono ?_
  rintro r w7 ⟨ma, mc, rfl, f7, d7⟩
  clear cg0 cgl
  have D7 : Aside (Below w.heap.size w w7) := Below.trans D6.out (Below.mono d7 D6.out.size)
  have A_7 : Aside (IsL w7 a0 p0 l) := A_6.out.below d7
  have C_7 : Aside (IsL w7 b0 q0 c) := C_6.out.below d7
  have s1_7 : Aside (IsL w7 s1a s1c s1) := s1_6.out.below d7
  have s2_7 : Aside (IsL w7 s2a s2c s2) := s2_6.out.below d7
  have Xx_7 : Aside (Box2 S6 (.int .i64 M1) (.slice s1a N1 s1c) w7) := Xx_6.out.on d7
  have Xy_7 : Aside (Box2 (S6 + 1) (.int .i64 M2) (.slice s2a N2 s2c) w7) := Xy_6.out.on d7
  have Ig_7 : Aside (IsI w7 g0 zs) := Ig_6.out.below d7
  have Yg_7 : Aside (Box1 S1 (.slice g0 G gc) w7) := Yg_6.out.on d7
  clear D6 A_6 C_6 s1_6 s2_6 Xx_6 Xy_6 Ig_6 Yg_6
  have m_7 : Aside (IsL w7 ma mc e) := f7
  clear f7 d7
  clear s2_7
  clear Xy_7
  obtain ⟨S8, hS8⟩ : ∃ S, w7.heap.size = S := ⟨_, rfl⟩
  have cx0 := Xx_7.out.c0
  have cx1 := Xx_7.out.c1
  have cxl : S6 < S8 := by have := Xx_7.out.lt; omega
  have cg0 := Yg_7.out.c0
  have cgl : S1 < S8 := by have := Yg_7.out.lt; omega
  obtain ⟨w8, hw8⟩ : ∃ v, (World.alloc w7 (.cells #[.int .i64 M3, .slice ma T mc] 26)) = v := ⟨_, rfl⟩
  have Hw8 : Hid _ := hw8
  have d8 : Below w7.heap.size w7 w8 := by rw [← hw8]; exact (Below.refl _ _).alloc (Nat.le_refl _) _
  have Xz_8 : Aside (Box2 S8 (.int .i64 M3) (.slice ma T mc) w8) := by rw [← hw8, ← hS8]; exact Box2.new _ _ _ _
  have D8 : Aside (Below w.heap.size w w8) := Below.trans D7.out (Below.mono d8 D7.out.size)
  have A_8 : Aside (IsL w8 a0 p0 l) := A_7.out.below d8
  have C_8 : Aside (IsL w8 b0 q0 c) := C_7.out.below d8
  have s1_8 : Aside (IsL w8 s1a s1c s1) := s1_7.out.below d8
  have m_8 : Aside (IsL w8 ma mc e) := m_7.out.below d8
  have Xx_8 : Aside (Box2 S6 (.int .i64 M1) (.slice s1a N1 s1c) w8) := Xx_7.out.on d8
  have Ig_8 : Aside (IsI w8 g0 zs) := Ig_7.out.below d8
  have Yg_8 : Aside (Box1 S1 (.slice g0 G gc) w8) := Yg_7.out.on d8
  clear D7 A_7 C_7 s1_7 m_7 Xx_7 Ig_7 Yg_7
  clear hw8 d8
  go_wp2_with fail
  rw [Hw8.out]
  clear cx0 cx1 cxl cg0 cgl
  obtain ⟨S5, hS5⟩ : ∃ S, w8.heap.size = S := ⟨_, rfl⟩
  have b0_ : Below w8.heap.size w8 (World.alloc w8 (.cells #[] 35)).drew := ((Below.refl _ _).alloc (Nat.le_refl _) _).drew
  have b00 : Below w8.heap.size w8 (World.alloc w8 (.cells #[] 35)) := (Below.refl _ _).alloc (Nat.le_refl _) _
  have o0 : OwnE (World.alloc w8 (.cells #[] 35)).drew w8.heap.size (.slice (some ⟨S5, 0, none⟩) 0 0) [] := by rw [← hS5]; exact (OwnE.made w8 #[] 0 (Nat.le_refl _) (by omega) rfl).drewN 1
  obtain ⟨v1, u1, hr1, o1, g1⟩ := app_run (d := []) (c := l) o0 (A_8.out.below b0_) (by rw [G1.out]; simp; omega) b0_.size 22
  have b1_ : Below w8.heap.size w8 u1 := OwnE.grown o0 b0_ g1 b0_.size
  obtain ⟨r1, t1, rfl, _⟩ := o1.isL
  obtain ⟨v2, u2, hr2, o2, g2⟩ := app_run (c := c) o1 (C_8.out.below b1_) (by rw [List.length_append, G1.out, G2.out]; simp; omega) b1_.size 22
  have b2_ : Below w8.heap.size w8 u2 := OwnE.grown o1 b1_ g2 b1_.size
  obtain ⟨r2, t2, rfl, _⟩ := o2.isL
  have q1 : ([] ++ l).length = N1 := G1.out
  have q2 : ([] ++ l ++ c).length = T := by rw [List.length_append, q1, G2.out, hT]
  have L2 := o2.is
  rw [q1] at hr1 hr2
  rw [q2] at hr2
  rw [G1.out] at hr1
  rw [G2.out] at hr2
  have rof := refOfN L2 q2 (by omega) F.out.2.2.2.2.2.2.2.2.2.1 F.out.2.2.2.2.2.1
  have KC : Aside (∀ v, Below w8.heap.size w8 v → v.cell? ⟨S8, 0, none⟩ = some (.int .i64 M3) ∧ v.cell? ⟨S8, 1, none⟩ = some (.slice ma T mc)) := fun v hv => ⟨(Xz_8.out.on hv).c0, (Xz_8.out.on hv).c1⟩
  have hb0 : Below w8.heap.size w8 w8 := Below.refl _ _
  have hb1 : Below w8.heap.size w8 w8.drew := hb0.drew
  have ML : Aside (IsL w8 ma mc e) := m_8.out
  obtain ⟨k1, k2⟩ := KC.out w8 hb0
  clear o0 o1 o2 g1 g2 q1 q2 L2
  go_region_held3 (fun v => v.cell? ⟨S8, 0, none⟩ = some (.int .i64 M3) ∧ v.cell? ⟨S8, 1, none⟩ = some (.slice ma T mc)) (first | with_reducible exact KC.out _ hb0 | with_reducible exact KC.out _ hb1 | with_reducible exact KC.out _ b0_ | with_reducible exact KC.out _ b00 | with_reducible exact KC.out _ b1_ | with_reducible exact KC.out _ b2_ | with_reducible exact KC.out _ hb3 | with_reducible exact KC.out _ hb4)
    ((first
      | (go_at_call 23; (with_reducible refine Calls.mono (lsameN (ML.out.below hb3) l3 F.out.2.2.2.2.2.2.2.2.1) ?_); rintro r u4 ⟨rfl, d4⟩; have hb4 : Below w8.heap.size w8 u4 := hb3.trans (d4.mono hb3.size))
      | (go_at_call 24; (with_reducible refine Calls.mono rof ?_); rintro r u3 ⟨ra, rc, rfl, l3, d3⟩; have hb3 : Below w8.heap.size w8 u3 := b2_.trans (d3.mono b2_.size))
      | refine step_app (World.alloc w8 (.cells #[] 35)).drew (by rfl) _ _ 22 22 (by rfl) (.slice (some ⟨S5, 0, none⟩) 0 0) (.slice a0 N1 p0) (by rfl) (by rfl) (.slice r1 N1 t1) u1 hr1 ?_
      | refine step_app u1 (by rfl) _ _ 22 22 (by rfl) (.slice r1 N1 t1) (.slice b0 N2 q0) (by rfl) (by rfl) (.slice r2 T t2) u2 hr2 ?_))
  have D9 : Aside (Below w.heap.size w u4) := Below.trans D8.out (Below.mono hb4 D8.out.size)
  have A_9 : Aside (IsL u4 a0 p0 l) := A_8.out.below hb4
  have C_9 : Aside (IsL u4 b0 q0 c) := C_8.out.below hb4
  have s1_9 : Aside (IsL u4 s1a s1c s1) := s1_8.out.below hb4
  have m_9 : Aside (IsL u4 ma mc e) := m_8.out.below hb4
  have Xx_9 : Aside (Box2 S6 (.int .i64 M1) (.slice s1a N1 s1c) u4) := Xx_8.out.on hb4
  have Xz_9 : Aside (Box2 S8 (.int .i64 M3) (.slice ma T mc) u4) := Xz_8.out.on hb4
  have Ig_9 : Aside (IsI u4 g0 zs) := Ig_8.out.below hb4
  have Yg_9 : Aside (Box1 S1 (.slice g0 G gc) u4) := Yg_8.out.on hb4
  clear D8 A_8 C_8 s1_8 m_8 Xx_8 Xz_8 Ig_8 Yg_8
  clear KC hb0 hb1 hb3 hb4 b0_ b00 b1_ b2_ rof hr1 hr2 k1 k2 l3 d3 d4 ML
  clear m_9
  clear Xz_9
  clear C_9
  obtain ⟨WS, hWS⟩ : ∃ S, u4.heap.size = S := ⟨_, rfl⟩
  have HWS : Hid _ := hWS
  clear hWS
  go_wp2_with fail
  go_loopg [12, 13] N1 (fun kx s12 s13 wr => ∃ (k z : Nat) (r : Option Addr) (t : Nat), s13 = .int .i64 k ∧ s12 = .slice r z t ∧ Hid ((keepL (isIn zs) (l.take k)).length = z) ∧ k ≤ N1 ∧ N1 - k ≤ kx ∧ Aside (OwnE wr WS (.slice r z t) (keepL (isIn zs) (l.take k))) ∧ Aside (Below WS u4 wr))
  case atStart => exact ⟨0, 0, none, 0, rfl, rfl, rfl, by omega, by omega, OwnE.nil _ _, Below.refl _ _⟩
  case round =>
    obtain ⟨k, z, r, t, rfl, rfl, HZ, hk, hkx, O, B⟩ := hrel
    have zle : z ≤ N1 := by have h1 := HZ.out; have h2 := keep_len (isIn zs) (l.take k); rw [List.length_take, G1.out] at h2; omega
    have sz : WS ≤ wr.heap.size := by have h1 := B.out.size; have h2 := HWS.out; omega
    have BW : Below u4.heap.size u4 wr := by rw [HWS.out]; exact B.out
    by_cases hlt : k < N1
    · have hz : (k : Int) < (N1 : Int) := by omega
      have hlt' : k < l.length := by rw [G1.out]; exact hlt
      obtain ⟨b, off, rfl, hb, c0, c1'⟩ := (A_9.out.below BW).elem k l[k] (List.getElem?_eq_getElem hlt')
      have e1 := keep_take (isIn zs) hlt'
      obtain ⟨x, hx⟩ : ∃ x, l[k] = x := ⟨_, rfl⟩
      rw [hx] at e1 c0 c1'
      have hs : ∀ q, Calls Try.prog 25 #[.slice g0 G gc, .int .i64 x.2] (wr.drewN q) fun e w' => e = .returned (.bool (isIn zs x.2)) ∧ w' = wr.drewN q := fun q => has_any g0 gc G zs x.2 (wr.drewN q) ((Ig_9.out.below BW).below (Grown.below ⟨q, #[], by rw [grow_empty]⟩)) G3.out
      have cg0 : ∀ q, (wr.drewN q).cell? ⟨S1, 0, none⟩ = some (.slice g0 G gc) := fun q => (Yg_9.out.on BW).c0
      have cI : ∀ q, (wr.drewN q).cell? ⟨b, off + k * 2 + 1, none⟩ = some (.int .i64 x.2) := fun q => c1'
      have cK : ∀ q, (wr.drewN q).cell? ⟨b, off + k * 2, none⟩ = some (.int .u64 x.1) := fun q => c0
      have E1 : Aside (keepL (isIn zs) (l.take (k + 1)) = keepL (isIn zs) (l.take k) ++ (if isIn zs x.2 then [] else [x])) := e1
      clear e1 hx c0 c1'
      cases hB : isIn zs x.2 with
      | true =>
        simp only [hB] at hs
        rw [hB] at E1
        have E2 : Hid (keepL (isIn zs) (l.take (k + 1)) = keepL (isIn zs) (l.take k)) := by show _ = _; have := E1.out; simpa using this
        go_wp2_with fail
        go_quiet ((go_at_call 25; exact Calls.quiet_of_same (hs _)))
        have B1 : Aside (Below WS u4 (wr.drewN nq)) := B.out.trans ((Grown.below ⟨nq, #[], by rw [grow_empty]⟩).mono sz)
        have O1 : Aside (OwnE (wr.drewN nq) WS (.slice r z t) (keepL (isIn zs) (l.take (k + 1)))) := by rw [E2.out]; exact O.out.drewN nq
        clear cg0 cI cK hs O B BW
        generalize wr.drewN nq = w1 at B1 O1 ⊢
        go_wp2
        go_roundg (N1 - (k + 1))
        case measure => omega
        case rel => exact ⟨k + 1, z, r, t, by go_num, rfl, by rw [E2.out]; exact HZ, by omega, Nat.le_refl _, O1, B1⟩
      | false =>
        simp only [hB] at hs
        rw [hB] at E1
        have E2 : Hid (keepL (isIn zs) (l.take (k + 1)) = keepL (isIn zs) (l.take k) ++ [x]) := by show _ = _; have := E1.out; simpa using this
        go_wp2_with fail
        go_quiet ((go_at_call 25; exact Calls.quiet_of_same (hs _)))
        have B1 : Aside (Below WS u4 (wr.drewN nq)) := B.out.trans ((Grown.below ⟨nq, #[], by rw [grow_empty]⟩).mono sz)
        have O1 : Aside (OwnE (wr.drewN nq) WS (.slice r z t) (keepL (isIn zs) (l.take k))) := O.out.drewN nq
        have y0 := cK nq
        have y1 := cI nq
        have s1' : WS ≤ (wr.drewN nq).heap.size := sz
        have hb' : b < (wr.drewN nq).heap.size := hb
        clear cg0 cI cK hs O B BW
        generalize wr.drewN nq = w1 at B1 O1 y0 y1 s1' hb' ⊢
        obtain ⟨r', t', w2, hr, o2, b2⟩ := app_one x O1.out HZ.out (by omega) s1'
        have B2 : Aside (Below WS u4 w2) := B1.out.trans b2
        have O2 : Aside (OwnE w2 WS (.slice r' (z + 1) t') (keepL (isIn zs) (l.take (k + 1)))) := by rw [E2.out]; exact o2
        have HZ2 : Hid ((keepL (isIn zs) (l.take (k + 1))).length = z + 1) := by show _ = _; rw [E2.out, List.length_append, HZ.out]; rfl
        clear o2 b2 O1 B1
        go_wp2_with (at_builtin; refine Lib.wpList_append_run (World.alloc w1 _) rfl _ _ 22 22 rfl _ _ rfl rfl _ w2 hr ?_)
        go_roundg (N1 - (k + 1))
        case measure => omega
        case rel => exact ⟨k + 1, z + 1, r', t', by go_num, rfl, HZ2, by omega, Nat.le_refl _, O2, B2⟩
    · have hz : ¬ (k : Int) < (N1 : Int) := by omega
      have ek : l.take k = l := List.take_of_length_le (by rw [G1.out]; omega)
      rw [ek] at HZ O
      have ez : ZL = z := by rw [← HZ.out, ← F.out.2.2.2.2.2.2.2.2.2.2.2.2.1, ← F.out.2.2.2.2.2.2.2.2.2.2.2.1, sortE_len]
      subst ez
      obtain ⟨wl, hwl⟩ : ∃ v, v = wr := ⟨_, rfl⟩
      subst hwl
      have LF : Aside (IsL wl r t (keepL (isIn zs) l)) := O.out.is
      clear O B ek hk hkx hlt sz zle
      have D10 : Aside (Below w.heap.size w wl) := Below.trans D9.out (Below.mono BW D9.out.size)
      have A_10 : Aside (IsL wl a0 p0 l) := A_9.out.below BW
      have s1_10 : Aside (IsL wl s1a s1c s1) := s1_9.out.below BW
      have Xx_10 : Aside (Box2 S6 (.int .i64 M1) (.slice s1a N1 s1c) wl) := Xx_9.out.on BW
      have Ig_10 : Aside (IsI wl g0 zs) := Ig_9.out.below BW
      have Yg_10 : Aside (Box1 S1 (.slice g0 G gc) wl) := Yg_9.out.on BW
      clear D9 A_9 s1_9 Xx_9 Ig_9 Yg_9
      clear BW
      have hgG : ∀ id W, Below wl.heap.size wl W → Calls Try.prog 26 (#[.int .i64 id] ++ #[.pointer (some ⟨S1, 0, none⟩)]) W fun e w' => e = .returned (.bool (isIn zs id)) ∧ Below W.heap.size W w' := fun id V hV => by
        have h := gone_any S1 g0 gc G zs id V (Ig_10.out.below hV) G3.out ((Yg_10.out.on hV).c0)
        exact h.mono fun e w' h => ⟨h.1, by rw [h.2]; exact Below.refl _ _⟩
      have cx0 := Xx_10.out.c0
      have cx1 := Xx_10.out.c1
      have cg0 := Yg_10.out.c0
      go_wp2_with fail
      refine (shrinkN (p := isIn zs) s1_10.out F.out.2.2.2.2.2.2.1 (by omega) EG hgG F.out.2.2.2.2.2.2.2.2.2.2.1 F.out.2.2.2.2.2.2.2.2.2.2.2.2.1 F.out.2.2.2.2.2.2.2.2.2.2.2.2.2.1).mono ?_
      rintro r w11 ⟨fa, fc, rfl, f11, d11⟩
      clear cx0 cx1 cg0
      have D11 : Aside (Below w.heap.size w w11) := Below.trans D10.out (Below.mono d11 D10.out.size)
      have A_11 : Aside (IsL w11 a0 p0 l) := A_10.out.below d11
      have s1_11 : Aside (IsL w11 s1a s1c s1) := s1_10.out.below d11
      have lf_11 : Aside (IsL w11 r t (keepL (isIn zs) l)) := LF.out.below d11
      have Xx_11 : Aside (Box2 S6 (.int .i64 M1) (.slice s1a N1 s1c) w11) := Xx_10.out.on d11
      have Ig_11 : Aside (IsI w11 g0 zs) := Ig_10.out.below d11
      have Yg_11 : Aside (Box1 S1 (.slice g0 G gc) w11) := Yg_10.out.on d11
      clear D10 A_10 s1_10 LF Xx_10 Ig_10 Yg_10
      have f_11 : Aside (IsL w11 fa fc f) := f11
      clear f11 d11
      clear hgG hz
      clear Yg_11
      clear Ig_11
      obtain ⟨S12, hS12⟩ : ∃ S, w11.heap.size = S := ⟨_, rfl⟩
      have cx0 := Xx_11.out.c0
      have cx1 := Xx_11.out.c1
      have cxl : S6 < S12 := by have := Xx_11.out.lt; omega
      obtain ⟨w12, hw12⟩ : ∃ v, (World.alloc w11 (.cells #[.int .i64 MS, .slice fa ZL fc] 26)) = v := ⟨_, rfl⟩
      have Hw12 : Hid _ := hw12
      have d12 : Below w11.heap.size w11 w12 := by rw [← hw12]; exact (Below.refl _ _).alloc (Nat.le_refl _) _
      have Xt_12 : Aside (Box2 S12 (.int .i64 MS) (.slice fa ZL fc) w12) := by rw [← hw12, ← hS12]; exact Box2.new _ _ _ _
      have D12 : Aside (Below w.heap.size w w12) := Below.trans D11.out (Below.mono d12 D11.out.size)
      have A_12 : Aside (IsL w12 a0 p0 l) := A_11.out.below d12
      have s1_12 : Aside (IsL w12 s1a s1c s1) := s1_11.out.below d12
      have lf_12 : Aside (IsL w12 r t (keepL (isIn zs) l)) := lf_11.out.below d12
      have f_12 : Aside (IsL w12 fa fc f) := f_11.out.below d12
      have Xx_12 : Aside (Box2 S6 (.int .i64 M1) (.slice s1a N1 s1c) w12) := Xx_11.out.on d12
      clear D11 A_11 s1_11 lf_11 f_11 Xx_11
      clear hw12 d12
      go_wp2_with fail
      rw [Hw12.out]
      clear cx0 cx1 cxl
      have rof := refOfN (lf_12.out.below ((Below.refl _ _).drew)) HZ.out (by omega) F.out.2.2.2.2.2.2.2.2.2.2.2.1 F.out.2.2.2.2.2.2.2.2.2.2.2.2.2.1
      have KC : Aside (∀ v, Below w12.heap.size w12 v → v.cell? ⟨S12, 0, none⟩ = some (.int .i64 MS) ∧ v.cell? ⟨S12, 1, none⟩ = some (.slice fa ZL fc)) := fun v hv => ⟨(Xt_12.out.on hv).c0, (Xt_12.out.on hv).c1⟩
      have hb0 : Below w12.heap.size w12 w12 := Below.refl _ _
      have hb1 : Below w12.heap.size w12 w12.drew := hb0.drew
      obtain ⟨k0, k1⟩ := KC.out w12 hb0
      have MF : Aside (IsL w12 fa fc f) := f_12.out
      go_region_held3 (fun v => v.cell? ⟨S12, 0, none⟩ = some (.int .i64 MS) ∧ v.cell? ⟨S12, 1, none⟩ = some (.slice fa ZL fc)) (first | with_reducible exact KC.out _ hb0 | with_reducible exact KC.out _ hb1 | with_reducible exact KC.out _ hy1 | with_reducible exact KC.out _ hy2)
        ((first
          | (go_at_call 23; (with_reducible refine Calls.mono (lsameN (MF.out.below hy1) ly F.out.2.2.2.2.2.2.2.2.2.2.2.2.1) ?_); rintro r y2 ⟨rfl, dy2⟩; have hy2 : Below w12.heap.size w12 y2 := hy1.trans (dy2.mono hy1.size))
          | (go_at_call 24; (with_reducible refine Calls.mono rof ?_); rintro r y1 ⟨ra, rc, rfl, ly, dy1⟩; have hy1 : Below w12.heap.size w12 y1 := hb1.trans (dy1.mono hb1.size))))
      have D13 : Aside (Below w.heap.size w y2) := Below.trans D12.out (Below.mono hy2 D12.out.size)
      have A_13 : Aside (IsL y2 a0 p0 l) := A_12.out.below hy2
      have s1_13 : Aside (IsL y2 s1a s1c s1) := s1_12.out.below hy2
      have lf_13 : Aside (IsL y2 r t (keepL (isIn zs) l)) := lf_12.out.below hy2
      have f_13 : Aside (IsL y2 fa fc f) := f_12.out.below hy2
      have Xx_13 : Aside (Box2 S6 (.int .i64 M1) (.slice s1a N1 s1c) y2) := Xx_12.out.on hy2
      have Xt_13 : Aside (Box2 S12 (.int .i64 MS) (.slice fa ZL fc) y2) := Xt_12.out.on hy2
      clear D12 A_12 s1_12 lf_12 f_12 Xx_12 Xt_12
      clear KC hb0 hb1 hy1 hy2 rof ly dy1 dy2 MF
      clear Xt_13
      clear f_13
      clear lf_13
      have cx0 := Xx_13.out.c0
      have cx1 := Xx_13.out.c1
      go_wp2_with fail
      refine (refSortN A_13.out G1.out (by omega) F.out.1).mono ?_
      rintro r w14 ⟨wsa, wsc, rfl, f14, d14⟩
      clear cx0 cx1
      have D14 : Aside (Below w.heap.size w w14) := Below.trans D13.out (Below.mono d14 D13.out.size)
      have A_14 : Aside (IsL w14 a0 p0 l) := A_13.out.below d14
      have s1_14 : Aside (IsL w14 s1a s1c s1) := s1_13.out.below d14
      have Xx_14 : Aside (Box2 S6 (.int .i64 M1) (.slice s1a N1 s1c) w14) := Xx_13.out.on d14
      clear D13 A_13 s1_13 Xx_13
      have ws_14 : Aside (IsL w14 wsa wsc s1) := f14
      clear f14 d14
      clear A_14
      have cx0 := Xx_14.out.c0
      have cx1 := Xx_14.out.c1
      go_wp2_with fail
      refine (cutN s1_14.out F.out.2.2.2.2.2.2.1 (by omega) F.out.2.2.2.2.2.2.2.2.2.2.2.2.2.2.1 F.out.2.2.2.2.2.2.2.2.2.2.2.2.2.2.2.1 F.out.2.2.2.2.2.2.2.2.2.2.2.2.2.2.2.2.1 rfl F.out.2.2.2.2.2.2.2.2.2.2.2.2.2.2.2.2.2.2.1 F.out.2.2.2.2.2.2.2.2.2.2.2.2.2.2.2.2.2.2.2.1).mono ?_
      rintro r w15 ⟨c1a, c1c, c2a, c2c, rfl, f15, g15, d15⟩
      clear cx0 cx1
      have D15 : Aside (Below w.heap.size w w15) := Below.trans D14.out (Below.mono d15 D14.out.size)
      have s1_15 : Aside (IsL w15 s1a s1c s1) := s1_14.out.below d15
      have ws_15 : Aside (IsL w15 wsa wsc s1) := ws_14.out.below d15
      have Xx_15 : Aside (Box2 S6 (.int .i64 M1) (.slice s1a N1 s1c) w15) := Xx_14.out.on d15
      clear D14 s1_14 ws_14 Xx_14
      have c1_15 : Aside (IsL w15 c1a c1c c1) := f15
      have c2_15 : Aside (IsL w15 c2a c2c c2) := g15
      clear f15 g15 d15
      clear s1_15
      clear Xx_15
      obtain ⟨S16, hS16⟩ : ∃ S, w15.heap.size = S := ⟨_, rfl⟩
      obtain ⟨w16, hw16⟩ : ∃ v, (World.alloc (World.alloc w15 (.cells #[.int .i64 M4, .slice c1a K c1c] 26)) (.cells #[.int .i64 M5, .slice c2a (N1 - K) c2c] 26)) = v := ⟨_, rfl⟩
      have Hw16 : Hid _ := hw16
      have d16 : Below w15.heap.size w15 w16 := by rw [← hw16]; exact ((Below.refl _ _).alloc (Nat.le_refl _) _).alloc (by simp) _
      have Xp_16 : Aside (Box2 S16 (.int .i64 M4) (.slice c1a K c1c) w16) := by rw [← hw16, ← hS16]; exact (Box2.new w15 (.int .i64 M4) (.slice c1a K c1c) 26).on ((Below.refl _ _).alloc (Nat.le_refl _) _)
      have xq_16 : Box2 (S16 + 1) (.int .i64 M5) (.slice c2a (N1 - K) c2c) w16 := by
        have := Box2.new (World.alloc w15 (.cells #[.int .i64 M4, .slice c1a K c1c] 26)) (.int .i64 M5) (.slice c2a (N1 - K) c2c) 26
        rw [hw16] at this
        simpa [hS16] using this
      have Xq_16 : Aside (Box2 (S16 + 1) (.int .i64 M5) (.slice c2a (N1 - K) c2c) w16) := xq_16
      clear xq_16
      have D16 : Aside (Below w.heap.size w w16) := Below.trans D15.out (Below.mono d16 D15.out.size)
      have ws_16 : Aside (IsL w16 wsa wsc s1) := ws_15.out.below d16
      have c1_16 : Aside (IsL w16 c1a c1c c1) := c1_15.out.below d16
      have c2_16 : Aside (IsL w16 c2a c2c c2) := c2_15.out.below d16
      clear D15 ws_15 c1_15 c2_15
      clear hw16 d16
      have tc := ws_16.out.le
      rw [F.out.2.2.2.2.2.2.1] at tc
      have j0 := F.out.2.2.2.2.2.2.2.2.2.2.2.2.2.2.2.2.2.1
      have j1 : (K : Int) ≤ (wsc : Int) := by omega
      have j2 : (K : Int) ≤ (N1 : Int) := by omega
      have j3 : (0 : Int) ≤ (K : Int) := by omega
      go_wp2_with fail
      rw [Hw16.out]
      obtain ⟨p1, hp1⟩ : ∃ p1, (if wsc = K then wsa else wsa.map (·.add (K * 2))) = p1 := ⟨_, rfl⟩
      have rA : ∀ W', Below w16.heap.size w16 W' → Calls Try.prog 24 #[.slice wsa K wsc] W' (MadeN W' M4 K c1) := fun W' hW => by
        have hL := (ws_16.out.below hW).take K
        rw [FT.out.1] at hL
        exact refOfN hL F.out.2.2.2.2.2.2.2.2.2.2.2.2.2.2.2.2.2.2.2.2.1 (by omega) FT.out.2.2.1 F.out.2.2.2.2.2.2.2.2.2.2.2.2.2.2.2.2.2.2.1
      have rB : ∀ W', Below w16.heap.size w16 W' → Calls Try.prog 24 #[.slice p1 (N1 - K) (wsc - K)] W' (MadeN W' M5 (N1 - K) c2) := fun W' hW => by
        have hL := (ws_16.out.below hW).drop K (by rw [F.out.2.2.2.2.2.2.1]; exact F.out.2.2.2.2.2.2.2.2.2.2.2.2.2.2.2.2.2.1)
        rw [FT.out.2.1, hp1] at hL
        exact refOfN hL F.out.2.2.2.2.2.2.2.2.2.2.2.2.2.2.2.2.2.2.2.2.2 (by omega) FT.out.2.2.2 F.out.2.2.2.2.2.2.2.2.2.2.2.2.2.2.2.2.2.2.2.1
      have KC : Aside (∀ v, Below w16.heap.size w16 v → v.cell? ⟨S16, 0, none⟩ = some (.int .i64 M4) ∧ v.cell? ⟨S16, 1, none⟩ = some (.slice c1a K c1c) ∧ v.cell? ⟨(S16 + 1), 0, none⟩ = some (.int .i64 M5) ∧ v.cell? ⟨(S16 + 1), 1, none⟩ = some (.slice c2a (N1 - K) c2c)) := fun v hv => ⟨(Xp_16.out.on hv).c0, (Xp_16.out.on hv).c1, (Xq_16.out.on hv).c0, (Xq_16.out.on hv).c1⟩
      have hb0 : Below w16.heap.size w16 w16 := Below.refl _ _
      have hb1 : Below w16.heap.size w16 w16.drew := hb0.drew
      obtain ⟨k0, k1, k2, k3⟩ := KC.out w16 hb0
      have Q1 : Aside (IsL w16 c1a c1c c1) := c1_16.out
      have Q2 : Aside (IsL w16 c2a c2c c2) := c2_16.out
      go_region_held3 (fun v => v.cell? ⟨S16, 0, none⟩ = some (.int .i64 M4) ∧ v.cell? ⟨S16, 1, none⟩ = some (.slice c1a K c1c) ∧ v.cell? ⟨(S16 + 1), 0, none⟩ = some (.int .i64 M5) ∧ v.cell? ⟨(S16 + 1), 1, none⟩ = some (.slice c2a (N1 - K) c2c)) (first | with_reducible exact KC.out _ hb0 | with_reducible exact KC.out _ hb1 | with_reducible exact KC.out _ hx1 | with_reducible exact KC.out _ hx2 | with_reducible exact KC.out _ hx3 | with_reducible exact KC.out _ hx4 | with_reducible exact KC.out _ hx5)
        ((first
          | (go_at_call 9; (with_reducible refine Calls.mono (awake_any x4) ?_); rintro r x5 ⟨rfl, dx5⟩; have hx5 : Below w16.heap.size w16 x5 := hx4.trans (dx5.mono hx4.size))
          | (go_at_call 23; (with_reducible refine Calls.mono (lsameN (Q2.out.below hx3) lx3 F.out.2.2.2.2.2.2.2.2.2.2.2.2.2.2.2.2.2.2.2.2.2) ?_); rintro r x4 ⟨rfl, dx4⟩; have hx4 : Below w16.heap.size w16 x4 := hx3.trans (dx4.mono hx3.size))
          | (go_at_call 24; (with_reducible refine Calls.mono (rB x2 hx2) ?_); rintro r x3 ⟨xa3, xc3, rfl, lx3, dx3⟩; have hx3 : Below w16.heap.size w16 x3 := hx2.trans (dx3.mono hx2.size))
          | (go_at_call 23; (with_reducible refine Calls.mono (lsameN (Q1.out.below hx1) lx1 F.out.2.2.2.2.2.2.2.2.2.2.2.2.2.2.2.2.2.2.2.2.1) ?_); rintro r x2 ⟨rfl, dx2⟩; have hx2 : Below w16.heap.size w16 x2 := hx1.trans (dx2.mono hx1.size))
          | (go_at_call 24; (with_reducible refine Calls.mono (rA w16.drew hb1) ?_); rintro r x1 ⟨xa1, xc1, rfl, lx1, dx1⟩; have hx1 : Below w16.heap.size w16 x1 := hb1.trans (dx1.mono hb1.size))))
      have D17 : Aside (Below w.heap.size w x5) := Below.trans D16.out (Below.mono hx5 D16.out.size)
      have ws_17 : Aside (IsL x5 wsa wsc s1) := ws_16.out.below hx5
      have c1_17 : Aside (IsL x5 c1a c1c c1) := c1_16.out.below hx5
      have c2_17 : Aside (IsL x5 c2a c2c c2) := c2_16.out.below hx5
      have Xp_17 : Aside (Box2 S16 (.int .i64 M4) (.slice c1a K c1c) x5) := Xp_16.out.on hx5
      have Xq_17 : Aside (Box2 (S16 + 1) (.int .i64 M5) (.slice c2a (N1 - K) c2c) x5) := Xq_16.out.on hx5
      clear D16 ws_16 c1_16 c2_16 Xp_16 Xq_16
      go_wp2
      go_ret
      exact ⟨rfl, D17.out⟩

set_option maxHeartbeats 4000000 in
theorem blockMerges_walk (a0 : Option Addr) (p0 : Nat) (l : List Ent) (b0 : Option Addr) (q0 : Nat) (c : List Ent) (n : Int) (g0 : Option Addr) (G gc : Nat) (zs : List Int) (w : World) (h : IsL w a0 p0 l) (k1 : l.length ≤ 140737488355328) (hc : IsL w b0 q0 c) (k2 : c.length ≤ 140737488355328) (hw : (Lit.int .i64 n).wf = true) (hz : IsRow .i64 w g0 G gc zs) :
    Calls Try.prog 6 #[.slice a0 l.length p0, .slice b0 c.length q0, .int .i64 n, .slice g0 G gc] w fun r w' => r = .returned (.bool true) ∧ Below w.heap.size w w' := by
  obtain ⟨hi, hG⟩ := hz.isI
  have hG2 : G ≤ 9223372036854775807 := by have := hi.len; omega
  by_cases f1 : l.length ≤ 120
  · by_cases f2 : c.length ≤ 120
    · by_cases f3 : G ≤ 100
      · exact blockMerges_few a0 b0 g0 p0 q0 gc l c n _ _ _ _ _ w h hc hi rfl rfl hG f1 f2 f3 rfl
      obtain ⟨N1, h1⟩ : ∃ N, l.length = N := ⟨_, rfl⟩
      obtain ⟨N2, h2⟩ : ∃ N, c.length = N := ⟨_, rfl⟩
      rw [h1] at f1
      rw [h2] at f2
      have few1 := few_any a0 N1 p0 (by omega)
      have few2 := few_any b0 N2 q0 (by omega)
      rw [decide_eq_true f1] at few1
      rw [decide_eq_true f2] at few2
      rw [h1, h2]
      have t3 : (100 : Int) < (G : Int) := by omega
      clear h hc h1 h2 k1 k2 hw f1 f2 hi hG hz
      obtain ⟨w1, hw1⟩ : ∃ v, w.alloc (.cells #[.slice g0 G gc] 43) = v := ⟨_, rfl⟩
      have H1 : Hid _ := hw1
      have d1 : Aside (Below w.heap.size w w1) := by rw [← hw1]; exact (Below.refl _ _).alloc (Nat.le_refl _) _
      have S1 : w1.cell? ⟨w.heap.size, 0, none⟩ = some (.slice g0 G gc) := by rw [← hw1]; exact cell_new w _ _ 0
      clear hw1
      go_enter Try.func6, Try.ntmps6
      go_wp2_with fail
      rw [H1.out]
      refine (few1 _).mono ?_
      rintro r w2 ⟨rfl, e2⟩
      obtain rfl := e2.symm
      go_wp2_with fail
      refine (few2 _).mono ?_
      rintro r w2 ⟨rfl, e2⟩
      obtain rfl := e2.symm
      go_wp2_with fail
      refine (awake_any _).mono ?_
      rintro r w2 ⟨rfl, d2⟩
      have D2 : Aside (Below w.heap.size w w2) := d1.out.trans (d2.mono d1.out.size)
      clear d2
      go_wp2
      go_ret
      exact ⟨rfl, D2.out⟩
    · obtain ⟨N1, h1⟩ : ∃ N, l.length = N := ⟨_, rfl⟩
      obtain ⟨N2, h2⟩ : ∃ N, c.length = N := ⟨_, rfl⟩
      rw [h1] at f1
      rw [h2] at f2
      have few1 := few_any a0 N1 p0 (by omega)
      have few2 := few_any b0 N2 q0 (by omega)
      rw [decide_eq_true f1] at few1
      rw [decide_eq_false f2] at few2
      rw [h1, h2]
      clear h hc h1 h2 k1 k2 hw f1 f2 hi hG hz
      obtain ⟨w1, hw1⟩ : ∃ v, w.alloc (.cells #[.slice g0 G gc] 43) = v := ⟨_, rfl⟩
      have H1 : Hid _ := hw1
      have d1 : Aside (Below w.heap.size w w1) := by rw [← hw1]; exact (Below.refl _ _).alloc (Nat.le_refl _) _
      have S1 : w1.cell? ⟨w.heap.size, 0, none⟩ = some (.slice g0 G gc) := by rw [← hw1]; exact cell_new w _ _ 0
      clear hw1
      go_enter Try.func6, Try.ntmps6
      go_wp2_with fail
      rw [H1.out]
      refine (few1 _).mono ?_
      rintro r w2 ⟨rfl, e2⟩
      obtain rfl := e2.symm
      go_wp2_with fail
      refine (few2 _).mono ?_
      rintro r w2 ⟨rfl, e2⟩
      obtain rfl := e2.symm
      go_wp2_with fail
      refine (awake_any _).mono ?_
      rintro r w2 ⟨rfl, d2⟩
      have D2 : Aside (Below w.heap.size w w2) := d1.out.trans (d2.mono d1.out.size)
      clear d2
      go_wp2
      go_ret
      exact ⟨rfl, D2.out⟩
  · have hbad : True := trivial
    · obtain ⟨N1, h1⟩ : ∃ N, l.length = N := ⟨_, rfl⟩
      obtain ⟨N2, h2⟩ : ∃ N, c.length = N := ⟨_, rfl⟩
      rw [h1] at f1
      have few1 := few_any a0 N1 p0 (by omega)
      rw [decide_eq_false f1] at few1
      rw [h1, h2]
      clear h hc h1 h2 k1 k2 hw f1 hi hG hz hbad
      obtain ⟨w1, hw1⟩ : ∃ v, w.alloc (.cells #[.slice g0 G gc] 43) = v := ⟨_, rfl⟩
      have H1 : Hid _ := hw1
      have d1 : Aside (Below w.heap.size w w1) := by rw [← hw1]; exact (Below.refl _ _).alloc (Nat.le_refl _) _
      have S1 : w1.cell? ⟨w.heap.size, 0, none⟩ = some (.slice g0 G gc) := by rw [← hw1]; exact cell_new w _ _ 0
      clear hw1
      go_enter Try.func6, Try.ntmps6
      go_wp2_with fail
      rw [H1.out]
      refine (few1 _).mono ?_
      rintro r w2 ⟨rfl, e2⟩
      obtain rfl := e2.symm
      go_wp2_with fail
      refine (awake_any _).mono ?_
      rintro r w2 ⟨rfl, d2⟩
      have D2 : Aside (Below w.heap.size w w2) := d1.out.trans (d2.mono d1.out.size)
      clear d2
      go_wp2
      go_ret
      exact ⟨rfl, D2.out⟩
end Go.Proofs.Ytoknpinlphbeoaa

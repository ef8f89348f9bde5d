/- The walk of 'GridAhead'. -/
import Derived.Test.YtgclepkjeepanaaGrW
import Derived.Test.YtgclepkjeepanaaGrH
import Derived.Test.YtgclepkjeepanaaGrU
import Derived.Test.YtgclepkjeepanaaMask
import Derived.WalkSmall
import Derived.Deep.QuietTactic
import Derived.BigQuiet
import Derived.Deep.CutBlock
import Derived.Deep.DeepCutAuto
namespace Go.Proofs.Ytgclepkjeepanaa
open Go.RowKit
set_option linter.unusedVariables false

/-- The ticks ahead, far from the end of time. -/
theorem ahead_num {f p n : Int} (f1 : 0 ≤ f) (f2 : f < 1048576) (p1 : 0 < p) (p2 : p ≤ 4096) (n1 : 0 ≤ n) (n2 : n < 2097152) :
    ∃ V : Int, gridOk f p n = true ∧ gridV f p n = V ∧ n < V ∧ V < 3000000 ∧ f ≤ V ∧ (V - f) % p = 0 ∧ (V = f ∨ (p ≤ V ∧ V - p ≤ n)) ∧ 1000 ≤ missT f p n lastTick ∧ ∀ i : Nat, i < 1000 → gI f p n (i + 1) = V + i * p := by
  have hf : IsT f := ⟨by omega, by omega⟩
  have hp : IsT p := ⟨by omega, by omega⟩
  have hn : IsT n := ⟨by omega, by omega⟩
  have ok : gridOk f p n = true := by
    by_cases c : f > n
    · simp [gridOk, c]; omega
    · have := last_bounds p1 (show f ≤ n by omega)
      simp [gridOk]; omega
  obtain ⟨a1, a2, a3, a4, a5⟩ := grid_at hf hp hn ok
  obtain ⟨b1, b2, b3⟩ := grid_above hf hp hn ok
  have vb : gridV f p n < 3000000 := by
    by_cases c : n < f
    · rw [a4 c]; omega
    · rcases a3 with e | e
      · omega
      · omega
  refine ⟨gridV f p n, ok, rfl, b1, vb, a1, a2, ?_, ?_, fun i hi => gI_on hf hp hn ok i ?_⟩
  · by_cases c : n < f
    · exact .inl (a4 c)
    · have := a5 (by omega)
      rcases a3 with e | e
      · exact .inl e
      · exact .inr ⟨by omega, e⟩
  · rw [miss_some hf hp hn lastTick_is ok (by unfold lastTick; omega)]
    have : 1000 ≤ (lastTick - gridV f p n) / p := Int.le_ediv_of_mul_le p1 (by unfold lastTick; omega)
    omega
  · have : (i : Int) * p ≤ 1000 * 4096 := Int.mul_le_mul (by omega) (by omega) (by omega) (by omega)
    omega
set_option maxHeartbeats 4000000 in
set_option maxRecDepth 100000 in
theorem gridAhead_walk (fi per no k0 : Int) (w : World) (wf : (Lit.int .u64 fi).wf = true) (wp : (Lit.int .u64 per).wf = true) (wn : (Lit.int .u64 no).wf = true) (wk : (Lit.int .i64 k0).wf = true) :
    Calls Try.prog 3 #[.int .u64 fi, .int .u64 per, .int .u64 no, .int .i64 k0] w fun e w' => e = .returned (.bool true) ∧ Below w.heap.size w w' := by
  obtain ⟨f, hf, f1, f2⟩ : ∃ f, bits .and .u64 fi 1048575 = f ∧ 0 ≤ f ∧ f < 1048576 := ⟨_, mask_u64 fi 20 _ 1048576 (bounds_u64 wf) (by decide) (by decide) (by decide) (by decide), by omega, by omega⟩
  obtain ⟨q, hq, q1, q2⟩ : ∃ q, bits .and .u64 per 4095 = q ∧ 0 ≤ q ∧ q < 4096 := ⟨_, mask_u64 per 12 _ 4096 (bounds_u64 wp) (by decide) (by decide) (by decide) (by decide), by omega, by omega⟩
  obtain ⟨n, hn, n1, n2⟩ : ∃ n, bits .and .u64 no 2097151 = n ∧ 0 ≤ n ∧ n < 2097152 := ⟨_, mask_u64 no 21 _ 2097152 (bounds_u64 wn) (by decide) (by decide) (by decide) (by decide), by omega, by omega⟩
  obtain ⟨K, hK, K1⟩ : ∃ K : Nat, bits .and .i64 k0 63 = K ∧ K < 64 := ⟨(k0 % 64).toNat, by rw [mask_i64 k0 6 63 64 (by omega) rfl rfl]; omega, by omega⟩
  obtain ⟨p, hp⟩ : ∃ p, q + 1 = p := ⟨_, rfl⟩
  have p1 : 0 < p := by omega
  have p2 : p ≤ 4096 := by omega
  have hfT : IsT f := ⟨by omega, by omega⟩
  have hpT : IsT p := ⟨by omega, by omega⟩
  have hnT : IsT n := ⟨by omega, by omega⟩
  have nw := fun w => new_any f p (by omega) w
  obtain ⟨V, ok, hV, v1, v2, v3, v4, v5, v6, v7⟩ := ahead_num f1 f2 p1 p2 n1 n2
  obtain ⟨V0, ok0, hV0, -, -, -, -, -, v60, v70⟩ := ahead_num f1 f2 p1 p2 (Int.le_refl 0) (by omega : (0 : Int) < 2097152)
  have c1 := fun w => ahead_any f p f 0 0 n K w hfT hpT hnT (by omega) (by omega)
  have c2 := fun w => ahead_any f p f 0 0 n (-5) w hfT hpT hnT (by omega) (by omega)
  have c3 := fun w => ahead_any f p f 0 0 0 5000 w hfT hpT ⟨by omega, by omega⟩ (by omega) (by omega)
  have a1 : aN f p n K = K := by
    have e : ofT K = K := by unfold ofT; split <;> omega
    unfold aN; rw [e]; omega
  have a2 : aN f p n (-5) = 0 := by
    have e : ofT (-5) = 0 := by decide
    unfold aN; rw [e]; omega
  have a3 : aN f p 0 5000 = 100 := by
    have e : ofT 5000 = 5000 := by decide
    unfold aN; rw [e]; omega
  unfold AheadIs at c1 c2 c3
  simp only [a1] at c1
  simp only [a2] at c2
  simp only [a3] at c3
  have c4 : ∃ (D r m : Int) (o : Bool), (f ≤ n → o = true ∧ D = V) ∧ ∀ w, Calls Try.prog 9 #[.agg #[.int .u64 f, .int .u64 p, .int .u64 f, .int .u64 0, .int .u64 0], .int .u64 n] w fun e w' => e = .returned (.tuple #[.agg #[.int .u64 f, .int .u64 p, .int .u64 D, .int .u64 r, .int .u64 m], .bool o]) ∧ Below w.heap.size w w' := by
    refine ⟨dueJ f p f n, _, _, gridOk f p (max n f), fun c => ?_, fun w => after_yes f p f 0 0 n w hfT hpT hfT hnT (by simp [okJ, p1])⟩
    have e : max n f = n := by omega
    unfold dueJ
    rw [e, ok, hV]
    simp
  obtain ⟨D, R, M, o, hDo, c4⟩ := c4
  obtain ⟨S, hS⟩ : ∃ S, w.heap.size = S := ⟨_, rfl⟩
  have V7 : Aside _ := v7
  clear wf wp wn wk a1 a2 a3 ok hV v6 v7 ok0 hV0 v60 v70 hfT hpT hnT
  go_enter Try.func3, Try.ntmps3
  go_wp2_with fail
  try simp only [hp]
  clear hp hf hq hn hK q1 q2
  refine (nw _).mono ?_
  rintro e w1 ⟨rfl, bw1⟩
  clear nw
  obtain ⟨S1, hS1⟩ : ∃ S, w1.heap.size = S := ⟨_, rfl⟩
  obtain ⟨u1, hu1⟩ : ∃ u, w1.alloc (.cells #[.int .u64 f, .int .u64 p, .int .u64 f, .int .u64 0, .int .u64 0] 24) = u := ⟨_, rfl⟩
  have x1 : JBox u1 S1 f p f 0 0 := by rw [← hu1, ← hS1]; exact JBox.new _ _ _ _ _ _
  have B1 : Aside (Below S w u1) := by rw [← hu1]; have := bw1.size; rw [hS] at bw1; exact bw1.alloc (by omega) _
  have X1 : Aside _ := x1
  have HU1 : Hid _ := hu1
  obtain ⟨i0, i1, i2, i3, i4⟩ := x1.cell
  clear bw1 hu1 x1
  go_upto_region 5 with fail
  rw [HU1.out]
  clear HU1 hS1
  go_wp2_with fail
  refine (c1 _).mono ?_
  rintro e w2 ⟨a, c, rfl, tk, b2⟩
  clear c1 i0 i1 i2 i3 i4
  have X2 : Aside (JBox w2 S1 f p f 0 0 ∧ Below S w w2) := ⟨JBox.below X1.out b2, B1.out.trans (b2.mono (by have := B1.out.size; omega))⟩
  have TK : Aside (∀ j, j < K → ∃ b, a = some ⟨b, 0, none⟩ ∧ b < w2.heap.size ∧ w2.cell? ⟨b, j, none⟩ = some (.int .u64 (V + j * p))) := fun j hj => by rw [← V7.out j (by omega)]; exact tk j hj
  clear tk b2 X1 B1 V7
  go_wp2_with fail
  go_loopw [12] (fun s12 wr => ∃ I : Nat, s12 = .int .i64 I ∧ I ≤ K ∧ (JBox wr S1 f p f 0 0 ∧ Below S w wr) ∧ ∀ j, j < K → ∃ b, a = some ⟨b, 0, none⟩ ∧ b < wr.heap.size ∧ wr.cell? ⟨b, j, none⟩ = some (.int .u64 (V + j * p))) (fun i _ => K - (intOf i).toNat)
  case atStart => exact ⟨0, rfl, by omega, X2.out, TK.out⟩
  case round =>
    clear X2 TK
    obtain ⟨I, rfl, hI, hX, hT⟩ := hrel
    by_cases h : I < K
    · have XX : Aside _ := hX
      have TT : Aside _ := hT
      have NX : Aside (∀ nq, (JBox (wr.drewN nq) S1 f p f 0 0 ∧ Below S w (wr.drewN nq)) ∧ ∀ j, j < K → ∃ b, a = some ⟨b, 0, none⟩ ∧ b < (wr.drewN nq).heap.size ∧ (wr.drewN nq).cell? ⟨b, j, none⟩ = some (.int .u64 (V + j * p))) := fun nq => by
        have bq := below_drewN (Below.refl wr.heap.size wr) nq
        refine ⟨⟨hX.1.below bq, below_drewN hX.2 nq⟩, fun j hj => ?_⟩
        obtain ⟨b, e1, e2, e3⟩ := hT j hj
        exact ⟨b, e1, Nat.lt_of_lt_of_le e2 bq.size, (bq.cell (p := ⟨b, j, none⟩) e2).trans e3⟩
      have h' : (I : Int) < (K : Int) := by omega
      rcases Nat.eq_zero_or_pos I with rfl | hpos
      · obtain ⟨b, rfl, hbl, hc⟩ := hT 0 h
        have e0 : V + ((0 : Nat) : Int) * p = V := by simp
        rw [e0] at hc
        clear hX hT e0
        by_cases hVf : V = f
        · have d1 : decide (f ≤ n) = false := decide_eq_false (by omega)
          rw [hVf] at hc
          clear v5 hVf v4 v1 v2 v3
          go_wp2_with fail
          go_quiet (fail)
          go_wp2_with fail
          go_roundw
          case rel => exact ⟨1, by go_num, by omega, NX.out nq⟩
          case measure => (simp [intOf]; try omega)
        · obtain ⟨v8, v9⟩ : p ≤ V ∧ V - p ≤ n := by omega
          have d1 : decide (V ≤ n) = false := decide_eq_false (by omega)
          have d2 : decide (V < f) = false := decide_eq_false (by omega)
          have d4 : decide (n < V - p) = false := decide_eq_false (by omega)
          have v10 : (V == f) = false := by simp [hVf]
          have v11 : (V != f) = true := by simp [hVf]
          have v12 : decide (V = f) = false := by simp [hVf]
          clear v5
          go_wp2_with fail
          go_quiet (fail)
          go_wp2_with fail
          go_roundw
          case rel => exact ⟨1, by go_num, by omega, NX.out nq⟩
          case measure => (simp [intOf]; try omega)
      · obtain ⟨J, hJ⟩ : ∃ J : Nat, (I : Int) - 1 = (J : Int) := ⟨I - 1, by omega⟩
        obtain ⟨b, rfl, hbl, hc⟩ := hT J (by omega)
        obtain ⟨b', eb, hbl', hc'⟩ := hT I h
        simp only [Option.some.injEq, Addr.mk.injEq, and_true] at eb
        subst eb
        have m0 : 0 ≤ (J : Int) * p := Int.mul_nonneg (by omega) (by omega)
        have m1 : (J : Int) * p ≤ 64 * 4096 := Int.mul_le_mul (by omega) (by omega) (by omega) (by omega)
        have e1 : V + (I : Int) * p = V + J * p + p := by rw [show (I : Int) = (J : Int) + 1 by omega, Int.add_mul]; omega
        rw [e1] at hc'
        have y4 : (V + J * p + p - f) % p = 0 := by
          rw [show V + J * p + p - f = (V - f) + ((J : Int) + 1) * p by rw [Int.add_mul]; omega, Int.add_mul_emod_self_right]
          exact v4
        obtain ⟨Y, hY⟩ : ∃ Y, V + (J : Int) * p = Y := ⟨_, rfl⟩
        rw [hY] at hc hc' y4
        have y1 : V ≤ Y := by omega
        have y2 : Y < 4000000 := by omega
        have y3 : n < Y + p := by omega
        have y5 : f ≤ Y + p := by omega
        have hJK : (J : Int) < (K : Int) := by omega
        have d1 : decide (Y + p ≤ n) = false := decide_eq_false (by omega)
        have d2 : decide (Y + p < f) = false := decide_eq_false (by omega)
        have hpos' : (0 : Int) < (I : Int) := by omega
        have I0 : ((I : Int) == 0) = false := by simp; omega
        clear hX hT m0 m1 e1 hY v5 v4
        go_wp2_with fail
        go_quiet (fail)
        go_wp2_with fail
        go_roundw
        case rel => exact ⟨I + 1, by go_num, by omega, NX.out nq⟩
        case measure => (simp [intOf]; try omega)
    · obtain rfl : I = K := by omega
      obtain ⟨k0, k1, k2, k3, k4⟩ := hX.1.cell
      have XX : Aside _ := hX
      have TT : Aside (∀ j, j < I → ∃ b, a = some ⟨b, 0, none⟩ ∧ b < wr.heap.size ∧ wr.cell? ⟨b, j, none⟩ = some (.int .u64 (V + j * p))) := hT
      clear hX hT v5 v4
      go_wp2_with fail
      refine (c4 _).mono ?_
      rintro e w3 ⟨rfl, b3⟩
      clear k0 k1 k2 k3 k4 c4
      obtain ⟨S3, hS3⟩ : ∃ S, w3.heap.size = S := ⟨_, rfl⟩
      obtain ⟨u3, hu3⟩ : ∃ u, w3.alloc (.cells #[.int .u64 f, .int .u64 p, .int .u64 D, .int .u64 R, .int .u64 M] 24) = u := ⟨_, rfl⟩
      have bu : Below wr.heap.size wr u3 := by rw [← hu3]; exact b3.alloc b3.size _
      have y3 : JBox u3 S3 f p D R M := by rw [← hu3, ← hS3]; exact JBox.new _ _ _ _ _ _
      have X3 : Aside (JBox u3 S1 f p f 0 0 ∧ Below S w u3) := ⟨XX.out.1.below bu, XX.out.2.trans (bu.mono (by have := XX.out.2.size; omega))⟩
      have T3 : Aside (0 < I → ∃ b, a = some ⟨b, 0, none⟩ ∧ b < u3.heap.size ∧ u3.cell? ⟨b, 0, none⟩ = some (.int .u64 V)) := fun h => by
        obtain ⟨b, e1, e2, e3⟩ := TT.out 0 h
        have e0 : V + ((0 : Nat) : Int) * p = V := by simp
        rw [e0] at e3
        exact ⟨b, e1, Nat.lt_of_lt_of_le e2 bu.size, (bu.cell (p := ⟨b, 0, none⟩) e2).trans e3⟩
      obtain ⟨j0, j1, j2, j3, j4⟩ := y3.cell
      have HU3 : Hid _ := hu3
      clear hu3 bu b3 XX TT y3
      go_upto_region 14 with fail
      rw [HU3.out]
      clear HU3 hS3
      have hcs : I = 0 ∨ (0 < I ∧ n < f) ∨ (0 < I ∧ f ≤ n) := by omega
      rcases hcs with rfl | ⟨h1, h2⟩ | ⟨h1, h2⟩
      · go_quiet (fail)
        obtain ⟨w4, hw4⟩ : ∃ u, u3.drewN nq = u := ⟨_, rfl⟩
        rw [hw4]
        have X4 : Aside (JBox w4 S1 f p f 0 0 ∧ Below S w w4) := by rw [← hw4]; exact ⟨X3.out.1.below (below_drewN (Below.refl _ _) nq), below_drewN X3.out.2 nq⟩
        clear hw4 X3 T3 j0 j1 j2 j3 j4
        obtain ⟨k0, k1, k2, k3, k4⟩ := X4.out.1.cell
        go_wp2_with fail
        refine (c2 _).mono ?_
        rintro e w5 ⟨a5, d5, rfl, -, b5⟩
        have X5 : Aside (JBox w5 S1 f p f 0 0 ∧ Below S w w5) := ⟨X4.out.1.below b5, X4.out.2.trans (b5.mono (by have := X4.out.2.size; omega))⟩
        clear X4 b5 k0 k1 k2 k3 k4
        obtain ⟨k0, k1, k2, k3, k4⟩ := X5.out.1.cell
        go_wp2_with fail
        refine (c3 _).mono ?_
        rintro e w6 ⟨a6, d6, rfl, -, b6⟩
        have X6 : Aside (Below S w w6) := X5.out.2.trans (b6.mono (by have := X5.out.2.size; omega))
        clear X5 b6 k0 k1 k2 k3 k4
        have aw := awake_any w6
        go_wp2_with fail
        refine aw.mono ?_
        rintro e w7 ⟨rfl, b7⟩
        have X7 : Aside (Below S w w7) := X6.out.trans (b7.mono (by have := X6.out.size; omega))
        clear b7 aw
        go_wp2_with fail
        go_ret
        exact ⟨rfl, by first | exact X7.out | (rw [hS]; exact X7.out)⟩
      · have h1' : (0 : Int) < (I : Int) := by omega
        have d1 : decide (f ≤ n) = false := decide_eq_false (by omega)
        go_quiet (fail)
        obtain ⟨w4, hw4⟩ : ∃ u, u3.drewN nq = u := ⟨_, rfl⟩
        rw [hw4]
        have X4 : Aside (JBox w4 S1 f p f 0 0 ∧ Below S w w4) := by rw [← hw4]; exact ⟨X3.out.1.below (below_drewN (Below.refl _ _) nq), below_drewN X3.out.2 nq⟩
        clear hw4 X3 T3 j0 j1 j2 j3 j4
        obtain ⟨k0, k1, k2, k3, k4⟩ := X4.out.1.cell
        go_wp2_with fail
        refine (c2 _).mono ?_
        rintro e w5 ⟨a5, d5, rfl, -, b5⟩
        have X5 : Aside (JBox w5 S1 f p f 0 0 ∧ Below S w w5) := ⟨X4.out.1.below b5, X4.out.2.trans (b5.mono (by have := X4.out.2.size; omega))⟩
        clear X4 b5 k0 k1 k2 k3 k4
        obtain ⟨k0, k1, k2, k3, k4⟩ := X5.out.1.cell
        go_wp2_with fail
        refine (c3 _).mono ?_
        rintro e w6 ⟨a6, d6, rfl, -, b6⟩
        have X6 : Aside (Below S w w6) := X5.out.2.trans (b6.mono (by have := X5.out.2.size; omega))
        clear X5 b6 k0 k1 k2 k3 k4
        have aw := awake_any w6
        go_wp2_with fail
        refine aw.mono ?_
        rintro e w7 ⟨rfl, b7⟩
        have X7 : Aside (Below S w w7) := X6.out.trans (b7.mono (by have := X6.out.size; omega))
        clear b7 aw
        go_wp2_with fail
        go_ret
        exact ⟨rfl, by first | exact X7.out | (rw [hS]; exact X7.out)⟩
      · have h1' : (0 : Int) < (I : Int) := by omega
        obtain ⟨rfl, rfl⟩ := hDo h2
        obtain ⟨b, rfl, hbl, hc⟩ := T3.out h1
        go_quiet (fail)
        obtain ⟨w4, hw4⟩ : ∃ u, u3.drewN nq = u := ⟨_, rfl⟩
        rw [hw4]
        have X4 : Aside (JBox w4 S1 f p f 0 0 ∧ Below S w w4) := by rw [← hw4]; exact ⟨X3.out.1.below (below_drewN (Below.refl _ _) nq), below_drewN X3.out.2 nq⟩
        clear hw4 X3 T3 j0 j1 j2 j3 j4
        obtain ⟨k0, k1, k2, k3, k4⟩ := X4.out.1.cell
        go_wp2_with fail
        refine (c2 _).mono ?_
        rintro e w5 ⟨a5, d5, rfl, -, b5⟩
        have X5 : Aside (JBox w5 S1 f p f 0 0 ∧ Below S w w5) := ⟨X4.out.1.below b5, X4.out.2.trans (b5.mono (by have := X4.out.2.size; omega))⟩
        clear X4 b5 k0 k1 k2 k3 k4
        obtain ⟨k0, k1, k2, k3, k4⟩ := X5.out.1.cell
        go_wp2_with fail
        refine (c3 _).mono ?_
        rintro e w6 ⟨a6, d6, rfl, -, b6⟩
        have X6 : Aside (Below S w w6) := X5.out.2.trans (b6.mono (by have := X5.out.2.size; omega))
        clear X5 b6 k0 k1 k2 k3 k4
        have aw := awake_any w6
        go_wp2_with fail
        refine aw.mono ?_
        rintro e w7 ⟨rfl, b7⟩
        have X7 : Aside (Below S w w7) := X6.out.trans (b7.mono (by have := X6.out.size; omega))
        clear b7 aw
        go_wp2_with fail
        go_ret
        exact ⟨rfl, by first | exact X7.out | (rw [hS]; exact X7.out)⟩
end Go.Proofs.Ytgclepkjeepanaa

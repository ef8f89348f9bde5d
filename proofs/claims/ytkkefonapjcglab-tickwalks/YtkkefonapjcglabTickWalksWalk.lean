/- The walk of 'TickWalks'. -/
import Derived.Test.YtkkefonapjcglabTick
import Derived.WalkSmall
namespace Go.Proofs.Ytkkefonapjcglab
open Go.RowKit
set_option linter.unusedVariables false
theorem and255_i64 (n : Int) : bits .and .i64 n 255 = n % 256 := by
  show IntKind.i64.wrap ((BitVec.ofInt 64 n &&& 255#64).toNat : Int) = n % 256
  rw [BitVec.toNat_and, BitVec.toNat_ofInt]
  have h7 : (255#64).toNat = 2 ^ 8 - 1 := rfl
  rw [h7, Nat.and_two_pow_sub_one_eq_mod]
  simp only [IntKind.wrap, IntKind.bits, IntKind.signed]
  simp
  omega
theorem mask_u64 (n : Int) (k : Nat) (m K : Int) (hn : IsT n) (hm : m.toNat = 2 ^ k - 1) (hm0 : 0 ≤ m) (hm1 : m < 18446744073709551616) (hK : ((2 ^ k : Nat) : Int) = K) : bits .and .u64 n m = n % K := by
  rw [u64_and n m hn.1 hn.2 hm0 hm1, hm, Nat.and_two_pow_sub_one_eq_mod]
  rw [← hK, Int.natCast_emod, Int.toNat_of_nonneg hn.1]
theorem miss_eq {f p a b : Int} (hp : 0 < p) (hab : a ≤ b) : missT f p a b = cntT f p b - cntT f p a := by
  unfold missT
  by_cases h : b ≤ a
  · obtain rfl : a = b := by omega
    rw [if_pos (by omega)]
    omega
  · rw [if_neg (by omega)]
/-- One step along the row. -/
theorem step_num {f p A : Int} (hf : IsT f) (hp : 0 < p) (hA : 0 ≤ A) (hs : A + p < 18446744073709551616) :
    gridOk f p A = true ∧ A < gridV f p A ∧ f ≤ gridV f p A ∧ (gridV f p A - f) % p = 0 ∧ (gridV f p A = f ∨ (p ≤ gridV f p A ∧ gridV f p A - p ≤ A)) ∧
      (gridV f p A ≤ f ∨ gridV f p A ≤ A + p) ∧ cntT f p (gridV f p A) = cntT f p A + 1 ∧ cntT f p (gridV f p A - 1) = cntT f p A := by
  unfold IsT at hf
  by_cases hfA : f > A
  · have e1 : gridOk f p A = true := by simp [gridOk, hfA]; omega
    have e2 : gridV f p A = f := by simp only [gridV, e1]; simp [hfA]
    rw [e2]
    refine ⟨e1, hfA, by omega, by simp, .inl rfl, .inl (by omega), ?_, ?_⟩
    · unfold cntT
      rw [if_neg (by omega), if_pos hfA]
      simp
    · unfold cntT
      rw [if_pos (by omega), if_pos hfA]
  · obtain ⟨l1, l2, l3⟩ := last_bounds hp (show f ≤ A by omega)
    have e1 : gridOk f p A = true := by simp [gridOk]; omega
    have e2 : gridV f p A = lastT f p A + p := by simp only [gridV, e1]; simp [hfA]
    rw [e2]
    have hl := last_is f p A hp
    refine ⟨e1, by omega, by omega, ?_, .inr ⟨by omega, by omega⟩, .inr (by omega), ?_, ?_⟩
    · rw [hl, show f + p * ((A - f) / p) + p - f = p * ((A - f) / p + 1) by rw [Int.mul_add]; omega]
      exact Int.mul_emod_right _ _
    · unfold cntT
      rw [if_neg (by omega), if_neg hfA, div_is (x := lastT f p A + p - f) (q := (A - f) / p + 1) hp (by rw [Int.mul_add]; omega) (by rw [Int.mul_add]; omega)]
    · exact cnt_same hp (by omega) (by omega) (by omega)
theorem tickWalks_walk (f0 p0 a0 n : Int) (w : World) (wf : (Lit.int .u64 f0).wf = true) (wp : (Lit.int .u64 p0).wf = true) (wa : (Lit.int .u64 a0).wf = true) (wn : (Lit.int .i64 n).wf = true) :
    Calls Try.prog 3 #[.int .u64 f0, .int .u64 p0, .int .u64 a0, .int .i64 n] w fun e w' => e = .returned (.bool true) ∧ Below w.heap.size w w' := by
  obtain ⟨f, hf, f1, f2⟩ : ∃ f, bits .and .u64 f0 1048575 = f ∧ 0 ≤ f ∧ f < 1048576 := ⟨_, mask_u64 f0 20 _ 1048576 (bounds_u64 wf) (by decide) (by decide) (by decide) (by decide), by omega, by omega⟩
  obtain ⟨q, hq, q1, q2⟩ : ∃ q, bits .and .u64 p0 4095 = q ∧ 0 ≤ q ∧ q < 4096 := ⟨_, mask_u64 p0 12 _ 4096 (bounds_u64 wp) (by decide) (by decide) (by decide) (by decide), by omega, by omega⟩
  obtain ⟨a, ha, a1, a2⟩ : ∃ a, bits .and .u64 a0 2097151 = a ∧ 0 ≤ a ∧ a < 2097152 := ⟨_, mask_u64 a0 21 _ 2097152 (bounds_u64 wa) (by decide) (by decide) (by decide) (by decide), by omega, by omega⟩
  obtain ⟨X, hX, X0⟩ : ∃ X, bits .and .i64 n 255 = X ∧ 0 ≤ X := ⟨_, and255_i64 n, by omega⟩
  obtain ⟨k, hk, k1⟩ : ∃ k : Nat, X % 40 = k ∧ k < 40 := ⟨(X % 40).toNat, by omega, by omega⟩
  have hk' : IntKind.u64.wrap (k : Int) = k := by rw [IntKind.wrap_u64]; omega
  clear wf wp wa wn
  go_enter Try.func3, Try.ntmps3
  go_wp2_with fail
  simp only [hk]
  obtain ⟨p, hp⟩ : ∃ p, q + 1 = p := ⟨_, rfl⟩
  simp only [hp]
  have p1 : 0 < p := by omega
  have p2 : p ≤ 4096 := by omega
  clear hk hX hf hq ha hp q1 q2 hk'
  have hfT : IsT f := ⟨by omega, by omega⟩
  have hpT : IsT p := ⟨by omega, by omega⟩
  have haT : IsT a := ⟨by omega, by omega⟩
  go_loop [10, 11] (fun s i => ∃ (I : Nat) (A : Int), I ≤ k ∧ a ≤ A ∧ A ≤ 2097152 + 4096 * I ∧ cntT f p A - cntT f p a = I ∧ s = .int .u64 A ∧ i = .int .u64 I) (fun _ i => k - (intOf i).toNat)
  case atStart => exact ⟨0, a, by omega, by omega, by omega, by omega, rfl, rfl⟩
  case round =>
    obtain ⟨I, A, hI, hA1, hA2, hc, rfl, rfl⟩ := hrel
    by_cases h : I < k
    · have h' : (I : Int) < (k : Int) := by omega
      obtain ⟨s1, s2, s3, s4, s5, s6, s7, s8⟩ := step_num (f := f) (p := p) (A := A) hfT p1 (by omega) (by omega)
      have C1 := grid_any f p A
      have C2 := missed_any f p a (gridV f p A)
      have C3 := missed_any f p a (gridV f p A - 1)
      have m1 : missT f p a (gridV f p A) = I + 1 := by rw [miss_eq p1 (by omega)]; omega
      have m2 : missT f p a (gridV f p A - 1) = I := by rw [miss_eq p1 (by omega)]; omega
      rw [m1] at C2
      rw [m2] at C3
      rw [s1] at C1
      have hc2 : cntT f p (gridV f p A) - cntT f p a = ((I + 1 : Nat) : Int) := by omega
      have hAT : IsT A := ⟨by omega, by omega⟩
      clear m1 m2 s1 s7 s8 hc
      generalize gridV f p A = V at *
      have hVT : IsT V := ⟨by omega, by omega⟩
      have hV1 : IsT (V - 1) := ⟨by omega, by omega⟩
      have v2 : V ≤ 2097152 + 4096 * (I + 1) := by omega
      by_cases hv : V = f
      · clear s5 s6 s3
        subst hv
        go_wp2_with fail
        refine (C1 _ hfT hpT hAT).mono ?_
        rintro e w1 ⟨rfl, rfl⟩
        go_wp2_with fail
        refine (C2 _ hfT hpT haT hVT).mono ?_
        rintro e w1 ⟨rfl, rfl⟩
        go_wp2_with fail
        refine (C3 _ hfT hpT haT hV1).mono ?_
        rintro e w1 ⟨rfl, rfl⟩
        go_wp2_with fail
        go_round
        case rel => exact ⟨I + 1, V, by omega, by omega, by omega, hc2, rfl, by go_num⟩
        case measure => simp [intOf]; omega
      · have v3 : f < V := by omega
        have v4 : p ≤ V := by omega
        have v5 : V - p ≤ A := by omega
        clear s5 s6
        go_wp2_with fail
        refine (C1 _ hfT hpT hAT).mono ?_
        rintro e w1 ⟨rfl, rfl⟩
        go_wp2_with fail
        refine (C2 _ hfT hpT haT hVT).mono ?_
        rintro e w1 ⟨rfl, rfl⟩
        go_wp2_with fail
        refine (C3 _ hfT hpT haT hV1).mono ?_
        rintro e w1 ⟨rfl, rfl⟩
        go_wp2_with fail
        go_round
        case rel => exact ⟨I + 1, V, by omega, by omega, by omega, hc2, rfl, by go_num⟩
        case measure => simp [intOf]; omega
    · obtain rfl : I = k := by omega
      go_wp2_with fail
      refine (awake_any _).mono ?_
      rintro e w1 ⟨rfl, rfl⟩
      go_wp2_with fail
      go_ret
      exact ⟨rfl, Below.refl _ _⟩
end Go.Proofs.Ytkkefonapjcglab

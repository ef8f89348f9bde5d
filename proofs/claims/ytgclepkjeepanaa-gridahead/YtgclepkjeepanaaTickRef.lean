/- What the document's answer for ticks comes to: contracts. -/
import Derived.Test.YtgclepkjeepanaaTick
namespace Go.Proofs.Ytgclepkjeepanaa
open Go.RowKit
set_option linter.unusedVariables false

theorem top_div {a b : Int} (ha : 0 < a) : b > 18446744073709551615 / a ↔ 18446744073709551616 ≤ a * b := by
  have h := Int.lt_iff_add_one_le (a := 18446744073709551615 / a) (b := b)
  have h1 := Int.ediv_lt_iff_lt_mul (a := 18446744073709551615) (b := b) ha
  rw [Int.mul_comm b a] at h1
  omega
theorem ref_n {f p n : Int} (hf : IsT f) (hn : IsT n) (hp : 0 < p) (hfn : ¬ f > n) : 0 ≤ (n - f) / p ∧ (n - f) / p ≤ n - f := by
  unfold IsT at *
  exact ⟨Int.ediv_nonneg (by omega) (by omega), Int.ediv_le_self _ (by omega)⟩
theorem ref_ok {f p n : Int} (hf : IsT f) (hn : IsT n) (hp : 0 < p) (hfn : ¬ f > n) : (n - f) / p + 1 > (18446744073709551615 - f) / p ↔ ¬ lastT f p n + p < 18446744073709551616 := by
  have h1 := Int.ediv_lt_iff_lt_mul (a := 18446744073709551615 - f) (b := (n - f) / p + 1) hp
  rw [Int.add_mul, Int.mul_comm _ p] at h1
  rw [last_is f p n hp]
  omega
theorem refGrid_any (f p n : Int) (w : World) (hf : IsT f) (hp : IsT p) (hn : IsT n) :
    Calls Try.prog 19 #[.int .u64 f, .int .u64 p, .int .u64 n] w fun e w' => e = .returned (.tuple #[.int .u64 (gridV f p n), .bool (gridOk f p n)]) ∧ w' = w := by
  have hf' := hf
  have hn' := hn
  obtain ⟨f0, f1⟩ := hf
  obtain ⟨p0, p1⟩ := hp
  obtain ⟨n0, n1⟩ := hn
  by_cases hp : p = 0
  · have e1 : gridOk f p n = false := by simp [gridOk, hp]
    have e2 : gridV f p n = 0 := by simp [gridV, e1]
    rw [e1, e2]
    subst hp
    go_enter Try.func19, Try.ntmps19
    go_wp2
    go_ret2
    exact ⟨rfl, rfl⟩
  · by_cases hfn : f > n
    · have e1 : gridOk f p n = true := by simp [gridOk, hp, hfn]
      have e2 : gridV f p n = f := by simp only [gridV, e1]; simp [hfn]
      rw [e1, e2]
      go_enter Try.func19, Try.ntmps19
      go_wp2
      go_ret2
      exact ⟨rfl, rfl⟩
    · obtain ⟨q0, q1⟩ := ref_n hf' hn' (p := p) (by omega) hfn
      have hk := ref_ok hf' hn' (p := p) (by omega) hfn
      have hl := last_is f p n (by omega)
      have hc := Int.mul_comm p ((n - f) / p)
      have hm : 0 ≤ (n - f) / p * p := Int.mul_nonneg q0 p0
      have hs : ((n - f) / p + 1) * p = (n - f) / p * p + p := by rw [Int.add_mul, Int.one_mul]
      rw [hc] at hl
      clear hf' hn' hc
      obtain ⟨q, hqe⟩ : ∃ q, (n - f) / p = q := ⟨_, rfl⟩
      obtain ⟨M, hM⟩ : ∃ M, (18446744073709551615 - f) / p = M := ⟨_, rfl⟩
      obtain ⟨Z, hZ⟩ : ∃ Z, (q + 1) * p = Z := ⟨_, rfl⟩
      rw [hqe] at q0 q1 hk hl hm hs
      rw [hM] at hk
      rw [hZ] at hs
      by_cases ho : lastT f p n + p < 18446744073709551616
      · have e1 : gridOk f p n = true := by simp [gridOk, hp, ho]
        have e2 : gridV f p n = f + Z := by simp only [gridV, e1]; simp [hfn]; omega
        rw [e1, e2]
        clear e1 e2
        generalize lastT f p n = L at *
        have hk2 : ¬ M < q + 1 := by omega
        have z0 : 0 ≤ Z := by omega
        have z1 : f + Z < 18446744073709551616 := by omega
        have m1 : M ≤ 18446744073709551615 - f := by rw [← hM]; exact Int.ediv_le_self _ (by omega)
        have hz : (q + 1 == 0) = false := by simp; omega
        clear hk hl hm hs ho
        go_enter Try.func19, Try.ntmps19
        go_wp2
        go_ret2
        exact ⟨rfl, rfl⟩
      · have e1 : gridOk f p n = false := by simp [gridOk, ho, hfn]
        have e2 : gridV f p n = 0 := by simp [gridV, e1]
        rw [e1, e2]
        clear e1 e2
        have hk2 : M < q + 1 := by omega
        clear hk hl hm hs ho
        by_cases hq : q + 1 < 18446744073709551616
        · have hz : (q + 1 == 0) = false := by simp; omega
          go_enter Try.func19, Try.ntmps19
          go_wp2
          go_ret2
          exact ⟨rfl, rfl⟩
        · have hz : IntKind.u64.wrap (q + 1) = 0 := by rw [IntKind.wrap_u64]; omega
          go_enter Try.func19, Try.ntmps19
          go_wp2
          go_ret2
          exact ⟨rfl, rfl⟩
def upOk (f t : Int) : Bool := decide (f ≤ t)
def upV (f p t : Int) : Int := if f ≤ t then (t - f) / p else 0
theorem refUp_any (f p t : Int) (w : World) (hf : IsT f) (hp : IsT p) (hp0 : p ≠ 0) (ht : IsT t) :
    Calls Try.prog 20 #[.int .u64 f, .int .u64 p, .int .u64 t] w fun e w' => e = .returned (.tuple #[.int .u64 (upV f p t), .bool (upOk f t)]) ∧ w' = w := by
  obtain ⟨f0, f1⟩ := hf
  obtain ⟨p0, p1⟩ := hp
  obtain ⟨t0, t1⟩ := ht
  unfold upV upOk
  by_cases h : f ≤ t
  · rw [if_pos h, decide_eq_true h]
    go_enter Try.func20, Try.ntmps20
    go_wp2
    go_ret2
    exact ⟨rfl, rfl⟩
  · rw [if_neg h, decide_eq_false h]
    go_enter Try.func20, Try.ntmps20
    go_wp2
    go_ret2
    exact ⟨rfl, rfl⟩
theorem refMissed_any (f p a b : Int) (w : World) (hf : IsT f) (hp : IsT p) (ha : IsT a) (hb : IsT b) :
    Calls Try.prog 18 #[.int .u64 f, .int .u64 p, .int .u64 a, .int .u64 b] w fun e w' => e = .returned (.int .u64 (missT f p a b)) ∧ w' = w := by
  have hbd := miss_bound hf hp ha hb
  by_cases h0 : p = 0
  · have e : missT f p a b = 0 := by simp [missT, h0]
    rw [e]
    subst h0
    go_enter Try.func18, Try.ntmps18
    go_wp2_with fail
    go_ret
    exact ⟨rfl, rfl⟩
  · by_cases hab : b ≤ a
    · have e : missT f p a b = 0 := by simp [missT, hab]
      rw [e]
      go_enter Try.func18, Try.ntmps18
      go_wp2_with fail
      go_ret
      exact ⟨rfl, rfl⟩
    · have c1 := refUp_any f p b
      have c2 := refUp_any f p a
      by_cases hfb : f ≤ b
      · have o1 : upOk f b = true := by simp [upOk, hfb]
        rw [o1] at c1
        by_cases hfa : f ≤ a
        · have o2 : upOk f a = true := by simp [upOk, hfa]
          rw [o2] at c2
          have e : missT f p a b = upV f p b - upV f p a := by
            unfold missT cntT upV
            rw [if_neg (by omega), if_neg (by omega), if_neg (by omega), if_pos hfb, if_pos hfa]
            omega
          rw [e] at hbd ⊢
          have u1 : upV f p b < 18446744073709551616 := by
            unfold upV IsT at *
            rw [if_pos hfb]
            have := Int.ediv_le_self (a := b - f) p (by omega)
            omega
          have u0 : 0 ≤ upV f p a := by
            unfold upV IsT at *
            rw [if_pos hfa]
            exact Int.ediv_nonneg (by omega) (by omega)
          generalize upV f p b = X at *
          generalize upV f p a = Y at *
          obtain ⟨d0, d1⟩ := hbd
          go_enter Try.func18, Try.ntmps18
          go_wp2_with fail
          refine (c1 _ hf hp h0 hb).mono ?_
          rintro e w1 ⟨rfl, rfl⟩
          go_wp2_with fail
          refine (c2 _ hf hp h0 ha).mono ?_
          rintro e w1 ⟨rfl, rfl⟩
          go_wp2_with fail
          go_ret
          exact ⟨rfl, rfl⟩
        · have o2 : upOk f a = false := by simp [upOk]; omega
          rw [o2] at c2
          have e : missT f p a b = upV f p b + 1 := by
            unfold missT cntT upV
            rw [if_neg (by omega), if_neg (by omega), if_pos (by omega), if_pos hfb]
            omega
          rw [e] at hbd ⊢
          have u0 : 0 ≤ upV f p b := by
            unfold upV IsT at *
            rw [if_pos hfb]
            exact Int.ediv_nonneg (by omega) (by omega)
          have b1 := hb.2
          generalize upV f p b = X at *
          generalize upV f p a = Y at *
          obtain ⟨d0, d1⟩ := hbd
          go_enter Try.func18, Try.ntmps18
          go_wp2_with fail
          refine (c1 _ hf hp h0 hb).mono ?_
          rintro e w1 ⟨rfl, rfl⟩
          go_wp2_with fail
          refine (c2 _ hf hp h0 ha).mono ?_
          rintro e w1 ⟨rfl, rfl⟩
          go_wp2_with fail
          go_ret
          exact ⟨rfl, rfl⟩
      · have o1 : upOk f b = false := by simp [upOk]; omega
        rw [o1] at c1
        have e : missT f p a b = 0 := by
          unfold missT cntT
          rw [if_neg (by omega), if_pos (by omega), if_pos (by omega)]
          omega
        rw [e]
        generalize upV f p b = X at *
        go_enter Try.func18, Try.ntmps18
        go_wp2_with fail
        refine (c1 _ hf hp h0 hb).mono ?_
        rintro e w1 ⟨rfl, rfl⟩
        go_wp2_with fail
        go_ret
        exact ⟨rfl, rfl⟩
end Go.Proofs.Ytgclepkjeepanaa

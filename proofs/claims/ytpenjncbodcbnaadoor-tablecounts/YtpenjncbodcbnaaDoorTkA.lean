/- What the calls of package tick answer: contracts. -/
import Derived.Test.YtpenjncbodcbnaaDoorTickNum
import Derived.Test.YtpenjncbodcbnaaDoorChecked
import Derived.Laws.Externs
import Derived.Below
namespace Go.Proofs.YtpenjncbodcbnaaDoor.Tk
open Go.RowKit
set_option linter.unusedVariables false

theorem ret_int {k : IntKind} {a b : Int} (h : a = b) : Ending.returned (.int k a) = .returned (.int k b) := by rw [h]
theorem ret_bool {a b : Bool} (h : a = b) : Ending.returned (.bool a) = .returned (.bool b) := by rw [h]


theorem grid_any (f p n : Int) (w : World) (hf : IsT f) (hp : IsT p) (hn : IsT n) :
    Calls Tryd.prog 37 #[.int .u64 f, .int .u64 p, .int .u64 n] w fun e w' => e = .returned (.tuple #[.int .u64 (gridV f p n), .bool (gridOk f p n)]) ∧ w' = w := by
  obtain ⟨f0, f1⟩ := hf
  obtain ⟨p0, p1⟩ := hp
  obtain ⟨n0, n1⟩ := hn
  by_cases hp : p = 0
  · have e1 : gridOk f p n = false := by simp [gridOk, hp]
    have e2 : gridV f p n = 0 := by simp [gridV, e1]
    rw [e1, e2]
    subst hp
    go_enter Tryd.func37, Tryd.ntmps37
    go_wp2
    go_ret2
    exact ⟨rfl, rfl⟩
  · by_cases hfn : f > n
    · have e1 : gridOk f p n = true := by simp [gridOk, hp, hfn]
      have e2 : gridV f p n = f := by simp only [gridV, e1]; simp [hfn]
      rw [e1, e2]
      go_enter Tryd.func37, Tryd.ntmps37
      go_wp2
      go_ret2
      exact ⟨rfl, rfl⟩
    · have r0 : 0 ≤ (n - f) % p := Int.emod_nonneg _ hp
      have r1 : (n - f) % p ≤ n - f := by have := last_bounds (f := f) (p := p) (n := n) (by omega) (by omega); unfold lastT at this; omega
      by_cases ho : lastT f p n + p < 18446744073709551616
      · have e1 : gridOk f p n = true := by simp [gridOk, hp, ho]
        have e2 : gridV f p n = lastT f p n + p := by simp only [gridV, e1]; simp [hfn]
        rw [e1, e2]
        unfold lastT at *
        go_enter Tryd.func37, Tryd.ntmps37
        go_wp2
        go_ret2
        exact ⟨rfl, rfl⟩
      · have e1 : gridOk f p n = false := by simp [gridOk, ho, hfn]
        have e2 : gridV f p n = 0 := by simp [gridV, e1]
        rw [e1, e2]
        unfold lastT at *
        go_enter Tryd.func37, Tryd.ntmps37
        go_wp2
        go_ret2
        exact ⟨rfl, rfl⟩
theorem missed_any (f p a b : Int) (w : World) (hf : IsT f) (hp : IsT p) (ha : IsT a) (hb : IsT b) :
    Calls Tryd.prog 36 #[.int .u64 f, .int .u64 p, .int .u64 a, .int .u64 b] w fun e w' => e = .returned (.int .u64 (missT f p a b)) ∧ w' = w := by
  have hg := grid_any f p a
  have hbd := miss_bound hf hp ha hb
  have hvi := gridV_is hf hp ha
  by_cases h : gridOk f p a = true
  · by_cases hv : gridV f p a > b
    · have hm := miss_far hf hp ha hb h hv
      rw [hm]
      rw [h] at hg
      generalize gridV f p a = v at *
      go_enter Tryd.func36, Tryd.ntmps36
      go_wp2_with fail
      refine (hg _ hf hp ha).mono ?_
      rintro e w1 ⟨rfl, rfl⟩
      go_wp2_with fail
      go_ret
      exact ⟨rfl, rfl⟩
    · have hm := miss_some hf hp ha hb h hv
      obtain ⟨g1, g2, g3⟩ := grid_above hf hp ha h
      rw [hm] at hbd ⊢
      rw [h] at hg
      generalize gridV f p a = v at *
      have hbb := hb
      unfold IsT at hbb hvi
      obtain ⟨b0, b1⟩ := hbb
      obtain ⟨v0, v1⟩ := hvi
      obtain ⟨d0, d1⟩ := hbd
      have q0 : 0 ≤ (b - v) / p := Int.ediv_nonneg (by omega) (by omega)
      go_enter Tryd.func36, Tryd.ntmps36
      go_wp2_with fail
      refine (hg _ hf hp ha).mono ?_
      rintro e w1 ⟨rfl, rfl⟩
      go_wp2_with fail
      go_ret
      exact ⟨rfl, rfl⟩
  · have h' : gridOk f p a = false := by simpa using h
    rw [miss_not hf hp ha hb h']
    rw [h'] at hg
    generalize gridV f p a = v at *
    go_enter Tryd.func36, Tryd.ntmps36
    go_wp2_with fail
    refine (hg _ hf hp ha).mono ?_
    rintro e w1 ⟨rfl, rfl⟩
    go_wp2_with fail
    go_ret
    exact ⟨rfl, rfl⟩

theorem aw1 : gridV 5 3 9 = 11 := by decide
theorem aw2 : gridOk 5 3 9 = true := by decide
theorem aw3 : addT 18446744073709551615 1 = 18446744073709551615 := by decide
theorem aw4 : subT 3 5 = 0 := by decide
theorem aw5 : ofT (-1) = 0 := by decide
theorem aw6 : intT 9223372036854775808 = 9223372036854775807 := by decide
end Go.Proofs.YtpenjncbodcbnaaDoor.Tk

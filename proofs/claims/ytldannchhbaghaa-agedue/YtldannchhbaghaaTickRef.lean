/- What the document's answer for ticks comes to: contracts. -/
import Derived.Test.YtldannchhbaghaaTick
namespace Go.Proofs.Ytldannchhbaghaa
open Go.RowKit
set_option linter.unusedVariables false

theorem refAdd_any (a b : Int) (w : World) (ha : IsT a) (hb : IsT b) :
    Calls Try.prog 19 #[.int .u64 a, .int .u64 b] w fun e w' => e = .returned (.int .u64 (addT a b)) ∧ w' = w := by
  obtain ⟨a0, a1⟩ := ha
  obtain ⟨b0, b1⟩ := hb
  unfold addT
  by_cases h : a + b < 18446744073709551616
  · rw [if_pos h]
    have h2 : b ≤ 18446744073709551615 - a := by omega
    go_enter Try.func19, Try.ntmps19
    go_wp2
    go_ret
    exact ⟨rfl, rfl⟩
  · rw [if_neg h]
    have h2 : ¬ b ≤ 18446744073709551615 - a := by omega
    go_enter Try.func19, Try.ntmps19
    go_wp2
    go_ret
    exact ⟨rfl, rfl⟩
theorem top_div {a b : Int} (ha : 0 < a) : b > 18446744073709551615 / a ↔ 18446744073709551616 ≤ a * b := by
  have h := Int.lt_iff_add_one_le (a := 18446744073709551615 / a) (b := b)
  have h1 := Int.ediv_lt_iff_lt_mul (a := 18446744073709551615) (b := b) ha
  rw [Int.mul_comm b a] at h1
  omega
theorem ref_n {f p n : Int} (hf : IsT f) (hn : IsT n) (hp : 0 < p) (hfn : ¬ f > n) : 0 ≤ (n - f) / p ∧ (n - f) / p ≤ n - f := by
  unfold IsT at *
  exact ⟨Int.ediv_nonneg (by omega) (by omega), Int.ediv_le_self _ (by omega)⟩
theorem ref_ok {f p n : Int} (hf : IsT f) (hn : IsT n) (hp : 0 < p) (hfn : ¬ f > n) : (n - f) / p + 1 > (18446744073709551615 - f) / p ↔ ¬ lastT f p n + p < 18446744073709551616 := by
  have h1 := Int.ediv_lt_iff_lt_mul (a := 18446744073709551615 - f) (b := (n - f) / p + 1) hp
  rw [Int.add_mul, Int.mul_comm _ p] at h1
  rw [last_is f p n hp]
  omega
def upOk (f t : Int) : Bool := decide (f ≤ t)
def upV (f p t : Int) : Int := if f ≤ t then (t - f) / p else 0
end Go.Proofs.Ytldannchhbaghaa

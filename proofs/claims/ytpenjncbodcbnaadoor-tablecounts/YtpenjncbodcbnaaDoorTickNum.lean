/- Plain arithmetic of ticks and of rows of ticks. -/
import Derived.Test.YtpenjncbodcbnaaDoorNum
namespace Go.Proofs.YtpenjncbodcbnaaDoor
set_option linter.unusedVariables false

/-- A tick. -/
def IsT (x : Int) : Prop := 0 ≤ x ∧ x < 18446744073709551616
def addT (a b : Int) : Int := if a + b < 18446744073709551616 then a + b else 18446744073709551615
def mulT (a b : Int) : Int := if a * b < 18446744073709551616 then a * b else 18446744073709551615
def subT (a b : Int) : Int := if b > a then 0 else a - b
def ofT (n : Int) : Int := if n < 0 then 0 else n
def intT (t : Int) : Int := if t > 9223372036854775807 then 9223372036854775807 else t
/-- The last one of a row that is not above 'n'. -/
def lastT (f p n : Int) : Int := n - (n - f) % p
def gridOk (f p n : Int) : Bool := decide (p ≠ 0) && (decide (f > n) || decide (lastT f p n + p < 18446744073709551616))
def gridV (f p n : Int) : Int := if gridOk f p n then (if f > n then f else lastT f p n + p) else 0
/-- How many of a row are not above 't'. -/
def cntT (f p t : Int) : Int := if f > t then 0 else (t - f) / p + 1
def missT (f p a b : Int) : Int := if p = 0 ∨ b ≤ a then 0 else cntT f p b - cntT f p a

theorem addT_is {a b : Int} (ha : IsT a) (hb : IsT b) : IsT (addT a b) := by unfold IsT addT at *; split <;> omega
theorem subT_is {a b : Int} (ha : IsT a) (hb : IsT b) : IsT (subT a b) := by unfold IsT subT at *; split <;> omega
theorem mulT_is {a b : Int} (ha : IsT a) (hb : IsT b) : IsT (mulT a b) := by
  have := Int.mul_nonneg ha.1 hb.1
  unfold IsT mulT at *
  split <;> omega
theorem div_is {x p q : Int} (hp : 0 < p) (h1 : p * q ≤ x) (h2 : x < p * q + p) : x / p = q := by
  have a1 : q ≤ x / p := Int.le_ediv_of_mul_le hp (by rw [Int.mul_comm]; exact h1)
  have a2 : x / p < q + 1 := Int.ediv_lt_of_lt_mul hp (by rw [Int.add_mul, Int.mul_comm q p, Int.one_mul]; exact h2)
  omega
theorem div_parts (x p : Int) (hp : 0 < p) : p * (x / p) ≤ x ∧ x < p * (x / p) + p ∧ x - x % p = p * (x / p) := by
  have h := Int.mul_ediv_add_emod x p
  have h1 := Int.emod_nonneg x (by omega : p ≠ 0)
  have h2 := Int.emod_lt_of_pos x hp
  omega
theorem last_is (f p n : Int) (hp : 0 < p) : lastT f p n = f + p * ((n - f) / p) := by
  have h := div_parts (n - f) p hp
  unfold lastT
  omega
theorem last_bounds {f p n : Int} (hp : 0 < p) (hfn : f ≤ n) : f ≤ lastT f p n ∧ lastT f p n ≤ n ∧ n < lastT f p n + p := by
  have h := div_parts (n - f) p hp
  have h2 : 0 ≤ p * ((n - f) / p) := Int.mul_nonneg (by omega) (Int.ediv_nonneg (by omega) (by omega))
  rw [last_is f p n hp]
  omega
theorem grid_above {f p n : Int} (hf : IsT f) (hp : IsT p) (hn : IsT n) (h : gridOk f p n = true) : gridV f p n > n ∧ gridV f p n < 18446744073709551616 ∧ 0 < p := by
  have hp0 : p ≠ 0 := by intro h0; simp [gridOk, h0] at h
  unfold IsT at *
  have hp1 : 0 < p := by omega
  unfold gridV
  rw [if_pos h]
  by_cases hfn : f > n
  · rw [if_pos hfn]; omega
  · rw [if_neg hfn]
    have := last_bounds hp1 (show f ≤ n by omega)
    simp [gridOk, hp0, hfn] at h
    omega
theorem gridV_is {f p n : Int} (hf : IsT f) (hp : IsT p) (hn : IsT n) : IsT (gridV f p n) := by
  by_cases h : gridOk f p n = true
  · have := grid_above hf hp hn h
    unfold IsT at *
    omega
  · unfold gridV
    rw [if_neg h]
    exact ⟨by omega, by omega⟩
theorem cnt_same {f p a b : Int} (hp : 0 < p) (hfa : f ≤ a) (hab : a ≤ b) (hb : b < lastT f p a + p) : cntT f p b = cntT f p a := by
  have h := div_parts (a - f) p hp
  have hl := last_is f p a hp
  unfold cntT
  rw [if_neg (by omega), if_neg (by omega), div_is (x := b - f) (q := (a - f) / p) hp (by omega) (by omega)]
theorem miss_not {f p a b : Int} (hf : IsT f) (hp : IsT p) (ha : IsT a) (hb : IsT b) (h : gridOk f p a = false) : missT f p a b = 0 := by
  unfold missT
  by_cases h0 : p = 0 ∨ b ≤ a
  · rw [if_pos h0]
  · rw [if_neg h0]
    unfold IsT at *
    have hfa : ¬ f > a := by intro hfa; simp [gridOk, hfa] at h; omega
    have hl : ¬ lastT f p a + p < 18446744073709551616 := by intro hl; simp [gridOk, hl] at h; omega
    rw [cnt_same (f := f) (p := p) (a := a) (b := b) (by omega) (by omega) (by omega) (by omega)]
    omega
theorem miss_far {f p a b : Int} (hf : IsT f) (hp : IsT p) (ha : IsT a) (hb : IsT b) (h : gridOk f p a = true) (hv : gridV f p a > b) : missT f p a b = 0 := by
  unfold missT
  by_cases h0 : p = 0 ∨ b ≤ a
  · rw [if_pos h0]
  · rw [if_neg h0]
    unfold IsT at *
    unfold gridV at hv
    rw [if_pos h] at hv
    by_cases hfa : f > a
    · rw [if_pos hfa] at hv
      unfold cntT
      rw [if_pos (by omega), if_pos hfa]
      omega
    · rw [if_neg hfa] at hv
      rw [cnt_same (f := f) (p := p) (a := a) (b := b) (by omega) (by omega) (by omega) (by omega)]
      omega
theorem miss_some {f p a b : Int} (hf : IsT f) (hp : IsT p) (ha : IsT a) (hb : IsT b) (h : gridOk f p a = true) (hv : ¬ gridV f p a > b) : missT f p a b = (b - gridV f p a) / p + 1 := by
  obtain ⟨g1, g2, g3⟩ := grid_above hf hp ha h
  unfold missT
  rw [if_neg (by omega)]
  unfold IsT at *
  have hvv := hv
  unfold gridV at hv g1 ⊢
  rw [if_pos h] at hv g1 ⊢
  by_cases hfa : f > a
  · rw [if_pos hfa] at hv g1 ⊢
    unfold cntT
    rw [if_neg (by omega), if_pos hfa]
    omega
  · rw [if_neg hfa] at hv g1 ⊢
    unfold cntT
    rw [if_neg (by omega), if_neg hfa]
    rw [last_is f p a g3]
    have : b - (f + p * ((a - f) / p) + p) = (b - f) + (-((a - f) / p + 1)) * p := by
      rw [Int.neg_mul, Int.add_mul, Int.mul_comm p]; omega
    rw [this, Int.add_mul_ediv_right _ _ (by omega)]
    omega
theorem miss_bound {f p a b : Int} (hf : IsT f) (hp : IsT p) (ha : IsT a) (hb : IsT b) : 0 ≤ missT f p a b ∧ missT f p a b ≤ b := by
  by_cases h : gridOk f p a = true
  · by_cases hv : gridV f p a > b
    · rw [miss_far hf hp ha hb h hv]; exact ⟨by omega, hb.1⟩
    · rw [miss_some hf hp ha hb h hv]
      obtain ⟨g1, g2, g3⟩ := grid_above hf hp ha h
      unfold IsT at *
      have h1 : 0 ≤ (b - gridV f p a) / p := Int.ediv_nonneg (by omega) (by omega)
      have h2 : (b - gridV f p a) / p ≤ b - gridV f p a := Int.ediv_le_self _ (by omega)
      omega
  · rw [miss_not hf hp ha hb (by simpa using h)]; exact ⟨by omega, hb.1⟩
end Go.Proofs.YtpenjncbodcbnaaDoor

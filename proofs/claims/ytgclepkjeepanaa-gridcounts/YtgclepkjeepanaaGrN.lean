/- Plain arithmetic of the ticks ahead. -/
import Derived.Test.YtgclepkjeepanaaTickNum
namespace Go.Proofs.Ytgclepkjeepanaa
set_option linter.unusedVariables false

theorem cnt_grid {f p n : Int} (hf : IsT f) (hp : IsT p) (hn : IsT n) (h : gridOk f p n = true) : cntT f p (gridV f p n) = cntT f p n + 1 := by
  obtain ⟨g1, g2, g3⟩ := grid_above hf hp hn h
  unfold gridV
  rw [if_pos h]
  by_cases hfn : f > n
  · rw [if_pos hfn]
    unfold cntT
    rw [if_neg (by omega), if_pos hfn]
    simp
  · rw [if_neg hfn]
    have hl := last_is f p n g3
    obtain ⟨l1, l2, l3⟩ := last_bounds g3 (show f ≤ n by omega)
    unfold cntT
    rw [if_neg (by omega), if_neg hfn, div_is (x := lastT f p n + p - f) (q := (n - f) / p + 1) g3 (by rw [Int.mul_add]; omega) (by rw [Int.mul_add]; omega)]
def lastTick : Int := 18446744073709551615
theorem lastTick_is : IsT lastTick := by unfold IsT lastTick; decide
theorem miss_up {f p n : Int} (hf : IsT f) (hp : IsT p) (hn : IsT n) (h : gridOk f p n = true) : missT f p n lastTick = missT f p (gridV f p n) lastTick + 1 := by
  obtain ⟨g1, g2, g3⟩ := grid_above hf hp hn h
  have hc := cnt_grid hf hp hn h
  have e1 : missT f p n lastTick = cntT f p lastTick - cntT f p n := by unfold missT; rw [if_neg (by unfold lastTick; omega)]
  have e2 : missT f p (gridV f p n) lastTick = cntT f p lastTick - cntT f p (gridV f p n) := by
    unfold missT
    by_cases c : lastTick ≤ gridV f p n
    · have e : gridV f p n = lastTick := by unfold lastTick at *; omega
      rw [if_pos (.inr c), e]
      omega
    · rw [if_neg (by omega)]
  omega
theorem miss_no {f p n : Int} (hf : IsT f) (hp : IsT p) (hn : IsT n) (h : gridOk f p n = false) : missT f p n lastTick = 0 := miss_not hf hp hn lastTick_is h
/-- The tick so many steps along the row. -/
def gI (f p n : Int) : Nat → Int
  | 0 => n
  | i + 1 => gridV f p (gI f p n i)
theorem gI_is {f p n : Int} (hf : IsT f) (hp : IsT p) (hn : IsT n) : ∀ i, IsT (gI f p n i)
  | 0 => hn
  | i + 1 => gridV_is hf hp (gI_is hf hp hn i)
/-- How many are told. -/
def aN (f p n k : Int) : Nat := (min (ofT k) (min 100 (missT f p n lastTick))).toNat
theorem aN_is {f p n : Int} (hf : IsT f) (hp : IsT p) (hn : IsT n) (k : Int) : (aN f p n k : Int) ≤ 100 ∧ (aN f p n k : Int) ≤ ofT k ∧ (aN f p n k : Int) ≤ missT f p n lastTick ∧ ((aN f p n k : Int) = 100 ∨ (aN f p n k : Int) = ofT k ∨ (aN f p n k : Int) = missT f p n lastTick) := by
  have h1 := miss_bound hf hp hn lastTick_is
  have h2 : 0 ≤ ofT k := by unfold ofT; split <;> omega
  unfold aN
  generalize ofT k = A at *
  generalize missT f p n lastTick = M at *
  unfold lastTick at h1
  omega
/-- What is left behind i steps. -/
theorem gI_left {f p n : Int} (hf : IsT f) (hp : IsT p) (hn : IsT n) : ∀ i : Nat, (i : Int) ≤ missT f p n lastTick → missT f p (gI f p n i) lastTick = missT f p n lastTick - i ∧ ((i : Int) < missT f p n lastTick ↔ gridOk f p (gI f p n i) = true)
  | 0, h => by
    refine ⟨by simp [gI], ?_⟩
    have hb := (miss_bound hf hp hn lastTick_is).1
    constructor
    · intro c
      by_cases g : gridOk f p n = true
      · exact g
      · have := miss_no hf hp hn (by simpa using g); omega
    · intro g
      have := miss_up hf hp hn g
      have hb := (miss_bound hf hp (gridV_is hf hp hn) lastTick_is).1
      omega
  | i + 1, h => by
    obtain ⟨a1, a2⟩ := gI_left hf hp hn i (by omega)
    have hi := gI_is hf hp hn i
    have g := a2.1 (by omega)
    have u := miss_up hf hp hi g
    have e : missT f p (gI f p n (i + 1)) lastTick = missT f p n lastTick - ((i + 1 : Nat) : Int) := by
      show missT f p (gridV f p (gI f p n i)) lastTick = _
      omega
    refine ⟨e, ?_⟩
    have hi' := gI_is hf hp hn (i + 1)
    constructor
    · intro c
      by_cases g' : gridOk f p (gI f p n (i + 1)) = true
      · exact g'
      · have := miss_no hf hp hi' (by simpa using g'); omega
    · intro g'
      have := miss_up hf hp hi' g'
      have hb := (miss_bound hf hp (gridV_is hf hp hi') lastTick_is).1
      omega
/-- Of a tick of the row the next one is a period on. -/
theorem grid_on {f p v : Int} (hf : IsT f) (hp : 0 < p) (h1 : f ≤ v) (h2 : (v - f) % p = 0) (h3 : v + p < 18446744073709551616) : gridOk f p v = true ∧ gridV f p v = v + p := by
  have hl : lastT f p v = v := by unfold lastT; omega
  have e1 : gridOk f p v = true := by simp [gridOk, hl]; omega
  refine ⟨e1, ?_⟩
  unfold gridV
  rw [if_pos e1, if_neg (by omega), hl]
/-- What is the next one. -/
theorem grid_at {f p n : Int} (hf : IsT f) (hp : IsT p) (hn : IsT n) (h : gridOk f p n = true) : f ≤ gridV f p n ∧ (gridV f p n - f) % p = 0 ∧ (gridV f p n = f ∨ gridV f p n - p ≤ n) ∧ (n < f → gridV f p n = f) ∧ (f ≤ n → p ≤ gridV f p n - f) := by
  obtain ⟨g1, g2, g3⟩ := grid_above hf hp hn h
  unfold gridV
  rw [if_pos h]
  by_cases hfn : f > n
  · rw [if_pos hfn]
    refine ⟨Int.le_refl _, by simp, .inl rfl, fun _ => rfl, fun c => by omega⟩
  · rw [if_neg hfn]
    have hl := last_is f p n g3
    obtain ⟨l1, l2, l3⟩ := last_bounds g3 (show f ≤ n by omega)
    refine ⟨by omega, ?_, .inr (by omega), fun c => by omega, fun _ => by omega⟩
    rw [hl, show f + p * ((n - f) / p) + p - f = p * ((n - f) / p + 1) by rw [Int.mul_add]; omega]
    exact Int.mul_emod_right _ _
theorem gI_on {f p n : Int} (hf : IsT f) (hp : IsT p) (hn : IsT n) (h : gridOk f p n = true) : ∀ i : Nat, gridV f p n + i * p < 18446744073709551616 → gI f p n (i + 1) = gridV f p n + i * p
  | 0, _ => by simp [gI]
  | i + 1, c => by
    obtain ⟨g1, g2, g3⟩ := grid_above hf hp hn h
    have e : ((i + 1 : Nat) : Int) * p = i * p + p := by rw [Int.natCast_add, Int.add_mul]; simp
    rw [e] at c
    have ih := gI_on hf hp hn h i (by omega)
    obtain ⟨a1, a2, -⟩ := grid_at hf hp hn h
    have m0 : 0 ≤ (i : Int) * p := Int.mul_nonneg (by omega) (by omega)
    show gridV f p (gI f p n (i + 1)) = _
    rw [ih, e, (grid_on (v := gridV f p n + i * p) hf g3 (by omega) ?_ (by omega)).2]
    · omega
    · rw [show gridV f p n + i * p - f = (gridV f p n - f) + i * p by omega, Int.add_mul_emod_self_right]
      exact a2
end Go.Proofs.Ytgclepkjeepanaa

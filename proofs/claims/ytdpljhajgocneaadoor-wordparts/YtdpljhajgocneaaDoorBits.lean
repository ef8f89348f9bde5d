/- Plain arithmetic: some bits of a word, read and put, as numbers. -/
import Derived.Laws.BitsAllLaws
import Derived.Laws.Bits64
namespace Go.Proofs.YtdpljhajgocneaaDoor
open Go

/-- Are there such bits? -/
def validB (t n : Int) : Bool := decide (0 ≤ t) && decide (t ≤ 63) && decide (1 ≤ n)
/-- Is bit i one of them? -/
def inB (i t n : Int) : Bool := decide (0 ≤ t) && decide (t ≤ 63) && decide (1 ≤ n) && decide (t ≤ i) && decide (i - t < n)

/-- Ones at the bits. -/
def maskN (t n : Int) : Nat := if validB t n = true then (2 ^ (min n.toNat 64) - 1) * 2 ^ t.toNat % 2 ^ 64 else 0
def fieldN (w : Nat) (t n : Int) : Nat := if validB t n = true then (w &&& maskN t n) / 2 ^ t.toNat else 0
def withN (w : Nat) (t n : Int) (v : Nat) : Nat := if validB t n = true then (w &&& (2 ^ 64 - 1 - maskN t n)) ||| (v * 2 ^ t.toNat % 2 ^ 64 &&& maskN t n) else w

theorem maskN_lt (t n : Int) : maskN t n < 2 ^ 64 := by
  unfold maskN
  split
  · exact Nat.mod_lt _ (by decide)
  · decide

theorem maskN_bit (t n : Int) (i : Nat) : (maskN t n).testBit i = (decide (i < 64) && inB i t n) := by
  unfold maskN
  by_cases hv : validB t n = true
  · rw [if_pos hv]
    simp only [validB, Bool.and_eq_true, decide_eq_true_eq] at hv
    rw [Nat.testBit_mod_two_pow, ← Nat.shiftLeft_eq, Nat.testBit_shiftLeft, Nat.testBit_two_pow_sub_one, Bool.eq_iff_iff]
    simp [inB]
    omega
  · rw [if_neg hv]
    simp only [validB, Bool.and_eq_true, decide_eq_true_eq] at hv
    rw [Nat.zero_testBit, eq_comm, Bool.eq_false_iff]
    intro h
    simp [inB] at h
    omega

theorem inB_valid {i t n : Int} (h : inB i t n = true) : validB t n = true := by
  simp [inB, validB] at h ⊢; omega

theorem testBit_div (w t j : Nat) : (w / 2 ^ t).testBit j = w.testBit (t + j) := by
  rw [← Nat.shiftRight_eq_div_pow, Nat.testBit_shiftRight]

theorem fieldN_bit (w : Nat) (t n : Int) (j : Nat) : (fieldN w t n).testBit j = (validB t n && decide (t.toNat + j < 64) && decide ((j : Int) < n) && w.testBit (t.toNat + j)) := by
  unfold fieldN
  by_cases hv : validB t n = true
  · rw [if_pos hv, testBit_div, Nat.testBit_and, maskN_bit, hv]
    simp only [validB, Bool.and_eq_true, decide_eq_true_eq] at hv
    rw [Bool.eq_iff_iff]
    simp [inB]
    constructor
    · rintro ⟨h1, h2, h3⟩
      exact ⟨⟨by omega, by omega⟩, h1⟩
    · rintro ⟨⟨h1, h2⟩, h3⟩
      exact ⟨h3, by omega, by omega⟩
  · rw [if_neg hv]
    simp [hv]

theorem withN_bit (w : Nat) (hw : w < 2 ^ 64) (t n : Int) (v : Nat) (j : Nat) : (withN w t n v).testBit j = if j < 64 ∧ inB j t n = true then v.testBit (j - t.toNat) else w.testBit j := by
  unfold withN
  by_cases hv : validB t n = true
  · rw [if_pos hv]
    have hm := maskN_lt t n
    have hs : 2 ^ 64 - 1 - maskN t n = 2 ^ 64 - (maskN t n + 1) := by omega
    rw [hs, Nat.testBit_or, Nat.testBit_and, Nat.testBit_and, Nat.testBit_two_pow_sub_succ hm, maskN_bit, Nat.testBit_mod_two_pow, ← Nat.shiftLeft_eq, Nat.testBit_shiftLeft]
    by_cases hj : j < 64
    · by_cases hi : inB j t n = true
      · rw [if_pos ⟨hj, hi⟩]
        have h2 : t.toNat ≤ j := by simp [inB] at hi; omega
        simp [hj, hi, h2]
      · rw [if_neg (fun h => hi h.2)]
        simp [hj, hi]
    · rw [if_neg (fun h => hj h.1)]
      have : w.testBit j = false := Nat.testBit_lt_two_pow (Nat.lt_of_lt_of_le hw (Nat.pow_le_pow_right (by decide) (by omega)))
      simp [hj, this]
  · rw [if_neg hv, if_neg]
    intro h
    exact hv (inB_valid h.2)

theorem withN_lt (w : Nat) (hw : w < 2 ^ 64) (t n : Int) (v : Nat) : withN w t n v < 2 ^ 64 := by
  unfold withN
  split
  · refine Nat.or_lt_two_pow (Nat.lt_of_le_of_lt Nat.and_le_left hw) (Nat.lt_of_le_of_lt Nat.and_le_right (maskN_lt t n))
  · exact hw
theorem fieldN_lt (w : Nat) (hw : w < 2 ^ 64) (t n : Int) : fieldN w t n < 2 ^ 64 := by
  unfold fieldN
  split
  · exact Nat.lt_of_le_of_lt (Nat.div_le_self _ _) (Nat.lt_of_le_of_lt Nat.and_le_left hw)
  · decide

/-- The document's own way: bit by bit. -/
def fieldTo (w : Nat) (t n : Int) : Nat → Nat
  | 0 => 0
  | k + 1 => if inB k t n && w.testBit k then fieldTo w t n k ||| 2 ^ (k - t.toNat) else fieldTo w t n k
def withTo (w : Nat) (t n : Int) (v : Nat) : Nat → Nat
  | 0 => w
  | k + 1 => if inB k t n = true then (withTo w t n v k &&& (2 ^ 64 - 1 - 2 ^ k)) ||| ((v / 2 ^ (k - t.toNat)) &&& 1) * 2 ^ k % 2 ^ 64 else withTo w t n v k

theorem fieldTo_bit (w : Nat) (t n : Int) (k j : Nat) : (fieldTo w t n k).testBit j = (decide (t.toNat + j < k) && inB (t.toNat + j : Nat) t n && w.testBit (t.toNat + j)) := by
  induction k with
  | zero => simp [fieldTo]
  | succ k ih =>
    unfold fieldTo
    by_cases h : (inB k t n && w.testBit k) = true
    · rw [if_pos h, Nat.testBit_or, ih, Nat.testBit_two_pow]
      simp only [Bool.and_eq_true] at h
      have ht : t.toNat ≤ k := by have := h.1; simp [inB] at this; omega
      by_cases hk : t.toNat + j = k
      · rw [hk]
        simp [h.1, h.2, show k - t.toNat = j by omega]
      · have e1 : decide (k - t.toNat = j) = false := by simp; omega
        have e2 : decide (t.toNat + j < k + 1) = decide (t.toNat + j < k) := by rw [decide_eq_decide]; omega
        rw [e1, e2]; simp
    · rw [if_neg h, ih]
      by_cases hk : t.toNat + j = k
      · rw [hk]
        simp only [Bool.not_eq_true] at h
        simp [h]
      · have e2 : decide (t.toNat + j < k + 1) = decide (t.toNat + j < k) := by rw [decide_eq_decide]; omega
        rw [e2]

theorem fieldTo_eq (w : Nat) (t n : Int) : fieldTo w t n 64 = fieldN w t n := by
  apply Nat.eq_of_testBit_eq
  intro j
  rw [fieldTo_bit, fieldN_bit]
  rw [Bool.eq_iff_iff]
  simp [inB, validB]
  intro _
  omega

theorem withTo_lt (w : Nat) (hw : w < 2 ^ 64) (t n : Int) (v k : Nat) : withTo w t n v k < 2 ^ 64 := by
  induction k with
  | zero => exact hw
  | succ k ih =>
    unfold withTo
    split
    · exact Nat.or_lt_two_pow (Nat.lt_of_le_of_lt Nat.and_le_left ih) (Nat.mod_lt _ (by decide))
    · exact ih
theorem fieldTo_lt (w : Nat) (t n : Int) (k : Nat) (hk : k ≤ 64) : fieldTo w t n k < 2 ^ 64 := by
  induction k with
  | zero => show 0 < 2 ^ 64; decide
  | succ k ih =>
    unfold fieldTo
    split
    · exact Nat.or_lt_two_pow (ih (by omega)) (Nat.pow_lt_pow_right (by decide) (by omega))
    · exact ih (by omega)

theorem withTo_bit (w : Nat) (hw : w < 2 ^ 64) (t n : Int) (v k j : Nat) (hk : k ≤ 64) : (withTo w t n v k).testBit j = if j < k ∧ inB j t n = true then v.testBit (j - t.toNat) else w.testBit j := by
  induction k with
  | zero => simp [withTo]
  | succ k ih =>
    have ih := ih (by omega)
    unfold withTo
    by_cases h : inB k t n = true
    · rw [if_pos h]
      have hp : 2 ^ k < 2 ^ 64 := Nat.pow_lt_pow_right (by decide) (by omega)
      have hs : 2 ^ 64 - 1 - 2 ^ k = 2 ^ 64 - (2 ^ k + 1) := by omega
      have hlt := withTo_lt w hw t n v k
      rw [hs, Nat.testBit_or, Nat.testBit_and, Nat.testBit_two_pow_sub_succ hp, Nat.testBit_two_pow, Nat.testBit_mod_two_pow, ← Nat.shiftLeft_eq, Nat.testBit_shiftLeft, Nat.testBit_and, testBit_div, ih]
      by_cases hj : j = k
      · subst hj
        rw [if_neg (show ¬ (j < j ∧ inB j t n = true) from fun hh => absurd hh.1 (Nat.lt_irrefl _)), if_pos (show j < j + 1 ∧ inB j t n = true from ⟨Nat.lt_succ_self _, h⟩)]
        simp [show j < 64 by omega]
      · have e1 : (decide (k ≤ j) && (v.testBit (k - t.toNat + (j - k)) && Nat.testBit 1 (j - k))) = false := by
          by_cases hkj : k ≤ j
          · have h1 : Nat.testBit 1 (j - k) = false := by
              have : Nat.testBit (2 ^ 0) (j - k) = decide (0 = j - k) := Nat.testBit_two_pow
              rw [show (1 : Nat) = 2 ^ 0 from rfl, this]
              simp; omega
            simp [h1]
          · simp [hkj]
        rw [e1]
        have e2 : decide (k = j) = false := by simp; omega
        rw [e2]
        by_cases hj2 : j < 64
        · have e3 : (j < k + 1 ∧ inB j t n = true) ↔ (j < k ∧ inB j t n = true) := ⟨fun hh => ⟨by have := hh.1; omega, hh.2⟩, fun hh => ⟨by have := hh.1; omega, hh.2⟩⟩
          simp only [e3]
          simp [hj2]
        · have hwj : w.testBit j = false := Nat.testBit_lt_two_pow (Nat.lt_of_lt_of_le hw (Nat.pow_le_pow_right (by decide) (by omega)))
          have n1 : ¬ (j < k ∧ inB j t n = true) := fun hh => by have := hh.1; omega
          have n2 : ¬ (j < k + 1 ∧ inB j t n = true) := fun hh => by have := hh.1; omega
          rw [if_neg n1, if_neg n2, hwj]
          simp
    · rw [if_neg h, ih]
      have e3 : (j < k + 1 ∧ inB j t n = true) ↔ (j < k ∧ inB j t n = true) := by
        constructor
        · rintro ⟨h1, h2⟩
          refine ⟨?_, h2⟩
          by_cases hjk : j = k
          · subst hjk; exact absurd h2 h
          · omega
        · rintro ⟨h1, h2⟩; exact ⟨by omega, h2⟩
      simp only [e3]

theorem withTo_eq (w : Nat) (hw : w < 2 ^ 64) (t n : Int) (v : Nat) : withTo w t n v 64 = withN w t n v := by
  apply Nat.eq_of_testBit_eq
  intro j
  rw [withTo_bit w hw t n v 64 j (Nat.le_refl _), withN_bit w hw]

/-- What was read and is put again leaves the word. -/
theorem withN_again (w : Nat) (hw : w < 2 ^ 64) (t n : Int) (v : Nat) : withN (withN w t n v) t n (fieldN w t n) = w := by
  apply Nat.eq_of_testBit_eq
  intro j
  rw [withN_bit _ (withN_lt w hw t n v), withN_bit w hw]
  by_cases h : j < 64 ∧ inB j t n = true
  · rw [if_pos h, fieldN_bit]
    have hv := inB_valid h.2
    obtain ⟨h1, h2⟩ := h
    simp [inB] at h2
    have e : t.toNat + (j - t.toNat) = j := by omega
    rw [e, hv]
    simp [h1]
    intro _
    omega
  · rw [if_neg h, if_neg h]
end Go.Proofs.YtdpljhajgocneaaDoor

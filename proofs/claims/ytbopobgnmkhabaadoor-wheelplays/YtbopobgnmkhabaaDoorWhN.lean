/- Masks of slots: setting, clearing, the lowest bit. Plain: nothing of the program. -/
import Derived.Test.YtbopobgnmkhabaaDoorWhM
import Derived.Test.YtbopobgnmkhabaaDoorEntM
import Derived.Laws.BitsAllLaws
namespace Go.Proofs.YtbopobgnmkhabaaDoor
open Go.Lib
set_option linter.unusedVariables false

def clr (u m : Nat) : Nat := u &&& (18446744073709551615 - m)
theorem clr_lt (u m : Nat) (hu : u < B64) : clr u m < B64 := Nat.lt_of_le_of_lt Nat.and_le_left hu
theorem clr_bit (u m i : Nat) (hm : m < B64) (hi : i < 64) : (clr u m).testBit i = (u.testBit i && !m.testBit i) := by
  unfold clr
  rw [Nat.testBit_and, show 18446744073709551615 - m = 2 ^ 64 - (m + 1) by omega, Nat.testBit_two_pow_sub_succ hm]
  simp [hi]
theorem or_lt' (u s : Nat) (hu : u < B64) (hs : s < 64) : u ||| 2 ^ s < B64 := Nat.or_lt_two_pow (n := 64) hu (Nat.pow_lt_pow_right (by omega) hs)
theorem or_bit (u s i : Nat) : (u ||| 2 ^ s).testBit i = (u.testBit i || decide (s = i)) := by
  rw [Nat.testBit_or, Nat.testBit_two_pow]
theorem ctz_spec (x : Nat) (hx : x < B64) (h0 : x ≠ 0) : ctz 64 x < 64 ∧ x.testBit (ctz 64 x) = true ∧ (∀ i, i < ctz 64 x → x.testBit i = false) ∧ ∀ i, (x &&& (x - 1)).testBit i = (x.testBit i && decide (i ≠ ctz 64 x)) := by
  obtain ⟨m, h1, h2⟩ := ctzFrom_spec 64 x (by omega) hx
  have e : ctz 64 x = ctzFrom 64 x := by unfold ctz; rw [if_neg h0]
  rw [e]
  obtain ⟨q, hq⟩ : ∃ q, ctzFrom 64 x = q := ⟨_, rfl⟩
  rw [hq] at h1 h2 ⊢
  have b1 : ∀ i, i < q → x.testBit i = false := fun i hi => by
    rw [h1, Nat.testBit_two_pow_mul]; simp; omega
  have b2 : x.testBit q = true := by
    rw [h1, Nat.testBit_two_pow_mul]; simp
  refine ⟨h2, b2, b1, fun i => ?_⟩
  have hx1 : x - 1 = 2 ^ q * (2 * m) + (2 ^ q - 1) := by
    have : 0 < 2 ^ q := Nat.two_pow_pos _
    rw [h1, Nat.mul_add]; omega
  rw [Nat.testBit_and, hx1, Nat.testBit_two_pow_mul_add _ (by have : 0 < 2 ^ q := Nat.two_pow_pos _; omega)]
  by_cases c : i < q
  · rw [b1 i c]; simp
  · rw [if_neg c]
    by_cases c2 : i = q
    · subst c2; simp [Nat.testBit_zero]
    · have e1 : x.testBit i = (2 * m + 1).testBit (i - q) := by
        rw [h1, Nat.testBit_two_pow_mul]; simp; omega
      obtain ⟨k, hk⟩ : ∃ k, i - q = k + 1 := ⟨i - q - 1, by omega⟩
      rw [e1, hk, Nat.testBit_succ, Nat.testBit_succ, show 2 * m / 2 = m by omega, show (2 * m + 1) / 2 = m by omega]
      simp [c2]
theorem zero_of_bits {x : Nat} (hx : x < B64) (h : ∀ i, i < 64 → x.testBit i = false) : x = 0 := by
  apply Nat.eq_of_testBit_eq
  intro i
  rw [Nat.zero_testBit]
  by_cases c : i < 64
  · exact h i c
  · exact Nat.testBit_lt_two_pow (Nat.lt_of_lt_of_le hx (Nat.pow_le_pow_right (n := 2) (by omega) (show 64 ≤ i by omega)))
/-- What the slots of a mask have, up to one of them. -/
def takeL (c : Nat → List Ent) (m p : Nat) : List Ent := (List.range p).flatMap fun j => if m.testBit j then c j else []
theorem takeL_zero (c : Nat → List Ent) (m : Nat) : takeL c m 0 = [] := rfl
theorem takeL_succ (c : Nat → List Ent) (m p : Nat) : takeL c m (p + 1) = takeL c m p ++ if m.testBit p then c p else [] := by
  unfold takeL
  rw [List.range_succ, List.flatMap_append]
  simp
theorem takeL_skip (c : Nat → List Ent) (m : Nat) {p q : Nat} (h : p ≤ q) (hz : ∀ i, p ≤ i → i < q → m.testBit i = false) : takeL c m q = takeL c m p := by
  induction q with
  | zero => rw [show p = 0 by omega]
  | succ q ih =>
    by_cases c2 : p = q + 1
    · subst c2; rfl
    · rw [takeL_succ, hz q (by omega) (by omega), ih (by omega) (fun i h1 h2 => hz i h1 (by omega))]
      simp
theorem takeL_mem (c : Nat → List Ent) (m p : Nat) (x : Ent) : x ∈ takeL c m p ↔ ∃ j, j < p ∧ m.testBit j = true ∧ x ∈ c j := by
  unfold takeL
  rw [List.mem_flatMap]
  constructor
  · rintro ⟨j, hj, hx⟩
    by_cases c2 : m.testBit j = true
    · rw [if_pos c2] at hx; exact ⟨j, List.mem_range.1 hj, c2, hx⟩
    · rw [if_neg c2] at hx; cases hx
  · rintro ⟨j, hj, h, hx⟩
    exact ⟨j, List.mem_range.2 hj, by rw [if_pos h]; exact hx⟩
end Go.Proofs.YtbopobgnmkhabaaDoor

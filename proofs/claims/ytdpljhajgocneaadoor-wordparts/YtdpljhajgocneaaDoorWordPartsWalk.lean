/- The walk of 'WordParts'. -/
import Derived.Test.YtdpljhajgocneaaDoorFields
namespace Go.Proofs.YtdpljhajgocneaaDoor
open Go.RowKit
set_option linter.unusedVariables false

theorem and63_i64 (n : Int) : bits .and .i64 n 63 = n % 64 := by
  show IntKind.i64.wrap ((BitVec.ofInt 64 n &&& 63#64).toNat : Int) = n % 64
  rw [BitVec.toNat_and, BitVec.toNat_ofInt]
  have h7 : (63#64).toNat = 63 := rfl
  rw [h7, nat_mask6]
  simp only [IntKind.wrap, IntKind.bits, IntKind.signed]
  simp
  omega
theorem part_lo (x k : Nat) (hk : k < 64) : fieldN x 0 k = x % 2 ^ k := by
  apply Nat.eq_of_testBit_eq
  intro j
  rw [fieldN_bit, Nat.testBit_mod_two_pow, Bool.eq_iff_iff]
  simp [validB]
  intro _
  omega
theorem part_hi (x k : Nat) (hx : x < 18446744073709551616) (hk : k < 64) : fieldN x k (64 - k) = x / 2 ^ k := by
  apply Nat.eq_of_testBit_eq
  intro j
  rw [fieldN_bit, testBit_div]
  by_cases h : k + j < 64
  · rw [Bool.eq_iff_iff]
    simp [validB]
    intro _
    omega
  · have : x.testBit (k + j) = false := Nat.testBit_lt_two_pow (Nat.lt_of_lt_of_le hx (Nat.pow_le_pow_right (n := 2) (i := 64) (by decide) (by omega)))
    simp [this]
theorem part_join (x k : Nat) (hx : x < 18446744073709551616) (hk : k < 64) : withN (withN 0 0 k (x % 2 ^ k)) k (64 - k) (x / 2 ^ k) = x := by
  apply Nat.eq_of_testBit_eq
  intro j
  rw [withN_bit _ (withN_lt 0 (by decide) _ _ _), withN_bit 0 (by decide)]
  by_cases h1 : j < 64 ∧ inB j k (64 - k) = true
  · rw [if_pos h1, testBit_div]
    have := h1.2
    simp [inB] at this
    congr 1
    omega
  · rw [if_neg h1]
    by_cases h2 : j < 64 ∧ inB j 0 k = true
    · rw [if_pos h2, Nat.testBit_mod_two_pow]
      have := h2.2
      simp [inB] at this
      simp
      intro
      omega
    · rw [if_neg h2]
      by_cases h3 : j < 64
      · exfalso
        have n1 : ¬ inB j k (64 - k) = true := fun h => h1 ⟨h3, h⟩
        have n2 : ¬ inB j 0 k = true := fun h => h2 ⟨h3, h⟩
        simp [inB] at n1 n2
        omega
      · have : x.testBit j = false := Nat.testBit_lt_two_pow (Nat.lt_of_lt_of_le hx (Nat.pow_le_pow_right (n := 2) (i := 64) (by decide) (by omega)))
        simp [this]
theorem part_five (x : Nat) (hx : x < 18446744073709551616) : withN x 0 64 5 = 5 := by
  apply Nat.eq_of_testBit_eq
  intro j
  rw [withN_bit x hx]
  by_cases h1 : j < 64
  · rw [if_pos ⟨h1, by simp [inB]; omega⟩]
    simp
  · rw [if_neg (fun h => h1 h.1)]
    have e1 : x.testBit j = false := Nat.testBit_lt_two_pow (Nat.lt_of_lt_of_le hx (Nat.pow_le_pow_right (n := 2) (i := 64) (by decide) (by omega)))
    have e2 : Nat.testBit 5 j = false := Nat.testBit_lt_two_pow (Nat.lt_of_lt_of_le (show 5 < 2 ^ 64 by decide) (Nat.pow_le_pow_right (n := 2) (i := 64) (by decide) (by omega)))
    rw [e1, e2]
theorem part_or (x k : Nat) (hx : x < 18446744073709551616) : bits .or .u64 (IntKind.u64.wrap (((x / 2 ^ k : Nat) : Int) * 2 ^ k)) ((x % 2 ^ k : Nat) : Int) = (x : Int) := by
  have hp : 0 < 2 ^ k := Nat.pow_pos (by decide)
  have e1 := Nat.div_add_mod x (2 ^ k)
  have e2 : 2 ^ k * (x / 2 ^ k) ≤ x := by omega
  have e3 : IntKind.u64.wrap (((x / 2 ^ k : Nat) : Int) * 2 ^ k) = ((x / 2 ^ k * 2 ^ k : Nat) : Int) := by
    rw [IntKind.wrap_u64]
    have e4 : ((x / 2 ^ k : Nat) : Int) * 2 ^ k = ((x / 2 ^ k * 2 ^ k : Nat) : Int) := by simp
    rw [e4, Nat.mul_comm (x / 2 ^ k)]
    omega
  have e5 : x % 2 ^ k < 2 ^ k := Nat.mod_lt _ hp
  rw [e3, u64_or_nat _ _ (by rw [Nat.mul_comm]; omega) (by omega), nat_join k _ _ (by simp) e5, Nat.mul_comm]
  omega
set_option maxHeartbeats 400000 in
theorem wordParts_walk (x t : Int) (w : World) (wx : (Lit.int .u64 x).wf = true) (wt : (Lit.int .i64 t).wf = true) (hN : Named w ∧ 0 < w.heap.size) :
    Calls Tryd.prog 5 #[.int .u64 x, .int .i64 t] w fun e w' => e = .returned (.bool true) ∧ Below w.heap.size w w' := by
  obtain ⟨x1, x2⟩ := bounds_u64 wx
  obtain ⟨x, rfl⟩ := Int.eq_ofNat_of_zero_le x1
  obtain ⟨hN, h0⟩ := hN
  have hx : x < 18446744073709551616 := by omega
  obtain ⟨k, hk, hA⟩ : ∃ k : Nat, k < 64 ∧ bits .and .i64 t 63 = (k : Int) := ⟨(t % 64).toNat, by omega, by rw [and63_i64]; omega⟩
  have hlo := part_lo x k hk
  have hhi := part_hi x k hx hk
  have hor := part_or x k hx
  have hjo := part_join x k hx hk
  have hlt : ((x % 2 ^ k : Nat) : Int) / 2 ^ k = 0 := by
    rw [show ((2 : Int) ^ k) = ((2 ^ k : Nat) : Int) by simp, ← Int.natCast_ediv, Nat.div_eq_of_lt (Nat.mod_lt _ (Nat.pow_pos (by decide)))]
    rfl
  have llo : x % 2 ^ k < 18446744073709551616 := Nat.lt_of_le_of_lt (Nat.mod_le _ _) hx
  have lhi : x / 2 ^ k < 18446744073709551616 := Nat.lt_of_le_of_lt (Nat.div_le_self _ _) hx
  have hone : k = 0 → x / 2 ^ k = x := by intro h; subst h; simp
  have hwl : withN 0 0 k (x % 2 ^ k) < 18446744073709551616 := withN_lt 0 (by decide) _ _ _
  generalize x % 2 ^ k = lo at *
  generalize x / 2 ^ k = hi at *
  have HL : Hid (fieldN x 0 k = lo) := hlo
  have HH : Hid (fieldN x k (64 - k) = hi) := hhi
  have HJ : Hid (withN (withN 0 0 k lo) k (64 - k) hi = x) := hjo
  clear wx wt x1 x2 hlo hhi hjo
  by_cases hk0 : k = 0
  · have hh := hone hk0
    subst hh hk0
    clear hone
    go_enter Tryd.func5, Tryd.ntmps5
    go_wp2_with fail
    refine (field_any _ hx _ _ _).mono ?_
    rw [show fieldN hi 0 0 = lo from HL.out]
    rintro e w1 ⟨rfl, rfl⟩
    go_wp2_with fail
    refine (field_any _ hx _ _ _).mono ?_
    rw [show fieldN hi 0 64 = hi from HH.out]
    rintro e w1 ⟨rfl, rfl⟩
    go_wp2_with fail
    refine (with_any 0 _ (by decide) llo _ _ _).mono ?_
    rintro e w1 ⟨rfl, rfl⟩
    go_wp2_with fail
    refine (with_any _ _ hwl hx _ _ _).mono ?_
    rw [show withN (withN 0 0 ((0 : Nat) : Int) lo) 0 64 hi = hi from HJ.out]
    rintro e w1 ⟨rfl, rfl⟩
    go_wp2_with fail
    refine (with_any _ 5 hx (by decide) _ _ _).mono ?_
    rw [part_five _ hx]
    rintro e w1 ⟨rfl, rfl⟩
    go_wp2_with fail
    refine (awake_any _ hN).mono ?_
    rintro e w2 ⟨rfl, b2⟩
    go_wp2_with fail
    go_ret
    exact ⟨rfl, b2⟩
  · have hk1 : (0 : Int) < (k : Int) := by omega
    have hk2 : ((k : Int) == 0) = false := by simp; omega
    clear hone hk0
    go_enter Tryd.func5, Tryd.ntmps5
    go_wp2_with fail
    refine (field_any _ hx _ _ _).mono ?_
    rw [HL.out]
    rintro e w1 ⟨rfl, rfl⟩
    go_wp2_with fail
    refine (field_any _ hx _ _ _).mono ?_
    rw [HH.out]
    rintro e w1 ⟨rfl, rfl⟩
    go_wp2_with fail
    refine (with_any 0 _ (by decide) llo _ _ _).mono ?_
    rintro e w1 ⟨rfl, rfl⟩
    go_wp2_with fail
    refine (with_any _ _ hwl lhi _ _ _).mono ?_
    rw [HJ.out]
    rintro e w1 ⟨rfl, rfl⟩
    go_wp2_with fail
    refine (with_any _ 5 hx (by decide) _ _ _).mono ?_
    rw [part_five _ hx]
    rintro e w1 ⟨rfl, rfl⟩
    go_wp2_with fail
    refine (awake_any _ hN).mono ?_
    rintro e w2 ⟨rfl, b2⟩
    go_wp2_with fail
    go_ret
    exact ⟨rfl, b2⟩
end Go.Proofs.YtdpljhajgocneaaDoor

/- A whole number under a mask of low bits. -/
import Derived.Laws.BitsAllLaws
import Derived.Laws.Bits64
import Derived.WalkKit
namespace Go.Proofs.YtpenojbfeocjaaaDoor
open Go
/-- 'x & m' of an int, m = 2^k - 1 (k at most 32). -/
theorem mask_i64 (n : Int) (k : Nat) (m K : Int) (hk : k ≤ 32) (hm : m = 2 ^ k - 1) (hK : K = 2 ^ k) : bits .and .i64 n m = n % K := by
  subst hm hK
  show IntKind.i64.wrap ((BitVec.ofInt 64 n &&& BitVec.ofInt 64 ((2 : Int) ^ k - 1)).toNat : Int) = n % 2 ^ k
  have hp : (2 : Nat) ^ k ≤ 2 ^ 32 := Nat.pow_le_pow_right (by decide) hk
  have h1 : 0 < (2 : Nat) ^ k := Nat.two_pow_pos k
  have hc : ((2 : Nat) ^ k : Nat) = ((2 : Int) ^ k) := by simp
  have hd : (2 : Nat) ^ k ∣ 2 ^ 64 := Nat.pow_dvd_pow 2 (by omega)
  obtain ⟨c, hcd⟩ := hd
  rw [BitVec.toNat_and, BitVec.toNat_ofInt, BitVec.toNat_ofInt]
  have e : (((2 : Int) ^ k - 1) % (2 ^ 64 : Nat)).toNat = 2 ^ k - 1 := by
    rw [← hc]
    generalize (2 : Nat) ^ k = p at *
    omega
  rw [e, Nat.and_two_pow_sub_one_eq_mod]
  have e2 : (((n % (2 ^ 64 : Nat)).toNat % 2 ^ k : Nat) : Int) = n % 2 ^ k := by
    rw [Int.natCast_emod, Int.toNat_of_nonneg (Int.emod_nonneg _ (by decide)), hc, ← hc]
    exact Int.emod_emod_of_dvd n ⟨c, by exact_mod_cast hcd⟩
  rw [e2]
  have b0 : 0 ≤ n % 2 ^ k := Int.emod_nonneg _ (by omega)
  have b1 : n % 2 ^ k < 2 ^ k := Int.emod_lt_of_pos _ (by omega)
  simp only [IntKind.wrap, IntKind.bits, IntKind.signed]
  simp
  generalize n % 2 ^ k = q at *
  rw [← hc] at b1
  generalize (2 : Nat) ^ k = p at *
  omega
end Go.Proofs.YtpenojbfeocjaaaDoor

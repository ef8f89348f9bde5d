/- Plain arithmetic of words: what bits come to as numbers. -/
import Derived.Laws.BitsAllLaws
import Derived.Laws.Bits64
import Derived.WalkKit
namespace Go.Proofs.YtpenjncbodcbnaaDoor
open Go

theorem and7_i64 (n : Int) : bits .and .i64 n 7 = n % 8 := by
  show IntKind.i64.wrap ((BitVec.ofInt 64 n &&& 7#64).toNat : Int) = n % 8
  rw [BitVec.toNat_and, BitVec.toNat_ofInt]
  have h7 : (7#64).toNat = 7 := rfl
  rw [h7, nat_mask3]
  simp only [IntKind.wrap, IntKind.bits, IntKind.signed]
  simp
  omega

theorem and7_u64 (n : Int) (h0 : 0 ≤ n) (h1 : n < 18446744073709551616) : bits .and .u64 n 7 = n % 8 := by
  rw [u64_and n 7 h0 h1 (by decide) (by decide)]
  show ((n.toNat &&& 7 : Nat) : Int) = _
  rw [nat_mask3]
  omega

theorem and61_u64 (n : Int) (h0 : 0 ≤ n) (h1 : n < 18446744073709551616) : bits .and .u64 n 2305843009213693951 = n % 2305843009213693952 := by
  rw [u64_and n _ h0 h1 (by decide) (by decide)]
  have e : (2305843009213693951 : Int).toNat = 2 ^ 61 - 1 := by decide
  rw [e, Nat.and_two_pow_sub_one_eq_mod]
  have e2 : (2 : Nat) ^ 61 = 2305843009213693952 := by decide
  rw [e2]
  omega

theorem bounds_u64 {x : Int} (h : (Lit.int .u64 x).wf = true) : 0 ≤ x ∧ x < 18446744073709551616 := by
  simp [Lit.wf, IntKind.min, IntKind.max, IntKind.bits, IntKind.signed] at h
  omega
theorem bounds_i64 {x : Int} (h : (Lit.int .i64 x).wf = true) : -9223372036854775808 ≤ x ∧ x ≤ 9223372036854775807 := by
  simp [Lit.wf, IntKind.min, IntKind.max, IntKind.bits, IntKind.signed] at h
  omega

/-- A state and a version in one. -/
def packI (s v : Int) : Int := v % 2305843009213693952 * 8 + s % 8

theorem pack_or (s v : Int) :
    bits .or .u64 (IntKind.u64.wrap (v * 8)) (bits .and .u64 (IntKind.u64.wrap s) 7) = packI s v := by
  rw [IntKind.wrap_u64, IntKind.wrap_u64, and7_u64 _ (by omega) (by omega), u64_or _ _ (by omega) (by omega) (by omega) (by omega)]
  rw [nat_join 3 _ _ (by show _ % 8 = 0; omega) (by show _ < 8; omega)]
  unfold packI
  omega

theorem pack_or' (s v : Int) :
    bits .or .u64 (bits .and .u64 (IntKind.u64.wrap s) 7) (IntKind.u64.wrap (v * 8)) = packI s v := by
  rw [← pack_or s v]
  rw [IntKind.wrap_u64, IntKind.wrap_u64, and7_u64 _ (by omega) (by omega), u64_or _ _ (by omega) (by omega) (by omega) (by omega), u64_or _ _ (by omega) (by omega) (by omega) (by omega), Nat.or_comm]

theorem packI_bound (s v : Int) : 0 ≤ packI s v ∧ packI s v < 18446744073709551616 := by
  unfold packI; omega
theorem packI_state (s v : Int) : packI s v % 8 = s % 8 := by unfold packI; omega
theorem packI_version (s v : Int) : packI s v / 8 = v % 2305843009213693952 := by unfold packI; omega
theorem packI_again (w : Int) (h0 : 0 ≤ w) (h1 : w < 18446744073709551616) : packI (w % 8) (w / 8) = w := by unfold packI; omega
theorem packI_inj (a b x y : Int) : packI a x = packI b y ↔ a % 8 = b % 8 ∧ x % 2305843009213693952 = y % 2305843009213693952 := by unfold packI; omega
theorem pack21 : packI 2 1 = 10 := by unfold packI; omega
end Go.Proofs.YtpenjncbodcbnaaDoor

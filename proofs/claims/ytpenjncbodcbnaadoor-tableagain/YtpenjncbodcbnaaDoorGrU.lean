/- A number under a mask of low bits. -/
import Derived.Test.YtpenjncbodcbnaaDoorTickNum
import Derived.Laws.BitsAllLaws
import Derived.Laws.Bits64
namespace Go.Proofs.YtpenjncbodcbnaaDoor
open Go
theorem mask_u64 (n : Int) (k : Nat) (m K : Int) (hn : IsT n) (hm : m.toNat = 2 ^ k - 1) (hm0 : 0 ≤ m) (hm1 : m < 18446744073709551616) (hK : ((2 ^ k : Nat) : Int) = K) : bits .and .u64 n m = n % K := by
  rw [u64_and n m hn.1 hn.2 hm0 hm1, hm, Nat.and_two_pow_sub_one_eq_mod]
  rw [← hK, Int.natCast_emod, Int.toNat_of_nonneg hn.1]
end Go.Proofs.YtpenjncbodcbnaaDoor

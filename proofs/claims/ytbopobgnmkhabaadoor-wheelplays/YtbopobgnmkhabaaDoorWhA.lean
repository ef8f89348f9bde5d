/- The bits that wheel counts: math/bits.TrailingZeros64; wheel.slotOf. -/
import Derived.Test.YtbopobgnmkhabaaDoorProg
import Derived.Test.YtbopobgnmkhabaaDoorWhM
import Derived.WalkKit
import Derived.Laws.Bits64
import Derived.Laws.Bits64b
import Derived.Shelf.Spec.TrailingZeros
namespace Go.Proofs.YtbopobgnmkhabaaDoor
open Go.RowKit Go.Lib
set_option linter.unusedVariables false

theorem ret_i64 {a b : Int} (h : a = b) : Ending.returned (.int .i64 a) = Ending.returned (.int .i64 b) := by rw [h]
theorem slotOf_any (t l : Nat) (ht : t < B64) (hl : l ≤ 10) (w : World) :
    Calls Tryd.prog 48 #[.int .u64 t, .int .i64 l] w fun e w' => e = .returned (.int .i64 (slt t l : Nat)) ∧ w' = w := by
  have hB : B64 = 18446744073709551616 := rfl
  have key : wrap64 (bits BinOp.and IntKind.u64 (↑t / 2 ^ (l * 6)) 63) = ((slt t l : Nat) : Int) := by
    have e1 : ((t : Int) / 2 ^ (l * 6)) = ((t / 2 ^ (l * 6) : Nat) : Int) := by push_cast; rfl
    have h1 : t / 2 ^ (l * 6) ≤ t := Nat.div_le_self _ _
    rw [e1, show (63 : Int) = ((63 : Nat) : Int) from rfl, bits_and_u64_nat _ _ (by omega) (by omega), show (63 : Nat) = 2 ^ 6 - 1 from rfl, Nat.and_two_pow_sub_one_eq_mod]
    unfold slt
    rw [show (64 : Nat) ^ l = 2 ^ (l * 6) by rw [Nat.mul_comm, Nat.pow_mul]]
    have : t / 2 ^ (l * 6) % 2 ^ 6 < 64 := Nat.mod_lt _ (by omega)
    unfold wrap64
    omega
  go_enter Tryd.func48, Tryd.ntmps48
  go_wp2
  go_ret
  exact ⟨rfl, rfl⟩

/-- The table of bits. -/
abbrev TabW (w : World) : Prop := TabAt 0 Lib.deBruijn64tab w
theorem tz_any (x : Nat) (hx : x < B64) (h0 : x ≠ 0) (w : World) (hT : TabW w) :
    Calls Tryd.prog 51 #[.int .u64 x] w fun e w' => e = .returned (.int .i64 (ctz 64 x : Nat)) ∧ w' = w := by
  obtain ⟨hlow, hk⟩ := Lib.lowest_bit 64 x h0 hx
  obtain ⟨hi, htab⟩ := Lib.deBruijn64_at _ hk
  have hcell := hT _ hi
  rw [htab] at hcell
  have key := tz64_key x _ hx h0 hlow
  obtain ⟨k, hk'⟩ : ∃ k, ctz 64 x = k := ⟨_, rfl⟩
  rw [hk'] at hk hcell key hi ⊢
  obtain ⟨idx, hidx⟩ : ∃ i, 2 ^ k * 285870213051353865 % 18446744073709551616 / 288230376151711744 = i := ⟨_, rfl⟩
  simp only [hidx] at key hcell hi
  have hx0 : ((x : Int) == 0) = false := by simp; omega
  clear hT htab hlow hidx hk' h0 hx
  go_enter Tryd.func51, Tryd.ntmps51
  go_wp2_with (simp only [key])
  go_ret
  exact ⟨rfl, rfl⟩
end Go.Proofs.YtbopobgnmkhabaaDoor

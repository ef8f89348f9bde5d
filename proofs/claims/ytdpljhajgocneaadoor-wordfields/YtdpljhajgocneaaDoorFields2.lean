/- What the document's Field and With answer: contracts. -/
import Derived.Test.YtdpljhajgocneaaDoorFields
import Derived.Deep.QuietTactic
import Derived.BigQuiet
import Derived.WalkSmall
namespace Go.Proofs.YtdpljhajgocneaaDoor
open Go.RowKit
set_option linter.unusedVariables false

theorem bit_any (i t n : Int) (h0 : 0 ≤ i) (h1 : i ≤ 63) (w : World) : Calls Tryd.prog 31 #[.int .i64 i, .int .i64 t, .int .i64 n] w fun e w' => e = .returned (.bool (inB i t n)) ∧ w' = w := by
  by_cases h2 : 0 ≤ t
  · by_cases h3 : t ≤ 63
    · by_cases h4 : 1 ≤ n
      · by_cases h5 : t ≤ i
        · go_enter Tryd.func31, Tryd.ntmps31
          go_wp2
          go_ret
          exact ⟨ret_bool (by simp [inB, *]), rfl⟩
        · go_enter Tryd.func31, Tryd.ntmps31
          go_wp2
          go_ret
          exact ⟨ret_bool (by simp [inB]; omega), rfl⟩
      · go_enter Tryd.func31, Tryd.ntmps31
        go_wp2
        go_ret
        exact ⟨ret_bool (by simp [inB]; omega), rfl⟩
    · go_enter Tryd.func31, Tryd.ntmps31
      go_wp2
      go_ret
      exact ⟨ret_bool (by simp [inB]; omega), rfl⟩
  · go_enter Tryd.func31, Tryd.ntmps31
    go_wp2
    go_ret
    exact ⟨ret_bool (by simp [inB]; omega), rfl⟩

theorem bit_num (x k : Nat) (hx : x < 18446744073709551616) : bits .and .u64 ((x : Int) / 2 ^ k) 1 = ((x.testBit k).toNat : Nat) := by
  have e : ((x : Int) / 2 ^ k) = ((x / 2 ^ k : Nat) : Int) := by simp
  have hlt : x / 2 ^ k < 18446744073709551616 := Nat.lt_of_le_of_lt (Nat.div_le_self _ _) hx
  rw [e, show (1 : Int) = ((1 : Nat) : Int) from rfl, u64_and_nat _ _ hlt (by decide), Nat.and_one_is_mod, Nat.toNat_testBit]
theorem pow_num (k : Nat) (t : Int) (hk : k < 64) (b1 : 0 ≤ t) (b2 : t ≤ k) : IntKind.u64.wrap (2 ^ ((k : Int) - t).toNat) = ((2 ^ (k - t.toNat) : Nat) : Int) := by
  have e : ((k : Int) - t).toNat = k - t.toNat := by omega
  have hlt : 2 ^ (k - t.toNat) < 2 ^ 64 := Nat.pow_lt_pow_right (by decide) (by omega)
  rw [e, IntKind.wrap_u64, show ((2 : Int) ^ (k - t.toNat)) = ((2 ^ (k - t.toNat) : Nat) : Int) by simp]
  generalize (2 : Nat) ^ (k - t.toNat) = p at *
  omega
theorem or_num (F k : Nat) (t : Int) (hF : F < 2 ^ 64) (hk : k < 64) (b1 : 0 ≤ t) (b2 : t ≤ k) : bits .or .u64 (F : Int) (IntKind.u64.wrap (2 ^ ((k : Int) - t).toNat)) = ((F ||| 2 ^ (k - t.toNat) : Nat) : Int) := by
  rw [pow_num k t hk b1 b2, u64_or_nat _ _ hF (show 2 ^ (k - t.toNat) < 2 ^ 64 from Nat.pow_lt_pow_right (by decide) (by omega))]
set_option maxHeartbeats 400000 in
theorem rfield_any (x : Nat) (hx : x < 18446744073709551616) (t n : Int) (w : World) : Calls Tryd.prog 27 #[.int .u64 x, .int .i64 t, .int .i64 n] w fun e w' => e = .returned (.int .u64 (fieldN x t n : Nat)) ∧ w' = w := by
  go_enter Tryd.func27, Tryd.ntmps27
  go_wp2_with fail
  go_loop [7, 8] (fun v i => ∃ k : Nat, k ≤ 64 ∧ i = .int .i64 k ∧ v = .int .u64 (fieldTo x t n k : Nat)) (fun _ i => 64 - (intOf i).toNat)
  case atStart => exact ⟨0, by omega, rfl, rfl⟩
  case round =>
    obtain ⟨k, hk, rfl, rfl⟩ := hrel
    by_cases hlt : k < 64
    · go_wp2_with fail
      refine (bit_any _ _ _ (by omega) (by omega) _).mono ?_
      rintro e w1 ⟨rfl, rfl⟩
      have hbn := bit_num x k hx
      cases hi : inB k t n
      · have hst : fieldTo x t n (k + 1) = fieldTo x t n k := by rw [fieldTo, hi]; simp
        have HS : Hid (fieldTo x t n (k + 1) = fieldTo x t n k) := hst
        clear hst hbn
        go_wp2_with fail
        go_round
        case rel => exact ⟨k + 1, by omega, by go_num, by rw [HS.out]⟩
        case measure => simp [intOf]; omega
      · obtain ⟨b1, b2⟩ : 0 ≤ t ∧ t ≤ k := by simp [inB] at hi; omega
        cases hx1 : x.testBit k
        · have hst : fieldTo x t n (k + 1) = fieldTo x t n k := by rw [fieldTo, hi, hx1]; simp
          have HS : Hid (fieldTo x t n (k + 1) = fieldTo x t n k) := hst
          rw [hx1] at hbn
          clear hst hx1
          go_wp2_with fail
          go_round
          case rel => exact ⟨k + 1, by omega, by go_num, by rw [HS.out]⟩
          case measure => simp [intOf]; omega
        · have HS : Hid (fieldTo x t n (k + 1) = fieldTo x t n k ||| 2 ^ (k - t.toNat)) := by
            show fieldTo x t n (k + 1) = _
            rw [fieldTo, hi, hx1]; simp
          have hfl := fieldTo_lt x t n k hk
          rw [hx1] at hbn
          clear hx1
          go_wp2_with fail
          go_round
          case rel => exact ⟨k + 1, by omega, by go_num, by rw [HS.out, or_num _ k t hfl hlt b1 b2]⟩
          case measure => simp [intOf]; omega
    · obtain rfl : k = 64 := by omega
      go_wp2_with fail
      go_ret
      exact ⟨ret_int (by rw [fieldTo_eq]), rfl⟩
theorem put_num (F v k : Nat) (t : Int) (hF : F < 2 ^ 64) (hv : v < 2 ^ 64) (hk : k < 64) (b1 : 0 ≤ t) (b2 : t ≤ k) :
    bits .or .u64 (bits .andNot .u64 (F : Int) (IntKind.u64.wrap (2 ^ k))) (IntKind.u64.wrap (bits .and .u64 ((v : Int) / 2 ^ ((k : Int) - t).toNat) 1 * 2 ^ k)) =
    (((F &&& (2 ^ 64 - 1 - 2 ^ k)) ||| ((v / 2 ^ (k - t.toNat)) &&& 1) * 2 ^ k % 2 ^ 64 : Nat) : Int) := by
  have e0 := pow_num k 0 hk (by omega) (by omega)
  simp only [Int.sub_zero, Int.toNat_natCast, Int.toNat_zero, Nat.sub_zero] at e0
  have hp : 2 ^ k < 2 ^ 64 := Nat.pow_lt_pow_right (by decide) (by omega)
  have e1 : ((k : Int) - t).toNat = k - t.toNat := by omega
  have e2 : ((v : Int) / 2 ^ (k - t.toNat)) = ((v / 2 ^ (k - t.toNat) : Nat) : Int) := by simp
  have hlt : v / 2 ^ (k - t.toNat) < 2 ^ 64 := Nat.lt_of_le_of_lt (Nat.div_le_self _ _) hv
  rw [e0, e1, e2, show (1 : Int) = ((1 : Nat) : Int) from rfl, u64_and_nat _ _ hlt (by decide), u64_andNot_nat _ _ hF hp, IntKind.wrap_u64]
  have e3 : (((v / 2 ^ (k - t.toNat) &&& 1 : Nat) : Int) * 2 ^ k) % 18446744073709551616 = (((v / 2 ^ (k - t.toNat) &&& 1) * 2 ^ k % 18446744073709551616 : Nat) : Int) := by simp
  rw [e3, u64_or_nat _ _ (Nat.lt_of_le_of_lt Nat.and_le_left hF) (Nat.mod_lt _ (by decide))]
set_option maxHeartbeats 400000 in
theorem rwith_any (x v : Nat) (hx : x < 18446744073709551616) (hv : v < 18446744073709551616) (t n : Int) (w : World) : Calls Tryd.prog 28 #[.int .u64 x, .int .i64 t, .int .i64 n, .int .u64 v] w fun e w' => e = .returned (.int .u64 (withN x t n v : Nat)) ∧ Below w.heap.size w w' := by
  go_enter Tryd.func28, Tryd.ntmps28
  go_wp2_with fail
  go_loopw [0, 9] (fun y i wr => ∃ k : Nat, k ≤ 64 ∧ i = .int .i64 k ∧ y = .int .u64 (withTo x t n v k : Nat) ∧ Below w.heap.size w wr) (fun _ i _ => 64 - (intOf i).toNat)
  case atStart => exact ⟨0, by omega, rfl, rfl, Below.refl _ _⟩
  case round =>
    obtain ⟨k, hk, rfl, rfl, hb⟩ := hrel
    by_cases hlt : k < 64
    · go_wp2_with fail
      refine (bit_any _ _ _ (by omega) (by omega) _).mono ?_
      rintro e w1 ⟨rfl, rfl⟩
      cases hi : inB k t n
      · have HS : Hid (withTo x t n v (k + 1) = withTo x t n v k) := by
          show withTo x t n v (k + 1) = _
          rw [withTo, hi]; simp
        go_wp2_with fail
        go_roundw
        case rel => exact ⟨k + 1, by omega, by go_num, by rw [HS.out], hb⟩
        case measure => simp [intOf]; omega
      · obtain ⟨b1, b2⟩ : 0 ≤ t ∧ t ≤ k := by simp [inB] at hi; omega
        have HS : Hid (withTo x t n v (k + 1) = (withTo x t n v k &&& (2 ^ 64 - 1 - 2 ^ k)) ||| ((v / 2 ^ (k - t.toNat)) &&& 1) * 2 ^ k % 2 ^ 64) := by
          show withTo x t n v (k + 1) = _
          rw [withTo, if_pos hi]
        have hfl := withTo_lt x hx t n v k
        go_wp2_with fail
        go_quiet (fail)
        go_wp2_with fail
        go_roundw
        case rel => exact ⟨k + 1, by omega, by go_num, by rw [HS.out, ← put_num _ v k t hfl hv hlt b1 b2], below_drewN hb _⟩
        case measure => simp [intOf]; omega
    · obtain rfl : k = 64 := by omega
      go_wp2_with fail
      go_ret
      exact ⟨ret_int (by rw [withTo_eq x hx]), hb⟩
end Go.Proofs.YtdpljhajgocneaaDoor

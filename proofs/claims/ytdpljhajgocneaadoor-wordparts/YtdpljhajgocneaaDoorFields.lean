/- What Field and With answer, the program's and the document's: contracts. -/
import Derived.Test.YtdpljhajgocneaaDoorWords
import Derived.Test.YtdpljhajgocneaaDoorBits
namespace Go.Proofs.YtdpljhajgocneaaDoor
open Go.RowKit
set_option linter.unusedVariables false

theorem run_shl (x y : Int) (yk : IntKind) (h : 0 ≤ y) (w : World) : Sem.run Tryd.prog (Op.shift .shl .u64 x yk y) w = .ok (.int .u64 (IntKind.u64.wrap (x * 2 ^ (min y.toNat 64)))) w := by
  unfold Op.shift
  rw [if_neg (by omega)]
  rfl
theorem run_shr (x y : Int) (yk : IntKind) (h : 0 ≤ y) (w : World) : Sem.run Tryd.prog (Op.shift .shr .u64 x yk y) w = .ok (.int .u64 (x.fdiv (2 ^ (min y.toNat 64)))) w := by
  unfold Op.shift
  rw [if_neg (by omega)]
  rfl
theorem mask_num (t n : Int) (h : validB t n = true) : IntKind.u64.wrap (IntKind.u64.wrap (IntKind.u64.wrap (2 ^ (min n.toNat 64)) - 1) * 2 ^ t.toNat) = (maskN t n : Nat) := by
  rw [IntKind.wrap_u64, IntKind.wrap_u64, IntKind.wrap_u64]
  unfold maskN
  rw [if_pos h]
  have e : (2 ^ (min n.toNat 64) % 18446744073709551616 - 1 : Int) % 18446744073709551616 = ((2 ^ (min n.toNat 64) - 1 : Nat) : Int) := by
    have hle : (2 : Nat) ^ (min n.toNat 64) ≤ 2 ^ 64 := Nat.pow_le_pow_right (by decide) (Nat.min_le_right _ _)
    have hpos : 0 < (2 : Nat) ^ (min n.toNat 64) := Nat.pow_pos (by decide)
    have hc : (2 : Int) ^ (min n.toNat 64) = ((2 ^ (min n.toNat 64) : Nat) : Int) := by simp
    rw [hc]
    generalize (2 : Nat) ^ (min n.toNat 64) = p at *
    omega
  rw [e]
  have hc : (2 : Int) ^ t.toNat = ((2 ^ t.toNat : Nat) : Int) := by simp
  rw [hc]
  generalize (2 : Nat) ^ t.toNat = q
  generalize (2 ^ (min n.toNat 64) - 1 : Nat) = p
  rw [← Int.natCast_mul]
  omega
theorem mask_any (t n : Int) (w : World) : Calls Tryd.prog 30 #[.int .i64 t, .int .i64 n] w fun e w' => e = .returned (.int .u64 (maskN t n : Nat)) ∧ w' = w := by
  by_cases h1 : n < 1
  · have hv : maskN t n = 0 := by unfold maskN; rw [if_neg (by simp [validB]; omega)]
    rw [hv]
    go_enter Tryd.func30, Tryd.ntmps30
    go_wp2
    go_ret
    exact ⟨rfl, rfl⟩
  · by_cases h2 : t < 0
    · have hv : maskN t n = 0 := by unfold maskN; rw [if_neg (by simp [validB]; omega)]
      rw [hv]
      go_enter Tryd.func30, Tryd.ntmps30
      go_wp2
      go_ret
      exact ⟨rfl, rfl⟩
    · by_cases h3 : 64 ≤ t
      · have hv : maskN t n = 0 := by unfold maskN; rw [if_neg (by simp [validB]; omega)]
        rw [hv]
        go_enter Tryd.func30, Tryd.ntmps30
        go_wp2
        go_ret
        exact ⟨rfl, rfl⟩
      · have s1 := run_shl 1 n .i64 (by omega)
        go_enter Tryd.func30, Tryd.ntmps30
        go_wp2
        go_ret
        exact ⟨ret_int (mask_num t n (by simp [validB]; omega)), rfl⟩

theorem wrapT (t : Int) : 0 ≤ IntKind.u64.wrap t := by rw [IntKind.wrap_u64]; omega
theorem wrapT_in {t n : Int} (h : validB t n = true) : IntKind.u64.wrap t = t ∧ min t.toNat 64 = t.toNat := by
  rw [IntKind.wrap_u64]
  simp [validB] at h
  omega
theorem maskN_none {t n : Int} (h : ¬ validB t n = true) : maskN t n = 0 := by unfold maskN; rw [if_neg h]
theorem field_num (x : Nat) (t n : Int) : ((x &&& maskN t n : Nat) : Int) / (2 ^ (min (IntKind.u64.wrap t).toNat 64)) = (fieldN x t n : Nat) := by
  unfold fieldN
  by_cases h : validB t n = true
  · rw [if_pos h, (wrapT_in h).1, (wrapT_in h).2]
    simp
  · rw [if_neg h, maskN_none h]
    simp
theorem field_any (x : Nat) (hx : x < 18446744073709551616) (t n : Int) (w : World) : Calls Tryd.prog 13 #[.int .u64 x, .int .i64 t, .int .i64 n] w fun e w' => e = .returned (.int .u64 (fieldN x t n : Nat)) ∧ w' = w := by
  have hb : bits .and .u64 (x : Int) (maskN t n : Nat) = ((x &&& maskN t n : Nat) : Int) := u64_and_nat _ _ hx (maskN_lt t n)
  go_enter Tryd.func13, Tryd.ntmps13
  go_wp2_with fail
  refine (mask_any _ _ _).mono ?_
  rintro e w1 ⟨rfl, rfl⟩
  go_wp2_with fail
  go_ret
  exact ⟨ret_int (field_num x t n), rfl⟩
theorem with_num (x v : Nat) (hx : x < 18446744073709551616) (t n : Int) :
    ((x &&& (18446744073709551615 - maskN t n)) ||| ((v * 2 ^ (min (IntKind.u64.wrap t).toNat 64) % 18446744073709551616) &&& maskN t n) : Nat) = withN x t n v := by
  unfold withN
  by_cases h : validB t n = true
  · rw [if_pos h, (wrapT_in h).1, (wrapT_in h).2]
  · rw [if_neg h, maskN_none h]
    have e := Nat.and_two_pow_sub_one_eq_mod x 64
    have e2 : x % 2 ^ 64 = x := Nat.mod_eq_of_lt hx
    rw [e2] at e
    simpa using e
theorem with_num' (x v : Nat) (hx : x < 18446744073709551616) (t n : Int) :
    bits .or .u64 ((x &&& (18446744073709551615 - maskN t n) : Nat) : Int) (bits .and .u64 (IntKind.u64.wrap ((v : Int) * 2 ^ (min (IntKind.u64.wrap t).toNat 64))) (maskN t n : Nat)) = (withN x t n v : Nat) := by
  rw [← with_num x v hx t n, IntKind.wrap_u64]
  have e : ((v : Int) * 2 ^ (min (IntKind.u64.wrap t).toNat 64)) % 18446744073709551616 = ((v * 2 ^ (min (IntKind.u64.wrap t).toNat 64) % 18446744073709551616 : Nat) : Int) := by simp
  rw [e, u64_and_nat _ _ (Nat.mod_lt _ (by decide)) (maskN_lt t n), u64_or_nat _ _ (Nat.lt_of_le_of_lt Nat.and_le_left hx) (Nat.lt_of_le_of_lt Nat.and_le_right (maskN_lt t n))]
theorem with_any (x v : Nat) (hx : x < 18446744073709551616) (hv : v < 18446744073709551616) (t n : Int) (w : World) : Calls Tryd.prog 14 #[.int .u64 x, .int .i64 t, .int .i64 n, .int .u64 v] w fun e w' => e = .returned (.int .u64 (withN x t n v : Nat)) ∧ w' = w := by
  have hm := maskN_lt t n
  have hb : bits .andNot .u64 (x : Int) (maskN t n : Nat) = ((x &&& (18446744073709551615 - maskN t n) : Nat) : Int) := u64_andNot_nat _ _ hx hm
  have s1 := run_shl (v : Int) (IntKind.u64.wrap t) .u64 (wrapT t)
  go_enter Tryd.func14, Tryd.ntmps14
  go_wp2_with fail
  refine (mask_any _ _ _).mono ?_
  rintro e w1 ⟨rfl, rfl⟩
  go_wp2_with fail
  go_ret
  exact ⟨ret_int (with_num' x v hx t n), rfl⟩
end Go.Proofs.YtdpljhajgocneaaDoor

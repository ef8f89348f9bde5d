/- The walk of 'WordFields'. -/
import Derived.Test.YtdpljhajgocneaaDoorFields2
namespace Go.Proofs.YtdpljhajgocneaaDoor
open Go.RowKit
set_option linter.unusedVariables false
set_option maxHeartbeats 400000 in
theorem wordFields_walk (x t n v : Int) (w : World) (wx : (Lit.int .u64 x).wf = true) (wt : (Lit.int .i64 t).wf = true) (wn : (Lit.int .i64 n).wf = true) (wv : (Lit.int .u64 v).wf = true) (hN : Named w ∧ 0 < w.heap.size) :
    Calls Tryd.prog 8 #[.int .u64 x, .int .i64 t, .int .i64 n, .int .u64 v] w fun e w' => e = .returned (.bool true) ∧ Below w.heap.size w w' := by
  obtain ⟨x1, x2⟩ := bounds_u64 wx
  obtain ⟨v1, v2⟩ := bounds_u64 wv
  obtain ⟨x, rfl⟩ := Int.eq_ofNat_of_zero_le x1
  obtain ⟨v, rfl⟩ := Int.eq_ofNat_of_zero_le v1
  obtain ⟨hN, h0⟩ := hN
  have hx : x < 18446744073709551616 := by omega
  have hv : v < 18446744073709551616 := by omega
  clear wx wt wn wv x1 x2 v1 v2
  have hy : withN x t n v < 18446744073709551616 := withN_lt x hx t n v
  have hf : fieldN x t n < 18446744073709551616 := fieldN_lt x hx t n
  have hag := withN_again x hx t n v
  generalize hY : withN x t n v = y at *
  have HY : Hid (withN x t n v = y) := hY
  have HA : Hid (withN y t n (fieldN x t n) = x) := hag
  clear hY hag
  go_enter Tryd.func8, Tryd.ntmps8
  go_wp2_with fail
  refine (with_any _ _ hx hv _ _ _).mono ?_
  rw [HY.out]
  rintro e w1 ⟨rfl, rfl⟩
  go_wp2_with fail
  refine (field_any _ hx _ _ _).mono ?_
  rintro e w1 ⟨rfl, rfl⟩
  go_wp2_with fail
  refine (rfield_any _ hx _ _ _).mono ?_
  rintro e w1 ⟨rfl, rfl⟩
  go_wp2_with fail
  refine (rwith_any _ _ hx hv _ _ _).mono ?_
  rw [HY.out]
  rintro e w1 ⟨rfl, b1⟩
  have N1 := hN.below b1 h0
  go_wp2_with fail
  refine (field_any _ hy _ _ _).mono ?_
  rintro e w2 ⟨rfl, rfl⟩
  go_wp2_with fail
  refine (rfield_any _ hy _ _ _).mono ?_
  rintro e w2 ⟨rfl, rfl⟩
  go_wp2_with fail
  refine (field_any _ hx _ _ _).mono ?_
  rintro e w2 ⟨rfl, rfl⟩
  go_wp2_with fail
  refine (with_any _ _ hy hf _ _ _).mono ?_
  rw [HA.out]
  rintro e w2 ⟨rfl, rfl⟩
  go_wp2_with fail
  refine (awake_any _ N1).mono ?_
  rintro e w2 ⟨rfl, b2⟩
  go_wp2_with fail
  go_ret
  exact ⟨rfl, b1.trans (b2.mono b1.size)⟩
end Go.Proofs.YtdpljhajgocneaaDoor

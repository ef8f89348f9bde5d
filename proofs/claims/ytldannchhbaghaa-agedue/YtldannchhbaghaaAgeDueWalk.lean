/- The walk of 'AgeDue'. -/
import Derived.Test.YtldannchhbaghaaAgeC
import Derived.Test.YtldannchhbaghaaMask
import Derived.Deep.CutBlock
import Derived.Deep.DeepCutAuto
import Derived.Deep.RegionHeld3
namespace Go.Proofs.Ytldannchhbaghaa
open Go.RowKit
set_option linter.unusedVariables false

theorem and60_u64 (n : Int) (h0 : 0 ≤ n) (h1 : n < 18446744073709551616) : bits .and .u64 n 1152921504606846975 = n % 1152921504606846976 := by
  rw [u64_and n _ h0 h1 (by decide) (by decide)]
  have e : (1152921504606846975 : Int).toNat = 2 ^ 60 - 1 := by decide
  rw [e, Nat.and_two_pow_sub_one_eq_mod]
  have e2 : (2 : Nat) ^ 60 = 1152921504606846976 := by decide
  rw [e2]
  omega
set_option maxHeartbeats 2000000 in
theorem ageDue_walk (t0 n0 l0 : Int) (w : World) (wa : (Lit.int .u64 t0).wf = true) (wb : (Lit.int .i64 n0).wf = true) (wn : (Lit.int .i64 l0).wf = true) :
    Calls Try.prog 3 #[.int .u64 t0, .int .i64 n0, .int .i64 l0] w fun e w' => e = .returned (.bool true) ∧ Below w.heap.size w w' := by
  have ha : IsT t0 := bounds_u64 wa
  obtain ⟨t, ht, t1⟩ : ∃ N : Nat, bits .and .u64 t0 1152921504606846975 = (N : Int) ∧ N < 1152921504606846976 := by
    have h := and60_u64 t0 ha.1 (by have := ha.2; omega)
    exact ⟨(t0 % 1152921504606846976).toNat, by rw [h]; omega, by omega⟩
  obtain ⟨p, hp, p8⟩ : ∃ N : Nat, bits .and .i64 n0 7 = (N : Int) ∧ N < 8 := by
    have := mask_i64 n0 3 7 8 (by omega) rfl rfl
    exact ⟨(n0 % 8).toNat, by rw [this]; omega, by omega⟩
  obtain ⟨n, hn, n1⟩ : ∃ N : Nat, bits .and .i64 l0 255 = (N : Int) ∧ N < 256 := by
    have := mask_i64 l0 8 255 256 (by omega) rfl rfl
    exact ⟨(l0 % 256).toNat, by rw [this]; omega, by omega⟩
  have ky := key_any t p (show IsT (t : Int) by unfold IsT; omega) w
  have sl := fun w => slack_any p w
  obtain ⟨z, hz, z1⟩ : ∃ z : Nat, slN p = (z : Int) ∧ z ≤ 127 := by
    have := slN_le p
    exact ⟨(slN p).toNat, by omega, by omega⟩
  rw [hz] at ky sl
  obtain ⟨k, hk⟩ : ∃ k : Nat, t + z = k := ⟨_, rfl⟩
  have e0 : addT (t : Int) (z : Int) = (k : Int) := by unfold addT; rw [if_pos (by omega)]; omega
  rw [e0] at ky
  have e1 : IntKind.u64.wrap ((k : Int) + 5) = (k : Int) + 5 := by rw [IntKind.wrap_u64]; omega
  have e2 : IntKind.u64.wrap ((t : Int) + (n : Int)) = (t : Int) + (n : Int) := by rw [IntKind.wrap_u64]; omega
  have e3 : IntKind.u64.wrap (n : Int) = (n : Int) := by rw [IntKind.wrap_u64]; omega
  have ov := fun w => over_any k 1 ((t : Int) + (n : Int)) w
  have aw := fun w => awake_any w
  have ch := fun w => choose_any ((k : Int), 1) ((k : Int) + 5, 2) ((t : Int) + (n : Int)) w
  obtain ⟨S, hS⟩ : ∃ S, w.heap.size = S := ⟨_, rfl⟩
  obtain ⟨u1, hu1⟩ : ∃ u, w.alloc (.cells #[.int .u64 k, .int .i64 1] 25) = u := ⟨_, rfl⟩
  obtain ⟨u2, hu2⟩ : ∃ u, u1.alloc (.cells #[.int .u64 ((k : Int) + 5), .int .i64 2] 25) = u := ⟨_, rfl⟩
  obtain ⟨u3, hu3⟩ : ∃ u, u2.alloc (.cells #[.int .u64 k, .int .i64 1] 25) = u := ⟨_, rfl⟩
  obtain ⟨v, hv⟩ : ∃ u, u3.alloc (.cells #[.int .u64 ((k : Int) + 5), .int .i64 2] 25) = u := ⟨_, rfl⟩
  have s1 : u1.heap.size = S + 1 := by rw [← hu1, alloc_sz, hS]
  have s2 : u2.heap.size = S + 1 + 1 := by rw [← hu2, alloc_sz, s1]
  have s3 : u3.heap.size = S + 1 + 1 + 1 := by rw [← hu3, alloc_sz, s2]
  have b1 : Below S w u1 := by rw [← hu1, ← hS]; exact bel1 _ _
  have b2 : Below u1.heap.size u1 u2 := by rw [← hu2]; exact bel1 _ _
  have b3 : Below u2.heap.size u2 u3 := by rw [← hu3]; exact bel1 _ _
  have b4 : Below u3.heap.size u3 v := by rw [← hv]; exact bel1 _ _
  have x1 : EBox u1 S k 1 := by rw [← hu1, ← hS]; exact EBox.new _ _ _
  have x2 : EBox u2 (S + 1) ((k : Int) + 5) 2 := by rw [← hu2, ← s1]; exact EBox.new _ _ _
  have x4 : EBox v (S + 1 + 1 + 1) ((k : Int) + 5) 2 := by rw [← hv, ← s3]; exact EBox.new _ _ _
  have X1 : Aside (EBox v S k 1) := ((x1.below b2).below b3).below b4
  have X2 : Aside (EBox v (S + 1) ((k : Int) + 5) 2) := (x2.below b3).below b4
  have X4 : Aside (EBox v (S + 1 + 1 + 1) ((k : Int) + 5) 2) := x4
  obtain ⟨y0, y1⟩ := x1.cell
  obtain ⟨y2, y3⟩ := x2.cell
  obtain ⟨y4, y5⟩ := (x1.below b2).cell
  obtain ⟨y6, y7⟩ := ((x1.below b2).below b3).cell
  obtain ⟨y8, y9⟩ := (x2.below b3).cell
  have BV : Aside (Below S w v) := ((b1.trans (b2.mono (by omega))).trans (b3.mono (by omega))).trans (b4.mono (by omega))
  have HU1 : Hid _ := hu1
  have HU2 : Hid _ := hu2
  have HU3 : Hid _ := hu3
  have HV : Hid _ := hv
  by_cases h : (z : Int) ≤ (n : Int)
  · have h3 : (k : Int) ≤ (t : Int) + (n : Int) := by omega
    simp only [if_pos h3] at ch
    rw [decide_eq_true h3] at ov
    have ov2 := ov u2
    rw [HU3.out] at ov2
    obtain ⟨fz, lt⟩ := X4.out.fz
    obtain ⟨y10, y11⟩ := X4.out.cell
    obtain ⟨y12, y13⟩ := X1.out.cell
    obtain ⟨v2, hv2⟩ : ∃ x, (v.setCell ⟨S + 1 + 1 + 1, 0, none⟩ (.int .u64 k)).setCell ⟨S + 1 + 1 + 1, 1, none⟩ (.int .i64 1) = x := ⟨_, rfl⟩
    have Z4 : EBox v2 (S + 1 + 1 + 1) k 1 := by rw [← hv2]; exact X4.out.put k 1
    have Z1 : EBox v2 S k 1 := by
      rw [← hv2]; unfold EBox; rw [Below.heap_setCell, Below.heap_setCell]
      · exact X1.out
      all_goals (show S ≠ S + 1 + 1 + 1; omega)
    have Z2 : EBox v2 (S + 1) ((k : Int) + 5) 2 := by
      rw [← hv2]; unfold EBox; rw [Below.heap_setCell, Below.heap_setCell]
      · exact X2.out
      all_goals (show S + 1 ≠ S + 1 + 1 + 1; omega)
    have B2 : Aside (Below S w v2) := by rw [← hv2]; exact (BV.out.setCell (by show S ≤ S + 1 + 1 + 1; omega) _).setCell (by show S ≤ S + 1 + 1 + 1; omega) _
    have HV2 : Hid _ := hv2
    clear hv2
    have KC : Aside (∀ W : World, Below v2.heap.size v2 W → W.cell? ⟨S, 0, none⟩ = some (.int .u64 k) ∧ W.cell? ⟨S, 1, none⟩ = some (.int .i64 1) ∧ W.cell? ⟨S + 1, 0, none⟩ = some (.int .u64 ((k : Int) + 5)) ∧ W.cell? ⟨S + 1, 1, none⟩ = some (.int .i64 2) ∧ W.cell? ⟨S + 1 + 1 + 1, 0, none⟩ = some (.int .u64 (k : Int)) ∧ W.cell? ⟨S + 1 + 1 + 1, 1, none⟩ = some (.int .i64 1)) := fun W hW =>
      ⟨(Z1.below hW).cell.1, (Z1.below hW).cell.2, (Z2.below hW).cell.1, (Z2.below hW).cell.2, (Z4.below hW).cell.1, (Z4.below hW).cell.2⟩
    have sv : S ≤ v2.heap.size := by have := B2.out.size; omega
    have g0 : Below v2.heap.size v2 v2.drew := (Below.refl _ _).drew
    have ch2 : Aside (Calls Try.prog 9 #[.agg #[.int .u64 k, .int .i64 1], .agg #[.int .u64 ((k : Int) + 5), .int .i64 2], .int .u64 ((t : Int) + (n : Int))] v2.drew fun e w' => e = .returned (.agg #[.int .u64 (k : Int), .int .i64 1]) ∧ Below v2.drew.heap.size v2.drew w') := ch v2.drew
    have AW : Aside (∀ w, Calls Try.prog 10 #[] w fun e w' => e = .returned (.bool true) ∧ Below w.heap.size w w') := aw
    clear hu1 hu2 hu3 hv s1 s2 b1 b2 b3 b4 x1 x2 x4 hk hz ha wa wb wn t1 p8 n1 z1 e0 h3 ov ch Z1 Z2 Z4 aw
    go_enter Try.func3, Try.ntmps3
    go_wp2_with fail
    refine ky.mono ?_
    rintro e w1 ⟨rfl, rfl⟩
    go_wp2_with fail
    rw [HU1.out, HU2.out]
    refine (sl _).mono ?_
    rintro e w1 ⟨rfl, rfl⟩
    go_wp2_with fail
    refine ov2.mono ?_
    rintro e w1 ⟨rfl, rfl⟩
    clear ov2 ky sl
    go_upto_region 10 with fail
    rw [HV.out]
    go_upto_region 12 with fail
    rw [HV2.out]
    go_region_held3 (fun W => W.cell? ⟨S, 0, none⟩ = some (.int .u64 k) ∧ W.cell? ⟨S, 1, none⟩ = some (.int .i64 1) ∧ W.cell? ⟨S + 1, 0, none⟩ = some (.int .u64 ((k : Int) + 5)) ∧ W.cell? ⟨S + 1, 1, none⟩ = some (.int .i64 2) ∧ W.cell? ⟨S + 1 + 1 + 1, 0, none⟩ = some (.int .u64 (k : Int)) ∧ W.cell? ⟨S + 1 + 1 + 1, 1, none⟩ = some (.int .i64 1)) (first | with_reducible exact KC.out _ g0 | with_reducible exact KC.out _ g8 | with_reducible exact KC.out _ g9)
      ((first
        | (go_at_call 10; (with_reducible refine Calls.mono (AW.out w8) ?_); rintro r_ w9 ⟨rfl, d9⟩; have g9 := g8.trans (d9.mono g8.size))
        | (go_at_call 9; (with_reducible refine Calls.mono ch2.out ?_); rintro r_ w8 ⟨rfl, d8⟩; have g8 := g0.trans (d8.mono g0.size))))
    have D9 : Aside (Below S _ w9) := B2.out.trans (g9.mono sv)
    clear d8 d9 g8 g9 g0 ch2
    go_wp2
    go_ret
    exact ⟨rfl, by first | exact D9.out | (rw [hS]; exact D9.out)⟩
  · have h3 : ¬ (k : Int) ≤ (t : Int) + (n : Int) := by omega
    simp only [if_neg h3] at ch
    rw [decide_eq_false h3] at ov
    have ov2 := ov u2
    rw [HU3.out] at ov2
    obtain ⟨v2, hv2⟩ : ∃ x, x = v := ⟨_, rfl⟩
    have Z4 : EBox v2 (S + 1 + 1 + 1) ((k : Int) + 5) 2 := by rw [hv2]; exact X4.out
    have Z1 : EBox v2 S k 1 := by rw [hv2]; exact X1.out
    have Z2 : EBox v2 (S + 1) ((k : Int) + 5) 2 := by rw [hv2]; exact X2.out
    have B2 : Aside (Below S w v2) := by rw [hv2]; exact BV.out
    have HV2 : Hid _ := hv2.symm
    clear hv2
    have KC : Aside (∀ W : World, Below v2.heap.size v2 W → W.cell? ⟨S, 0, none⟩ = some (.int .u64 k) ∧ W.cell? ⟨S, 1, none⟩ = some (.int .i64 1) ∧ W.cell? ⟨S + 1, 0, none⟩ = some (.int .u64 ((k : Int) + 5)) ∧ W.cell? ⟨S + 1, 1, none⟩ = some (.int .i64 2) ∧ W.cell? ⟨S + 1 + 1 + 1, 0, none⟩ = some (.int .u64 ((k : Int) + 5)) ∧ W.cell? ⟨S + 1 + 1 + 1, 1, none⟩ = some (.int .i64 2)) := fun W hW =>
      ⟨(Z1.below hW).cell.1, (Z1.below hW).cell.2, (Z2.below hW).cell.1, (Z2.below hW).cell.2, (Z4.below hW).cell.1, (Z4.below hW).cell.2⟩
    have sv : S ≤ v2.heap.size := by have := B2.out.size; omega
    have g0 : Below v2.heap.size v2 v2.drew := (Below.refl _ _).drew
    have ch2 : Aside (Calls Try.prog 9 #[.agg #[.int .u64 k, .int .i64 1], .agg #[.int .u64 ((k : Int) + 5), .int .i64 2], .int .u64 ((t : Int) + (n : Int))] v2.drew fun e w' => e = .returned (.agg #[.int .u64 ((k : Int) + 5), .int .i64 2]) ∧ Below v2.drew.heap.size v2.drew w') := ch v2.drew
    have AW : Aside (∀ w, Calls Try.prog 10 #[] w fun e w' => e = .returned (.bool true) ∧ Below w.heap.size w w') := aw
    clear hu1 hu2 hu3 hv s1 s2 b1 b2 b3 b4 x1 x2 x4 hk hz ha wa wb wn t1 p8 n1 z1 e0 h3 ov ch Z1 Z2 Z4 aw
    go_enter Try.func3, Try.ntmps3
    go_wp2_with fail
    refine ky.mono ?_
    rintro e w1 ⟨rfl, rfl⟩
    go_wp2_with fail
    rw [HU1.out, HU2.out]
    refine (sl _).mono ?_
    rintro e w1 ⟨rfl, rfl⟩
    go_wp2_with fail
    refine ov2.mono ?_
    rintro e w1 ⟨rfl, rfl⟩
    clear ov2 ky sl
    go_upto_region 10 with fail
    rw [HV.out]
    go_upto_region 12 with fail
    rw [HV2.out]
    go_region_held3 (fun W => W.cell? ⟨S, 0, none⟩ = some (.int .u64 k) ∧ W.cell? ⟨S, 1, none⟩ = some (.int .i64 1) ∧ W.cell? ⟨S + 1, 0, none⟩ = some (.int .u64 ((k : Int) + 5)) ∧ W.cell? ⟨S + 1, 1, none⟩ = some (.int .i64 2) ∧ W.cell? ⟨S + 1 + 1 + 1, 0, none⟩ = some (.int .u64 ((k : Int) + 5)) ∧ W.cell? ⟨S + 1 + 1 + 1, 1, none⟩ = some (.int .i64 2)) (first | with_reducible exact KC.out _ g0 | with_reducible exact KC.out _ g8 | with_reducible exact KC.out _ g9)
      ((first
        | (go_at_call 10; (with_reducible refine Calls.mono (AW.out w8) ?_); rintro r_ w9 ⟨rfl, d9⟩; have g9 := g8.trans (d9.mono g8.size))
        | (go_at_call 9; (with_reducible refine Calls.mono ch2.out ?_); rintro r_ w8 ⟨rfl, d8⟩; have g8 := g0.trans (d8.mono g0.size))))
    have D9 : Aside (Below S _ w9) := B2.out.trans (g9.mono sv)
    clear d8 d9 g8 g9 g0 ch2
    go_wp2
    go_ret
    exact ⟨rfl, by first | exact D9.out | (rw [hS]; exact D9.out)⟩
end Go.Proofs.Ytldannchhbaghaa

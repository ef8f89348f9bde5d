/- The walk of 'AgeTells'. -/
import Derived.Test.YtldannchhbaghaaAgeC
import Derived.Deep.CutBlock
import Derived.Deep.DeepCutAuto
import Derived.Deep.RegionHeld3
namespace Go.Proofs.Ytldannchhbaghaa
open Go.RowKit
set_option linter.unusedVariables false

set_option maxHeartbeats 2000000 in
theorem ageTells_walk (t p th k : Int) (x y : Int × Int) (w : World) (wa : (Lit.int .u64 t).wf = true) (wb : (Lit.int .i64 p).wf = true) (wc : (Lit.int .i64 th).wf = true) (wd : (Lit.int .i64 k).wf = true) :
    Calls Try.prog 4 #[.int .u64 t, .int .i64 p, .int .i64 th, .int .i64 k, .agg #[.int .u64 x.1, .int .i64 x.2], .agg #[.int .u64 y.1, .int .i64 y.2]] w fun e w' => e = .returned (.bool true) ∧ Below w.heap.size w w' := by
  have ha : IsT t := bounds_u64 wa
  obtain ⟨a1, a2⟩ := x
  obtain ⟨b1, b2⟩ := y
  have s1 := fun w => slack_any p w
  have s2 := fun w => refSlack_any p w
  have k1 := fun w => key_any t p ha w
  have k2 := fun w => refKey_any t p ha w
  have r1 := fun w => rho_any th k w
  have r2 := fun w => refRho_any th k w
  have e1 := fun w => beta_any p k th w
  have e2 := fun w => refBeta_any p k th w
  generalize slN p + inN k 1000 + 2 * inN th 1000 = be at *
  generalize addT t (slN p) = ke at *
  generalize slN p = sl at *
  generalize (inN th 1000 + 1) * inN k 1000 + inN th 1000 = rh at *
  have aw := fun w => awake_any w
  obtain ⟨S, hS⟩ : ∃ S, w.heap.size = S := ⟨_, rfl⟩
  obtain ⟨u1, hu1⟩ : ∃ u, w.alloc (.cells #[.int .u64 a1, .int .i64 a2] 25) = u := ⟨_, rfl⟩
  obtain ⟨u2, hu2⟩ : ∃ u, u1.alloc (.cells #[.int .u64 b1, .int .i64 b2] 25) = u := ⟨_, rfl⟩
  obtain ⟨v, hv⟩ : ∃ u, u2.alloc (.cells #[.int .u64 b1, .int .i64 b2] 25) = u := ⟨_, rfl⟩
  have z1 : u1.heap.size = S + 1 := by rw [← hu1, alloc_sz, hS]
  have z2 : u2.heap.size = S + 1 + 1 := by rw [← hu2, alloc_sz, z1]
  have l1 : Below S w u1 := by rw [← hu1, ← hS]; exact bel1 _ _
  have l2 : Below u1.heap.size u1 u2 := by rw [← hu2]; exact bel1 _ _
  have l3 : Below u2.heap.size u2 v := by rw [← hv]; exact bel1 _ _
  have x1 : EBox u1 S a1 a2 := by rw [← hu1, ← hS]; exact EBox.new _ _ _
  have x2 : EBox u2 (S + 1) b1 b2 := by rw [← hu2, ← z1]; exact EBox.new _ _ _
  have x4 : EBox v (S + 1 + 1) b1 b2 := by rw [← hv, ← z2]; exact EBox.new _ _ _
  have X1 : Aside (EBox v S a1 a2) := (x1.below l2).below l3
  have X2 : Aside (EBox v (S + 1) b1 b2) := x2.below l3
  have X4 : Aside (EBox v (S + 1 + 1) b1 b2) := x4
  obtain ⟨y2, y3⟩ := x2.cell
  obtain ⟨y4, y5⟩ := (x1.below l2).cell
  obtain ⟨y6, y7⟩ := X1.out.cell
  obtain ⟨y8, y9⟩ := X2.out.cell
  have BV : Aside (Below S w v) := (l1.trans (l2.mono (by omega))).trans (l3.mono (by omega))
  have HU1 : Hid _ := hu1
  have HU2 : Hid _ := hu2
  have HV : Hid _ := hv
  by_cases h : a1 ≤ t
  · have ov := fun w => over_any a1 a2 t w
    have ch := fun w => choose_any (a1, a2) (b1, b2) t w
    simp only [if_pos h] at ch
    have hd : decide (a1 ≤ t) = true := decide_eq_true h
    rw [hd] at ov
    obtain ⟨fz, lt⟩ := X4.out.fz
    obtain ⟨y10, y11⟩ := X4.out.cell
    obtain ⟨v2, hv2⟩ : ∃ x, (v.setCell ⟨S + 1 + 1, 0, none⟩ (.int .u64 a1)).setCell ⟨S + 1 + 1, 1, none⟩ (.int .i64 a2) = x := ⟨_, rfl⟩
    have Z4 : EBox v2 (S + 1 + 1) a1 a2 := by rw [← hv2]; exact X4.out.put a1 a2
    have Z1 : EBox v2 S a1 a2 := by
      rw [← hv2]; unfold EBox; rw [Below.heap_setCell, Below.heap_setCell]
      · exact X1.out
      all_goals (show S ≠ S + 1 + 1; omega)
    have Z2 : EBox v2 (S + 1) b1 b2 := by
      rw [← hv2]; unfold EBox; rw [Below.heap_setCell, Below.heap_setCell]
      · exact X2.out
      all_goals (show S + 1 ≠ S + 1 + 1; omega)
    have B2 : Aside (Below S w v2) := by rw [← hv2]; exact (BV.out.setCell (by show S ≤ S + 1 + 1; omega) _).setCell (by show S ≤ S + 1 + 1; omega) _
    have HV2 : Hid _ := hv2
    clear hv2
    have KC : Aside (∀ W : World, Below v2.heap.size v2 W → W.cell? ⟨S, 0, none⟩ = some (.int .u64 a1) ∧ W.cell? ⟨S, 1, none⟩ = some (.int .i64 a2) ∧ W.cell? ⟨S + 1, 0, none⟩ = some (.int .u64 b1) ∧ W.cell? ⟨S + 1, 1, none⟩ = some (.int .i64 b2) ∧ W.cell? ⟨S + 1 + 1, 0, none⟩ = some (.int .u64 a1) ∧ W.cell? ⟨S + 1 + 1, 1, none⟩ = some (.int .i64 a2)) := fun W hW =>
      ⟨(Z1.below hW).cell.1, (Z1.below hW).cell.2, (Z2.below hW).cell.1, (Z2.below hW).cell.2, (Z4.below hW).cell.1, (Z4.below hW).cell.2⟩
    have sv : S ≤ v2.heap.size := by have := B2.out.size; omega
    have g0 : Below v2.heap.size v2 v2.drew := (Below.refl _ _).drew
    have OV : Aside (∀ W, Calls Try.prog 8 #[.agg #[.int .u64 a1, .int .i64 a2], .int .u64 t] W fun e w' => e = .returned (.bool true) ∧ Below W.heap.size W w') := fun W => (ov W).mono (by rintro e w' ⟨rfl, rfl⟩; exact ⟨rfl, bel1 _ _⟩)
    have CH : Aside (∀ W, Calls Try.prog 9 #[.agg #[.int .u64 a1, .int .i64 a2], .agg #[.int .u64 b1, .int .i64 b2], .int .u64 t] W fun e w' => e = .returned (.agg #[.int .u64 a1, .int .i64 a2]) ∧ Below W.heap.size W w') := ch
    have AW : Aside (∀ w, Calls Try.prog 10 #[] w fun e w' => e = .returned (.bool true) ∧ Below w.heap.size w w') := aw
    clear hu1 hu2 hv z1 l1 l2 l3 x1 x2 x4 ha wa wb wc wd ov ch Z1 Z2 Z4 aw
    go_enter Try.func4, Try.ntmps4
    go_wp2_with fail
    rw [HU1.out, HU2.out]
    refine (s1 _).mono ?_
    rintro e w1 ⟨rfl, rfl⟩
    go_wp2_with fail
    refine (s2 _).mono ?_
    rintro e w1 ⟨rfl, rfl⟩
    go_wp2_with fail
    refine (k1 _).mono ?_
    rintro e w1 ⟨rfl, rfl⟩
    go_wp2_with fail
    refine (k2 _).mono ?_
    rintro e w1 ⟨rfl, rfl⟩
    go_wp2_with fail
    refine (r1 _).mono ?_
    rintro e w1 ⟨rfl, rfl⟩
    go_wp2_with fail
    refine (r2 _).mono ?_
    rintro e w1 ⟨rfl, rfl⟩
    go_wp2_with fail
    refine (e1 _).mono ?_
    rintro e w1 ⟨rfl, rfl⟩
    go_wp2_with fail
    refine (e2 _).mono ?_
    rintro e w1 ⟨rfl, rfl⟩
    clear s1 s2 k1 k2 r1 r2 e1 e2
    go_upto_region 4 with fail
    rw [HV.out]
    go_upto_region 6 with fail
    rw [HV2.out]
    go_region_held3 (fun W => W.cell? ⟨S, 0, none⟩ = some (.int .u64 a1) ∧ W.cell? ⟨S, 1, none⟩ = some (.int .i64 a2) ∧ W.cell? ⟨S + 1, 0, none⟩ = some (.int .u64 b1) ∧ W.cell? ⟨S + 1, 1, none⟩ = some (.int .i64 b2) ∧ W.cell? ⟨S + 1 + 1, 0, none⟩ = some (.int .u64 a1) ∧ W.cell? ⟨S + 1 + 1, 1, none⟩ = some (.int .i64 a2)) (first | with_reducible exact KC.out _ g0 | with_reducible exact KC.out _ g7 | with_reducible exact KC.out _ g8 | with_reducible exact KC.out _ g9)
      ((first
        | (go_at_call 10; (with_reducible refine Calls.mono (AW.out w8) ?_); rintro r_ w9 ⟨rfl, d9⟩; have g9 := g8.trans (d9.mono g8.size))
        | (go_at_call 9; (with_reducible refine Calls.mono (CH.out w7) ?_); rintro r_ w8 ⟨rfl, d8⟩; have g8 := g7.trans (d8.mono g7.size))
        | (go_at_call 8; (with_reducible refine Calls.mono (OV.out _) ?_); rintro r_ w7 ⟨rfl, d7⟩; have g7 := g0.trans (d7.mono g0.size))))
    have D9 : Aside (Below S _ w9) := B2.out.trans (g9.mono sv)
    clear d7 d8 d9 g7 g8 g9 g0
    go_wp2
    go_ret
    exact ⟨rfl, by first | exact D9.out | (rw [hS]; exact D9.out)⟩
  · have ov := fun w => over_any a1 a2 t w
    have ch := fun w => choose_any (a1, a2) (b1, b2) t w
    simp only [if_neg h] at ch
    have hd : decide (a1 ≤ t) = false := decide_eq_false h
    rw [hd] at ov
    obtain ⟨v2, hv2⟩ : ∃ x, x = v := ⟨_, rfl⟩
    have Z4 : EBox v2 (S + 1 + 1) b1 b2 := by rw [hv2]; exact X4.out
    have Z1 : EBox v2 S a1 a2 := by rw [hv2]; exact X1.out
    have Z2 : EBox v2 (S + 1) b1 b2 := by rw [hv2]; exact X2.out
    have B2 : Aside (Below S w v2) := by rw [hv2]; exact BV.out
    have HV2 : Hid _ := hv2.symm
    clear hv2
    have KC : Aside (∀ W : World, Below v2.heap.size v2 W → W.cell? ⟨S, 0, none⟩ = some (.int .u64 a1) ∧ W.cell? ⟨S, 1, none⟩ = some (.int .i64 a2) ∧ W.cell? ⟨S + 1, 0, none⟩ = some (.int .u64 b1) ∧ W.cell? ⟨S + 1, 1, none⟩ = some (.int .i64 b2) ∧ W.cell? ⟨S + 1 + 1, 0, none⟩ = some (.int .u64 b1) ∧ W.cell? ⟨S + 1 + 1, 1, none⟩ = some (.int .i64 b2)) := fun W hW =>
      ⟨(Z1.below hW).cell.1, (Z1.below hW).cell.2, (Z2.below hW).cell.1, (Z2.below hW).cell.2, (Z4.below hW).cell.1, (Z4.below hW).cell.2⟩
    have sv : S ≤ v2.heap.size := by have := B2.out.size; omega
    have g0 : Below v2.heap.size v2 v2.drew := (Below.refl _ _).drew
    have OV : Aside (∀ W, Calls Try.prog 8 #[.agg #[.int .u64 a1, .int .i64 a2], .int .u64 t] W fun e w' => e = .returned (.bool false) ∧ Below W.heap.size W w') := fun W => (ov W).mono (by rintro e w' ⟨rfl, rfl⟩; exact ⟨rfl, bel1 _ _⟩)
    have CH : Aside (∀ W, Calls Try.prog 9 #[.agg #[.int .u64 a1, .int .i64 a2], .agg #[.int .u64 b1, .int .i64 b2], .int .u64 t] W fun e w' => e = .returned (.agg #[.int .u64 b1, .int .i64 b2]) ∧ Below W.heap.size W w') := ch
    have AW : Aside (∀ w, Calls Try.prog 10 #[] w fun e w' => e = .returned (.bool true) ∧ Below w.heap.size w w') := aw
    clear hu1 hu2 hv z1 l1 l2 l3 x1 x2 x4 ha wa wb wc wd ov ch Z1 Z2 Z4 aw
    go_enter Try.func4, Try.ntmps4
    go_wp2_with fail
    rw [HU1.out, HU2.out]
    refine (s1 _).mono ?_
    rintro e w1 ⟨rfl, rfl⟩
    go_wp2_with fail
    refine (s2 _).mono ?_
    rintro e w1 ⟨rfl, rfl⟩
    go_wp2_with fail
    refine (k1 _).mono ?_
    rintro e w1 ⟨rfl, rfl⟩
    go_wp2_with fail
    refine (k2 _).mono ?_
    rintro e w1 ⟨rfl, rfl⟩
    go_wp2_with fail
    refine (r1 _).mono ?_
    rintro e w1 ⟨rfl, rfl⟩
    go_wp2_with fail
    refine (r2 _).mono ?_
    rintro e w1 ⟨rfl, rfl⟩
    go_wp2_with fail
    refine (e1 _).mono ?_
    rintro e w1 ⟨rfl, rfl⟩
    go_wp2_with fail
    refine (e2 _).mono ?_
    rintro e w1 ⟨rfl, rfl⟩
    clear s1 s2 k1 k2 r1 r2 e1 e2
    go_upto_region 4 with fail
    rw [HV.out]
    go_upto_region 6 with fail
    rw [HV2.out]
    go_region_held3 (fun W => W.cell? ⟨S, 0, none⟩ = some (.int .u64 a1) ∧ W.cell? ⟨S, 1, none⟩ = some (.int .i64 a2) ∧ W.cell? ⟨S + 1, 0, none⟩ = some (.int .u64 b1) ∧ W.cell? ⟨S + 1, 1, none⟩ = some (.int .i64 b2) ∧ W.cell? ⟨S + 1 + 1, 0, none⟩ = some (.int .u64 b1) ∧ W.cell? ⟨S + 1 + 1, 1, none⟩ = some (.int .i64 b2)) (first | with_reducible exact KC.out _ g0 | with_reducible exact KC.out _ g7 | with_reducible exact KC.out _ g8 | with_reducible exact KC.out _ g9)
      ((first
        | (go_at_call 10; (with_reducible refine Calls.mono (AW.out w8) ?_); rintro r_ w9 ⟨rfl, d9⟩; have g9 := g8.trans (d9.mono g8.size))
        | (go_at_call 9; (with_reducible refine Calls.mono (CH.out w7) ?_); rintro r_ w8 ⟨rfl, d8⟩; have g8 := g7.trans (d8.mono g7.size))
        | (go_at_call 8; (with_reducible refine Calls.mono (OV.out _) ?_); rintro r_ w7 ⟨rfl, d7⟩; have g7 := g0.trans (d7.mono g0.size))))
    have D9 : Aside (Below S _ w9) := B2.out.trans (g9.mono sv)
    clear d7 d8 d9 g7 g8 g9 g0
    go_wp2
    go_ret
    exact ⟨rfl, by first | exact D9.out | (rw [hS]; exact D9.out)⟩
end Go.Proofs.Ytldannchhbaghaa

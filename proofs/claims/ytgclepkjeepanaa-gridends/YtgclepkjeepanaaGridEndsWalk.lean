/- The walk of 'GridEnds'. -/
import Derived.Test.YtgclepkjeepanaaGrW
import Derived.Test.YtgclepkjeepanaaGrN
import Derived.Test.YtgclepkjeepanaaGrU
import Derived.WalkSmall
import Derived.Deep.CutBlock
import Derived.Deep.DeepCutAuto
namespace Go.Proofs.Ytgclepkjeepanaa
open Go.RowKit
set_option linter.unusedVariables false

/-- A run at its own tick. -/
theorem after_at (f p N D D' : Int) (o : Bool) (hf : IsT f) (hp : IsT p) (hp0 : 0 < p) (hD : IsT D) (hN : 0 ≤ N) (hN1 : N < 5000) (h1 : f ≤ D) (h2 : (D - f) % p = 0) (ho : o = decide (D + p < 18446744073709551616)) (hD' : D' = if o = true then D + p else D) (w : World) :
    Calls Try.prog 9 #[.agg #[.int .u64 f, .int .u64 p, .int .u64 D, .int .u64 N, .int .u64 0], .int .u64 D] w fun e w' => e = .returned (.tuple #[.agg #[.int .u64 f, .int .u64 p, .int .u64 D', .int .u64 (N + 1), .int .u64 0], .bool o]) ∧ Below w.heap.size w w' := by
  have hok : okJ f p D = true := by simp [okJ, hp0, h1, h2]
  have c := after_yes f p D N 0 D w hf hp hD hD hok
  have hl : lastT f p D = D := by unfold lastT; omega
  have g : gridOk f p D = o := by
    rw [ho]
    simp [gridOk, hl, show ¬ D < f by omega, show ¬ p = 0 by omega]
  have e1 : max D D = D := by omega
  have e2 : dueJ f p D D = D' := by
    unfold dueJ
    rw [e1, g, hD']
    by_cases c : o = true
    · rw [if_pos c, if_pos c]
      unfold gridV
      rw [g, if_pos c, if_neg (by omega), hl]
    · rw [if_neg c, if_neg c]
  have e3 : missT f p D D = 0 := by unfold missT; rw [if_pos (.inr (Int.le_refl _))]
  have e4 : IntKind.u64.wrap (N + 1) = N + 1 := by rw [IntKind.wrap_u64]; omega
  have e5 : IntKind.u64.wrap (0 + 0) = 0 := by decide
  rw [e1, e2, e3, e4, e5, g] at c
  exact c
set_option maxHeartbeats 4000000 in
set_option maxRecDepth 100000 in
theorem gridEnds_walk (back per : Int) (w : World) (wb : (Lit.int .u64 back).wf = true) (wp : (Lit.int .u64 per).wf = true) :
    Calls Try.prog 4 #[.int .u64 back, .int .u64 per] w fun e w' => e = .returned (.bool true) ∧ Below w.heap.size w w' := by
  obtain ⟨q, hq, q1, q2⟩ : ∃ q, bits .and .u64 per 255 = q ∧ 0 ≤ q ∧ q < 256 := ⟨_, mask_u64 per 8 _ 256 (bounds_u64 wp) (by decide) (by decide) (by decide) (by decide), by omega, by omega⟩
  obtain ⟨b, hb, b1, b2⟩ : ∃ b, bits .and .u64 back 4095 = b ∧ 0 ≤ b ∧ b < 4096 := ⟨_, mask_u64 back 12 _ 4096 (bounds_u64 wb) (by decide) (by decide) (by decide) (by decide), by omega, by omega⟩
  obtain ⟨p, hp⟩ : ∃ p, q + 1 = p := ⟨_, rfl⟩
  obtain ⟨F, hF⟩ : ∃ F, 18446744073709551615 - b = F := ⟨_, rfl⟩
  have p1 : 0 < p := by omega
  have p2 : p ≤ 256 := by omega
  obtain ⟨Q, hQ⟩ : ∃ Q : Nat, (18446744073709551615 - F) / p = (Q : Int) := ⟨((18446744073709551615 - F) / p).toNat, by have := Int.ediv_nonneg (a := 18446744073709551615 - F) (b := p) (by omega) (by omega); omega⟩
  have Q1 : (Q : Int) ≤ 4095 := by rw [← hQ]; have := Int.ediv_le_self (a := 18446744073709551615 - F) p (by omega); omega
  have hdp := div_parts (18446744073709551615 - F) p p1
  rw [hQ] at hdp
  have hfT : IsT F := ⟨by omega, by omega⟩
  have hpT : IsT p := ⟨by omega, by omega⟩
  have nw := fun w => new_any F p (by omega) w
  obtain ⟨S, hS⟩ : ∃ S, w.heap.size = S := ⟨_, rfl⟩
  have F0 : 18446744073709547520 ≤ F := by omega
  have F1 : F ≤ 18446744073709551615 := by omega
  have HQ : Hid ((18446744073709551615 - F) / p = (Q : Int)) := hQ
  have HD : Hid _ := hdp
  clear wb wp hdp hQ
  go_enter Try.func4, Try.ntmps4
  go_wp2_with fail
  try simp only [hp, hF]
  clear hp hF hq hb q1 q2 b1 b2
  refine (nw _).mono ?_
  rintro e w1 ⟨rfl, bw1⟩
  clear nw
  obtain ⟨S1, hS1⟩ : ∃ S, w1.heap.size = S := ⟨_, rfl⟩
  obtain ⟨v1, hv1⟩ : ∃ u, w1.alloc (.cells #[.int .u64 F, .int .u64 p, .int .u64 F, .int .u64 0, .int .u64 0] 24) = u := ⟨_, rfl⟩
  have x1 : JBox v1 S1 F p F 0 0 := by rw [← hv1, ← hS1]; exact JBox.new _ _ _ _ _ _
  have B1 : Aside (Below S w v1) := by rw [← hv1]; have := bw1.size; rw [hS] at bw1; exact bw1.alloc (by omega) _
  have L1 : S ≤ S1 := by have := bw1.size; omega
  have X1 : Aside _ := x1
  have HV1 : Hid _ := hv1
  clear bw1 hv1 x1
  go_wp2_with fail
  rw [HV1.out]
  clear HV1 hS1
  go_loopw [8, 9] (fun s8 s9 wr => ∃ (N : Nat) (D : Int) (o : Bool), s8 = .int .u64 N ∧ s9 = .bool o ∧ JBox wr S1 F p D N 0 ∧ Below S w wr ∧ ((o = true ∧ N ≤ Q ∧ D = F + p * N) ∨ (o = false ∧ N = Q + 1))) (fun n _ _ => Q + 1 - (intOf n).toNat)
  case atStart => exact ⟨0, F, true, rfl, rfl, X1.out, B1.out, .inl ⟨rfl, by omega, by simp⟩⟩
  case round =>
    clear X1 B1
    obtain ⟨N, D, o, rfl, rfl, hx, hb, hcs⟩ := hrel
    rcases hcs with ⟨rfl, hN, hD⟩ | ⟨rfl, hN⟩
    · have hN5 : (N : Int) < 5000 := by omega
      have hdp := HD.out
      have hmn : 0 ≤ p * (N : Int) := Int.mul_nonneg (by omega) (by omega)
      have hle : p * (N : Int) ≤ p * (Q : Int) := Int.mul_le_mul_of_nonneg_left (by omega) (by omega)
      have hm : (D - F) % p = 0 := by rw [hD, show F + p * (N : Int) - F = p * N by omega]; exact Int.mul_emod_right _ _
      have D1 : F ≤ D := by omega
      have D2 : D < 18446744073709551616 := by omega
      by_cases hNQ : N < Q
      · have hle2 : p * (N : Int) + p ≤ p * (Q : Int) := by
          have := Int.mul_le_mul_of_nonneg_left (a := (N : Int) + 1) (b := Q) (c := p) (by omega) (by omega)
          rw [Int.mul_add] at this
          omega
        have D3 : D + p < 18446744073709551616 := by omega
        clear hdp hmn hle hle2
        have c := fun w => after_at F p N D (D + p) true hfT hpT p1 ⟨by omega, by omega⟩ (by omega) (by omega) (by omega) hm (by simp; omega) rfl w
        obtain ⟨SW, hSW⟩ : ∃ S, wr.heap.size = S := ⟨_, rfl⟩
        obtain ⟨u1, hu1⟩ : ∃ u, wr.alloc (.cells #[.int .u64 F, .int .u64 p, .int .u64 D, .int .u64 N, .int .u64 0] 24) = u := ⟨_, rfl⟩
        have y1 : JBox u1 S1 F p D N 0 := hx.below (by rw [← hu1]; exact bel1 _ _)
        have y2 : JBox u1 SW F p D N 0 := by rw [← hu1, ← hSW]; exact JBox.new _ _ _ _ _ _
        have lt1 : S1 < SW := by have := hx.fz.2; omega
        have bu : Below S w u1 := by rw [← hu1]; exact hb.alloc (by have := hb.size; omega) _
        obtain ⟨k0, k1, k2, k3, k4⟩ := hx.cell
        obtain ⟨m0, m1, m2, m3, m4⟩ := y1.cell
        have Y : Aside (JBox u1 S1 F p D N 0 ∧ JBox u1 SW F p D N 0 ∧ Below S w u1) := ⟨y1, y2, bu⟩
        have HU1 : Hid _ := hu1
        have HDN : Hid _ := hD
        clear hu1 hx hb y1 y2 bu hm hD
        go_upto_region 11 with fail
        rw [HU1.out]
        clear hSW
        go_wp2_with fail
        refine (c _).mono ?_
        rintro e w2 ⟨rfl, b2⟩
        clear k0 k1 k2 k3 k4 m0 m1 m2 m3 m4 c
        have z1 := Y.out.1.below b2
        have z2 := Y.out.2.1.below b2
        have bz : Below S w w2 := Y.out.2.2.trans (b2.mono (by have := Y.out.2.2.size; omega))
        obtain ⟨v3, hv3⟩ : ∃ x, put5 w2 S1 F p (D + p) ((N : Int) + 1) 0 = x := ⟨_, rfl⟩
        have t1 : JBox v3 S1 F p (D + p) (N + 1) 0 := by rw [← hv3]; exact z1.put _ _ _ _ _
        have t2 : JBox v3 SW F p D N 0 := by rw [← hv3]; exact z2.put_other (by omega) _ _ _ _ _
        have b3 : Below S w v3 := by rw [← hv3]; exact put5_below bz L1 _ _ _ _ _
        obtain ⟨k0, k1, k2, k3, k4⟩ := z1.cell
        obtain ⟨fz, lt⟩ := z1.fz
        have T : Aside (JBox v3 S1 F p (D + p) (N + 1) 0 ∧ JBox v3 SW F p D N 0 ∧ Below S w v3) := ⟨t1, t2, b3⟩
        unfold put5 at hv3
        have HV3 : Hid _ := hv3
        clear hv3 z1 z2 bz t1 t2 b3 b2 Y
        go_upto_region 12 with fail
        rw [HV3.out]
        clear k0 k1 k2 k3 k4 fz lt
        obtain ⟨k0, k1, k2, k3, k4⟩ := T.out.1.cell
        obtain ⟨m0, m1, m2, m3, m4⟩ := T.out.2.1.cell
        go_wp2_with fail
        go_roundw
        case rel => exact ⟨N + 1, _, true, by go_num, rfl, by rw [Int.natCast_add]; exact T.out.1, T.out.2.2, .inl ⟨rfl, by omega, by rw [HDN.out, Int.natCast_add, Int.mul_add]; simp; omega⟩⟩
        case measure => (simp [intOf]; try omega)
      · obtain rfl : N = Q := by omega
        have D3 : ¬ D + p < 18446744073709551616 := by omega
        clear hdp hmn hle
        have c := fun w => after_at F p N D D false hfT hpT p1 ⟨by omega, by omega⟩ (by omega) (by omega) (by omega) hm (by simp; omega) rfl w
        obtain ⟨SW, hSW⟩ : ∃ S, wr.heap.size = S := ⟨_, rfl⟩
        obtain ⟨u1, hu1⟩ : ∃ u, wr.alloc (.cells #[.int .u64 F, .int .u64 p, .int .u64 D, .int .u64 N, .int .u64 0] 24) = u := ⟨_, rfl⟩
        have y1 : JBox u1 S1 F p D N 0 := hx.below (by rw [← hu1]; exact bel1 _ _)
        have y2 : JBox u1 SW F p D N 0 := by rw [← hu1, ← hSW]; exact JBox.new _ _ _ _ _ _
        have lt1 : S1 < SW := by have := hx.fz.2; omega
        have bu : Below S w u1 := by rw [← hu1]; exact hb.alloc (by have := hb.size; omega) _
        obtain ⟨k0, k1, k2, k3, k4⟩ := hx.cell
        obtain ⟨m0, m1, m2, m3, m4⟩ := y1.cell
        have Y : Aside (JBox u1 S1 F p D N 0 ∧ JBox u1 SW F p D N 0 ∧ Below S w u1) := ⟨y1, y2, bu⟩
        have HU1 : Hid _ := hu1
        have HDN : Hid _ := hD
        clear hu1 hx hb y1 y2 bu hm hD
        go_upto_region 11 with fail
        rw [HU1.out]
        clear hSW
        go_wp2_with fail
        refine (c _).mono ?_
        rintro e w2 ⟨rfl, b2⟩
        clear k0 k1 k2 k3 k4 m0 m1 m2 m3 m4 c
        have z1 := Y.out.1.below b2
        have z2 := Y.out.2.1.below b2
        have bz : Below S w w2 := Y.out.2.2.trans (b2.mono (by have := Y.out.2.2.size; omega))
        obtain ⟨v3, hv3⟩ : ∃ x, put5 w2 S1 F p D ((N : Int) + 1) 0 = x := ⟨_, rfl⟩
        have t1 : JBox v3 S1 F p D (N + 1) 0 := by rw [← hv3]; exact z1.put _ _ _ _ _
        have t2 : JBox v3 SW F p D N 0 := by rw [← hv3]; exact z2.put_other (by omega) _ _ _ _ _
        have b3 : Below S w v3 := by rw [← hv3]; exact put5_below bz L1 _ _ _ _ _
        obtain ⟨k0, k1, k2, k3, k4⟩ := z1.cell
        obtain ⟨fz, lt⟩ := z1.fz
        have T : Aside (JBox v3 S1 F p D (N + 1) 0 ∧ JBox v3 SW F p D N 0 ∧ Below S w v3) := ⟨t1, t2, b3⟩
        unfold put5 at hv3
        have HV3 : Hid _ := hv3
        clear hv3 z1 z2 bz t1 t2 b3 b2 Y
        go_upto_region 12 with fail
        rw [HV3.out]
        clear k0 k1 k2 k3 k4 fz lt
        obtain ⟨k0, k1, k2, k3, k4⟩ := T.out.1.cell
        obtain ⟨m0, m1, m2, m3, m4⟩ := T.out.2.1.cell
        go_wp2_with fail
        go_roundw
        case rel => exact ⟨N + 1, _, false, by go_num, rfl, by rw [Int.natCast_add]; exact T.out.1, T.out.2.2, .inr ⟨rfl, by omega⟩⟩
        case measure => (simp [intOf]; try omega)
    · subst hN
      have hq2 : (18446744073709551615 - F) / p = (Q : Int) := HQ.out
      have aw := awake_any wr
      have BB : Aside (Below S w wr) := hb
      clear hx hb
      go_wp2_with fail
      refine aw.mono ?_
      rintro e w9 ⟨rfl, b9⟩
      go_wp2_with fail
      go_ret
      have C : Below S w w9 := BB.out.trans (b9.mono (by have := BB.out.size; omega))
      exact ⟨rfl, by first | exact C | (rw [hS]; exact C)⟩
end Go.Proofs.Ytgclepkjeepanaa

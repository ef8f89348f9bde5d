/- The walk of 'ArenaClaims'. -/
import Derived.Test.YtcaeakddcanamaaArenaAwake
import Derived.Test.YtcaeakddcanamaaRowAt
import Derived.Test.YtcaeakddcanamaaMask
namespace Go.Proofs.Ytcaeakddcanamaa
open Go.RowKit
set_option linter.unusedVariables false

theorem infoBool : (Try.prog.info? 4).map (fun i => (i.zero, i.size, i.bytes)) = some (some (.bool false), 1, 1) := by kernel_rfl

/-- What holds between two rounds: the id's word, who has it, what each saw. -/
structure Claim (S Q n : Nat) (w0 v : World) (O : Int) (ws R : Nat → Int) (H : Nat → Bool) : Prop where
  arena : AAt v (S + 2) (S + 1) S 1 ws
  own : -1 ≤ O ∧ O < n
  state : ws 0 % 8 = if 0 ≤ O then 3 else 2
  seen : v.rowIs Q 28 n (fun j => .int .u64 (R j))
  fits : ∀ j, 0 ≤ R j ∧ R j < 18446744073709551616
  looked : v.rowIs (Q + 1) 4 n (fun j => .bool (H j))
  below : Below S w0 v
  far : S + 3 ≤ Q

variable {S Q n : Nat} {w0 v v' : World} {O : Int} {ws R : Nat → Int} {H : Nat → Bool}
/-- The arena was turned. -/
theorem Claim.turn {us : Nat → Int} {O' : Int} (h : Claim S Q n w0 v O ws R H) (k : Kept (S + 2) (S + 1) S v v') (hA : AAt v' (S + 2) (S + 1) S 1 us) (h1 : -1 ≤ O' ∧ O' < n) (h2 : us 0 % 8 = if 0 ≤ O' then 3 else 2) : Claim S Q n w0 v' O' us R H := by
  have := h.far
  exact ⟨hA, h1, h2, h.seen.of_block (k.block Q h.seen.lt (by omega) (by omega) (by omega)), h.fits, h.looked.of_block (k.block (Q + 1) h.looked.lt (by omega) (by omega) (by omega)), h.arena.stay k h.below, h.far⟩
theorem Claim.look (h : Claim S Q n w0 v O ws R H) (T : Nat) (x : Bool) : Claim S Q n w0 (v.setCell ⟨Q + 1, T, none⟩ (.bool x)) O ws R (fun j => if j = T then x else H j) := by
  have := h.far
  exact ⟨h.arena.of_blocks (Below.heap_setCell _ _ _ _ (by simp; omega)) (Below.heap_setCell _ _ _ _ (by simp; omega)) (Below.heap_setCell _ _ _ _ (by simp; omega)), h.own, h.state, h.seen.setOther (by simp) _, h.fits,
    (h.looked.set T (.bool x)).congr fun j hj => by by_cases e : j = T <;> simp [e], h.below.setCell (by simp; omega) _, h.far⟩
theorem Claim.see (h : Claim S Q n w0 v O ws R H) (T : Nat) (x : Int) (h0 : 0 ≤ x) (h1 : x < 18446744073709551616) : Claim S Q n w0 (v.setCell ⟨Q, T, none⟩ (.int .u64 x)) O ws (fun j => if j = T then x else R j) H := by
  have := h.far
  exact ⟨h.arena.of_blocks (Below.heap_setCell _ _ _ _ (by simp; omega)) (Below.heap_setCell _ _ _ _ (by simp; omega)) (Below.heap_setCell _ _ _ _ (by simp; omega)), h.own, h.state,
    (h.seen.set T (.int .u64 x)).congr fun j hj => by by_cases e : j = T <;> simp [e], fun j => by have := h.fits j; by_cases e : j = T <;> simp [e] <;> omega, h.looked.setOther (by simp) _, h.below.setCell (by simp; omega) _, h.far⟩

set_option maxRecDepth 100000 in
theorem arenaClaims_walk (x : Int) (a : Option Addr) (len cap : Nat) (zs : List Int) (w : World) (wx : (Lit.int .i64 x).wf = true) (h : IsRow .i64 w a len cap zs) :
    Calls Try.prog 6 #[.int .i64 x, .slice a len cap] w fun e w' => e = .returned (.bool true) ∧ Below w.heap.size w w' := by
  have hl := h.len_le
  have hh : Hid (IsRow .i64 w a len cap zs) := h
  clear h wx
  obtain ⟨X, hX, X0, X1⟩ : ∃ X, bits .and .i64 x 7 = X ∧ 0 ≤ X ∧ X < 8 := ⟨_, and7_i64 x, by omega, by omega⟩
  obtain ⟨n, hn, n0, n1⟩ : ∃ n : Nat, X + 1 = n ∧ 1 ≤ n ∧ n ≤ 8 := ⟨(X + 1).toNat, by omega, by omega, by omega⟩
  have hmk := run_make_row' (P := Try.prog) 40 28 (.int .u64 0) 8 Try.underlying40 infoU64 rfl .i64 .i64 n (by omega) (by omega)
  have hmb := run_make_row' (P := Try.prog) 52 4 (.bool false) 1 Try.underlying52 infoBool rfl .i64 .i64 n (by omega) (by omega)
  go_enter Try.func6, Try.ntmps6
  go_wp2_with fail
  refine (new_in 1 w (by omega) (by omega)).mono ?_
  rintro e w1 ⟨rfl, h1, b1, z1⟩
  go_wp2_with fail
  refine (alloc_ok w1 _ _ _ 1 _ h1 2 (by decide) 0 (by omega) rfl (fun j hj => absurd hj (by omega))).mono ?_
  rw [show packI 2 ((0 : Int) / 8 + 1) = 10 by decide]
  rintro e w2 ⟨rfl, h2, k2⟩
  obtain ⟨Q, hQ⟩ : ∃ Q, Q = w2.heap.size := ⟨_, rfl⟩
  have r1 := ((World.rowIs_made w2 (.int .u64 0) n 28).alloc (.cells (madeCells #[.bool false] n) 4))
  have r2 := World.rowIs_made (w2.alloc (.cells (madeCells #[.int .u64 0] n) 28)) (.bool false) n 4
  have g2 : Below w2.heap.size w2 ((w2.alloc (.cells (madeCells #[.int .u64 0] n) 28)).alloc (.cells (madeCells #[.bool false] n) 4)) := ((Below.refl _ _).alloc (Nat.le_refl _) _).alloc (by simp) _
  rw [show (w2.alloc (.cells (madeCells #[.int .u64 0] n) 28)).heap.size = w2.heap.size + 1 by simp] at r2
  have b3 := (h1.stay k2 b1).trans (g2.mono (show w.heap.size ≤ w2.heap.size by have := k2.size; omega))
  have h3 := h2.grew g2
  have sz := k2.size
  rw [← hQ] at r1 r2 sz
  have HR : Hid (Claim w.heap.size Q n w _ (-1) _ (fun _ => 0) (fun _ => false)) := ⟨h3, ⟨by omega, by omega⟩, by rw [putW_same]; rfl, r1, fun _ => ⟨by omega, by omega⟩, r2, b3, by omega⟩
  clear z1 h1 b1 r1 r2 h2 k2 g2 b3 h3 sz hX
  go_wp2_with fail
  simp only [← hQ]
  clear hQ hn X0 X1 hmk hmb
  go_loopw [11, 12] (fun o i wr => ∃ (I : Nat) (O : Int) (ws R : Nat → Int) (H : Nat → Bool), I ≤ 80 ∧ o = .int .i64 O ∧ i = .int .i64 I ∧ Claim w.heap.size Q n w wr O ws R H)
    (fun _ i _ => 80 - (intOf i).toNat)
  case atStart => exact ⟨0, -1, _, _, _, by omega, rfl, rfl, HR.out⟩
  case round =>
    obtain ⟨I, O, ws, R, H, hI, rfl, rfl, hC⟩ := hrel
    clear HR
    have bw := hC.below
    obtain ⟨O0, O1⟩ := hC.own
    by_cases hgo : I < len ∧ I < 80
    · obtain ⟨g1, g2⟩ := hgo
      have g1' : (I : Int) < (len : Int) := by omega
      have g2' : (I : Int) < 80 := by omega
      obtain ⟨b, off, rfl, hbl, hc, hwf⟩ := hh.out.at g1
      have hcr := (bw.cell (p := ⟨b, off + I, none⟩) hbl).trans hc
      clear hc hwf bw
      generalize zs.getD I 0 = Z at *
      obtain ⟨Y, hY, Y0⟩ : ∃ Y, bits .and .i64 Z 255 = Y ∧ 0 ≤ Y := ⟨_, mask_i64 Z 8 255 256 (by omega) rfl rfl, by omega⟩
      obtain ⟨T, hT, hTn⟩ : ∃ T : Nat, Y % (n : Int) = T ∧ T < n := by
        have := Int.emod_nonneg Y (show (n : Int) ≠ 0 by omega)
        have := Int.emod_lt_of_pos Y (show (0 : Int) < n by omega)
        exact ⟨(Y % (n : Int)).toNat, by omega, by omega⟩
      have hTn' : (T : Int) < (n : Int) := by omega
      have hA := hC.arena
      have hS := hC.state
      have HC : Hid _ := hC
      clear hC
      by_cases hO : O = T
      · subst hO
        rw [if_pos (by omega)] at hS
        go_wp2_with fail
        refine (word_in wr _ _ _ 1 ws hA 0 (by omega)).mono ?_
        obtain ⟨V, hV⟩ : ∃ V, ws 0 = V := ⟨_, rfl⟩
        rw [hV] at hS ⊢
        rintro e w4 ⟨rfl, h4, k4⟩
        go_wp2_with fail
        refine (turn_ok w4 _ _ _ 1 ws h4 0 (by omega) V 1 (by rw [hS]; decide) hV).mono ?_
        obtain ⟨V1, hV1, V18⟩ : ∃ V1, packI 1 (V / 8 + 1) = V1 ∧ V1 % 8 = 1 := ⟨_, rfl, by rw [packI_state]; rfl⟩
        rw [hV1]
        rintro e w5 ⟨rfl, h5, k5⟩
        go_wp2_with fail
        refine (turn_ok w5 _ _ _ 1 _ h5 0 (by omega) V1 2 (by rw [V18]; decide) (putW_same _ _ _)).mono ?_
        obtain ⟨V2, hV2, V28⟩ : ∃ V2, packI 2 (V1 / 8 + 1) = V2 ∧ V2 % 8 = 2 := ⟨_, rfl, by rw [packI_state]; rfl⟩
        rw [hV2]
        rintro e w6 ⟨rfl, h6, k6⟩
        clear hV hV1 hV2 hS V18
        go_wp2_with fail
        refine (state_in w6 _ _ _ 1 _ h6 0 (by omega)).mono ?_
        rw [putW_same, V28]
        rintro e w7 ⟨rfl, h7, k7⟩
        have E : Hid _ := HC.out.turn (((k4.trans k5).trans k6).trans k7) h7 (O' := -1) (by omega) (by rw [putW_same, V28]; rfl)
        clear h4 h5 h6 h7 k4 k5 k6 k7 hA V28
        go_wp2_with fail
        go_roundw
        case rel => exact ⟨I + 1, _, _, _, _, by omega, rfl, by go_num, E.out⟩
        case measure => simp [intOf]; omega
      · have hOT : (O == (T : Int)) = false := by simpa using hO
        have cH := HC.out.looked.cell hTn
        obtain ⟨V, hV⟩ : ∃ V, ws 0 = V := ⟨_, rfl⟩
        have hF := hA.fits 0 (by omega)
        rw [hV] at hS hF
        obtain ⟨F0, F1⟩ := hF
        have hE : Hid ((V % 8 == 3) = decide (0 ≤ O)) := by
          show (V % 8 == 3) = decide (0 ≤ O)
          rw [hS]
          by_cases e : 0 ≤ O <;> simp [e]
        obtain ⟨D, hD⟩ : ∃ D, V % 8 = D := ⟨_, rfl⟩
        have HS : Hid (V % 8 = if 0 ≤ O then 3 else 2) := hS
        clear hO hS
        by_cases hHT : H T = true
        · simp only [hHT] at cH
          clear hHT
          obtain ⟨u0, u1⟩ := HC.out.fits T
          obtain ⟨U, hU⟩ : ∃ U, R T = U := ⟨_, rfl⟩
          rw [hU] at u0 u1
          have fH := HC.out.looked.frozen T
          have hC1 := HC.out.look T false
          obtain ⟨u, hu⟩ : ∃ u, u = wr.setCell ⟨Q + 1, T, none⟩ (.bool false) := ⟨_, rfl⟩
          rw [← hu] at hC1
          have cR := HC.out.seen.cell hTn
          simp only [hU] at cR
          have hA1 := hC1.arena
          have HC1 : Hid _ := hC1
          clear hC1 hA hU
          by_cases hcan : canB (U % 8) 3 = true
          · by_cases hVU : V = U
            · have hO' : O = -1 := by
                have h3 := HS.out
                rw [← hVU] at hcan
                by_cases e : 0 ≤ O
                · rw [if_pos e] at h3
                  rw [h3] at hcan
                  exact absurd hcan (by decide)
                · omega
              subst hO'
              clear hE hD HS
              go_wp2_with fail
              simp only [← hu]
              refine (turn_ok u _ _ _ 1 ws hA1 0 (by omega) U 3 hcan (hV.trans hVU)).mono ?_
              obtain ⟨V2, hV2, V28⟩ : ∃ V2, packI 3 (U / 8 + 1) = V2 ∧ V2 % 8 = 3 := ⟨_, rfl, by rw [packI_state]; rfl⟩
              rw [hV2]
              rintro e w4 ⟨rfl, h4, k4⟩
              clear hV2 hV hVU hu hcan
              go_wp2_with fail
              refine (state_in w4 _ _ _ 1 _ h4 0 (by omega)).mono ?_
              rw [putW_same, V28]
              rintro e w7 ⟨rfl, h7, k7⟩
              have E : Hid _ := HC1.out.turn (k4.trans k7) h7 (O' := T) (by omega) (by rw [putW_same, V28, if_pos (by omega)])
              clear h4 h7 k4 k7 hA1 V28
              go_wp2_with fail
              go_roundw
              case rel => exact ⟨I + 1, _, _, _, _, by omega, rfl, by go_num, E.out⟩
              case measure => simp [intOf]; omega
            · have hE' := hE.out
              rw [hD] at hE'
              go_wp2_with fail
              simp only [← hu]
              refine (turn_late u _ _ _ 1 ws hA1 0 (by omega) U 3 u0 u1 hcan (by rw [hV]; exact hVU)).mono ?_
              rintro e w4 ⟨rfl, h4, k4⟩
              clear hVU hu hcan
              go_wp2_with fail
              refine (state_in w4 _ _ _ 1 _ h4 0 (by omega)).mono ?_
              rw [hV, hD]
              rintro e w7 ⟨rfl, h7, k7⟩
              have E : Hid _ := HC1.out.turn (k4.trans k7) h7 (O' := O) (by omega) (by rw [hV]; exact HS.out)
              clear h4 h7 k4 k7 hA1 hV hD
              go_wp2_with fail
              go_roundw
              case rel => exact ⟨I + 1, _, _, _, _, by omega, rfl, by go_num, E.out⟩
              case measure => simp [intOf]; omega
          · rw [Bool.not_eq_true] at hcan
            have hE' := hE.out
            rw [hD] at hE'
            go_wp2_with fail
            simp only [← hu]
            refine (turn_state u _ _ _ 1 ws hA1 0 (by omega) U 3 u0 u1 (by omega) (by omega) hcan).mono ?_
            rintro e w4 ⟨rfl, h4, k4⟩
            clear hu hcan
            go_wp2_with fail
            refine (state_in w4 _ _ _ 1 _ h4 0 (by omega)).mono ?_
            rw [hV, hD]
            rintro e w7 ⟨rfl, h7, k7⟩
            have E : Hid _ := HC1.out.turn (k4.trans k7) h7 (O' := O) (by omega) (by rw [hV]; exact HS.out)
            clear h4 h7 k4 k7 hA1 hV hD
            go_wp2_with fail
            go_roundw
            case rel => exact ⟨I + 1, _, _, _, _, by omega, rfl, by go_num, E.out⟩
            case measure => simp [intOf]; omega
        · rw [Bool.not_eq_true] at hHT
          simp only [hHT] at cH
          clear hHT
          have hE' := hE.out
          rw [hD] at hE'
          go_wp2_with fail
          refine (word_in wr _ _ _ 1 ws hA 0 (by omega)).mono ?_
          rw [hV]
          rintro e w4 ⟨rfl, h4, k4⟩
          have hC1 := HC.out.turn k4 h4 (O' := O) (by omega) (by rw [hV]; exact HS.out)
          have hC2 := hC1.see T V F0 F1
          have hC3 := hC2.look T true
          have cR := hC1.seen.cell hTn
          have fR := hC1.seen.frozen T
          have cH2 := hC2.looked.cell hTn
          have fH2 := hC2.looked.frozen T
          obtain ⟨u, hu⟩ : ∃ u, u = (w4.setCell ⟨Q, T, none⟩ (.int .u64 V)).setCell ⟨Q + 1, T, none⟩ (.bool true) := ⟨_, rfl⟩
          rw [← hu] at hC3
          have hA3 := hC3.arena
          have HC3 : Hid _ := hC3
          clear hC1 hC2 hC3 h4 k4 hA cH
          go_wp2_with fail
          simp only [← hu]
          go_wp2_with fail
          refine (state_in u _ _ _ 1 _ hA3 0 (by omega)).mono ?_
          rw [hV, hD]
          rintro e w7 ⟨rfl, h7, k7⟩
          have E : Hid _ := HC3.out.turn k7 h7 (O' := O) (by omega) (by rw [hV]; exact HS.out)
          clear h7 k7 hA3 hV hD hu
          go_wp2_with fail
          go_roundw
          case rel => exact ⟨I + 1, _, _, _, _, by omega, rfl, by go_num, E.out⟩
          case measure => simp [intOf]; omega
    · have tests : ((I : Int) < (len : Int) ∧ ¬ (I : Int) < 80) ∨ ¬ (I : Int) < (len : Int) := by omega
      rcases tests with ⟨g1, g2⟩ | g1
      all_goals
        have B : Hid _ := bw
        clear hC bw
        go_wp2_with fail
        refine (awake_any _).mono ?_
        rintro e w6 ⟨rfl, b6⟩
        go_wp2_with fail
        go_ret
        exact ⟨rfl, B.out.trans (b6.mono B.out.size)⟩
end Go.Proofs.Ytcaeakddcanamaa

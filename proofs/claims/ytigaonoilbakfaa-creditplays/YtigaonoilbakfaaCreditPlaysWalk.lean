/- The walk of 'CreditPlays'. -/
import Derived.Test.YtigaonoilbakfaaCrP
import Derived.Test.YtigaonoilbakfaaBools
import Derived.Deep.RegionHeld3
import Derived.Deep.CutBlock
namespace Go.Proofs.Ytigaonoilbakfaa
open Go.RowKit
set_option linter.unusedVariables false

set_option maxRecDepth 100000 in
theorem plays_out (x : Int) (a : Option Addr) (len cap : Nat) (w : World) (hx : x < 1 ∨ 64 < x) :
    Calls Try.prog 4 #[.int .i64 x, .slice a len cap] w fun e w' => e = .returned (.bool true) ∧ Below w.heap.size w w' := by
  have P := new_no x w hx
  rcases hx with hx | hx
  · go_enter Try.func4, Try.ntmps4
    go_wp2_with fail
    refine P.mono ?_
    rintro e w1 ⟨rfl, rfl⟩
    clear P
    go_wp2_with fail
    refine (awake_any _).mono ?_
    rintro e w12 ⟨rfl, b6⟩
    go_wp2_with fail
    go_ret
    exact ⟨rfl, b6⟩
  · have h22 : ¬ x < 1 := by omega
    go_enter Try.func4, Try.ntmps4
    go_wp2_with fail
    refine P.mono ?_
    rintro e w1 ⟨rfl, rfl⟩
    clear P
    go_wp2_with fail
    refine (awake_any _).mono ?_
    rintro e w12 ⟨rfl, b6⟩
    go_wp2_with fail
    go_ret
    exact ⟨rfl, b6⟩

set_option maxRecDepth 100000 in
set_option maxHeartbeats 4000000 in
theorem plays_in (n : Nat) (a : Option Addr) (len cap : Nat) (B : Nat → Bool) (w : World) (h : IsBools w a len B) (n1 : 1 ≤ n) (n2 : n ≤ 64) :
    Calls Try.prog 4 #[.int .i64 n, .slice a len cap] w fun e w' => e = .returned (.bool true) ∧ Below w.heap.size w w' := by
  have hl := h.len_le
  have hR : Aside (IsBools w a len B) := h
  clear h
  have g1 : ¬ (n : Int) < 1 := by omega
  have g2 : ¬ (64 : Int) < (n : Int) := by omega
  obtain ⟨S, hS⟩ : ∃ S, w.heap.size = S := ⟨_, rfl⟩
  go_enter Try.func4, Try.ntmps4
  go_wp2_with fail
  refine (new_any n w n1 n2).mono ?_
  rintro e w1 ⟨rfl, h1, b1, s1⟩
  rw [hS] at h1 b1 s1 ⊢
  have HA : Aside (Pl w S (w1.alloc (.cells #[.int .i64 n, .int .i64 0, .int .i64 0] 34)) n 0 0) := Pl.made (Ls.new hS h1 b1) s1
  clear h1 b1
  go_wp2_with fail
  go_loopw [8] (fun i wr => ∃ (I o m : Nat), I ≤ 200 ∧ i = .int .i64 I ∧ Pl w S wr n o m) (fun i _ => 200 - (intOf i).toNat)
  case atStart => exact ⟨0, 0, 0, by omega, rfl, HA.out⟩
  case round =>
    obtain ⟨I, o, m, hI, rfl, L⟩ := hrel
    have q1 := L.code.cr.om
    have q2 := L.code.cr.mn
    by_cases c : I < len ∧ I < 200
    · obtain ⟨l1, l2⟩ := c
      have l1' : (I : Int) < (len : Int) := by omega
      have l2' : (I : Int) < 200 := by omega
      obtain ⟨b, off, rfl, hbl, hc⟩ := hR.out.elem I l1
      have hc0 := (L.code.bel.cell (p := ⟨b, off + I, none⟩) (show b < S by omega)).trans hc
      have HL : Aside (Pl w S wr n o m) := L
      clear L HA hI hc s1
      go_upto_if 51 with fail
      go_cut [] from 51 to 61 (fun v => ∃ o m, Pl w S v n o m)
      case first =>
        have L := HL.out
        clear HL
        cases hB : B I
        · rw [hB] at hc0
          clear hB
          by_cases z : o = 0
          · subst z
            have P := L.giveNo
            clear L
            go_wp2_with fail
            refine P.mono ?_
            rintro e w2 ⟨rfl, L⟩
            have P := L.giveNo
            clear L
            go_wp2_with fail
            refine P.mono ?_
            rintro e w3 ⟨rfl, L⟩
            have L2 : Aside _ := L
            clear L P
            go_wp2_with fail
            go_meet
            exact ⟨_, _, L2.out⟩
          · obtain ⟨p, rfl⟩ : ∃ p, o = p + 1 := ⟨o - 1, by omega⟩
            have P := L.give
            clear L
            go_wp2_with fail
            refine P.mono ?_
            rintro e w2 ⟨rfl, L⟩
            have P := L.give (by omega)
            clear L
            go_wp2_with fail
            refine P.mono ?_
            rintro e w3 ⟨rfl, L⟩
            have L2 : Aside _ := L
            clear L P
            go_wp2_with fail
            go_meet
            exact ⟨_, _, L2.out⟩
        · rw [hB] at hc0
          clear hB
          by_cases z : o = n
          · subst z
            have P := L.takeNo
            clear L
            go_wp2_with fail
            refine P.mono ?_
            rintro e w2 ⟨rfl, L⟩
            have P := L.takeNo
            clear L
            go_wp2_with fail
            refine P.mono ?_
            rintro e w3 ⟨rfl, L⟩
            have L2 : Aside _ := L
            clear L P
            go_wp2_with fail
            go_meet
            exact ⟨_, _, L2.out⟩
          · have P := L.take (by omega)
            clear L
            go_wp2_with fail
            refine P.mono ?_
            rintro e w2 ⟨rfl, L⟩
            have P := L.take (by omega)
            clear L
            go_wp2_with fail
            refine P.mono ?_
            rintro e w3 ⟨rfl, L⟩
            have L2 : Aside _ := L
            clear L P
            go_wp2_with fail
            go_meet
            exact ⟨_, _, L2.out⟩
      case rest =>
        obtain ⟨o, m, L⟩ := hcut
        have q1 := L.code.cr.om
        have q2 := L.code.cr.mn
        have L0 := L.drew
        have d0 := L.ref.c1
        have f0 := L.ref.c2
        have wS : IntKind.i64.wrap ((n : Int) - o) = (n : Int) - o := by rw [IntKind.wrap_i64]; omega
        have wA : IntKind.i64.wrap ((o : Int) + ((n : Int) - o)) = (n : Int) := by rw [IntKind.wrap_i64]; omega
        clear L HL hc0
        go_upto_region 15 with fail
        go_region_held3 (fun w' => w'.cell? ⟨S + 3, 1, none⟩ = some (.int .i64 o) ∧ w'.cell? ⟨S + 3, 2, none⟩ = some (.int .i64 m)) (go_keep) ((first | (go_at_call 10; refine L4.free.mono ?_; rintro e v5 ⟨rfl, L5⟩; have dL5 := L5.ref.c1; have fL5 := L5.ref.c2) | (go_at_call 6; refine L3.out.mono ?_; rintro e v4 ⟨rfl, L4⟩; have dL4 := L4.ref.c1; have fL4 := L4.ref.c2) | (go_at_call 9; refine L2.most.mono ?_; rintro e v3 ⟨rfl, L3⟩; have dL3 := L3.ref.c1; have fL3 := L3.ref.c2) | (go_at_call 10; refine L1.free.mono ?_; rintro e v2 ⟨rfl, L2⟩; have dL2 := L2.ref.c1; have fL2 := L2.ref.c2) | (go_at_call 6; refine L0.out.mono ?_; rintro e v1 ⟨rfl, L1⟩; have dL1 := L1.ref.c1; have fL1 := L1.ref.c2)))
        have L6 : Aside _ := L5
        clear L0 L1 L2 L3 L4 L5
        go_wp2_with fail
        go_roundw
        case rel => exact ⟨I + 1, o, m, by omega, by go_num, L6.out⟩
        case measure => simp [intOf]; omega
    · have HL : Aside (Pl w S wr n o m) := L
      clear L HA hI s1
      by_cases l1 : I < len
      · have l2 : ¬ (I : Int) < 200 := by omega
        have l1' : (I : Int) < (len : Int) := by omega
        clear c
        go_wp2_with fail
        refine (awake_any _).mono ?_
        rintro e w6 ⟨rfl, b6⟩
        have L3 : Aside _ := HL.out.grew b6
        clear b6 HL
        go_wp2_with fail
        go_ret
        exact ⟨rfl, by rw [hS]; exact L3.out.code.bel⟩
      · have l1' : ¬ (I : Int) < (len : Int) := by omega
        clear c
        go_wp2_with fail
        refine (awake_any _).mono ?_
        rintro e w6 ⟨rfl, b6⟩
        have L3 : Aside _ := HL.out.grew b6
        clear b6 HL
        go_wp2_with fail
        go_ret
        exact ⟨rfl, by rw [hS]; exact L3.out.code.bel⟩
theorem creditPlays_walk (x : Int) (a : Option Addr) (len cap : Nat) (B : Nat → Bool) (w : World) (wx : (Lit.int .i64 x).wf = true) (h : IsBools w a len B) :
    Calls Try.prog 4 #[.int .i64 x, .slice a len cap] w fun e w' => e = .returned (.bool true) ∧ Below w.heap.size w w' := by
  by_cases c : x < 1 ∨ 64 < x
  · exact plays_out x a len cap w c
  · obtain ⟨n, rfl⟩ : ∃ n : Nat, x = n := ⟨x.toNat, by omega⟩
    exact plays_in n a len cap B w h (by omega) (by omega)
end Go.Proofs.Ytigaonoilbakfaa

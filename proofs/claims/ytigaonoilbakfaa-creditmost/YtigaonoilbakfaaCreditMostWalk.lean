/- The walk of 'CreditMost'. -/
import Derived.Test.YtigaonoilbakfaaCrL
import Derived.Test.YtigaonoilbakfaaRowAt
import Derived.Test.YtigaonoilbakfaaMask
import Derived.Deep.LoopGhost
namespace Go.Proofs.Ytigaonoilbakfaa
open Go.RowKit
set_option linter.unusedVariables false

set_option maxHeartbeats 4000000 in
set_option maxRecDepth 100000 in
theorem creditMost_walk (x : Int) (sa : Option Addr) (len cap : Nat) (zs : List Int) (w : World) (wx : (Lit.int .i64 x).wf = true) (hrow : IsRow .i64 w sa len cap zs) :
    Calls Try.prog 3 #[.int .i64 x, .slice sa len cap] w fun e w' => e = .returned (.bool true) ∧ Below w.heap.size w w' := by
  clear wx
  have hl := hrow.len_le
  have hR : Aside (IsRow .i64 w sa len cap zs) := hrow
  clear hrow
  obtain ⟨Q, hQ, Q0, Q1⟩ : ∃ Q, bits .and .i64 x 63 = Q ∧ 0 ≤ Q ∧ Q < 64 := ⟨_, mask_i64 x 6 63 64 (by omega) rfl rfl, by omega, by omega⟩
  obtain ⟨n, hn, n0, n1⟩ : ∃ n : Nat, Q + 1 = n ∧ 1 ≤ n ∧ n ≤ 64 := ⟨(Q + 1).toNat, by omega, by omega, by omega⟩
  obtain ⟨S, hS⟩ : ∃ S, w.heap.size = S := ⟨_, rfl⟩
  go_enter Try.func3, Try.ntmps3
  go_wp2_with fail
  refine (new_any n w n0 n1).mono ?_
  rintro e w1 ⟨rfl, h1, b1, s1⟩
  rw [hS] at h1 b1 ⊢
  have HA : Aside (Ls w S w1 n 0 0) := Ls.new hS h1 b1
  clear hQ Q0 Q1 hn h1 b1 s1
  go_wp2_with fail
  go_loopw [7, 8] (fun q i wr => ∃ (I o M : Nat), I ≤ 60 ∧ i = .int .i64 I ∧ q = .int .i64 M ∧ Ls w S wr n o M) (fun _ i _ => 60 - (intOf i).toNat)
  case atStart => exact ⟨0, 0, 0, by omega, rfl, rfl, HA.out⟩
  case round =>
    obtain ⟨I, o0, M, hI, rfl, rfl, L⟩ := hrel
    have g1 := L.cr.om
    have g2 := L.cr.mn
    by_cases c : I < len ∧ I < 60
    · obtain ⟨l1, l2⟩ := c
      have l1' : (I : Int) < (len : Int) := by omega
      have l2' : (I : Int) < 60 := by omega
      obtain ⟨b, off, rfl, hbl, hc, hwf⟩ := hR.out.at l1
      have hc0 := (L.bel.cell (p := ⟨b, off + I, none⟩) (show b < S by omega)).trans hc
      generalize zs.getD I 0 = z at *
      clear hc hwf
      obtain ⟨Z, hZ, Z0⟩ : ∃ Z, bits .and .i64 z 255 = Z ∧ 0 ≤ Z := ⟨_, mask_i64 z 8 255 256 (by omega) rfl rfl, by omega⟩
      obtain ⟨T, hT, hTn⟩ : ∃ T : Nat, Z % ((n : Int) + 1) = T ∧ T ≤ n := by
        have := Int.emod_nonneg Z (show (n : Int) + 1 ≠ 0 by omega)
        have := Int.emod_lt_of_pos Z (show (0 : Int) < (n : Int) + 1 by omega)
        exact ⟨(Z % ((n : Int) + 1)).toNat, by omega, by omega⟩
      have HL : Aside (Ls w S wr n o0 M) := L
      clear L HA hI
      go_wp2_with fail
      simp only [hT]
      clear hZ Z0 hT hc0
      go_loopg [43] n (fun k _ wr => ∃ (o M1 : Nat), o0 ≤ o ∧ (o ≤ o0 ∨ o ≤ T) ∧ M1 = max M o ∧ T ≤ o + k ∧ Ls w S wr n o M1)
      case atStart => exact ⟨o0, M, by omega, by omega, by omega, by omega, HL.out⟩
      case round =>
        obtain ⟨o, M1, p1, p2, p3, p4, L⟩ := hrel
        have P := L.out
        have p3' : Aside (M1 = max M o) := p3
        clear L p3 HL
        go_wp2_with fail
        refine P.mono ?_
        rintro e w2 ⟨rfl, L⟩
        clear P
        by_cases c : o < T
        · have P := L.take (by omega)
          obtain ⟨M2, hM2⟩ : ∃ M2, max M1 (o + 1) = M2 := ⟨_, rfl⟩
          rw [hM2] at P
          have hM2' : Aside (max M1 (o + 1) = M2) := hM2
          clear L hM2
          go_wp2_with fail
          refine P.mono ?_
          rintro e w3 ⟨rfl, L⟩
          have L' : Aside _ := L
          clear P L
          go_wp2_with fail
          go_roundg (gk - 1)
          case measure => omega
          case rel =>
            have := p3'.out
            have := hM2'.out
            exact ⟨o + 1, M2, by omega, by omega, by omega, by omega, L'.out⟩
        · have L' : Aside (Ls w S w2 n o M1 ∧ M1 = max M T) := ⟨L, by have := p3'.out; omega⟩
          clear L p3'
          go_wp2_with fail
          go_loopg [50] n (fun k _ wr => ∃ (o : Nat), T ≤ o ∧ o ≤ T + k ∧ Ls w S wr n o M1)
          case atStart => exact ⟨o, by omega, by have := L'.out.1.cr.om; have := L'.out.1.cr.mn; omega, L'.out.1⟩
          case round =>
            obtain ⟨p, r1, r2, L⟩ := hrel
            have P := L.out
            have q1 := L.cr.om
            have q2 := L.cr.mn
            clear L
            go_wp2_with fail
            refine P.mono ?_
            rintro e w3 ⟨rfl, L⟩
            clear P
            by_cases c2 : T < p
            · obtain ⟨p', rfl⟩ : ∃ p', p = p' + 1 := ⟨p - 1, by omega⟩
              have P := L.give
              clear L
              have c2' : (T : Int) < ((p' + 1 : Nat) : Int) := by omega
              go_wp2_with fail
              refine P.mono ?_
              rintro e w4 ⟨rfl, L⟩
              have L2 : Aside _ := L
              clear P L
              go_wp2_with fail
              go_roundg (gk - 1)
              case measure => omega
              case rel => exact ⟨p', by omega, by omega, L2.out⟩
            · obtain rfl : p = T := by omega
              have hmax := maxI 3 #[3, 3] (M : Int) (p : Int) (M1 : Int) (by have := L'.out.2; omega)
              have P := L.most
              have wS : IntKind.i64.wrap ((n : Int) - p) = (n : Int) - p := by rw [IntKind.wrap_i64]; omega
              have L2 : Aside (M1 = max M p) := L'.out.2
              clear L L'
              go_wp2_with fail
              refine P.mono ?_
              rintro e w4 ⟨rfl, L⟩
              have P := L.free
              clear L
              go_wp2_with fail
              refine P.mono ?_
              rintro e w5 ⟨rfl, L⟩
              have L3 : Aside _ := L
              clear P L hmax
              go_wp2_with fail
              go_roundw
              case rel => exact ⟨I + 1, p, M1, by omega, by go_num, rfl, L3.out⟩
              case measure => simp [intOf]; omega
    · have HL : Aside (Ls w S wr n o0 M) := L
      clear L HA hI
      by_cases l1 : I < len
      · have l2 : ¬ (I : Int) < 60 := by omega
        have l1' : (I : Int) < (len : Int) := by omega
        clear c
        go_wp2_with fail
        go_loopg [72] n (fun k _ wr => ∃ (o M1 : Nat), o ≤ n ∧ n ≤ o + k ∧ Ls w S wr n o M1)
        case atStart => exact ⟨o0, M, by omega, by omega, HL.out⟩
        case round =>
          obtain ⟨o, M1, p1, p2, L⟩ := hrel
          have P := L.free
          clear L HL
          have wS : IntKind.i64.wrap ((n : Int) - o) = (n : Int) - o := by rw [IntKind.wrap_i64]; omega
          go_wp2_with fail
          refine P.mono ?_
          rintro e w2 ⟨rfl, L⟩
          clear P
          by_cases c : o < n
          · have P := L.take c
            have c' : (0 : Int) < (n : Int) - o := by omega
            clear L
            go_wp2_with fail
            refine P.mono ?_
            rintro e w3 ⟨rfl, L⟩
            have L2 : Aside _ := L
            clear P L
            go_wp2_with fail
            go_roundg (gk - 1)
            case measure => omega
            case rel => exact ⟨o + 1, _, by omega, by omega, L2.out⟩
          · obtain rfl : o = n := by omega
            obtain rfl : M1 = o := by have := L.cr.om; have := L.cr.mn; omega
            have c' : ¬ (0 : Int) < (M1 : Int) - M1 := by omega
            have P := L.takeNo
            clear L
            go_wp2_with fail
            refine P.mono ?_
            rintro e w3 ⟨rfl, L⟩
            have P := L.most
            clear L
            go_wp2_with fail
            refine P.mono ?_
            rintro e w4 ⟨rfl, L⟩
            have P := L.out
            clear L
            go_wp2_with fail
            refine P.mono ?_
            rintro e w5 ⟨rfl, L⟩
            have L2 : Aside _ := L
            clear P L
            go_wp2_with fail
            refine (awake_any _).mono ?_
            rintro e w6 ⟨rfl, b6⟩
            have L3 : Aside _ := L2.out.grew b6
            clear b6 L2
            go_wp2_with fail
            go_ret
            exact ⟨rfl, by rw [hS]; exact L3.out.bel⟩
      · have l1' : ¬ (I : Int) < (len : Int) := by omega
        clear c
        go_wp2_with fail
        go_loopg [72] n (fun k _ wr => ∃ (o M1 : Nat), o ≤ n ∧ n ≤ o + k ∧ Ls w S wr n o M1)
        case atStart => exact ⟨o0, M, by omega, by omega, HL.out⟩
        case round =>
          obtain ⟨o, M1, p1, p2, L⟩ := hrel
          have P := L.free
          clear L HL
          have wS : IntKind.i64.wrap ((n : Int) - o) = (n : Int) - o := by rw [IntKind.wrap_i64]; omega
          go_wp2_with fail
          refine P.mono ?_
          rintro e w2 ⟨rfl, L⟩
          clear P
          by_cases c : o < n
          · have P := L.take c
            have c' : (0 : Int) < (n : Int) - o := by omega
            clear L
            go_wp2_with fail
            refine P.mono ?_
            rintro e w3 ⟨rfl, L⟩
            have L2 : Aside _ := L
            clear P L
            go_wp2_with fail
            go_roundg (gk - 1)
            case measure => omega
            case rel => exact ⟨o + 1, _, by omega, by omega, L2.out⟩
          · obtain rfl : o = n := by omega
            obtain rfl : M1 = o := by have := L.cr.om; have := L.cr.mn; omega
            have c' : ¬ (0 : Int) < (M1 : Int) - M1 := by omega
            have P := L.takeNo
            clear L
            go_wp2_with fail
            refine P.mono ?_
            rintro e w3 ⟨rfl, L⟩
            have P := L.most
            clear L
            go_wp2_with fail
            refine P.mono ?_
            rintro e w4 ⟨rfl, L⟩
            have P := L.out
            clear L
            go_wp2_with fail
            refine P.mono ?_
            rintro e w5 ⟨rfl, L⟩
            have L2 : Aside _ := L
            clear P L
            go_wp2_with fail
            refine (awake_any _).mono ?_
            rintro e w6 ⟨rfl, b6⟩
            have L3 : Aside _ := L2.out.grew b6
            clear b6 L2
            go_wp2_with fail
            go_ret
            exact ⟨rfl, by rw [hS]; exact L3.out.bel⟩
end Go.Proofs.Ytigaonoilbakfaa

/- The walk of 'TableCounts'. -/
import Derived.Test.YtpenjncbodcbnaaDoorTbW
import Derived.Test.YtpenjncbodcbnaaDoorRowAt
import Derived.Test.YtpenjncbodcbnaaDoorMask
namespace Go.Proofs.YtpenjncbodcbnaaDoor
open Go.RowKit Go.Lib Go.WideMaps Go.Maps
set_option linter.unusedVariables false
theorem drewN_bel (u : World) (q : Nat) : Below u.heap.size u (u.drewN q) := ⟨rfl, rfl, rfl, Nat.le_refl _, fun _ _ => rfl⟩
theorem infoInt : (Tryd.prog.info? 3).map (fun i => (i.zero, i.size, i.bytes)) = some (some (.int .i64 0), 1, 8) := by kernel_rfl
set_option maxHeartbeats 8000000 in
set_option maxRecDepth 100000 in
theorem tableCounts_walk (nz : Int) (sa : Option Addr) (len cap : Nat) (zs : List Int) (w : World) (wn : (Lit.int .i64 nz).wf = true) (hrow : IsRow .i64 w sa len cap zs) (hN : True) :
    Calls Tryd.prog 3 #[.int .i64 nz, .slice sa len cap] w fun e w' => e = .returned (.bool true) ∧ Below w.heap.size w w' := by
  have hl := hrow.len_le
  have hR : Aside (IsRow .i64 w sa len cap zs) := hrow
  clear hrow wn hN
  obtain ⟨q, hq, q0⟩ : ∃ q, bits .and .i64 nz 255 = q ∧ 0 ≤ q := ⟨_, mask_i64 nz 8 255 256 (by omega) rfl rfl, by omega⟩
  obtain ⟨n, hn, n60⟩ : ∃ n : Nat, q % 61 = n ∧ n ≤ 60 := ⟨(q % 61).toNat, by omega, by omega⟩
  obtain ⟨N1, hN1, hN1'⟩ : ∃ N1 : Nat, (n : Int) + 1 = N1 ∧ n + 1 = N1 := ⟨n + 1, by omega, rfl⟩
  have hmk := run_make_row' (P := Tryd.prog) 22 3 (.int .i64 0) 8 Tryd.underlying22 infoInt rfl .i64 .i64 N1 (by omega) (by omega)
  obtain ⟨S, hS⟩ : ∃ S, w.heap.size = S := ⟨_, rfl⟩
  go_enter Tryd.func3, Tryd.ntmps3
  go_wp2_with fail
  refine (newT 60 w (by omega) (by omega)).mono ?_
  rintro e w1 ⟨B, X, rfl, D0, A0⟩
  rw [hS] at A0
  obtain ⟨R, hRR⟩ : ∃ R, w1.heap.size = R := ⟨_, rfl⟩
  have b1 : Below w1.heap.size w1 (w1.alloc (.cells (madeCells #[.int .i64 0] N1) 3)) := bel1 _ _
  have H0 : Aside (Cw w S (w1.alloc (.cells (madeCells #[.int .i64 0] N1) 3)) B R n [] (fun _ => 0) (fun _ => 0)) := by
    refine ⟨⟨X, D0.below b1, A0.below b1⟩, ?_, by rw [← hRR]; exact A0.sz, fun j x h => (by simp at h), fun x h => (by cases h), by simp, n60⟩
    have := World.rowIs_made w1 (.int .i64 0) N1 3
    rw [hRR, ← hN1'] at this
    rw [← hN1']
    exact this
  clear D0 A0 b1
  go_wp2_with fail
  clear hmk hq q0 hN1
  simp only [hn] at *
  clear hn
  have HN1 : Aside (N1 = n + 1) := hN1'.symm
  clear hN1'
  go_loopw [8] (fun s8 wr => ∃ (K : Nat) (T : List TR) (D : Nat → Int), 1 ≤ K ∧ K ≤ n + 1 ∧ s8 = .int .i64 K ∧ Aside (T.length + 1 = K) ∧ Aside (Cw w S wr B R n T D D)) (fun i _ => 100 - (intOf i).toNat)
  case atStart => exact ⟨1, [], fun _ => 0, by omega, by omega, rfl, rfl, H0.out⟩
  case round =>
    obtain ⟨K, T, D, k1, k2, rfl, hK, hC⟩ := hrel
    clear H0
    by_cases c : K ≤ n
    · have c' : (K : Int) ≤ (n : Int) := by omega
      have ci : (K : Int) < (N1 : Int) := by have := HN1.out; omega
      obtain ⟨e1, he1, e0⟩ : ∃ e1, bits .and .i64 (K : Int) 1 = e1 ∧ (e1 = 0 ∨ e1 = 1) := ⟨_, mask_i64 K 1 1 2 (by omega) rfl rfl, by omega⟩
      obtain ⟨p7, hp7, p70, p71⟩ : ∃ p7, bits .and .i64 (K : Int) 7 = p7 ∧ 0 ≤ p7 ∧ p7 ≤ 7 := ⟨_, mask_i64 K 3 7 8 (by omega) rfl rfl, by omega, by omega⟩
      obtain ⟨s, hs, s1, s2⟩ : ∃ s, 1 + e1 = s ∧ 1 ≤ s ∧ s ≤ 2 := ⟨_, rfl, by omega, by omega⟩
      have hm : mayB p7 s = true := by
        have : s = 1 ∨ s = 2 := by omega
        rcases this with rfl | rfl <;> simp [mayB, canB, p70, p71]
      have cR := hC.out.row.cell (i := K) (by omega)
      have fR := hC.out.row.frozen K
      obtain ⟨u, hu⟩ : ∃ u, wr.setCell ⟨R, K, none⟩ (.int .i64 s) = u := ⟨_, rfl⟩
      have hU : Aside (Cw w S u B R n T (putW D K s) (putW D K s)) := by
        have := hC.out.set K s
        rw [hu] at this
        exact this.congr (fun j hj => by rw [putW_other _ _ _ _ (by have := hK.out; omega)])
      have cU : u.cell? ⟨R, K, none⟩ = some (.int .i64 s) := by
        have := hU.out.row.cell (i := K) (by omega)
        rw [putW_same] at this
        exact this
      have P := hU.out.make p7 s hm K hK.out c (putW_same _ _ _)
      have HU : Aside _ := hu
      clear hu hC hU hm e0 hK
      go_upto_region 10 with fail
      rw [HU.out]
      go_wp2_with fail
      refine P.mono ?_
      rintro e w2 ⟨rfl, T2, hT2, C2⟩
      have C2 : Aside (T2.length = K ∧ Cw w S w2 B R n T2 (putW D K s) (putW D K s)) := ⟨hT2, C2⟩
      clear P hT2 cU cR fR
      go_wp2_with fail
      go_roundw
      case rel => exact ⟨K + 1, T2, putW D K s, by omega, by omega, by go_num, by have := C2.out.1; show T2.length + 1 = K + 1; omega, C2.out.2⟩
      case measure => simp [intOf]; omega
    · have c' : ¬ (K : Int) ≤ (n : Int) := by omega
      have H1 : Aside (T.length = n ∧ Cw w S wr B R n T D D) := ⟨by have := hK.out; omega, hC.out⟩
      clear hK hC
      go_wp2_with fail
      go_loopw [11] (fun s11 wr => ∃ (I : Nat) (T : List TR) (D : Nat → Int), I ≤ 60 ∧ s11 = .int .i64 I ∧ Aside (T.length = n ∧ Cw w S wr B R n T D D)) (fun i _ => 60 - (intOf i).toNat)
      case atStart => exact ⟨0, T, D, by omega, rfl, H1.out⟩
      case round =>
        clear H1 c c' k1 k2
        obtain ⟨I, T, D, hI, rfl, hC⟩ := hrel
        by_cases c : I < len ∧ I < 60 ∧ 0 < n
        · obtain ⟨l1, l2, l3⟩ := c
          have l1' : (I : Int) < (len : Int) := by omega
          have l2' : (I : Int) < 60 := by omega
          have l3' : (0 : Int) < (n : Int) := by omega
          have l3'' : ¬ (n : Int) = 0 := by omega
          obtain ⟨b, off, rfl, hbl, hc, hwf⟩ := hR.out.at l1
          have hc0 := (hC.out.2.bel.cell (p := ⟨b, off + I, none⟩) (show b < S by omega)).trans hc
          generalize zs.getD I 0 = z at *
          clear hc hwf
          obtain ⟨Z, hZ, Z0⟩ : ∃ Z, bits .and .i64 z 255 = Z ∧ 0 ≤ Z := ⟨_, mask_i64 z 8 255 256 (by omega) rfl rfl, by omega⟩
          obtain ⟨Z2, hZ2, Z20⟩ : ∃ Z2, bits .and .i64 (z / 256) 255 = Z2 ∧ 0 ≤ Z2 := ⟨_, mask_i64 (z / 256) 8 255 256 (by omega) rfl rfl, by omega⟩
          obtain ⟨x, hx, x1⟩ : ∃ x : Nat, Z % (n : Int) = x ∧ x < n := by
            have := Int.emod_nonneg Z (show (n : Int) ≠ 0 by omega)
            have := Int.emod_lt_of_pos Z (show (0 : Int) < n by omega)
            exact ⟨(Z % (n : Int)).toNat, by omega, by omega⟩
          obtain ⟨Q, hQ, Q0, Q1⟩ : ∃ Q, Z2 % 7 = Q ∧ 0 ≤ Q ∧ Q < 7 := ⟨_, rfl, by omega, by omega⟩
          obtain ⟨Y, hY, hY'⟩ : ∃ Y : Nat, (x : Int) + 1 = Y ∧ x + 1 = Y := ⟨x + 1, by omega, rfl⟩
          have ci : (Y : Int) < (N1 : Int) := by have := HN1.out; omega
          have P : Aside (∀ k, Calls Tryd.prog 7 #[.pointer (some ⟨B, 0, none⟩), .int .i64 Y, .int .i64 Q] (wr.drewN k) _) := fun k => (hC.out.2.below (drewN_bel wr k)).turn Y (by omega) (by have := hC.out.1; omega) Q
          have hTn : Aside (T.length = n) := hC.out.1
          have VC := rcan_any (D Y) Q
          clear hC
          go_upto_region 16 with fail
          go_quiet (fail)
          try simp only [hx]
          try simp only [hQ]
          try simp only [hY]
          clear hc0 hZ hZ2 hx hQ Z0 Z20 hY
          go_wp2_with fail
          refine Calls.mono (P.out _) ?_
          rintro e w2 ⟨z', rfl, T2, E, hT2, C2, hcase⟩
          have cR := C2.row.cell (i := Y) (by omega)
          have fR := C2.row.frozen Y
          clear P
          obtain ⟨dY, hdY⟩ : ∃ dY, D Y = dY := ⟨_, rfl⟩
          rw [hdY] at cR VC hcase
          have HdY : Hid _ := hdY
          clear hdY
          rcases hcase with ⟨hcan, hz, hE⟩ | ⟨hcan, hz, hE⟩
          · rw [hcan] at VC
            subst hz
            have CU : Aside (T2.length = n ∧ Cw w S (w2.setCell ⟨R, Y, none⟩ (.int .i64 Q)) B R n T2 (putW D Y Q) (putW D Y Q)) := ⟨by rw [hT2]; exact hTn.out, by have := C2.set Y Q; rw [hE] at this; exact this⟩
            clear C2 hE hcan hT2
            go_wp2_with fail
            refine (VC _).mono ?_
            rintro e w3 ⟨rfl, rfl⟩
            clear VC
            go_wp2_with fail
            go_roundw
            case rel => exact ⟨I + 1, T2, putW D Y Q, by omega, by go_num, CU.out⟩
            case measure => simp [intOf]; omega
          · rw [hcan] at VC
            have hz' : (z' == 0) = false := by simpa using hz
            have CU : Aside (T2.length = n ∧ Cw w S w2 B R n T2 D D) := ⟨by rw [hT2]; exact hTn.out, by rw [hE] at C2; exact C2⟩
            clear C2 hE hcan hT2 hz
            go_wp2_with fail
            refine (VC _).mono ?_
            rintro e w3 ⟨rfl, rfl⟩
            clear VC
            go_wp2_with fail
            go_roundw
            case rel => exact ⟨I + 1, T2, D, by omega, by go_num, CU.out⟩
            case measure => simp [intOf]; omega
        · have hex : (¬ (I : Int) < (len : Int)) ∨ ((I : Int) < (len : Int) ∧ ¬ (I : Int) < 60) ∨ ((I : Int) < (len : Int) ∧ (I : Int) < 60 ∧ ¬ (0 : Int) < (n : Int)) := by omega
          clear c
          rcases hex with h1 | ⟨h1, h2⟩ | ⟨h1, h2, h3⟩
          all_goals
            go_wp2_with fail
            go_loopw [15, 16] (fun s15 s16 wz => ∃ (K A : Nat), K ≤ 7 ∧ s16 = .int .i64 K ∧ s15 = .int .i64 A ∧ Aside (T.countP (slt K) = A) ∧ wz = wr) (fun _ i _ => 7 - (intOf i).toNat)
            case atStart => exact ⟨0, 0, by omega, rfl, rfl, slt_0 T, by first | rfl | trivial⟩
            case round =>
              obtain ⟨K, A, hK, rfl, rfl, hA, rfl⟩ := hrel
              have hA1 : A ≤ 60 := by have := cntP_le (slt K) T; have := hA.out; have := hC.out.1; omega
              by_cases cK : K < 7
              · have cK' : (K : Int) < 7 := by omega
                go_wp2_with fail
                go_loopw [17, 18] (fun s17 s18 wz => ∃ (J V : Nat), 1 ≤ J ∧ J ≤ n + 1 ∧ s18 = .int .i64 J ∧ s17 = .int .i64 V ∧ Aside (cw D K (J - 1) = V) ∧ wz = wr) (fun _ i _ => 100 - (intOf i).toNat)
                case atStart => exact ⟨1, 0, by omega, by omega, rfl, rfl, rfl, by first | rfl | trivial⟩
                case round =>
                  obtain ⟨J, V, j1, j2, rfl, rfl, hV, rfl⟩ := hrel
                  have V1 : V ≤ 61 := by have := cw_le D K (J - 1); have := hV.out; omega
                  by_cases cJ : J ≤ n
                  · have cJ' : (J : Int) ≤ (n : Int) := by omega
                    have ci : (J : Int) < (N1 : Int) := by have := HN1.out; omega
                    have cR := hC.out.2.row.cell (i := J) (by omega)
                    obtain ⟨dJ, hdJ⟩ : ∃ dJ, D J = dJ := ⟨_, rfl⟩
                    rw [hdJ] at cR
                    have up : cw D K (J + 1 - 1) = V + (if dJ = (K : Int) then 1 else 0) := by
                      obtain ⟨J', rfl⟩ : ∃ J', J = J' + 1 := ⟨J - 1, by omega⟩
                      have h1 := hV.out
                      rw [Nat.add_sub_cancel] at h1 ⊢
                      rw [cw, h1, hdJ]
                    clear hdJ
                    by_cases e : dJ = (K : Int)
                    · rw [if_pos e] at up
                      have NX : Aside (cw D K (J + 1 - 1) = V + 1) := up
                      clear up
                      subst e
                      go_wp2_with fail
                      go_roundw
                      case rel => exact ⟨J + 1, V + 1, by omega, by omega, by go_num, by go_num, NX.out, by first | rfl | trivial⟩
                      case measure => simp [intOf]; omega
                    · rw [if_neg e] at up
                      have NX : Aside (cw D K (J + 1 - 1) = V) := up
                      have e' : (dJ == (K : Int)) = false := by simpa using e
                      clear up e
                      go_wp2_with fail
                      go_roundw
                      case rel => exact ⟨J + 1, V, by omega, by omega, by go_num, rfl, NX.out, by first | rfl | trivial⟩
                      case measure => simp [intOf]; omega
                  · have cJ' : ¬ (J : Int) ≤ (n : Int) := by omega
                    have hcnt : T.countP (ofS K) = V := by
                      have h1 := hV.out
                      rw [show J - 1 = n by omega] at h1
                      rw [cw_all hC.out.2 hC.out.1, h1]
                    have P := hC.out.2.count K (wfI_8 (by omega))
                    rw [hcnt] at P
                    have NXA : Aside (T.countP (slt (K + 1)) = A + V) := by show T.countP (slt (K + 1)) = A + V; rw [slt_up, hA.out, hcnt]
                    clear hcnt
                    go_wp2_with fail
                    refine P.mono ?_
                    rintro e w3 ⟨rfl, rfl⟩
                    clear P
                    go_wp2_with fail
                    go_roundw
                    case rel => exact ⟨K + 1, A + V, by omega, by go_num, by go_num, NXA.out, by first | rfl | trivial⟩
                    case measure => simp [intOf]; omega
              · obtain rfl : K = 7 := by omega
                have hAn : A = n := by rw [← hA.out, slt_7 hC.out.2, hC.out.1]
                have cK' : ¬ ((7 : Nat) : Int) < 7 := by omega
                subst hAn
                have PM := make_no (B := B) 8 0 0 0 0 0 2 wr (wfI_of (by omega) (by omega)) (by decide)
                go_wp2_with fail
                refine PM.mono ?_
                rintro e w3 ⟨rfl, b3⟩
                have C3 : Aside (Cw w S w3 B R A T D D) := hC.out.2.below b3
                have PL := C3.out.len
                rw [hC.out.1] at PL
                clear PM b3
                go_wp2_with fail
                refine PL.mono ?_
                rintro e w4 ⟨rfl, rfl⟩
                have AW : Aside (Calls Tryd.prog 11 #[] w4 fun e w' => e = .returned (.bool true) ∧ Below S w w') := (awakeT w4).mono (fun e w' ⟨h1, h2⟩ => ⟨h1, C3.out.bel.trans (h2.mono C3.out.sz)⟩)
                clear PL
                go_wp2_with fail
                refine Calls.mono AW.out ?_
                rintro e w5 ⟨rfl, b5⟩
                go_wp2_with fail
                go_ret
                exact ⟨rfl, by first | exact b5 | (rw [hS]; exact b5)⟩
end Go.Proofs.YtpenjncbodcbnaaDoor

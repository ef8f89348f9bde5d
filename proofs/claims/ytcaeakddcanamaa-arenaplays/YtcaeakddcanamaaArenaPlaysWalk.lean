/- The walk of 'ArenaPlays'. -/
import Derived.Test.YtcaeakddcanamaaArenaBoth
import Derived.Test.YtcaeakddcanamaaRecs
import Derived.Deep.RegionHeld3
import Derived.Deep.CutBlock
namespace Go.Proofs.Ytcaeakddcanamaa
open Go.RowKit
set_option linter.unusedVariables false

set_option maxRecDepth 100000 in
theorem plays_out (x : Int) (a : Option Addr) (len cap : Nat) (w : World) (hx : x < 1 ∨ 1000 < x) :
    Calls Try.prog 5 #[.int .i64 x, .slice a len cap] w fun e w' => e = .returned (.bool true) ∧ Below w.heap.size w w' := by
  have hx2 : Hid (x < 1 ∨ 1000 < x) := hx
  rcases hx with hx | hx
  · have h20 : ¬ 12 < x := by omega
    go_enter Try.func5, Try.ntmps5
    go_wp2_with fail
    refine (new_out x w hx2).mono ?_
    rintro e w1 ⟨rfl, rfl⟩
    go_wp2_with fail
    refine (awake_any _).mono ?_
    rintro e w12 ⟨rfl, b6⟩
    go_wp2_with fail
    go_ret
    exact ⟨rfl, b6⟩
  · have h20 : 12 < x := by omega
    have h21 : ¬ x ≤ 1000 := by omega
    have h22 : ¬ x < 1 := by omega
    go_enter Try.func5, Try.ntmps5
    go_wp2_with fail
    refine (new_out x w hx2).mono ?_
    rintro e w1 ⟨rfl, rfl⟩
    go_wp2_with fail
    refine (awake_any _).mono ?_
    rintro e w12 ⟨rfl, b6⟩
    go_wp2_with fail
    go_ret
    exact ⟨rfl, b6⟩

theorem both_start (w w1 : World) (n : Nat) (n1 : 1 ≤ n) (n2 : n ≤ 12) (h1 : AAt w1 (w.heap.size + 2) (w.heap.size + 1) w.heap.size n (fun _ => 0)) (b1 : Below w.heap.size w w1) (z1 : w1.heap.size = w.heap.size + 3) :
    Both w.heap.size n w (((w1.alloc (.cells (madeCells #[.int .u64 0] n) 28)).alloc (.cells #[.slice (some ⟨w.heap.size + 3, 0, none⟩) n n] 42)).alloc (.cells (madeCells #[.int .u64 0] (n + 1)) 28)) (fun _ => 0) (fun _ => 0) := by
  obtain ⟨u1, hu1⟩ : ∃ u1, u1 = w1.alloc (.cells (madeCells #[.int .u64 0] n) 28) := ⟨_, rfl⟩
  obtain ⟨u2, hu2⟩ : ∃ u2, u2 = u1.alloc (.cells #[.slice (some ⟨w.heap.size + 3, 0, none⟩) n n] 42) := ⟨_, rfl⟩
  have s1 : u1.heap.size = w.heap.size + 4 := by rw [hu1]; simp [z1]
  have s2 : u2.heap.size = w.heap.size + 5 := by rw [hu2]; simp [s1]
  rw [← hu1, ← hu2]
  have r1 := World.rowIs_made w1 (.int .u64 0) n 28
  rw [← hu1, z1] at r1
  have g1 : Below w1.heap.size w1 u1 := by rw [hu1]; exact (Below.refl _ _).alloc (Nat.le_refl _) _
  have g2 : Below u1.heap.size u1 u2 := by rw [hu2]; exact (Below.refl _ _).alloc (Nat.le_refl _) _
  have g3 : Below u2.heap.size u2 (u2.alloc (.cells (madeCells #[.int .u64 0] (n + 1)) 28)) := (Below.refl _ _).alloc (Nat.le_refl _) _
  have r3 := World.rowIs_made u2 (.int .u64 0) (n + 1) 28
  rw [s2] at r3
  have hd := heap_alloc_new u1 (.cells #[.slice (some ⟨w.heap.size + 3, 0, none⟩) n n] 42)
  rw [← hu2, s1] at hd
  refine ⟨((h1.grew g1).grew g2).grew g3, ⟨by omega, ?_, (r1.of_block (g2.block _ (by omega))).of_block (g3.block _ (by omega)), fun i hi => by simp, by omega⟩, r3, fun _ => ⟨Int.le_refl _, by decide⟩, ((b1.trans (g1.mono (by omega))).trans (g2.mono (by omega))).trans (g3.mono (by omega))⟩
  rw [g3.block _ (by omega)]
  exact hd

set_option maxRecDepth 100000 in
set_option maxHeartbeats 4000000 in
theorem plays_in (x : Int) (a : Option Addr) (len cap : Nat) (Z : Nat → Nat → Int) (w : World) (h : IsRecs [.i64, .i64, .i64, .u64] w a len Z) (x1 : 1 ≤ x) (x2 : x ≤ 1000) :
    Calls Try.prog 5 #[.int .i64 x, .slice a len cap] w fun e w' => e = .returned (.bool true) ∧ Below w.heap.size w w' := by
  have hl := h.len_le
  have hh : Hid (IsRecs [.i64, .i64, .i64, .u64] w a len Z) := h
  clear h
  obtain ⟨n, hn, n1, n2⟩ : ∃ n : Nat, (if 12 < x then x % 12 + 1 else x) = n ∧ 1 ≤ n ∧ n ≤ 12 := by
    split
    · exact ⟨(x % 12 + 1).toNat, by omega, by omega, by omega⟩
    · exact ⟨x.toNat, by omega, by omega, by omega⟩
  have g1 : ¬ (n : Int) < 1 := by omega
  have g2 : ¬ (1000 : Int) < (n : Int) := by omega
  obtain ⟨N, hN, hN'⟩ : ∃ N : Nat, (n : Int) + 1 = N ∧ N = n + 1 := ⟨n + 1, by omega, rfl⟩
  have HN : Hid (N = n + 1) := hN'
  have hmk := run_make_row' (P := Try.prog) 40 28 (.int .u64 0) 8 Try.underlying40 infoU64 rfl .i64 .i64 n (by omega) (by omega)
  have hmk2 := run_make_row' (P := Try.prog) 40 28 (.int .u64 0) 8 Try.underlying40 infoU64 rfl .i64 .i64 N (by omega) (by omega)
  clear hN'
  go_enter Try.func5, Try.ntmps5
  go_upto_region 1 with fail
  go_cut [28] from 23 to 31 (fun v wr => v = .bool (decide (12 < x)) ∧ wr = w)
  case first =>
    by_cases h20 : 12 < x
    · go_wp2_with fail
      go_meet
      exact ⟨by simp [h20], rfl⟩
    · go_wp2_with fail
      go_meet
      exact ⟨by simp [h20], rfl⟩
  case rest =>
    obtain ⟨rfl, rfl⟩ := hcut
    go_upto_if 28 with fail
    go_cut [0] from 23 to 31 (fun v wr => v = .int .i64 n ∧ wr = wc)
    case first =>
      by_cases h20 : 12 < x
      · simp only [h20, if_true] at hn
        go_wp2_with fail
        go_meet
        exact ⟨by rw [← hn], rfl⟩
      · simp only [h20, if_false] at hn
        go_wp2_with fail
        go_meet
        exact ⟨by rw [← hn], rfl⟩
    case rest =>
      obtain ⟨rfl, rfl⟩ := hcut
      clear hn x1 x2
      rename World => w0
      go_wp2_with fail
      refine (new_in n w0 (by omega) (by omega)).mono ?_
      rintro e w1 ⟨rfl, h1, b1, z1⟩
      have HB : Hid _ := both_start w0 w1 n n1 n2 h1 b1 z1
      have hN3 := HN.out
      rw [← hN3] at HB
      clear hN3
      go_wp2_with fail
      refine (len_any w1 _ _ _ n _ h1).mono ?_
      rintro e w2 ⟨rfl, rfl⟩
      clear h1 b1
      go_wp2_with fail
      simp only [show w0.heap.size + 3 + 1 + 1 = w0.heap.size + 5 from rfl, show w0.heap.size + 3 + 1 = w0.heap.size + 4 from rfl]
      clear hmk hmk2
      go_loopw [9] (fun i wr => ∃ (I : Nat) (ws R : Nat → Int), I ≤ 60 ∧ i = .int .i64 I ∧ Both w0.heap.size n w0 wr ws R)
        (fun i _ => 60 - (intOf i).toNat)
      case atStart => exact ⟨0, _, _, by omega, rfl, HB.out⟩
      case round =>
        obtain ⟨I, ws, R, hI, rfl, hB⟩ := hrel
        have bw := hB.below
        clear HB z1
        by_cases hgo : I < len ∧ I < 60
        · obtain ⟨l1, l2⟩ := hgo
          have l1' : (I : Int) < (len : Int) := by omega
          have l2' : (I : Int) < 60 := by omega
          obtain ⟨b, off, rfl, hbl, hc⟩ := hh.out.elem I l1
          have hc0 := (bw.cell (p := ⟨b, off + I * 4, none⟩) hbl).trans (hc 0 .i64 rfl).1
          have hc1 := (bw.cell (p := ⟨b, off + I * 4 + 1, none⟩) hbl).trans (hc 1 .i64 rfl).1
          have hc2 := (bw.cell (p := ⟨b, off + I * 4 + 2, none⟩) hbl).trans (hc 2 .i64 rfl).1
          have hc3 := (bw.cell (p := ⟨b, off + I * 4 + 3, none⟩) hbl).trans (hc 3 .u64 rfl).1
          obtain ⟨J0, J1⟩ := bounds_i64 (hc 1 .i64 rfl).2
          have wfA : Hid _ := (hc 2 .i64 rfl).2
          obtain ⟨B0, B1⟩ := bounds_u64 (hc 3 .u64 rfl).2
          clear hc
          generalize Z I 0 = K at *
          generalize Z I 1 = J at *
          generalize Z I 2 = A at *
          generalize Z I 3 = B at *
          have hS5 := hB.was.lt
          go_upto_block 2 with fail
          have hb := hB.alloc (.cells #[.int .i64 K, .int .i64 J, .int .i64 A, .int .u64 B] 44)
          obtain ⟨H, hH⟩ : ∃ H, H = wr.heap.size := ⟨_, rfl⟩
          obtain ⟨u, hu⟩ : ∃ u, u = wr.alloc (.cells #[.int .i64 K, .int .i64 J, .int .i64 A, .int .u64 B] 44) := ⟨_, rfl⟩
          have o0 : u.cell? ⟨H, 0, none⟩ = some (.int .i64 K) := by rw [hu, hH]; simp
          have o1 : u.cell? ⟨H, 1, none⟩ = some (.int .i64 J) := by rw [hu, hH]; simp
          have o2 : u.cell? ⟨H, 2, none⟩ = some (.int .i64 A) := by rw [hu, hH]; simp
          have o3 : u.cell? ⟨H, 3, none⟩ = some (.int .u64 B) := by rw [hu, hH]; simp
          have hHu : Hid (H < u.heap.size) := by show H < u.heap.size; rw [hu, hH]; simp
          rw [← hu] at hb ⊢
          rw [← hH] at hS5
          simp only [← hH]
          clear hu hH hc0 hc1 hc2 hc3 bw hB
          go_cut [] from 71 to 222 (fun v => ∃ us R', Both w0.heap.size n w0 v us R')
          case first =>
            have KC : Hid (∀ v v' : World, (Kept (w0.heap.size + 2) (w0.heap.size + 1) w0.heap.size v v' ∨ Kept (w0.heap.size + 3) (w0.heap.size + 3) (w0.heap.size + 3) v v') → (H < v.heap.size ∧ v.cell? ⟨H, 1, none⟩ = some (.int .i64 J) ∧ v.cell? ⟨H, 2, none⟩ = some (.int .i64 A)) → (H < v'.heap.size ∧ v'.cell? ⟨H, 1, none⟩ = some (.int .i64 J) ∧ v'.cell? ⟨H, 2, none⟩ = some (.int .i64 A))) := by
              rintro v v' (d | d) ⟨x0, x1, x2⟩ <;> exact ⟨by have := d.size; omega, (d.cell (by simp; omega) (by simp; omega) (by simp; omega) (by simp; omega)).trans x1, (d.cell (by simp; omega) (by simp; omega) (by simp; omega) (by simp; omega)).trans x2⟩
            have HB : Hid (Both w0.heap.size n w0 u ws R) := hb
            have FX : Hid _ := hb.code.fits
            clear hb
            by_cases k0 : K = 0
            · subst k0
              obtain ⟨y, f, us, XC, XR⟩ := alloc_both n ws A wfA.out
              have HC : Hid _ := XC
              have HR : Hid _ := XR
              clear XC XR
              go_wp2_with fail
              refine (HC.out _ _ _ _ HB.out.code).mono ?_
              rintro e v1 ⟨rfl, c1, k1⟩
              obtain ⟨z1, e1, e2⟩ := KC.out u v1 (.inl k1) ⟨hHu.out, o1, o2⟩
              have r1 := HB.out.mid k1
              have C1 : Hid _ := And.intro c1 k1
              clear c1 k1
              go_wp2_with fail
              refine (HR.out _ _ _ r1).mono ?_
              rintro e v2 ⟨rfl, r2, k2⟩
              have E : Hid _ := HB.out.step C1.out.2 C1.out.1 k2 r2
              clear r1 r2 k2 C1 e1 e2 z1
              go_wp2_with fail
              go_meet
              exact ⟨_, _, E.out⟩
            · by_cases k3 : K = 3
              · subst k3
                obtain ⟨f, us, XC, XR⟩ := free_both n ws J
                have HC : Hid _ := XC
                have HR : Hid _ := XR
                have HD : Hid _ := HB.out.drewN 1
                clear XC XR k0
                go_wp2_with fail
                go_region_held3 (fun w' => w'.cell? ⟨H, 1, none⟩ = some (.int .i64 J)) (go_keep) ((first | (go_at_call 10; refine (HC.out u.drew _ _ _ HD.out.code).mono ?_; rintro e v1 ⟨rfl, c1, k1⟩; obtain ⟨z1, e1, e2⟩ := KC.out u.drew v1 (.inl k1) ⟨hHu.out, o1, o2⟩; have r1 := HD.out.mid k1) | (go_at_call 17; refine (HR.out _ _ _ r1).mono ?_; rintro e v2 ⟨rfl, r2, k2⟩; obtain ⟨z1', e1', e2'⟩ := KC.out v1 v2 (.inr k2) ⟨z1, e1, e2⟩)))
                have E : Hid _ := HD.out.step k1 c1 k2 r2
                clear r1 r2 k2 c1 k1 e1 e2 z1 e1' e2' z1'
                go_wp2_with fail
                go_meet
                exact ⟨_, _, E.out⟩
              · have k0' : (K == 0) = false := by simpa using k0
                have k3' : (K == 3) = false := by simpa using k3
                obtain ⟨W, W0, W1, WW, WS, WR⟩ := word_both n ws FX.out J J0 J1
                have HWR : Hid _ := WR
                clear WW WS WR k0 k3
                go_upto_if 91 with fail
                go_cut [15] from 71 to 222 (fun v wr => (∃ U, v = .int .u64 U ∧ 0 ≤ U ∧ U < 18446744073709551616) ∧ wr = u)
                case first =>
                  as_aux_lemma =>
                    by_cases k1 : K = 1
                    · subst k1
                      go_wp2_with fail
                      refine (HWR.out _ _ _ HB.out.ref).mono ?_
                      rintro e v0 ⟨rfl, rfl⟩
                      go_wp2_with fail
                      go_meet
                      exact ⟨⟨W, rfl, W0, W1⟩, rfl⟩
                    · have k1' : (K == 1) = false := by simpa using k1
                      clear k1
                      go_wp2_with fail
                      go_meet
                      exact ⟨⟨B, rfl, B0, B1⟩, rfl⟩
                case rest =>
                  obtain ⟨⟨U, rfl, U0, U1⟩, rfl⟩ := hcut
                  go_upto_region 18 with fail
                  go_cut [109] from 71 to 222 (fun v wr => (∃ T : Bool, v = .bool T ∧ (T = true → 1 ≤ J ∧ J ≤ (n : Int))) ∧ wr = wc)
                  case first =>
                    as_aux_lemma =>
                      have tests : (K = 2 ∧ ¬ 1 ≤ J) ∨ (K = 2 ∧ 1 ≤ J ∧ ¬ J ≤ (n : Int)) ∨ (K = 2 ∧ 1 ≤ J ∧ J ≤ (n : Int)) ∨ K ≠ 2 := by omega
                      rcases tests with ⟨rfl, j1⟩ | ⟨rfl, j1, j2⟩ | ⟨rfl, j1, j2⟩ | k2
                      · go_wp2_with fail
                        go_meet
                        exact ⟨⟨false, rfl, fun h => absurd h (by decide)⟩, rfl⟩
                      · go_wp2_with fail
                        go_meet
                        exact ⟨⟨false, by simp, fun h => absurd h (by decide)⟩, rfl⟩
                      · have JJ : Hid (1 ≤ J ∧ J ≤ (n : Int)) := ⟨j1, j2⟩
                        go_wp2_with fail
                        go_meet
                        exact ⟨⟨true, rfl, fun _ => JJ.out⟩, rfl⟩
                      · have k2' : (K == 2) = false := by simpa using k2
                        clear k2
                        go_wp2_with fail
                        go_meet
                        exact ⟨⟨false, rfl, fun h => absurd h (by decide)⟩, rfl⟩
                  case rest =>
                    obtain ⟨⟨T, rfl, hT⟩, rfl⟩ := hcut
                    have HT : Hid (T = true → 1 ≤ J ∧ J ≤ (n : Int)) := hT
                    clear hT
                    go_upto_if 109 with fail
                    go_cut [15] from 71 to 222 (fun v wr => (∃ U, v = .int .u64 U ∧ 0 ≤ U ∧ U < 18446744073709551616) ∧ wr = wc)
                    case first =>
                      as_aux_lemma =>
                        by_cases hT : T = true
                        · subst hT
                          obtain ⟨hJ1, hJ2⟩ := HT.out rfl
                          obtain ⟨j, rfl⟩ : ∃ j : Nat, J = j := ⟨J.toNat, by omega⟩
                          have hjN : (j : Int) < (N : Int) := by omega
                          have hjn : j < n + 1 := by omega
                          have cR := HB.out.was.cell hjn
                          obtain ⟨Y0, Y1⟩ := HB.out.fits j
                          obtain ⟨Y, hY⟩ : ∃ Y, R j = Y := ⟨_, rfl⟩
                          simp only [hY] at cR Y0 Y1
                          clear hY
                          go_wp2_with fail
                          go_meet
                          exact ⟨⟨Y, rfl, Y0, Y1⟩, rfl⟩
                        · rw [Bool.not_eq_true] at hT
                          subst hT
                          go_wp2_with fail
                          go_meet
                          exact ⟨⟨U, rfl, U0, U1⟩, rfl⟩
                    case rest =>
                      clear U0 U1 HT
                      obtain ⟨⟨U, rfl, U0, U1⟩, rfl⟩ := hcut
                      obtain ⟨y, f, us, hf, TC, TR⟩ := turn_both n ws J U A U0 U1
                      have HT : Hid _ := And.intro TC TR
                      have HF : Hid _ := hf
                      clear TC TR hf
                      go_wp2_with fail
                      refine (HWR.out _ _ _ HB.out.ref).mono ?_
                      rintro e v9 ⟨rfl, rfl⟩
                      go_wp2_with fail
                      refine (HT.out.1 _ _ _ _ HB.out.code).mono ?_
                      rintro e v1 ⟨rfl, c1, k1⟩
                      obtain ⟨z1, e1, e2⟩ := KC.out _ v1 (.inl k1) ⟨hHu.out, o1, o2⟩
                      have r1 := HB.out.mid k1
                      have C1 : Hid _ := And.intro c1 k1
                      clear c1 k1
                      go_wp2_with fail
                      refine (HT.out.2 _ _ _ r1).mono ?_
                      rintro e v2 ⟨rfl, r2, k2⟩
                      obtain ⟨z2, d1, d2⟩ := KC.out v1 v2 (.inr k2) ⟨z1, e1, e2⟩
                      have E : Hid _ := HB.out.step C1.out.2 C1.out.1 k2 r2
                      clear r1 r2 k2 C1 e1 e2 z1
                      by_cases hf0 : f = 0
                      · obtain ⟨hJ1, hJ2⟩ := HF.out hf0
                        subst hf0
                        obtain ⟨j, rfl⟩ : ∃ j : Nat, J = j := ⟨J.toNat, by omega⟩
                        have hjN : (j : Int) < (N : Int) := by omega
                        have hjn : j < n + 1 := by omega
                        have cw := E.out.was.cell hjn
                        have fw := E.out.was.frozen j
                        go_wp2_with fail
                        go_meet
                        exact ⟨_, _, E.out.store j W W0 W1⟩
                      · have hf1 : (f == 0) = false := by simpa using hf0
                        clear hf0
                        go_wp2_with fail
                        go_meet
                        exact ⟨_, _, E.out⟩
          case rest =>
            obtain ⟨us, R', hM⟩ := hcut
            have FX : Hid _ := hM.code.fits
            have FK : Hid _ := hM.code.ok
            have HM : Hid _ := hM
            clear hb o0 o1 o2 o3 hS5 hHu J0 J1 B0 B1 wfA hM
            go_wp2_with fail
            go_loopw [21] (fun i v => ∃ (k : Nat), k ≤ n + 2 ∧ i = .int .i64 k ∧ Both w0.heap.size n w0 v us R')
              (fun i _ => n + 2 - (intOf i).toNat)
            case atStart => exact ⟨0, by omega, rfl, HM.out⟩
            case round =>
              obtain ⟨k, hk, rfl, hQ⟩ := hrel
              clear HM
              have hN2 := HN.out
              by_cases hkn : k ≤ n + 1
              · have hkn' : (k : Int) ≤ (N : Int) := by omega
                clear hN2
                obtain ⟨X, X0, X1, XW, XS, XR⟩ := word_both n us FX.out k (by omega) (by omega)
                have HW : Hid _ := XW
                have HS : Hid _ := XS
                have HR : Hid _ := XR
                clear XW XS XR
                go_wp2_with fail
                refine (HW.out _ _ _ _ hQ.code).mono ?_
                rintro e v1 ⟨rfl, q1, k1⟩
                have hQ1 := hQ.read k1 q1
                clear q1 k1 hQ
                go_wp2_with fail
                refine (HR.out _ _ _ hQ1.ref).mono ?_
                rintro e v2 ⟨rfl, rfl⟩
                go_wp2_with fail
                refine (HS.out _ _ _ _ hQ1.code).mono ?_
                rintro e v3 ⟨rfl, q1, k1⟩
                have hQ3 := hQ1.read k1 q1
                clear q1 k1 hQ1
                go_wp2_with fail
                refine (HR.out _ _ _ hQ3.ref).mono ?_
                rintro e v4 ⟨rfl, rfl⟩
                go_wp2_with fail
                refine (rstate_any X _ X0 X1).mono ?_
                rintro e v5 ⟨rfl, rfl⟩
                go_wp2_with fail
                go_roundw
                case rel => exact ⟨k + 1, by omega, by go_num, hQ3⟩
                case measure => simp [intOf]; omega
              · have hkn' : ¬ (k : Int) ≤ (N : Int) := by omega
                clear hN2
                have HM : Hid _ := hQ
                clear hQ
                go_wp2_with fail
                go_loopw [22] (fun i v => ∃ (k : Nat), k ≤ 8 ∧ i = .int .i64 k ∧ Both w0.heap.size n w0 v us R')
                  (fun i _ => 8 - (intOf i).toNat)
                case atStart => exact ⟨0, by omega, rfl, HM.out⟩
                case round =>
                  obtain ⟨k2, hk2, rfl, hQ⟩ := hrel
                  clear HM
                  by_cases hk7 : k2 ≤ 7
                  · have hk7' : (k2 : Int) ≤ 7 := by omega
                    obtain ⟨C, CC, CR⟩ := count_both n us FK.out k2 hk7
                    have HC : Hid _ := CC
                    have HR : Hid _ := CR
                    clear CC CR
                    go_wp2_with fail
                    refine (HC.out _ _ _ _ hQ.code).mono ?_
                    rintro e v1 ⟨rfl, rfl⟩
                    go_wp2_with fail
                    refine (HR.out _ _ _ hQ.ref).mono ?_
                    rintro e v2 ⟨rfl, rfl⟩
                    go_wp2_with fail
                    go_roundw
                    case rel => exact ⟨k2 + 1, by omega, by go_num, hQ⟩
                    case measure => simp [intOf]; omega
                  · have hk7' : ¬ (k2 : Int) ≤ 7 := by omega
                    go_wp2_with fail
                    go_roundw
                    case rel => exact ⟨I + 1, us, R', by omega, by go_num, hQ⟩
                    case measure => simp [intOf]; omega
        · have tests : ((I : Int) < (len : Int) ∧ ¬ (I : Int) < 60) ∨ ¬ (I : Int) < (len : Int) := by omega
          rcases tests with ⟨l1, l2⟩ | l1
          all_goals
            have BW : Hid _ := bw
            clear bw hB
            go_wp2_with fail
            refine (awake_any _).mono ?_
            rintro e w6 ⟨rfl, b6⟩
            go_wp2_with fail
            go_ret
            exact ⟨rfl, BW.out.trans (b6.mono BW.out.size)⟩
theorem arenaPlays_walk (x : Int) (a : Option Addr) (len cap : Nat) (Z : Nat → Nat → Int) (w : World) (wx : (Lit.int .i64 x).wf = true) (h : IsRecs [.i64, .i64, .i64, .u64] w a len Z) :
    Calls Try.prog 5 #[.int .i64 x, .slice a len cap] w fun e w' => e = .returned (.bool true) ∧ Below w.heap.size w w' := by
  by_cases hx : 1 ≤ x ∧ x ≤ 1000
  · exact plays_in x a len cap Z w h hx.1 hx.2
  · exact plays_out x a len cap w (by omega)
end Go.Proofs.Ytcaeakddcanamaa

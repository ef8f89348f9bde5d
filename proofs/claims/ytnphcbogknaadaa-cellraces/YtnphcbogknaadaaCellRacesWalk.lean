/- The walk of 'CellRaces'. -/
import Derived.Test.YtnphcbogknaadaaCellAwake
import Derived.Test.YtnphcbogknaadaaRowAt
import Derived.Test.YtnphcbogknaadaaMask
import Derived.Deep.RegionHeld3
namespace Go.Proofs.Ytnphcbogknaadaa
open Go.RowKit
set_option linter.unusedVariables false

theorem infoBool : (Try.prog.info? 4).map (fun i => (i.zero, i.size, i.bytes)) = some (some (.bool false), 1, 1) := by kernel_rfl

theorem cellRaces_walk (x : Int) (a : Option Addr) (len cap : Nat) (zs : List Int) (w : World) (wx : (Lit.int .i64 x).wf = true) (h : IsRow .i64 w a len cap zs) :
    Calls Try.prog 6 #[.int .i64 x, .slice a len cap] w fun e w' => e = .returned (.bool true) ∧ Below w.heap.size w w' := by
  have hl := h.len_le
  have hh : Hid (IsRow .i64 w a len cap zs) := h
  clear h wx
  obtain ⟨X, hX, X0, X1⟩ : ∃ X, bits .and .i64 x 7 = X ∧ 0 ≤ X ∧ X < 8 := ⟨_, and7_i64 x, by omega, by omega⟩
  obtain ⟨n, hn, n0, n1⟩ : ∃ n : Nat, X + 1 = n ∧ 1 ≤ n ∧ n ≤ 8 := ⟨(X + 1).toNat, by omega, by omega, by omega⟩
  have hmk := run_make_row' (P := Try.prog) 22 27 (.int .u64 0) 8 Try.underlying22 infoU64 rfl .i64 .i64 n (by omega) (by omega)
  have hmb := run_make_row' (P := Try.prog) 46 4 (.bool false) 1 Try.underlying46 infoBool rfl .i64 .i64 n (by omega) (by omega)
  go_enter Try.func6, Try.ntmps6
  go_wp2_with fail
  refine (new_in 1 w (by omega) (by omega)).mono ?_
  rintro e w1 ⟨rfl, h1, b1, z1⟩
  obtain ⟨Q, hQ⟩ : ∃ Q, Q = w1.heap.size := ⟨_, rfl⟩
  have r1 := ((World.rowIs_made w1 (.int .u64 0) n 27).alloc (.cells (madeCells #[.bool false] n) 4))
  have r2 := World.rowIs_made (w1.alloc (.cells (madeCells #[.int .u64 0] n) 27)) (.bool false) n 4
  have h2 := (h1.alloc (.cells (madeCells #[.int .u64 0] n) 27)).alloc (.cells (madeCells #[.bool false] n) 4)
  have b2 := (b1.alloc (by omega) (.cells (madeCells #[.int .u64 0] n) 27)).alloc (by simp; omega) (.cells (madeCells #[.bool false] n) 4)
  rw [show (w1.alloc (.cells (madeCells #[.int .u64 0] n) 27)).heap.size = w1.heap.size + 1 by simp] at r2
  rw [← hQ] at r1 r2
  have Z1 : Hid (Q = w.heap.size + 2) := hQ.trans z1
  have HR : Hid _ := And.intro r1 (And.intro r2 (And.intro h2 b2))
  clear z1 h1 b1 r1 r2 h2 b2 hX
  go_wp2_with fail
  simp only [← hQ]
  clear hQ hn X0 X1 hmk hmb
  go_loopw [9, 10] (fun v i wr => ∃ (I W : Nat) (m : Mem) (R : Nat → Int) (H : Nat → Bool), I ≤ 80 ∧ W ≤ I ∧ v = .int .i64 W ∧ i = .int .i64 I ∧ CAt wr (w.heap.size + 1) w.heap.size 1 m ∧ m.ws 0 = W ∧ m.wn = W ∧ m.st ≤ I ∧
      wr.rowIs Q 27 n (fun j => .int .u64 (R j)) ∧ (∀ j, 0 ≤ R j ∧ R j ≤ W) ∧ wr.rowIs (Q + 1) 4 n (fun j => .bool (H j)) ∧ Below w.heap.size w wr)
    (fun _ i _ => 80 - (intOf i).toNat)
  case atStart =>
    obtain ⟨r1, r2, h2, b2⟩ := HR.out
    exact ⟨0, 0, Mem.zero, fun _ => 0, fun _ => false, by omega, by omega, rfl, rfl, h2, rfl, rfl, by simp [Mem.zero], r1, fun _ => ⟨Int.le_refl _, Int.le_refl _⟩, r2, b2⟩
  case round =>
    obtain ⟨I, W, m, R, H, hI, hWI, rfl, rfl, hm, m0, mw, ms, rR, hR, rH, bw⟩ := hrel
    clear HR
    have hQ := Z1.out
    by_cases hgo : I < len ∧ I < 80
    · obtain ⟨g1, g2⟩ := hgo
      have g1' : (I : Int) < (len : Int) := by omega
      have g2' : (I : Int) < 80 := by omega
      obtain ⟨b, off, rfl, hbl, hc, hwf⟩ := hh.out.at g1
      have hcr := (bw.cell (p := ⟨b, off + I, none⟩) hbl).trans hc
      clear hc hwf
      generalize zs.getD I 0 = Z at *
      obtain ⟨Y, hY, Y0⟩ : ∃ Y, bits .and .i64 Z 255 = Y ∧ 0 ≤ Y := ⟨_, mask_i64 Z 8 255 256 (by omega) rfl rfl, by omega⟩
      obtain ⟨T, hT, hTn⟩ : ∃ T : Nat, Y % (n : Int) = T ∧ T < n := by
        have := Int.emod_nonneg Y (show (n : Int) ≠ 0 by omega)
        have := Int.emod_lt_of_pos Y (show (0 : Int) < n by omega)
        exact ⟨(Y % (n : Int)).toNat, by omega, by omega⟩
      have hTn' : (T : Int) < (n : Int) := by omega
      have cR := rR.cell hTn
      have cH := rH.cell hTn
      have fH := rH.frozen T
      have QQ : Hid (Q = w.heap.size + 2) := hQ
      clear hQ
      by_cases hHT : H T = true
      · simp only [hHT] at cH
        clear hHT
        obtain ⟨v0, v1⟩ := hR T
        obtain ⟨V, hV⟩ : ∃ V, R T = V := ⟨_, rfl⟩
        rw [hV] at v0 v1
        simp only [hV] at cR
        have hQ := QQ.out
        have rR1 := rR.setOther (a := ⟨Q + 1, T, none⟩) (by simp) (.bool false)
        have cR1 := rR1.cell hTn
        simp only [hV] at cR1
        have hm1 : CAt (wr.setCell ⟨Q + 1, T, none⟩ (.bool false)).drew (w.heap.size + 1) w.heap.size 1 m := (hm.of_blocks (Below.heap_setCell _ _ _ _ (by simp; omega)) (Below.heap_setCell _ _ _ _ (by simp; omega))).drew
        have rH1 := (rH.set T (.bool false)).congr (g := fun j => .bool (if j = T then false else H j)) fun j hj => by by_cases e : j = T <;> simp [e]
        have bw1 := bw.setCell (p := ⟨Q + 1, T, none⟩) (by simp; omega) (.bool false)
        have E : Hid _ := And.intro rR1 (And.intro rH1 bw1)
        clear rR1 rH1 bw1 hQ rR rH hm
        have HV : Hid (R T = V) := hV
        clear hV
        have keepC : ∀ w2 : World, Wrote (w.heap.size + 1) w.heap.size (wr.setCell ⟨Q + 1, T, none⟩ (.bool false)).drew w2 → w2.cell? ⟨Q, T, none⟩ = some (.int .u64 V) := fun w2 d => by
          have hQ := QQ.out
          exact (d.cell (p := ⟨Q, T, none⟩) (by simp; omega) (by simp; omega)).trans cR1
        have KC : Hid _ := keepC
        clear keepC
        by_cases hVW : V = (W : Int)
        · subst hVW
          have hwr : IntKind.u64.wrap ((W : Int) + 1) = (W : Int) + 1 := by rw [IntKind.wrap_u64]; omega
          go_wp2_with fail
          go_region_held3 (fun w' => w'.cell? ⟨Q, T, none⟩ = some (.int .u64 W)) (go_keep) ((go_at_call 9; refine (cas_won _ _ _ 1 m 0 W (W + 1) hm1 (by omega) (by omega) (by omega) (by rw [m0]) (by omega) (by omega)).mono ?_; rintro e w2 ⟨rfl, hm2, d2⟩; have cR2 := KC.out _ d2))
          go_wp2_with fail
          go_roundw
          case rel =>
            obtain ⟨rR1, rH1, bw1⟩ := E.out
            have hQ := QQ.out
            exact ⟨I + 1, W + 1, _, R, _, by omega, by omega, by go_num, by go_num, hm2, by simp, by simp [mw], by simp; omega, rR1.of_block (d2.block Q (by omega) (by omega)), fun j => (by have := hR j; omega), rH1.of_block (d2.block (Q + 1) (by omega) (by omega)), d2.below bw1.drew (by omega) (by omega)⟩
          case measure => simp [intOf]; omega
        · have hVW' : (V == (W : Int)) = false := by simpa using hVW
          have hwr : IntKind.u64.wrap (V + 1) = V + 1 := by rw [IntKind.wrap_u64]; omega
          go_wp2_with fail
          go_region_held3 (fun w' => w'.cell? ⟨Q, T, none⟩ = some (.int .u64 V)) (go_keep) ((go_at_call 9; refine (cas_lost _ _ _ 1 m 0 V (V + 1) hm1 (by omega) (by omega) (by rw [m0]; omega)).mono ?_; rintro e w2 ⟨rfl, hm2, d2⟩; have cR2 := KC.out _ d2))
          go_wp2_with fail
          go_roundw
          case rel =>
            obtain ⟨rR1, rH1, bw1⟩ := E.out
            have hQ := QQ.out
            exact ⟨I + 1, W, _, R, _, by omega, by omega, by go_num, by go_num, hm2, m0, mw, by simp; omega, rR1.of_block (d2.block Q (by omega) (by omega)), fun j => (by have := hR j; omega), rH1.of_block (d2.block (Q + 1) (by omega) (by omega)), d2.below bw1.drew (by omega) (by omega)⟩
          case measure => simp [intOf]; omega
      · rw [Bool.not_eq_true] at hHT
        simp only [hHT] at cH
        clear hHT cR
        go_wp2_with fail
        refine (load_in wr _ _ 1 m 0 hm (by omega) (by omega)).mono ?_
        rintro e w2 ⟨rfl, hm2, d2⟩
        rw [m0]
        have hQ := QQ.out
        have rR2 := rR.of_block (d2.block Q (by omega) (by omega))
        have rH2 := rH.of_block (d2.block (Q + 1) (by omega) (by omega))
        have cR2 := rR2.cell hTn
        have fR2 := rR2.frozen T
        have rH3 := rH2.setOther (a := ⟨Q, T, none⟩) (by simp) (.int .u64 W)
        have cH3 := rH3.cell hTn
        have fH3 := rH3.frozen T
        have E : Hid _ := And.intro hm2 (And.intro d2 (And.intro rR2 rH3))
        clear hm2 d2 rR2 rH2 rH3 hQ cH fH hm rR rH
        go_wp2_with fail
        go_roundw
        case rel =>
          obtain ⟨hm2, d2, rR2, rH3⟩ := E.out
          have hQ := QQ.out
          refine ⟨I + 1, W, m.hit 0 1, fun j => if j = T then (W : Int) else R j, fun j => if j = T then true else H j, by omega, by omega, rfl, by go_num, ?_, m0, mw, by simp; omega, ?_, fun j => ?_, ?_, ?_⟩
          · exact hm2.of_blocks (by rw [Below.heap_setCell _ _ _ _ (by simp; omega), Below.heap_setCell _ _ _ _ (by simp; omega)]) (by rw [Below.heap_setCell _ _ _ _ (by simp; omega), Below.heap_setCell _ _ _ _ (by simp; omega)])
          · exact ((rR2.set T (.int .u64 W)).setOther (by simp) _).congr fun j hj => by by_cases e : j = T <;> simp [e]
          · have := hR j
            by_cases e : j = T <;> simp [e] <;> omega
          · exact (rH3.set T (.bool true)).congr fun j hj => by by_cases e : j = T <;> simp [e]
          · exact ((d2.below bw (by omega) (by omega)).setCell (by simp; omega) _).setCell (by simp; omega) _
        case measure => simp [intOf]; omega
    · have hs := bw.size
      have tests : ((I : Int) < (len : Int) ∧ ¬ (I : Int) < 80) ∨ ¬ (I : Int) < (len : Int) := by omega
      rcases tests with ⟨g1, g2⟩ | g1
      all_goals
        clear hQ
        go_wp2_with fail
        refine (load_in wr _ _ 1 m 0 hm (by omega) (by omega)).mono ?_
        rintro e w2 ⟨rfl, hm2, d2⟩
        rw [m0]
        go_wp2_with fail
        refine (wins_any w2 _ _ 1 _ hm2 (by simp; omega)).mono ?_
        rintro e w3 ⟨rfl, rfl⟩
        simp only [Mem.hit_wn, mw]
        go_wp2_with fail
        have b4 := d2.below bw (Nat.le_succ _) (Nat.le_refl _)
        refine (awake_any _).mono ?_
        rintro e w6 ⟨rfl, b6⟩
        go_wp2_with fail
        go_ret
        exact ⟨rfl, b4.trans (b6.mono b4.size)⟩
end Go.Proofs.Ytnphcbogknaadaa

/- The walk of 'CellApart'. -/
import Derived.Test.YtnphcbogknaadaaCellAwake
import Derived.Test.YtnphcbogknaadaaRecs
import Derived.Test.YtnphcbogknaadaaNum
import Derived.Deep.RegionHeld3
namespace Go.Proofs.Ytnphcbogknaadaa
open Go.RowKit
set_option linter.unusedVariables false

theorem cellApart_walk (a : Option Addr) (len cap : Nat) (Z : Nat → Nat → Int) (v : Int) (w : World) (h : IsRecs [.i64, .i64, .u64, .u64] w a len Z) (wv : (Lit.int .u64 v).wf = true) :
    Calls Try.prog 4 #[.slice a len cap, .int .u64 v] w fun e w' => e = .returned (.bool true) ∧ Below w.heap.size w w' := by
  have hl := h.len_le
  have hh : Hid (IsRecs [.i64, .i64, .u64, .u64] w a len Z) := h
  obtain ⟨v0, v1⟩ := bounds_u64 wv
  clear h wv
  go_enter Try.func4, Try.ntmps4
  go_wp2_with fail
  refine (new_in 4 w (by omega) (by omega)).mono ?_
  rintro e w1 ⟨rfl, h1, b1, z1⟩
  clear z1
  go_wp2_with fail
  refine (store_in w1 _ _ 4 _ 3 v h1 (by omega) (by decide) v0 v1).mono ?_
  rintro e w2 ⟨rfl, h2, d2⟩
  have HR : Hid _ := And.intro h2 (d2.below b1 (Nat.le_succ _) (Nat.le_refl _))
  clear h1 b1 h2 d2
  go_wp2_with fail
  go_loopw [7] (fun i wr => ∃ (I : Nat) (m : Mem), I ≤ 50 ∧ i = .int .i64 I ∧ CAt wr (w.heap.size + 1) w.heap.size 4 m ∧ m.ws 3 = v ∧ m.ws 0 = 0 ∧ m.ws 2 = 0 ∧ m.st ≤ I + 1 ∧ m.wn ≤ I ∧ Below w.heap.size w wr)
    (fun i _ => 50 - (intOf i).toNat)
  case atStart => exact ⟨0, _, by omega, rfl, HR.out.1, by simp, rfl, rfl, by simp [Mem.zero], by simp [Mem.zero], HR.out.2⟩
  case round =>
    obtain ⟨I, m, hI, rfl, hm, m3, m0, m2, ms, mn, bw⟩ := hrel
    clear HR
    by_cases hgo : I < len ∧ I < 50
    · obtain ⟨g1, g2⟩ := hgo
      have g1' : (I : Int) < (len : Int) := by omega
      have g2' : (I : Int) < 50 := by omega
      obtain ⟨b, off, rfl, hbl, hc⟩ := hh.out.elem I g1
      have hc0 := (bw.cell (p := ⟨b, off + I * 4, none⟩) hbl).trans (hc 0 .i64 rfl).1
      have hc2 := (bw.cell (p := ⟨b, off + I * 4 + 2, none⟩) hbl).trans (hc 2 .u64 rfl).1
      have hc3 := (bw.cell (p := ⟨b, off + I * 4 + 3, none⟩) hbl).trans (hc 3 .u64 rfl).1
      obtain ⟨A0, A1⟩ := bounds_u64 (hc 2 .u64 rfl).2
      obtain ⟨B0, B1⟩ := bounds_u64 (hc 3 .u64 rfl).2
      clear hc
      generalize Z I 0 = K at *
      generalize Z I 2 = A at *
      generalize Z I 3 = B at *
      by_cases k2 : K = 2
      · subst k2
        go_wp2_with fail
        refine (store_in wr _ _ 4 m 1 A hm (by omega) (by omega) A0 A1).mono ?_
        rintro e w3 ⟨rfl, hm3, d3⟩
        go_wp2_with fail
        go_roundw
        case rel => exact ⟨I + 1, _, by omega, by go_num, hm3, by simpa [Mem.put] using m3, by simpa [Mem.put] using m0, by simpa [Mem.put] using m2, by simp; omega, by simp; omega, d3.below bw (by omega) (by omega)⟩
        case measure => simp [intOf]; omega
      · by_cases k3 : K = 3
        · subst k3
          clear k2
          have KC : Hid (∀ w3 : World, Wrote (w.heap.size + 1) w.heap.size wr.drew w3 → w3.cell? ⟨b, off + I * 4 + 2, none⟩ = some (.int .u64 A) ∧ w3.cell? ⟨b, off + I * 4 + 3, none⟩ = some (.int .u64 B)) := fun w3 d =>
            ⟨(d.cell (p := ⟨b, off + I * 4 + 2, none⟩) (by simp; omega) (by simp; omega)).trans hc2, (d.cell (p := ⟨b, off + I * 4 + 3, none⟩) (by simp; omega) (by simp; omega)).trans hc3⟩
          by_cases hA : m.ws 1 = A
          · go_wp2_with fail
            go_region_held3 (fun w' => w'.cell? ⟨b, off + I * 4 + 2, none⟩ = some (.int .u64 A) ∧ w'.cell? ⟨b, off + I * 4 + 3, none⟩ = some (.int .u64 B)) (go_keep) ((go_at_call 9; refine (cas_won _ _ _ 4 m 1 A B hm.drew (by omega) (by omega) (by omega) hA B0 B1).mono ?_; rintro e w3 ⟨rfl, hm3, d3⟩; obtain ⟨e1, e2⟩ := KC.out _ d3))
            go_wp2_with fail
            go_roundw
            case rel => exact ⟨I + 1, _, by omega, by go_num, hm3, by simpa [Mem.put] using m3, by simpa [Mem.put] using m0, by simpa [Mem.put] using m2, by simp; omega, by simp; omega, d3.below bw.drew (by omega) (by omega)⟩
            case measure => simp [intOf]; omega
          · go_wp2_with fail
            go_region_held3 (fun w' => w'.cell? ⟨b, off + I * 4 + 2, none⟩ = some (.int .u64 A) ∧ w'.cell? ⟨b, off + I * 4 + 3, none⟩ = some (.int .u64 B)) (go_keep) ((go_at_call 9; refine (cas_lost _ _ _ 4 m 1 A B hm.drew (by omega) (by omega) hA).mono ?_; rintro e w3 ⟨rfl, hm3, d3⟩; obtain ⟨e1, e2⟩ := KC.out _ d3))
            go_wp2_with fail
            go_roundw
            case rel => exact ⟨I + 1, _, by omega, by go_num, hm3, by simpa [Mem.put] using m3, by simpa [Mem.put] using m0, by simpa [Mem.put] using m2, by simp; omega, by simp; omega, d3.below bw.drew (by omega) (by omega)⟩
            case measure => simp [intOf]; omega
        · have k2' : (K == 2) = false := by simpa using k2
          have k3' : (K == 3) = false := by simpa using k3
          go_wp2_with fail
          refine (add_in wr _ _ 4 m 1 A hm (by omega) (by omega)).mono ?_
          rintro e w3 ⟨rfl, hm3, d3⟩
          go_wp2_with fail
          go_roundw
          case rel => exact ⟨I + 1, _, by omega, by go_num, hm3, by simpa [Mem.put] using m3, by simpa [Mem.put] using m0, by simpa [Mem.put] using m2, by simp; omega, by simp; omega, d3.below bw (by omega) (by omega)⟩
          case measure => simp [intOf]; omega
    · have hs := bw.size
      have tests : ((I : Int) < (len : Int) ∧ ¬ (I : Int) < 50) ∨ ¬ (I : Int) < (len : Int) := by omega
      rcases tests with ⟨g1, g2⟩ | g1
      all_goals
        go_wp2_with fail
        refine (steps_any wr _ _ 4 m hm (by omega)).mono ?_
        rintro e w2 ⟨rfl, rfl⟩
        go_wp2_with fail
        refine (store_out w2 _ _ 4 m (-1) 5 hm (by omega)).mono ?_
        rintro e w3 ⟨rfl, rfl⟩
        go_wp2_with fail
        refine (store_out w3 _ _ 4 m 4 5 hm (by omega)).mono ?_
        rintro e w4 ⟨rfl, rfl⟩
        go_wp2_with fail
        refine (load_out w4 _ _ 4 m 9 hm (by omega)).mono ?_
        rintro e w5 ⟨rfl, rfl⟩
        go_wp2_with fail
        refine (cas_out w5 _ _ 4 m 4 0 1 hm (by omega)).mono ?_
        rintro e w6 ⟨rfl, rfl⟩
        go_wp2_with fail
        refine (add_out w6 _ _ 4 m (-5) 3 hm (by omega)).mono ?_
        rintro e w7 ⟨rfl, rfl⟩
        go_wp2_with fail
        refine (steps_any w7 _ _ 4 m hm (by omega)).mono ?_
        rintro e w8 ⟨rfl, rfl⟩
        go_wp2_with fail
        refine (load_in w8 _ _ 4 m 3 hm (by omega) (by omega)).mono ?_
        rintro e w9 ⟨rfl, h9, d9⟩
        rw [m3]
        go_wp2_with fail
        refine (load_in w9 _ _ 4 _ 0 h9 (by omega) (by simp; omega)).mono ?_
        rintro e w10 ⟨rfl, h10, d10⟩
        simp only [Mem.hit_ws, m0]
        go_wp2_with fail
        refine (load_in w10 _ _ 4 _ 2 h10 (by omega) (by simp; omega)).mono ?_
        rintro e w11 ⟨rfl, h11, d11⟩
        simp only [Mem.hit_ws, m2]
        go_wp2_with fail
        have b4 := ((d9.trans d10).trans d11).below bw (Nat.le_succ _) (Nat.le_refl _)
        refine (awake_any _).mono ?_
        rintro e w12 ⟨rfl, b6⟩
        go_wp2_with fail
        go_ret
        exact ⟨rfl, b4.trans (b6.mono b4.size)⟩
end Go.Proofs.Ytnphcbogknaadaa

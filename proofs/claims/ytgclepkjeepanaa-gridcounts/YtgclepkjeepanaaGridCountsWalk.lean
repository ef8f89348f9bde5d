/- The walk of 'GridCounts'. -/
import Derived.Test.YtgclepkjeepanaaGrW
import Derived.Test.YtgclepkjeepanaaGrN
import Derived.Test.YtgclepkjeepanaaGrU
import Derived.Test.YtgclepkjeepanaaRowAt
import Derived.WalkSmall
import Derived.Deep.QuietTactic
import Derived.BigQuiet
import Derived.Deep.CutBlock
import Derived.Deep.DeepCutAuto
namespace Go.Proofs.Ytgclepkjeepanaa
open Go.RowKit
set_option linter.unusedVariables false

/-- What a run does that is not early. -/
theorem late_num {f p q d n : Int} (hf : IsT f) (hp : 0 < p) (hp1 : p ≤ 4096) (hq : 0 ≤ q) (hd : d = f + p * q) (hn : d ≤ n) (hn1 : n < 1000000000) :
    okJ f p d = true ∧ gridOk f p n = true ∧ n < gridV f p n ∧ gridV f p n ≤ n + p ∧ okJ f p (gridV f p n) = true ∧ 0 ≤ missT f p d n ∧ gridV f p n = f + p * (q + 1 + missT f p d n) := by
  have hm : 0 ≤ p * q := Int.mul_nonneg (by omega) hq
  have h1 : (d - f) % p = 0 := by rw [hd, show f + p * q - f = p * q by omega]; exact Int.mul_emod_right _ _
  have hl := last_is f p n hp
  obtain ⟨l1, l2, l3⟩ := last_bounds hp (show f ≤ n by omega)
  have e1 : gridOk f p n = true := by simp [gridOk]; omega
  have e2 : gridV f p n = lastT f p n + p := by simp only [gridV, e1]; simp [show ¬ f > n by omega]
  have cd : (d - f) / p = q := by rw [hd, show f + p * q - f = p * q by omega]; exact Int.mul_ediv_cancel_left _ (by omega)
  have mi : missT f p d n = (n - f) / p - q := by
    unfold missT
    by_cases c : n ≤ d
    · obtain rfl : d = n := by omega
      rw [if_pos (.inr (Int.le_refl _)), cd]
      omega
    · rw [if_neg (by omega)]
      unfold cntT
      rw [if_neg (by omega), if_neg (by omega), cd]
      omega
  have ge : q ≤ (n - f) / p := by rw [← cd]; exact Int.ediv_le_ediv hp (by omega)
  have e3 : gridV f p n = f + p * (q + 1 + missT f p d n) := by
    rw [e2, mi, hl, show q + 1 + ((n - f) / p - q) = (n - f) / p + 1 by omega, Int.mul_add]
    omega
  refine ⟨by simp [okJ, hp, h1]; omega, e1, by omega, by omega, ?_, by omega, e3⟩
  have h2 : (gridV f p n - f) % p = 0 := by rw [e3, show ∀ x, f + p * x - f = p * x from fun x => by omega]; exact Int.mul_emod_right _ _
  simp [okJ, hp, h2]
  omega
set_option maxHeartbeats 4000000 in
set_option maxRecDepth 100000 in
theorem gridCounts_walk (fi per : Int) (a : Option Addr) (len cap : Nat) (zs : List Int) (w : World) (wf : (Lit.int .u64 fi).wf = true) (wp : (Lit.int .u64 per).wf = true) (h : IsRow .u64 w a len cap zs) :
    Calls Try.prog 6 #[.int .u64 fi, .int .u64 per, .slice a len cap] w fun e w' => e = .returned (.bool true) ∧ Below w.heap.size w w' := by
  obtain ⟨f, hf, f1, f2⟩ : ∃ f, bits .and .u64 fi 1048575 = f ∧ 0 ≤ f ∧ f < 1048576 := ⟨_, mask_u64 fi 20 _ 1048576 (bounds_u64 wf) (by decide) (by decide) (by decide) (by decide), by omega, by omega⟩
  obtain ⟨q, hq, q1, q2⟩ : ∃ q, bits .and .u64 per 4095 = q ∧ 0 ≤ q ∧ q < 4096 := ⟨_, mask_u64 per 12 _ 4096 (bounds_u64 wp) (by decide) (by decide) (by decide) (by decide), by omega, by omega⟩
  obtain ⟨p, hp⟩ : ∃ p, q + 1 = p := ⟨_, rfl⟩
  have p1 : 0 < p := by omega
  have p2 : p ≤ 4096 := by omega
  have hfT : IsT f := ⟨by omega, by omega⟩
  have hpT : IsT p := ⟨by omega, by omega⟩
  have nw := fun w => new_any f p (by omega) w
  have hlen := h.len_le
  have hh : Hid (IsRow .u64 w a len cap zs) := h
  obtain ⟨S, hS⟩ : ∃ S, w.heap.size = S := ⟨_, rfl⟩
  clear wf wp h
  go_enter Try.func6, Try.ntmps6
  go_wp2_with fail
  try simp only [hp]
  clear hp hf hq q1 q2
  refine (nw _).mono ?_
  rintro e w1 ⟨rfl, bw1⟩
  clear nw
  obtain ⟨S1, hS1⟩ : ∃ S, w1.heap.size = S := ⟨_, rfl⟩
  obtain ⟨v1, hv1⟩ : ∃ u, w1.alloc (.cells #[.int .u64 f, .int .u64 p, .int .u64 f, .int .u64 0, .int .u64 0] 24) = u := ⟨_, rfl⟩
  have x1 : JBox v1 S1 f p f 0 0 := by rw [← hv1, ← hS1]; exact JBox.new _ _ _ _ _ _
  have B1 : Aside (Below S w v1) := by rw [← hv1]; have := bw1.size; rw [hS] at bw1; exact bw1.alloc (by omega) _
  have L1 : S ≤ S1 := by have := bw1.size; omega
  have X1 : Aside _ := x1
  have HV1 : Hid _ := hv1
  clear bw1 hv1 x1
  go_wp2_with fail
  rw [HV1.out]
  clear HV1 hS1
  go_loopw [9] (fun s9 wr => ∃ (I : Nat) (d r m : Int), s9 = .int .i64 I ∧ I ≤ 30 ∧ JBox wr S1 f p d r m ∧ Below S w wr ∧ 0 ≤ r ∧ 0 ≤ m ∧ r = I ∧ d = f + p * (r + m) ∧ d ≤ 1048576 + 70000 * I) (fun i _ => 30 - (intOf i).toNat)
  case atStart => exact ⟨0, f, 0, 0, rfl, by omega, X1.out, B1.out, by omega, by omega, rfl, by simp, by omega⟩
  case round =>
    clear X1 B1
    obtain ⟨I, d, r, m, rfl, hI, hx, hb, hr, hm, hrI, hd, hdb⟩ := hrel
    by_cases hgo : I < len ∧ I < 30
    · obtain ⟨g1, g2⟩ := hgo
      have g1' : (I : Int) < (len : Int) := by omega
      have g2' : (I : Int) < 30 := by omega
      obtain ⟨b, off, rfl, hbl, hc, hwf⟩ := hh.out.at g1
      have hcr := (hb.cell (p := ⟨b, off + I, none⟩) (by show b < S; omega)).trans hc
      have hzT := bounds_u64 hwf
      clear hc hwf
      generalize zs.getD I 0 = Z at *
      obtain ⟨y, hy, y1, y2⟩ : ∃ y, bits .and .u64 Z 65535 = y ∧ 0 ≤ y ∧ y < 65536 := ⟨_, mask_u64 Z 16 _ 65536 hzT (by decide) (by decide) (by decide) (by decide), by omega, by omega⟩
      have d0 : 0 ≤ d := by have : 0 ≤ p * (r + m) := Int.mul_nonneg (by omega) (by omega); omega
      obtain ⟨n, hn⟩ : ∃ n, d + y = n := ⟨_, rfl⟩
      obtain ⟨l1, l2, l3, l4, l5, l6, l7⟩ := late_num (f := f) (p := p) (q := r + m) (d := d) (n := n) hfT p1 p2 (by omega) hd (by omega) (by omega)
      have c1 := fun w => after_yes f p d r m n w hfT hpT ⟨by omega, by omega⟩ ⟨by omega, by omega⟩ l1
      have c2 := fun r m w => ok_any f p (gridV f p n) r m w hfT hpT ⟨by omega, by omega⟩
      have e1 : max n d = n := by omega
      have e2 : dueJ f p d n = gridV f p n := by unfold dueJ; rw [e1, if_pos l2]
      simp only [e1, e2, l2] at c1
      simp only [l5] at c2
      clear l1 l2 l5 e1 e2 hzT
      generalize gridV f p n = V at *
      generalize missT f p d n = M at *
      obtain ⟨r', hr'⟩ : ∃ x, r + 1 = x := ⟨_, rfl⟩
      obtain ⟨m', hm'⟩ : ∃ x, m + M = x := ⟨_, rfl⟩
      have rm : 0 ≤ r + m ∧ r + m ≤ d - f := by
        have := Int.mul_le_mul_of_nonneg_right (a := 1) (b := p) (c := r + m) (by omega) (by omega)
        omega
      have rm2 : 0 ≤ r' + m' ∧ r' + m' ≤ V - f := by
        have := Int.mul_le_mul_of_nonneg_right (a := 1) (b := p) (c := r' + m') (by omega) (by omega)
        rw [l7, show r + m + 1 + M = r' + m' by omega]
        omega
      have hdv : (V - f) / p = r' + m' := by
        rw [l7, show r + m + 1 + M = r' + m' by omega, show f + p * (r' + m') - f = p * (r' + m') by omega]
        exact Int.mul_ediv_cancel_left _ (by omega)
      have hV : V = f + p * (r' + m') := by rw [l7, show r + m + 1 + M = r' + m' by omega]
      have w1' : IntKind.u64.wrap (r + 1) = r' := by rw [IntKind.wrap_u64]; omega
      have w2' : IntKind.u64.wrap (m + M) = m' := by rw [IntKind.wrap_u64]; omega
      simp only [w1', w2'] at c1
      obtain ⟨k0, k1, k2, k3, k4⟩ := hx.cell
      have V1 : f ≤ V := by omega
      have V2 : V ≤ n + p := l4
      have V3 : V - p ≤ n := by omega
      have R1 : m ≤ m' := by omega
      have n1 : n < 1000000000 := by omega
      have r1 : r' < 1000000000 := by omega
      have r2 : 0 ≤ r' := by omega
      have m1 : m' < 1000000000 := by omega
      have m2 : 0 ≤ m' := by omega
      have mb : m < 1000000000 := by omega
      have NXT : Aside (r' = ((I + 1 : Nat) : Int) ∧ V = f + p * (r' + m') ∧ V ≤ 1048576 + 70000 * ((I + 1 : Nat) : Int)) := ⟨by omega, hV, by omega⟩
      have HDV : Hid _ := hdv
      have L3 : n < V := l3
      have pV : p ≤ V := by
        have := Int.mul_le_mul_of_nonneg_left (a := 1) (b := r' + m') (c := p) (by omega) (by omega)
        omega
      have X : Aside (JBox wr S1 f p d r m ∧ Below S w wr) := ⟨hx, hb⟩
      clear w1' w2' l7 rm rm2 hdv hV hd hrI l3 l4 l6 hm' hx hb hdb
      go_wp2_with fail
      go_quiet (fail)
      obtain ⟨w4, hw4⟩ : ∃ u, wr.drewN nq = u := ⟨_, rfl⟩
      rw [hw4]
      have X4 : Aside (JBox w4 S1 f p d r m ∧ Below S w w4) := by rw [← hw4]; exact ⟨X.out.1.below (below_drewN (Below.refl _ _) nq), below_drewN X.out.2 nq⟩
      clear hw4 X k0 k1 k2 k3 k4 hcr hy hn
      obtain ⟨k0, k1, k2, k3, k4⟩ := X4.out.1.cell
      go_wp2_with fail
      refine (c1 _).mono ?_
      rintro e w5 ⟨rfl, b5⟩
      clear k0 k1 k2 k3 k4 c1
      obtain ⟨S6, hS6⟩ : ∃ S, w5.heap.size = S := ⟨_, rfl⟩
      obtain ⟨v6, hv6⟩ : ∃ u, w5.alloc (.cells #[.int .u64 f, .int .u64 p, .int .u64 V, .int .u64 r', .int .u64 m'] 24) = u := ⟨_, rfl⟩
      have y0 : JBox w5 S1 f p d r m := X4.out.1.below b5
      have lt6 : S1 < S6 := by have := y0.fz.2; omega
      have y1 : JBox v6 S1 f p d r m := y0.below (by rw [← hv6]; exact bel1 _ _)
      have y2 : JBox v6 S6 f p V r' m' := by rw [← hv6, ← hS6]; exact JBox.new _ _ _ _ _ _
      have b6 : Below S w v6 := by rw [← hv6]; exact (X4.out.2.trans (b5.mono (by have := X4.out.2.size; omega))).alloc (by have := X4.out.2.size; have := b5.size; omega) _
      have X6 : Aside (JBox v6 S1 f p d r m ∧ JBox v6 S6 f p V r' m' ∧ Below S w v6) := ⟨y1, y2, b6⟩
      have HV6 : Hid _ := hv6
      clear hv6 b5 y0 y1 y2 b6 X4
      go_upto_region 10 with fail
      rw [HV6.out]
      clear HV6 hS6
      obtain ⟨k0, k1, k2, k3, k4⟩ := X6.out.2.1.cell
      go_wp2_with fail
      refine (c2 _ _ _).mono ?_
      rintro e w7 ⟨rfl, hw7⟩
      clear k0 k1 k2 k3 k4 c2
      have b7 : Below v6.heap.size v6 w7 := by rw [hw7]; exact bel1 _ _
      have X7 : Aside (JBox w7 S1 f p d r m ∧ JBox w7 S6 f p V r' m' ∧ Below S w w7) := ⟨X6.out.1.below b7, X6.out.2.1.below b7, X6.out.2.2.trans (b7.mono (by have := X6.out.2.2.size; omega))⟩
      clear b7 hw7 X6
      obtain ⟨k0, k1, k2, k3, k4⟩ := X7.out.1.cell
      obtain ⟨j0, j1, j2, j3, j4⟩ := X7.out.2.1.cell
      go_wp2_with fail
      have hdv : (V - f) / p = r' + m' := HDV.out
      go_quiet (fail)
      obtain ⟨w8, hw8⟩ : ∃ u, w7.drewN nq = u := ⟨_, rfl⟩
      rw [hw8]
      have X8 : Aside (JBox w8 S1 f p d r m ∧ JBox w8 S6 f p V r' m' ∧ Below S w w8) := by rw [← hw8]; exact ⟨X7.out.1.below (below_drewN (Below.refl _ _) nq), X7.out.2.1.below (below_drewN (Below.refl _ _) nq), below_drewN X7.out.2.2 nq⟩
      clear hw8 X7 k0 k1 k2 k3 k4 j0 j1 j2 j3 j4 hdv
      obtain ⟨k0, k1, k2, k3, k4⟩ := X8.out.1.cell
      obtain ⟨fz, lt⟩ := X8.out.1.fz
      obtain ⟨j0, j1, j2, j3, j4⟩ := X8.out.2.1.cell
      have NX : Aside (JBox (put5 w8 S1 f p V r' m') S1 f p V r' m' ∧ Below S w (put5 w8 S1 f p V r' m')) := ⟨X8.out.1.put _ _ _ _ _, put5_below X8.out.2.2 L1 _ _ _ _ _⟩
      clear X8
      go_wp2_with fail
      go_roundw
      case rel => exact ⟨I + 1, V, r', m', by go_num, by omega, NX.out.1, NX.out.2, r2, m2, NXT.out.1, NXT.out.2.1, NXT.out.2.2⟩
      case measure => (simp [intOf]; try omega)
    · have hcs : ¬ (I : Int) < (len : Int) ∨ ((I : Int) < (len : Int) ∧ ¬ (I : Int) < 30) := by omega
      have aw := awake_any wr
      have BB : Aside (Below S w wr) := hb
      clear hx hb hd hrI hgo hdb
      rcases hcs with h1 | ⟨h1, h2⟩
      all_goals
        go_wp2_with fail
        refine aw.mono ?_
        rintro e w9 ⟨rfl, b9⟩
        go_wp2_with fail
        go_ret
        have C : Below S w w9 := BB.out.trans (b9.mono (by have := BB.out.size; omega))
        exact ⟨rfl, by first | exact C | (rw [hS]; exact C)⟩
end Go.Proofs.Ytgclepkjeepanaa

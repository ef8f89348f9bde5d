/- The walk of 'TableAgain'. -/
import Derived.Test.YtpenjncbodcbnaaDoorTbK
import Derived.Test.YtpenjncbodcbnaaDoorGrU
import Derived.Test.YtpenjncbodcbnaaDoorRowAt
namespace Go.Proofs.YtpenjncbodcbnaaDoor
open Go.RowKit Go.Lib Go.WideMaps Go.Maps
set_option linter.unusedVariables false
/-- The one task of this law. -/
def tA (f p u d r m : Int) : TR := { prio := 2, due := u, key := 0, oa := none, on := 0, oc := 0, f := f, p := p, d := d, r := r, m := m, s := 1 }
theorem wrapU {x : Int} (h0 : 0 ≤ x) (h1 : x < 18446744073709551616) : IntKind.u64.wrap x = x := by
  simp only [IntKind.wrap, IntKind.bits, IntKind.signed]
  simp
  omega
theorem drewN_below (u : World) (q : Nat) : Below u.heap.size u (u.drewN q) := ⟨rfl, rfl, rfl, Nat.le_refl _, fun _ _ => rfl⟩
theorem again_num {f p d now r m : Int} (hf : 0 ≤ f) (hp : 0 < p) (hd : d = f + p * (r + m)) (h0 : f ≤ d) (h1 : d ≤ now) (hb : now + p < 18446744073709551616) :
    gridOk f p now = true ∧ gridV f p now > now ∧ gridV f p now ≤ now + p ∧ 0 ≤ missT f p d now ∧ gridV f p now = f + p * (r + 1 + (m + missT f p d now)) ∧ (gridV f p now - f) / p = r + 1 + (m + missT f p d now) := by
  obtain ⟨l1, l2, l3⟩ := last_bounds hp (show f ≤ now by omega)
  have hl := last_is f p now hp
  have ok : gridOk f p now = true := by
    unfold gridOk
    simp
    omega
  have hv : gridV f p now = lastT f p now + p := by
    unfold gridV
    rw [if_pos ok, if_neg (by omega)]
  have hdq : (d - f) / p = r + m := by
    rw [hd, show f + p * (r + m) - f = p * (r + m) by omega]
    exact Int.mul_ediv_cancel_left _ (by omega)
  have hle : (d - f) / p ≤ (now - f) / p := Int.ediv_le_ediv hp (by omega)
  have hm : missT f p d now = (now - f) / p - (r + m) := by
    unfold missT
    by_cases c : now ≤ d
    · rw [if_pos (.inr c)]
      have : now = d := by omega
      rw [this, hdq]; omega
    · rw [if_neg (by omega)]
      unfold cntT
      rw [if_neg (by omega), if_neg (by omega), hdq]
      omega
  have e : r + 1 + (m + missT f p d now) = (now - f) / p + 1 := by rw [hm]; omega
  have hV : gridV f p now = f + p * (r + 1 + (m + missT f p d now)) := by
    rw [hv, hl, e, Int.mul_add]
    omega
  refine ⟨ok, by omega, by omega, by omega, hV, ?_⟩
  rw [hV, show f + p * (r + 1 + (m + missT f p d now)) - f = p * (r + 1 + (m + missT f p d now)) by omega]
  exact Int.mul_ediv_cancel_left _ (by omega)
set_option maxHeartbeats 4000000 in
set_option maxRecDepth 100000 in
theorem tableAgain_walk (fz pz : Int) (sa : Option Addr) (len cap : Nat) (zs : List Int) (w : World) (wf1 : (Lit.int .u64 fz).wf = true) (wp1 : (Lit.int .u64 pz).wf = true) (hrow : IsRow .u64 w sa len cap zs) (hN : True) :
    Calls Tryd.prog 4 #[.int .u64 fz, .int .u64 pz, .slice sa len cap] w fun e w' => e = .returned (.bool true) ∧ Below w.heap.size w w' := by
  have bf := bounds_u64 wf1
  have bp := bounds_u64 wp1
  have hl := hrow.len_le
  have hR : Aside (IsRow .u64 w sa len cap zs) := hrow
  clear hrow wf1 wp1 hN
  obtain ⟨f, hf, f0, f1⟩ : ∃ f, bits .and .u64 fz 65535 = f ∧ 0 ≤ f ∧ f < 65536 := ⟨_, mask_u64 fz 16 65535 65536 bf (by decide) (by omega) (by omega) (by decide), by omega, by omega⟩
  obtain ⟨p', hp', p0', p1'⟩ : ∃ p, bits .and .u64 pz 255 = p ∧ 0 ≤ p ∧ p < 256 := ⟨_, mask_u64 pz 8 255 256 bp (by decide) (by omega) (by omega) (by decide), by omega, by omega⟩
  obtain ⟨p, hp, p0, p1⟩ : ∃ p, p' + 1 = p ∧ 0 < p ∧ p ≤ 256 := ⟨_, rfl, by omega, by omega⟩
  obtain ⟨S, hS⟩ : ∃ S, w.heap.size = S := ⟨_, rfl⟩
  have hok : ∀ d r, d = f + p * r → f ≤ d → Tk.okJ f p d = true := fun d r h1 h2 => by
    simp only [Tk.okJ, Bool.and_eq_true, decide_eq_true_eq]
    refine ⟨by omega, by omega, ?_⟩
    rw [h1, show f + p * r - f = p * r by omega]
    exact Int.mul_emod_right _ _
  have HOK : Aside (∀ d r, d = f + p * r → f ≤ d → Tk.okJ f p d = true) := hok
  clear hok bf bp
  go_enter Tryd.func4, Tryd.ntmps4
  go_wp2_with fail
  refine (newT 2 w (by omega) (by omega)).mono ?_
  rintro e w1 ⟨B, X, rfl, D, A⟩
  rw [hS] at A
  have P := makeP D 2 f p f 0 0 1 (by decide) (by simp) ⟨f0, by omega⟩ ⟨by omega, by omega⟩ ⟨f0, by omega⟩ p0 (HOK.out f 0 (by simp) (by omega))
  have HA : Aside (Ab w S w1 X) := A
  clear D A
  go_wp2_with fail
  refine P.mono ?_
  rintro e w2 ⟨rfl, X2, D2, s2⟩
  have H0 : Aside (Tb w2 X2 B 2 [tA f p f f 0 0] ∧ Ab w S w2 X2) := ⟨D2, HA.out.st s2⟩
  clear P D2 s2 HA hf hp' hp p0' p1'
  go_wp2_with fail
  go_loopw [11, 12] (fun s11 s12 wr => ∃ (I : Nat) (d m : Int) (X : Nat → Prop), I ≤ 20 ∧ s12 = .int .i64 I ∧ s11 = .int .u64 d ∧ Aside (d = f + p * ((I : Int) + m) ∧ 0 ≤ m ∧ m ≤ d ∧ f ≤ d ∧ d ≤ 65536 + 4352 * I) ∧ Aside (Tb wr X B 2 [tA f p d d I m] ∧ Ab w S wr X)) (fun _ i _ => 20 - (intOf i).toNat)
  case atStart => exact ⟨0, f, 0, X2, by omega, rfl, rfl, (⟨by simp, by omega, by omega, by omega, by omega⟩ : f = f + p * (((0 : Nat) : Int) + 0) ∧ (0 : Int) ≤ 0 ∧ (0 : Int) ≤ f ∧ f ≤ f ∧ f ≤ 65536 + 4352 * ((0 : Nat) : Int)), H0.out⟩
  case round =>
    obtain ⟨I, d, m, X, hI, rfl, rfl, hd, hT⟩ := hrel
    clear H0
    by_cases c : I < len ∧ I < 20
    · obtain ⟨l1, l2⟩ := c
      have l1' : (I : Int) < (len : Int) := by omega
      have l2' : (I : Int) < 20 := by omega
      obtain ⟨b, off, rfl, hbl, hc, hwf⟩ := hR.out.at l1
      have hc0 := (hT.out.2.bel.cell (p := ⟨b, off + I, none⟩) (show b < S by omega)).trans hc
      generalize zs.getD I 0 = z at *
      have bz := bounds_u64 hwf
      clear hc hwf
      obtain ⟨Z, hZ, Z0, Z1⟩ : ∃ Z, bits .and .u64 z 4095 = Z ∧ 0 ≤ Z ∧ Z < 4096 := ⟨_, mask_u64 z 12 4095 4096 bz (by decide) (by omega) (by omega) (by decide), by omega, by omega⟩
      obtain ⟨d1, d2, d3, d4, d5⟩ := hd.out
      obtain ⟨n, hn, n1, n2⟩ : ∃ n, d + Z = n ∧ d ≤ n ∧ n ≤ d + 4095 := ⟨_, rfl, by omega, by omega⟩
      obtain ⟨g1, g2, g3, g4, g5, g6⟩ := again_num f0 p0 d1 d4 n1 (by omega)
      obtain ⟨V, hV⟩ : ∃ V, gridV f p n = V := ⟨_, rfl⟩
      obtain ⟨q, hq⟩ : ∃ q, missT f p d n = q := ⟨_, rfl⟩
      rw [hV] at g2 g3 g5 g6
      rw [hq] at g4 g5 g6
      have hmx : max n d = n := Int.max_eq_left n1
      have hdu : Tk.dueJ f p d n = V := by unfold Tk.dueJ; rw [hmx, if_pos g1, hV]
      have P := againG hT.out.1 (i := 0) (x := tA f p d d I m) rfl n ⟨f0, by show f < _; omega⟩ ⟨by show 0 ≤ p; omega, by show p < _; omega⟩ ⟨by show 0 ≤ d; omega, by show d < _; omega⟩ ⟨by omega, by omega⟩ (HOK.out d _ d1 d4) (by show gridOk f p (max n d) = true; rw [hmx]; exact g1)
      have hRM : (I : Int) + 1 + (m + q) ≤ V := by
        have e := g6
        have : (V - f) / p ≤ V - f := Int.ediv_le_self _ (by omega)
        omega
      have eA : agnT (tA f p d d I m) n = tA f p d V ((I : Int) + 1) (m + q) := by
        have w1 : IntKind.u64.wrap ((I : Int) + 1) = (I : Int) + 1 := wrapU (by omega) (by omega)
        have w2 : IntKind.u64.wrap (m + q) = m + q := wrapU (by omega) (by omega)
        simp only [agnT, tA, hdu, hq, w1, w2]
      rw [eA] at P
      change Calls _ _ _ _ (fun e w' => e = .returned (.tuple #[.int .u64 (Tk.dueJ f p d n), .bool true]) ∧ Tb w' X B 2 [tA f p d V ((I : Int) + 1) (m + q)] ∧ Sx X wr X w') at P
      rw [hdu] at P
      obtain ⟨Q, hQ⟩ : ∃ Q, m + q = Q := ⟨_, rfl⟩
      rw [hQ] at P g5 g6 hRM
      have q0 : 0 ≤ Q := by omega
      have HAB : Aside (Ab w S wr X) := hT.out.2
      have NX : Aside (V = f + p * (((I + 1 : Nat) : Int) + Q) ∧ 0 ≤ Q ∧ Q ≤ V ∧ f ≤ V ∧ V ≤ 65536 + 4352 * ((I + 1 : Nat) : Int)) := ⟨by rw [g5]; rfl, q0, by omega, by omega, by omega⟩
      have pV : p ≤ V := by
        have := Int.mul_le_mul_of_nonneg_left (a := 1) (b := (I : Int) + 1 + Q) (c := p) (by omega) (by omega)
        omega
      have V9 : V < 1000000 := by omega
      have dv : (V - f) / p = (I : Int) + 1 + Q := g6
      have HDV : Hid _ := dv
      clear hV hq hmx hdu eA hd hT d1 d3 d5 g1 g4 g5 g6 hQ d2 bz dv HOK
      go_wp2_with fail
      refine P.mono ?_
      rintro e w3 ⟨rfl, D3, s3⟩
      clear P hc0 hZ
      have A3 := HAB.out.st s3
      have P := getG D3 (i := 0) (x := tA f p d V ((I : Int) + 1) Q) rfl
      change Calls _ _ _ _ (fun e w' => e = .returned (.tuple #[.agg #[.int .i64 1, .int .i64 2, .int .i64 1, .int .u64 d, .int .u64 0, .int .u64 ((I : Int) + 1), .int .u64 Q], .bool true]) ∧ Tb w' X B 2 [tA f p d V ((I : Int) + 1) Q] ∧ Sx X w3 X w') at P
      have HA3 : Aside (Ab w S w3 X) := A3
      clear A3 HAB D3 s3
      go_wp2_with fail
      refine P.mono ?_
      rintro e w4 ⟨rfl, D4, s4⟩
      clear P
      obtain ⟨u, hu⟩ : ∃ u, w4.alloc (.cells #[.int .i64 1, .int .i64 2, .int .i64 1, .int .u64 d, .int .u64 0, .int .u64 ((I : Int) + 1), .int .u64 Q] 43) = u := ⟨_, rfl⟩
      obtain ⟨K, hK⟩ : ∃ K, w4.heap.size = K := ⟨_, rfl⟩
      have hB : u.heap[K]? = some (.cells #[.int .i64 1, .int .i64 2, .int .i64 1, .int .u64 d, .int .u64 0, .int .u64 ((I : Int) + 1), .int .u64 Q] 43 (0, 0)) := by rw [← hu, ← hK]; exact heap_alloc_new w4 _
      have b4 : Below w4.heap.size w4 u := by rw [← hu]; exact bel1 _ _
      have k3 : u.cell? ⟨K, 3, none⟩ = some (.int .u64 d) := by rw [cell_of_row _ _ _ _ _ _ hB]; rfl
      have k5 : u.cell? ⟨K, 5, none⟩ = some (.int .u64 ((I : Int) + 1)) := by rw [cell_of_row _ _ _ _ _ _ hB]; rfl
      have k6 : u.cell? ⟨K, 6, none⟩ = some (.int .u64 Q) := by rw [cell_of_row _ _ _ _ _ _ hB]; rfl
      have X4 : Aside (Tb u X B 2 [tA f p d V ((I : Int) + 1) Q] ∧ Ab w S u X) := ⟨D4.below b4, (HA3.out.st s4).below b4⟩
      have HU : Aside _ := hu
      clear D4 s4 HA3 hu b4 hB
      go_upto_region 15 with fail
      rw [HU.out]
      have dv : (V - f) / p = (I : Int) + 1 + Q := HDV.out
      have x1 : decide (n < V - p) = false := by simp; omega
      have x2 : ¬ n < V - p := by omega
      have x3 : IntKind.u64.wrap (V - p) = V - p := wrapU (by omega) (by omega)
      have x4 : IntKind.u64.wrap (V - f) = V - f := wrapU (by omega) (by omega)
      have x5 : IntKind.u64.wrap ((I : Int) + 1) = (I : Int) + 1 := wrapU (by omega) (by omega)
      have x6 : IntKind.u64.wrap ((I : Int) + 1 + Q) = (I : Int) + 1 + Q := wrapU (by omega) (by omega)
      have x7 : decide (V ≤ n) = false := by simp; omega
      go_quiet (fail)
      clear x1 x2 x3 x4 x5 x6 x7
      clear dv k3 k5 k6
      have P : Aside (∀ q, Calls Tryd.prog 14 #[.pointer (some ⟨B, 0, none⟩), .int .i64 1, .int .u64 V] (u.drewN q) fun e w' => e = .returned (.int .i64 0) ∧ Tb w' X B 2 [tA f p V V ((I + 1 : Nat) : Int) Q] ∧ Ab w S w' X) := fun q => by
        have hb := drewN_below u q
        refine (setG (X4.out.1.below hb) (i := 0) (x := tA f p d V ((I : Int) + 1) Q) rfl V).mono ?_
        rintro e w6 ⟨h1, D6, s6⟩
        exact ⟨h1, D6, (X4.out.2.below hb).st s6⟩
      go_wp2_with fail
      refine Calls.mono (P.out _) ?_
      rintro e w6 ⟨rfl, FIN⟩
      have FIN : Aside _ := FIN
      clear P
      go_wp2_with fail
      go_roundw
      case rel => exact ⟨I + 1, V, Q, X, by omega, by go_num, rfl, NX.out, FIN.out⟩
      case measure => simp [intOf]; omega
    · have P := againN hT.out.1 2 5 (.inr (by simp))
      have HA2 : Aside (Ab w S wr X) := hT.out.2
      clear hd hT HOK
      have fin : ∀ (u : World), u = wr → Aside (Calls Tryd.prog 11 #[] u fun e w' => e = .returned (.bool true) ∧ Below S w w') := fun u hu => (awakeT u).mono (fun e w' ⟨h1, h2⟩ => ⟨h1, by subst hu; exact HA2.out.bel.trans (h2.mono HA2.out.sz)⟩)
      have AW := fin wr rfl
      clear fin
      by_cases l1 : I < len
      · have l2 : ¬ (I : Int) < 20 := by omega
        have l1' : (I : Int) < (len : Int) := by omega
        clear c
        go_wp2_with fail
        refine P.mono ?_
        rintro e w3 ⟨rfl, rfl⟩
        go_wp2_with fail
        refine Calls.mono AW.out ?_
        rintro e w4 ⟨rfl, b4⟩
        go_wp2_with fail
        go_ret
        exact ⟨rfl, by first | exact b4 | (rw [hS]; exact b4)⟩
      · have l1' : ¬ (I : Int) < (len : Int) := by omega
        clear c
        go_wp2_with fail
        refine P.mono ?_
        rintro e w3 ⟨rfl, rfl⟩
        go_wp2_with fail
        refine Calls.mono AW.out ?_
        rintro e w4 ⟨rfl, b4⟩
        go_wp2_with fail
        go_ret
        exact ⟨rfl, by first | exact b4 | (rw [hS]; exact b4)⟩
end Go.Proofs.YtpenjncbodcbnaaDoor

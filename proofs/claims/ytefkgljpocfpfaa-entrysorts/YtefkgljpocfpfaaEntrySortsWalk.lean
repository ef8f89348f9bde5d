/- The walk of 'EntrySorts'. -/
import Derived.Test.YtefkgljpocfpfaaEntAwake
import Derived.Test.YtefkgljpocfpfaaEntC
import Derived.Test.YtefkgljpocfpfaaEntG
import Derived.Test.YtefkgljpocfpfaaEntR3
import Derived.Test.YtefkgljpocfpfaaRefD
import Derived.Deep.Cut
import Derived.Deep.CutRange
namespace Go.Proofs.Ytefkgljpocfpfaa
open Go.RowKit Go.Lib Go.Sort
set_option linter.unusedVariables false

set_option maxHeartbeats 8000000 in
set_option maxRecDepth 100000 in
theorem entrySorts_walk (a1 : Option Addr) (k1 : Nat) (l1 : List Ent) (a2 : Option Addr) (k2 : Nat) (l2 : List Ent) (e : Ent) (w : World)
    (h1 : IsL w a1 k1 l1) (b1 : l1.length ≤ 140737488355328) (h2 : IsL w a2 k2 l2) (b2 : l2.length ≤ 140737488355328) :
    Calls Try.prog 6 #[.slice a1 l1.length k1, .slice a2 l2.length k2, .agg #[.int .u64 e.1, .int .i64 e.2]] w fun r w' => r = .returned (.bool true) ∧ Below w.heap.size w w' := by
  have mx := mixed
  obtain ⟨S, hS⟩ : ∃ S, w.heap.size = S := ⟨_, rfl⟩
  obtain ⟨u, hu⟩ : ∃ u, w.alloc (.cells #[.int .u64 e.1, .int .i64 e.2] 31) = u := ⟨_, rfl⟩
  have gu : Grown w u := by rw [← hu]; exact (Grown.refl w).alloc _
  have zu : u.heap.size = S + 1 := by rw [← hu, ← hS]; simp
  have BX : Aside (∀ W, Below u.heap.size u W → W.cell? ⟨S, 0, none⟩ = some (.int .u64 e.1) ∧ W.cell? ⟨S, 1, none⟩ = some (.int .i64 e.2)) := by
    intro W hW
    have c0 : u.cell? ⟨S, 0, none⟩ = some (.int .u64 e.1) := by rw [← hu, ← hS, cell_new]; rfl
    have c1 : u.cell? ⟨S, 1, none⟩ = some (.int .i64 e.2) := by rw [← hu, ← hS, cell_new]; rfl
    exact ⟨(hW.cell (p := ⟨S, 0, none⟩) (by rw [zu]; simp)).trans c0, (hW.cell (p := ⟨S, 1, none⟩) (by rw [zu]; simp)).trans c1⟩
  have HU : Aside _ := hu
  have GU : Aside (Below w.heap.size w u) := gu.below
  have A0 : Aside (IsL u a1 k1 l1) := h1.below gu.below
  have B0 : Aside (IsL u a2 k2 l2) := h2.below gu.below
  clear hu gu h1 h2
  obtain ⟨z1, z2⟩ := BX.out u (Below.refl _ _)
  by_cases hs : l1.length + l2.length ≤ 200
  · have hz : ¬ (200 : Int) < (l1.length : Int) + (l2.length : Int) := by omega
    have ZU : Hid _ := zu
    go_enter Try.func6, Try.ntmps6
    go_upto_region 3 with fail
    rw [HU.out]
    clear HU hz zu
    have oA := OwnE.made (base := u.heap.size) u #[] 0 (Nat.le_refl _) (by omega) rfl
    have bA : Below u.heap.size u (u.alloc (.cells #[] 31)) := (Below.refl _ _).alloc (Nat.le_refl _) _
    obtain ⟨v1, w1, hr1, o1, g1⟩ := app_run (d := []) (c := l1) oA (A0.out.below bA) (by simp; omega) bA.size 22
    obtain ⟨wa, wc, rfl, f1⟩ := o1.isL
    have d1 : Below u.heap.size u w1 := OwnE.grown oA bA g1 bA.size
    rw [List.nil_append] at hr1 f1
    clear oA bA o1 g1
    go_wp2_with (at_builtin; refine Lib.wpList_append_run (u.alloc (.cells #[] 31)) rfl _ _ 22 22 rfl (.slice (some ⟨u.heap.size, 0, none⟩) 0 0) (.slice a1 l1.length k1) rfl rfl (.slice wa l1.length wc) w1 hr1 ?_)
    have D1 : Aside (Below u.heap.size u w1) := d1
    have A_1 : Aside (IsL w1 a1 k1 l1) := A0.out.below d1
    have B_1 : Aside (IsL w1 a2 k2 l2) := B0.out.below d1
    clear A0 B0
    clear z1 z2
    obtain ⟨z1, z2⟩ := BX.out w1 D1.out
    have WAS_1 : Aside (IsL w1 wa wc l1) := f1
    clear f1 d1 hr1
    refine (sort_any a1 k1 l1 w1 A_1.out (by omega)).mono ?_
    rintro r w2 ⟨Xa, Xc, rfl, f2, d2⟩
    have D2 : Aside (Below u.heap.size u w2) := Below.trans D1.out (Below.mono d2 D1.out.size)
    have A_2 : Aside (IsL w2 a1 k1 l1) := A_1.out.below d2
    have B_2 : Aside (IsL w2 a2 k2 l2) := B_1.out.below d2
    have WAS_2 : Aside (IsL w2 wa wc l1) := WAS_1.out.below d2
    clear A_1 B_1 WAS_1 D1
    clear z1 z2
    obtain ⟨z1, z2⟩ := BX.out w2 D2.out
    have X_2 : Aside (IsL w2 Xa Xc (sortE l1)) := f2
    clear f2 d2
    go_wp2_with fail
    refine (sort_any a2 k2 l2 w2 B_2.out (by omega)).mono ?_
    rintro r w3 ⟨Ya, Yc, rfl, f3, d3⟩
    have D3 : Aside (Below u.heap.size u w3) := Below.trans D2.out (Below.mono d3 D2.out.size)
    have A_3 : Aside (IsL w3 a1 k1 l1) := A_2.out.below d3
    have B_3 : Aside (IsL w3 a2 k2 l2) := B_2.out.below d3
    have WAS_3 : Aside (IsL w3 wa wc l1) := WAS_2.out.below d3
    have X_3 : Aside (IsL w3 Xa Xc (sortE l1)) := X_2.out.below d3
    clear A_2 B_2 WAS_2 X_2 D2
    clear z1 z2
    obtain ⟨z1, z2⟩ := BX.out w3 D3.out
    have Y_3 : Aside (IsL w3 Ya Yc (sortE l2)) := f3
    clear f3 d3
    obtain ⟨X, hX⟩ : ∃ X, sortE l1 = X := ⟨_, rfl⟩
    obtain ⟨Y, hY⟩ : ∃ Y, sortE l2 = Y := ⟨_, rfl⟩
    have xl : X.length = l1.length := by rw [← hX]; exact sortE_len l1
    have yl : Y.length = l2.length := by rw [← hY]; exact sortE_len l2
    have xl2 : X.length + Y.length ≤ 200 := by omega
    have SX : Aside (Srt X) := by rw [← hX]; exact sortE_srt l1
    have SY : Aside (Srt Y) := by rw [← hY]; exact sortE_srt l2
    have HX : Hid _ := hX
    rw [hX] at X_3 ⊢
    rw [hY] at Y_3 ⊢
    clear hX hY xl yl
    obtain ⟨B1, hB1⟩ : ∃ B1, srtB l1 = B1 := ⟨_, rfl⟩
    obtain ⟨B2, hB2⟩ : ∃ B2, ltE e (0, 0) = B2 := ⟨_, rfl⟩
    have bV : Below w3.heap.size w3 w3.drew := (Below.refl _ _).drew
    have DV : Below u.heap.size u w3.drew := Below.trans D3.out (Below.mono bV D3.out.size)
    have VA : IsL w3.drew a1 k1 l1 := A_3.out.below bV
    have VB : IsL w3.drew a2 k2 l2 := B_3.out.below bV
    have VWAS : IsL w3.drew wa wc l1 := WAS_3.out.below bV
    have VX : IsL w3.drew Xa Xc X := X_3.out.below bV
    have VY : IsL w3.drew Ya Yc Y := Y_3.out.below bV
    go_wp2_with fail
    go_region_held3 (fun w' => w'.cell? ⟨S, 0, none⟩ = some (.int .u64 e.1) ∧ w'.cell? ⟨S, 1, none⟩ = some (.int .i64 e.2)) (first | go_keep | exact ⟨by assumption, by assumption⟩)
      ((first
        | (go_at_call 22; refine (refLess_any e (0, 0) m5).mono ?_; rw [hB2]; rintro r m6 ⟨rfl, m6g⟩; have m6D := Below.trans m5D (Below.mono (m6g.below) (Below.size m5D)); obtain ⟨m6x, m6y⟩ := BX.out m6 (Below.trans DV (Below.mono m6D DV.size)))
        | (go_at_call 21; refine (less_any e (0, 0) m4).mono ?_; rw [hB2]; rintro r m5 ⟨rfl, m5g⟩; have m5D := Below.trans m4D (Below.mono (m5g.below) (Below.size m4D)); obtain ⟨m5x, m5y⟩ := BX.out m5 (Below.trans DV (Below.mono m5D DV.size)))
        | (go_at_call 20; refine (refSorted_any a1 k1 l1 m3 (VA.below m3D)).mono ?_; rw [hB1]; rintro r m4 ⟨rfl, m4g⟩; have m4D := Below.trans m3D (Below.mono (m4g.below) (Below.size m3D)); obtain ⟨m4x, m4y⟩ := BX.out m4 (Below.trans DV (Below.mono m4D DV.size)))
        | (go_at_call 12; refine (sorted_any a1 k1 l1 m2 (VA.below m2D)).mono ?_; rw [hB1]; rintro r m3 ⟨rfl, m3g⟩; have m3D := Below.trans m2D (Below.mono (m3g.below) (Below.size m2D)); obtain ⟨m3x, m3y⟩ := BX.out m3 (Below.trans DV (Below.mono m3D DV.size)))
        | (go_at_call 13; refine (same_any Xa m1a Xc m1c X X m1 (VX.below m1D) m1f).mono ?_; rw [decide_eq_true (rfl : X = X)]; rintro r m2 ⟨rfl, m2g⟩; have m2D := Below.trans m1D (Below.mono (m2g.below) (Below.size m1D)); obtain ⟨m2x, m2y⟩ := BX.out m2 (Below.trans DV (Below.mono m2D DV.size)))
        | (go_at_call 19; refine (refSort_any a1 k1 l1 w3.drew (VA.below (Below.refl w3.drew.heap.size w3.drew)) (by omega)).mono ?_; rw [HX.out]; rintro r m1 ⟨m1a, m1c, rfl, m1f, m1d⟩; have m1D := Below.trans (Below.refl w3.drew.heap.size w3.drew) (Below.mono m1d (Below.size (Below.refl w3.drew.heap.size w3.drew))); obtain ⟨m1x, m1y⟩ := BX.out m1 (Below.trans DV (Below.mono m1D DV.size)))))
    have dR : Below w3.heap.size w3 m6 := Below.trans bV (Below.mono m6D bV.size)
    clear bV DV VA VB VWAS VX VY
    generalize m6 = w4 at dR ⊢
    have D4 : Aside (Below u.heap.size u w4) := Below.trans D3.out (Below.mono dR D3.out.size)
    have A_4 : Aside (IsL w4 a1 k1 l1) := A_3.out.below dR
    have B_4 : Aside (IsL w4 a2 k2 l2) := B_3.out.below dR
    have WAS_4 : Aside (IsL w4 wa wc l1) := WAS_3.out.below dR
    have X_4 : Aside (IsL w4 Xa Xc X) := X_3.out.below dR
    have Y_4 : Aside (IsL w4 Ya Yc Y) := Y_3.out.below dR
    clear A_3 B_3 WAS_3 X_3 Y_3 D3
    clear z1 z2
    obtain ⟨z1, z2⟩ := BX.out w4 D4.out
    clear dR
    clear hB1 hB2
    obtain ⟨M, hM⟩ : ∃ M, mergeL X Y = M := ⟨_, rfl⟩
    have hM2 : sortE (X ++ Y) = M := by rw [← mergeL_sort SX.out SY.out]; exact hM
    obtain ⟨P, hP⟩ : ∃ P, insL X e = P := ⟨_, rfl⟩
    obtain ⟨n1, hn1⟩ : ∃ n1, smal X e = n1 := ⟨_, rfl⟩
    obtain ⟨n2, hn2⟩ : ∃ n2, smal l1 e = n2 := ⟨_, rfl⟩
    have nb : n1 ≤ 1000 ∧ n2 ≤ 1000 := by rw [← hn1, ← hn2]; have p1 := smal_le X e; have p2 := smal_le l1 e; omega
    have NB : Hid _ := nb
    clear nb
    have bV : Below w4.heap.size w4 w4.drew := (Below.refl _ _).drew
    have DV : Below u.heap.size u w4.drew := Below.trans D4.out (Below.mono bV D4.out.size)
    have VA : IsL w4.drew a1 k1 l1 := A_4.out.below bV
    have VB : IsL w4.drew a2 k2 l2 := B_4.out.below bV
    have VWAS : IsL w4.drew wa wc l1 := WAS_4.out.below bV
    have VX : IsL w4.drew Xa Xc X := X_4.out.below bV
    have VY : IsL w4.drew Ya Yc Y := Y_4.out.below bV
    go_wp2_with fail
    go_region_held3 (fun w' => w'.cell? ⟨S, 0, none⟩ = some (.int .u64 e.1) ∧ w'.cell? ⟨S, 1, none⟩ = some (.int .i64 e.2)) (first | go_keep | exact ⟨by assumption, by assumption⟩)
      ((first
        | (go_at_call 25; refine (refPlace_any a1 k1 l1 e q9 (VA.below q9D)).mono ?_; rw [hn2]; rintro r q10 ⟨rfl, q10g⟩; have q10D := Below.trans q9D (Below.mono (q10g.below) (Below.size q9D)); obtain ⟨q10x, q10y⟩ := BX.out q10 (Below.trans DV (Below.mono q10D DV.size)))
        | (go_at_call 26; refine (smaller_any a1 k1 l1 e q8 (VA.below q8D)).mono ?_; rw [hn2]; rintro r q9 ⟨rfl, q9g⟩; have q9D := Below.trans q8D (Below.mono (q9g.below) (Below.size q8D)); obtain ⟨q9x, q9y⟩ := BX.out q9 (Below.trans DV (Below.mono q9D DV.size)))
        | (go_at_call 25; refine (refPlace_any Xa Xc X e q7 (VX.below q7D)).mono ?_; rw [hn1]; rintro r q8 ⟨rfl, q8g⟩; have q8D := Below.trans q7D (Below.mono (q8g.below) (Below.size q7D)); obtain ⟨q8x, q8y⟩ := BX.out q8 (Below.trans DV (Below.mono q8D DV.size)))
        | (go_at_call 16; refine (place_any Xa Xc X e q6 (VX.below q6D) SX.out (by omega)).mono ?_; rw [hn1]; rintro r q7 ⟨rfl, q7g⟩; have q7D := Below.trans q6D (Below.mono (q7g.below) (Below.size q6D)); obtain ⟨q7x, q7y⟩ := BX.out q7 (Below.trans DV (Below.mono q7D DV.size)))
        | (go_at_call 13; refine (same_any q4a q5a q4c q5c P P q5 (q4f.below q5d) q5f).mono ?_; rw [decide_eq_true (rfl : P = P)]; rintro r q6 ⟨rfl, q6g⟩; have q6D := Below.trans q5D (Below.mono (q6g.below) (Below.size q5D)); obtain ⟨q6x, q6y⟩ := BX.out q6 (Below.trans DV (Below.mono q6D DV.size)))
        | (go_at_call 24; refine (refPut_any Xa Xc X e q4 (VX.below q4D) (by omega)).mono ?_; rw [hP]; rintro r q5 ⟨q5a, q5c, rfl, q5f, q5d⟩; have q5D := Below.trans q4D (Below.mono q5d (Below.size q4D)); obtain ⟨q5x, q5y⟩ := BX.out q5 (Below.trans DV (Below.mono q5D DV.size)))
        | (go_at_call 15; refine (put_any Xa Xc X e q3 (VX.below q3D) SX.out (by omega)).mono ?_; rw [hP]; rintro r q4 ⟨q4a, q4c, rfl, q4f, q4d⟩; have q4D := Below.trans q3D (Below.mono q4d (Below.size q3D)); obtain ⟨q4x, q4y⟩ := BX.out q4 (Below.trans DV (Below.mono q4D DV.size)))
        | (go_at_call 13; refine (same_any q1a q2a q1c q2c M M q2 (q1f.below q2d) q2f).mono ?_; rw [decide_eq_true (rfl : M = M)]; rintro r q3 ⟨rfl, q3g⟩; have q3D := Below.trans q2D (Below.mono (q3g.below) (Below.size q2D)); obtain ⟨q3x, q3y⟩ := BX.out q3 (Below.trans DV (Below.mono q3D DV.size)))
        | (go_at_call 23; refine (refMerge_any Xa Ya Xc Yc X Y q1 (VX.below q1D) (VY.below q1D) (by omega)).mono ?_; rw [hM2]; rintro r q2 ⟨q2a, q2c, rfl, q2f, q2d⟩; have q2D := Below.trans q1D (Below.mono q2d (Below.size q1D)); obtain ⟨q2x, q2y⟩ := BX.out q2 (Below.trans DV (Below.mono q2D DV.size)))
        | (go_at_call 11; refine ((merge_any Xa Ya Xc Yc X Y w4.drew (VX.below (Below.refl w4.drew.heap.size w4.drew)) (VY.below (Below.refl w4.drew.heap.size w4.drew)) (by omega)).mono (fun _ _ h => Made.gives h)).mono ?_; rw [hM]; rintro r q1 ⟨q1a, q1c, rfl, q1f, q1d⟩; have q1D := Below.trans (Below.refl w4.drew.heap.size w4.drew) (Below.mono q1d (Below.size (Below.refl w4.drew.heap.size w4.drew))); obtain ⟨q1x, q1y⟩ := BX.out q1 (Below.trans DV (Below.mono q1D DV.size)))))
    have dR : Below w4.heap.size w4 q10 := Below.trans bV (Below.mono q10D bV.size)
    clear bV DV VA VB VWAS VX VY
    generalize q10 = w5 at dR ⊢
    have D5 : Aside (Below u.heap.size u w5) := Below.trans D4.out (Below.mono dR D4.out.size)
    have A_5 : Aside (IsL w5 a1 k1 l1) := A_4.out.below dR
    have B_5 : Aside (IsL w5 a2 k2 l2) := B_4.out.below dR
    have WAS_5 : Aside (IsL w5 wa wc l1) := WAS_4.out.below dR
    have X_5 : Aside (IsL w5 Xa Xc X) := X_4.out.below dR
    have Y_5 : Aside (IsL w5 Ya Yc Y) := Y_4.out.below dR
    clear A_4 B_4 WAS_4 X_4 Y_4 D4
    clear z1 z2
    obtain ⟨z1, z2⟩ := BX.out w5 D5.out
    clear dR
    clear hM hM2 hP hn1 hn2 NB SX SY HX xl2
    obtain ⟨E, hE⟩ : ∃ E, dropL l1 e.2 = E := ⟨_, rfl⟩
    obtain ⟨h9, hh⟩ : ∃ h9, hasL l1 e.2 = h9 := ⟨_, rfl⟩
    go_wp2_with fail
    refine (drop_any a1 k1 l1 e.2 w5 A_5.out (by omega)).mono ?_
    unfold Dropped; rw [hE, hh]
    rintro r w6 ⟨Ea, Ec, rfl, f6, d6⟩
    have D6 : Aside (Below u.heap.size u w6) := Below.trans D5.out (Below.mono d6 D5.out.size)
    have A_6 : Aside (IsL w6 a1 k1 l1) := A_5.out.below d6
    have WAS_6 : Aside (IsL w6 wa wc l1) := WAS_5.out.below d6
    clear A_5 WAS_5 D5
    clear z1 z2
    obtain ⟨z1, z2⟩ := BX.out w6 D6.out
    have E_6 : Aside (IsL w6 Ea Ec (E)) := f6
    clear f6 d6
    go_wp2_with fail
    refine (refDrop_any a1 k1 l1 e.2 w6 A_6.out (by omega)).mono ?_
    unfold Dropped; rw [hE, hh]
    rintro r w7 ⟨Ga, Gc, rfl, f7, d7⟩
    have D7 : Aside (Below u.heap.size u w7) := Below.trans D6.out (Below.mono d7 D6.out.size)
    have A_7 : Aside (IsL w7 a1 k1 l1) := A_6.out.below d7
    have WAS_7 : Aside (IsL w7 wa wc l1) := WAS_6.out.below d7
    have E_7 : Aside (IsL w7 Ea Ec (E)) := E_6.out.below d7
    clear A_6 WAS_6 E_6 D6
    clear z1 z2
    obtain ⟨z1, z2⟩ := BX.out w7 D7.out
    have G_7 : Aside (IsL w7 Ga Gc (E)) := f7
    clear f7 d7
    clear hE hh
    go_wp2_with fail
    refine (same_any Ea Ga Ec Gc E E w7 E_7.out G_7.out).mono ?_
    rw [decide_eq_true (rfl : E = E)]
    rintro r w8 ⟨rfl, g8⟩
    have d8 := g8.below
    clear g8
    have D8 : Aside (Below u.heap.size u w8) := Below.trans D7.out (Below.mono d8 D7.out.size)
    have A_8 : Aside (IsL w8 a1 k1 l1) := A_7.out.below d8
    have WAS_8 : Aside (IsL w8 wa wc l1) := WAS_7.out.below d8
    have E_8 : Aside (IsL w8 Ea Ec (E)) := E_7.out.below d8
    have G_8 : Aside (IsL w8 Ga Gc (E)) := G_7.out.below d8
    clear A_7 WAS_7 E_7 G_7 D7
    clear z1 z2
    obtain ⟨z1, z2⟩ := BX.out w8 D8.out
    clear d8
    go_wp2_with fail
    refine (same_any a1 wa k1 wc l1 l1 w8 A_8.out WAS_8.out).mono ?_
    rw [decide_eq_true (rfl : l1 = l1)]
    rintro r w9 ⟨rfl, g9⟩
    have d9 := g9.below
    clear g9
    have D9 : Aside (Below u.heap.size u w9) := Below.trans D8.out (Below.mono d9 D8.out.size)
    have A_9 : Aside (IsL w9 a1 k1 l1) := A_8.out.below d9
    have WAS_9 : Aside (IsL w9 wa wc l1) := WAS_8.out.below d9
    have E_9 : Aside (IsL w9 Ea Ec (E)) := E_8.out.below d9
    have G_9 : Aside (IsL w9 Ga Gc (E)) := G_8.out.below d9
    clear A_8 WAS_8 E_8 G_8 D8
    clear z1 z2
    obtain ⟨z1, z2⟩ := BX.out w9 D9.out
    clear d9
    go_wp2_with fail
    refine (awake_any w9).mono ?_
    rintro r v ⟨rfl, dv⟩
    have DV : Aside (Below w.heap.size w v) := Below.trans GU.out (Below.mono (Below.trans D9.out (Below.mono dv D9.out.size)) GU.out.size)
    clear dv
    go_wp2
    go_ret
    exact ⟨rfl, DV.out⟩
  · have hz : (200 : Int) < (l1.length : Int) + (l2.length : Int) := by omega
    go_enter Try.func6, Try.ntmps6
    go_wp2_with fail
    rw [HU.out]
    refine (awake_any _).mono ?_
    rintro r v ⟨rfl, dv⟩
    go_wp2
    go_ret
    exact ⟨rfl, Below.trans GU.out (Below.mono dv GU.out.size)⟩
end Go.Proofs.Ytefkgljpocfpfaa

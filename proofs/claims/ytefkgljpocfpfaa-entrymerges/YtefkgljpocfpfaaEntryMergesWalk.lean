/- The walk of 'EntryMerges'. -/
import Derived.Test.YtefkgljpocfpfaaEntAwake
import Derived.Test.YtefkgljpocfpfaaEntG
import Derived.Test.YtefkgljpocfpfaaEntR2
namespace Go.Proofs.Ytefkgljpocfpfaa
open Go.RowKit Go.Lib Go.Sort
set_option linter.unusedVariables false

set_option maxHeartbeats 4000000 in
set_option maxRecDepth 100000 in
theorem entryMerges_walk (a1 : Option Addr) (k1 : Nat) (l1 : List Ent) (a2 : Option Addr) (k2 : Nat) (l2 : List Ent) (a3 : Option Addr) (k3 : Nat) (l3 : List Ent) (w : World)
    (h1 : IsL w a1 k1 l1) (b1 : l1.length ≤ 140737488355328) (h2 : IsL w a2 k2 l2) (b2 : l2.length ≤ 140737488355328) (h3 : IsL w a3 k3 l3) (b3 : l3.length ≤ 140737488355328) :
    Calls Try.prog 3 #[.slice a1 l1.length k1, .slice a2 l2.length k2, .slice a3 l3.length k3] w fun e w' => e = .returned (.bool true) ∧ Below w.heap.size w w' := by
  by_cases hs : l1.length + l2.length + l3.length ≤ 150
  · have hz : ¬ (150 : Int) < (l1.length : Int) + (l2.length : Int) + (l3.length : Int) := by omega
    obtain ⟨m1, hm1⟩ : ∃ m, (l1.length : Int) + (l2.length : Int) + (l3.length : Int) = m := ⟨_, rfl⟩
    have hm1' : Hid _ := hm1
    have hm2 : m1 ≤ 150 := by omega
    have hm3 : ¬ 150 < m1 := by omega
    have H1 : Aside (IsL w a1 k1 l1) := h1
    have H2 : Aside (IsL w a2 k2 l2) := h2
    have H3 : Aside (IsL w a3 k3 l3) := h3
    clear h1 h2 h3 hz
    go_enter Try.func3, Try.ntmps3
    go_wp2_with fail
    refine (sort_any a1 k1 l1 w H1.out (by omega)).mono ?_
    rintro e w1 ⟨Xa, Xc, rfl, f1, d1⟩
    have D1 : Aside (Below w.heap.size w w1) := d1
    have A1_1 : Aside (IsL w1 a1 k1 l1) := H1.out.below d1
    have A2_1 : Aside (IsL w1 a2 k2 l2) := H2.out.below d1
    have A3_1 : Aside (IsL w1 a3 k3 l3) := H3.out.below d1
    clear H1 H2 H3
    have X_1 : Aside (IsL w1 Xa Xc (sortE l1)) := f1
    clear f1 d1
    go_wp2_with fail
    refine (sort_any a2 k2 l2 w1 A2_1.out (by omega)).mono ?_
    rintro e w2 ⟨Ya, Yc, rfl, f2, d2⟩
    have D2 : Aside (Below w.heap.size w w2) := Below.trans D1.out (Below.mono d2 D1.out.size)
    have A1_2 : Aside (IsL w2 a1 k1 l1) := A1_1.out.below d2
    have A2_2 : Aside (IsL w2 a2 k2 l2) := A2_1.out.below d2
    have A3_2 : Aside (IsL w2 a3 k3 l3) := A3_1.out.below d2
    have X_2 : Aside (IsL w2 Xa Xc (sortE l1)) := X_1.out.below d2
    clear A1_1 A2_1 A3_1 X_1 D1
    have Y_2 : Aside (IsL w2 Ya Yc (sortE l2)) := f2
    clear f2 d2
    go_wp2_with fail
    refine (sort_any a3 k3 l3 w2 A3_2.out (by omega)).mono ?_
    rintro e w3 ⟨Za, Zc, rfl, f3, d3⟩
    have D3 : Aside (Below w.heap.size w w3) := Below.trans D2.out (Below.mono d3 D2.out.size)
    have A1_3 : Aside (IsL w3 a1 k1 l1) := A1_2.out.below d3
    have A2_3 : Aside (IsL w3 a2 k2 l2) := A2_2.out.below d3
    have A3_3 : Aside (IsL w3 a3 k3 l3) := A3_2.out.below d3
    have X_3 : Aside (IsL w3 Xa Xc (sortE l1)) := X_2.out.below d3
    have Y_3 : Aside (IsL w3 Ya Yc (sortE l2)) := Y_2.out.below d3
    clear A1_2 A2_2 A3_2 X_2 Y_2 D2
    have Z_3 : Aside (IsL w3 Za Zc (sortE l3)) := f3
    clear f3 d3
    clear A1_3
    clear A2_3
    clear A3_3
    go_wp2_with fail
    refine ((merge_any Xa Ya Xc Yc (sortE l1) (sortE l2) w3 X_3.out Y_3.out (by simp only [sortE_len]; omega)).mono (fun _ _ h => Made.gives h)).mono ?_
    rintro e w4 ⟨XYa, XYc, rfl, f4, d4⟩
    have D4 : Aside (Below w.heap.size w w4) := Below.trans D3.out (Below.mono d4 D3.out.size)
    have X_4 : Aside (IsL w4 Xa Xc (sortE l1)) := X_3.out.below d4
    have Y_4 : Aside (IsL w4 Ya Yc (sortE l2)) := Y_3.out.below d4
    have Z_4 : Aside (IsL w4 Za Zc (sortE l3)) := Z_3.out.below d4
    clear X_3 Y_3 Z_3 D3
    have XY_4 : Aside (IsL w4 XYa XYc (mergeL (sortE l1) (sortE l2))) := f4
    clear f4 d4
    go_wp2_with fail
    refine ((merge_any XYa Za XYc Zc (mergeL (sortE l1) (sortE l2)) (sortE l3) w4 XY_4.out Z_4.out (by simp only [sortE_len, mergeL_len]; omega)).mono (fun _ _ h => Made.gives h)).mono ?_
    rintro e w5 ⟨Pa, Pc, rfl, f5, d5⟩
    have D5 : Aside (Below w.heap.size w w5) := Below.trans D4.out (Below.mono d5 D4.out.size)
    have X_5 : Aside (IsL w5 Xa Xc (sortE l1)) := X_4.out.below d5
    have Y_5 : Aside (IsL w5 Ya Yc (sortE l2)) := Y_4.out.below d5
    have Z_5 : Aside (IsL w5 Za Zc (sortE l3)) := Z_4.out.below d5
    have XY_5 : Aside (IsL w5 XYa XYc (mergeL (sortE l1) (sortE l2))) := XY_4.out.below d5
    clear X_4 Y_4 Z_4 XY_4 D4
    have P_5 : Aside (IsL w5 Pa Pc (mergeL (mergeL (sortE l1) (sortE l2)) (sortE l3))) := f5
    clear f5 d5
    clear XY_5
    go_wp2_with fail
    refine ((merge_any Ya Za Yc Zc (sortE l2) (sortE l3) w5 Y_5.out Z_5.out (by simp only [sortE_len]; omega)).mono (fun _ _ h => Made.gives h)).mono ?_
    rintro e w6 ⟨YZa, YZc, rfl, f6, d6⟩
    have D6 : Aside (Below w.heap.size w w6) := Below.trans D5.out (Below.mono d6 D5.out.size)
    have X_6 : Aside (IsL w6 Xa Xc (sortE l1)) := X_5.out.below d6
    have Y_6 : Aside (IsL w6 Ya Yc (sortE l2)) := Y_5.out.below d6
    have Z_6 : Aside (IsL w6 Za Zc (sortE l3)) := Z_5.out.below d6
    have P_6 : Aside (IsL w6 Pa Pc (mergeL (mergeL (sortE l1) (sortE l2)) (sortE l3))) := P_5.out.below d6
    clear X_5 Y_5 Z_5 P_5 D5
    have YZ_6 : Aside (IsL w6 YZa YZc (mergeL (sortE l2) (sortE l3))) := f6
    clear f6 d6
    go_wp2_with fail
    refine ((merge_any Xa YZa Xc YZc (sortE l1) (mergeL (sortE l2) (sortE l3)) w6 X_6.out YZ_6.out (by simp only [sortE_len, mergeL_len]; omega)).mono (fun _ _ h => Made.gives h)).mono ?_
    rintro e w7 ⟨Qa, Qc, rfl, f7, d7⟩
    have D7 : Aside (Below w.heap.size w w7) := Below.trans D6.out (Below.mono d7 D6.out.size)
    have X_7 : Aside (IsL w7 Xa Xc (sortE l1)) := X_6.out.below d7
    have Y_7 : Aside (IsL w7 Ya Yc (sortE l2)) := Y_6.out.below d7
    have Z_7 : Aside (IsL w7 Za Zc (sortE l3)) := Z_6.out.below d7
    have P_7 : Aside (IsL w7 Pa Pc (mergeL (mergeL (sortE l1) (sortE l2)) (sortE l3))) := P_6.out.below d7
    have YZ_7 : Aside (IsL w7 YZa YZc (mergeL (sortE l2) (sortE l3))) := YZ_6.out.below d7
    clear X_6 Y_6 Z_6 P_6 YZ_6 D6
    have Q_7 : Aside (IsL w7 Qa Qc (mergeL (sortE l1) (mergeL (sortE l2) (sortE l3)))) := f7
    clear f7 d7
    clear YZ_7
    go_wp2_with fail
    refine ((merge_any Ya Xa Yc Xc (sortE l2) (sortE l1) w7 Y_7.out X_7.out (by simp only [sortE_len]; omega)).mono (fun _ _ h => Made.gives h)).mono ?_
    rintro e w8 ⟨YXa, YXc, rfl, f8, d8⟩
    have D8 : Aside (Below w.heap.size w w8) := Below.trans D7.out (Below.mono d8 D7.out.size)
    have X_8 : Aside (IsL w8 Xa Xc (sortE l1)) := X_7.out.below d8
    have Y_8 : Aside (IsL w8 Ya Yc (sortE l2)) := Y_7.out.below d8
    have Z_8 : Aside (IsL w8 Za Zc (sortE l3)) := Z_7.out.below d8
    have P_8 : Aside (IsL w8 Pa Pc (mergeL (mergeL (sortE l1) (sortE l2)) (sortE l3))) := P_7.out.below d8
    have Q_8 : Aside (IsL w8 Qa Qc (mergeL (sortE l1) (mergeL (sortE l2) (sortE l3)))) := Q_7.out.below d8
    clear X_7 Y_7 Z_7 P_7 Q_7 D7
    have YX_8 : Aside (IsL w8 YXa YXc (mergeL (sortE l2) (sortE l1))) := f8
    clear f8 d8
    go_wp2_with fail
    refine ((merge_any Za YXa Zc YXc (sortE l3) (mergeL (sortE l2) (sortE l1)) w8 Z_8.out YX_8.out (by simp only [sortE_len, mergeL_len]; omega)).mono (fun _ _ h => Made.gives h)).mono ?_
    rintro e w9 ⟨Ra, Rc, rfl, f9, d9⟩
    have D9 : Aside (Below w.heap.size w w9) := Below.trans D8.out (Below.mono d9 D8.out.size)
    have X_9 : Aside (IsL w9 Xa Xc (sortE l1)) := X_8.out.below d9
    have Y_9 : Aside (IsL w9 Ya Yc (sortE l2)) := Y_8.out.below d9
    have Z_9 : Aside (IsL w9 Za Zc (sortE l3)) := Z_8.out.below d9
    have P_9 : Aside (IsL w9 Pa Pc (mergeL (mergeL (sortE l1) (sortE l2)) (sortE l3))) := P_8.out.below d9
    have Q_9 : Aside (IsL w9 Qa Qc (mergeL (sortE l1) (mergeL (sortE l2) (sortE l3)))) := Q_8.out.below d9
    have YX_9 : Aside (IsL w9 YXa YXc (mergeL (sortE l2) (sortE l1))) := YX_8.out.below d9
    clear X_8 Y_8 Z_8 P_8 Q_8 YX_8 D8
    have R_9 : Aside (IsL w9 Ra Rc (mergeL (sortE l3) (mergeL (sortE l2) (sortE l1)))) := f9
    clear f9 d9
    clear YX_9
    clear X_9
    clear Y_9
    clear Z_9
    obtain ⟨PL, hP⟩ : ∃ PL, mergeL (mergeL (sortE l1) (sortE l2)) (sortE l3) = PL := ⟨_, rfl⟩
    have s1 := sortE_srt l1
    have s2 := sortE_srt l2
    have s3 := sortE_srt l3
    have SP : Aside (Srt PL) := by rw [← hP]; exact mergeL_srt _ _ (mergeL_srt _ _ s1 s2) s3
    have LP : Hid ((PL.length : Int) = m1) := by
      show (PL.length : Int) = m1
      rw [← hP, (mergeL_perm _ _).length_eq, List.length_append, (mergeL_perm _ _).length_eq, List.length_append, sortE_len, sortE_len, sortE_len]
      omega
    have eQ : mergeL (sortE l1) (mergeL (sortE l2) (sortE l3)) = PL := by
      rw [← hP]
      refine Srt.uniq (mergeL_srt _ _ s1 (mergeL_srt _ _ s2 s3)) (mergeL_srt _ _ (mergeL_srt _ _ s1 s2) s3) ?_
      refine (mergeL_perm _ _).trans (((mergeL_perm _ _).append_left _).trans ?_)
      rw [← List.append_assoc]
      exact (((mergeL_perm _ _).append_right _).symm).trans (mergeL_perm _ _).symm
    have eR : mergeL (sortE l3) (mergeL (sortE l2) (sortE l1)) = PL := by
      rw [← hP]
      refine Srt.uniq (mergeL_srt _ _ s3 (mergeL_srt _ _ s2 s1)) (mergeL_srt _ _ (mergeL_srt _ _ s1 s2) s3) ?_
      refine (mergeL_perm _ _).trans (((mergeL_perm _ _).append_left _).trans ?_)
      refine List.perm_append_comm.trans ?_
      refine (List.perm_append_comm.append_right _).trans ?_
      exact (((mergeL_perm _ _).append_right _).symm).trans (mergeL_perm _ _).symm
    rw [hP] at P_9 ⊢
    rw [eQ] at Q_9 ⊢
    rw [eR] at R_9 ⊢
    clear hP eQ eR s1 s2 s3
    have lp := LP.out
    go_wp2_with fail
    refine (sorted_any Pa Pc PL w9 P_9.out).mono ?_
    rw [(srtB_iff PL).2 SP.out]
    rintro e w10 ⟨rfl, g10⟩
    have d10 := g10.below
    clear g10
    have D10 : Aside (Below w.heap.size w w10) := Below.trans D9.out (Below.mono d10 D9.out.size)
    have P_10 : Aside (IsL w10 Pa Pc PL) := P_9.out.below d10
    have Q_10 : Aside (IsL w10 Qa Qc PL) := Q_9.out.below d10
    have R_10 : Aside (IsL w10 Ra Rc PL) := R_9.out.below d10
    clear P_9 Q_9 R_9 D9
    clear d10
    go_wp2_with fail
    refine (same_any Pa Qa Pc Qc PL PL w10 P_10.out Q_10.out).mono ?_
    rw [decide_eq_true (rfl : PL = PL)]
    rintro e w11 ⟨rfl, g11⟩
    have d11 := g11.below
    clear g11
    have D11 : Aside (Below w.heap.size w w11) := Below.trans D10.out (Below.mono d11 D10.out.size)
    have P_11 : Aside (IsL w11 Pa Pc PL) := P_10.out.below d11
    have Q_11 : Aside (IsL w11 Qa Qc PL) := Q_10.out.below d11
    have R_11 : Aside (IsL w11 Ra Rc PL) := R_10.out.below d11
    clear P_10 Q_10 R_10 D10
    clear d11
    go_wp2_with fail
    refine (same_any Pa Ra Pc Rc PL PL w11 P_11.out R_11.out).mono ?_
    rw [decide_eq_true (rfl : PL = PL)]
    rintro e w12 ⟨rfl, g12⟩
    have d12 := g12.below
    clear g12
    have D12 : Aside (Below w.heap.size w w12) := Below.trans D11.out (Below.mono d12 D11.out.size)
    have P_12 : Aside (IsL w12 Pa Pc PL) := P_11.out.below d12
    have Q_12 : Aside (IsL w12 Qa Qc PL) := Q_11.out.below d12
    have R_12 : Aside (IsL w12 Ra Rc PL) := R_11.out.below d12
    clear P_11 Q_11 R_11 D11
    clear d12
    go_wp2_with fail
    refine (awake_any w12).mono ?_
    rintro e v ⟨rfl, dv⟩
    go_wp2
    go_ret
    exact ⟨rfl, Below.trans D12.out (Below.mono dv D12.out.size)⟩
  · have hz : (150 : Int) < (l1.length : Int) + (l2.length : Int) + (l3.length : Int) := by omega
    obtain ⟨m1, hm1⟩ : ∃ m, (l1.length : Int) + (l2.length : Int) + (l3.length : Int) = m := ⟨_, rfl⟩
    rw [hm1] at hz
    clear h1 h2 h3
    go_enter Try.func3, Try.ntmps3
    go_wp2_with fail
    refine (awake_any w).mono ?_
    rintro e v ⟨rfl, dv⟩
    go_wp2
    go_ret
    exact ⟨rfl, dv⟩
end Go.Proofs.Ytefkgljpocfpfaa

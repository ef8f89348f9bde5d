/- The walk of 'EntryTakes'. -/
import Derived.Test.YtefkgljpocfpfaaEntAwake
import Derived.Test.YtefkgljpocfpfaaEntC
import Derived.Test.YtefkgljpocfpfaaEntR3
import Derived.Test.YtefkgljpocfpfaaEntD
namespace Go.Proofs.Ytefkgljpocfpfaa
open Go.RowKit Go.Lib Go.Sort
set_option linter.unusedVariables false

set_option maxHeartbeats 4000000 in
set_option maxRecDepth 100000 in
theorem entryTakes_walk (a1 : Option Addr) (k1 : Nat) (l : List Ent) (e : Ent) (w : World) (h : IsL w a1 k1 l) (b1 : l.length ≤ 140737488355328) :
    Calls Try.prog 4 #[.slice a1 l.length k1, .agg #[.int .u64 e.1, .int .i64 e.2]] w fun r w' => r = .returned (.bool true) ∧ Below w.heap.size w w' := by
  have mx := mixed
  obtain ⟨S, hS⟩ : ∃ S, w.heap.size = S := ⟨_, rfl⟩
  obtain ⟨u, hu⟩ : ∃ u, w.alloc (.cells #[.int .u64 e.1, .int .i64 e.2] 31) = u := ⟨_, rfl⟩
  have gu : Grown w u := by rw [← hu]; exact (Grown.refl w).alloc _
  have zu : u.heap.size = S + 1 := by rw [← hu, ← hS]; simp
  have BX : Aside (∀ W, Below u.heap.size u W → W.cell? ⟨S, 0, none⟩ = some (.int .u64 e.1) ∧ W.cell? ⟨S, 1, none⟩ = some (.int .i64 e.2)) := by
    intro W hW
    have c0 : u.cell? ⟨S, 0, none⟩ = some (.int .u64 e.1) := by rw [← hu, ← hS, cell_new]; rfl
    have c1 : u.cell? ⟨S, 1, none⟩ = some (.int .i64 e.2) := by rw [← hu, ← hS, cell_new]; rfl
    exact ⟨(hW.cell (p := ⟨S, 0, none⟩) (by rw [zu]; simp)).trans c0, (hW.cell (p := ⟨S, 1, none⟩) (by rw [zu]; simp)).trans c1⟩
  have HU : Aside _ := hu
  have GU : Aside (Below w.heap.size w u) := gu.below
  have L0 : Aside (IsL u a1 k1 l) := h.below gu.below
  clear hu gu h
  obtain ⟨z1, z2⟩ := BX.out u (Below.refl _ _)
  by_cases hs : l.length ≤ 100
  · have hz : ¬ (100 : Int) < (l.length : Int) := by omega
    have hz2 : decide ((100 : Int) < (l.length : Int)) = false := decide_eq_false hz
    cases hh : hasL l e.2 with
    | true =>
      have ha := has_any a1 k1 l e.2 u L0.out
      rw [hh] at ha
      go_enter Try.func4, Try.ntmps4
      go_wp2_with fail
      rw [HU.out]
      refine ha.mono ?_
      rintro r w1 ⟨rfl, rfl⟩
      go_wp2_with fail
      refine (awake_any _).mono ?_
      rintro r v ⟨rfl, dv⟩
      go_wp2
      go_ret
      exact ⟨rfl, Below.trans GU.out (Below.mono dv GU.out.size)⟩
    | false =>
      have ha := has_any a1 k1 l e.2 u L0.out
      rw [hh] at ha
      have HH : Hid _ := hh
      clear hh
      go_enter Try.func4, Try.ntmps4
      go_wp2_with fail
      rw [HU.out]
      refine ha.mono ?_
      rintro r w1 ⟨rfl, rfl⟩
      clear ha HU
      rename World => u
      go_wp2_with fail
      refine (sort_any a1 k1 l u L0.out (by omega)).mono ?_
      rintro e w1 ⟨Xa, Xc, rfl, f1, d1⟩
      have D1 : Aside (Below u.heap.size u w1) := d1
      have A_1 : Aside (IsL w1 a1 k1 l) := L0.out.below d1
      clear L0
      clear z1 z2
      obtain ⟨z1, z2⟩ := BX.out w1 D1.out
      have X_1 : Aside (IsL w1 Xa Xc (sortE l)) := f1
      clear f1 d1
      clear A_1
      obtain ⟨s, hsl⟩ : ∃ s, sortE l = s := ⟨_, rfl⟩
      have hsn : s.length = l.length := by rw [← hsl]; exact sortE_len l
      have hss : Srt s := by rw [← hsl]; exact sortE_srt l
      have hsh : hasL s e.2 = false := by rw [← hsl, hasL_perm (sortE_perm l)]; exact HH.out
      rw [hsl] at X_1 ⊢
      have sl : s.length ≤ 100 := by omega
      clear hsl hsn
      have SS : Aside (Srt s) := hss
      have SH : Hid (hasL s e.2 = false) := hsh
      clear hss hsh
      go_wp2_with fail
      refine (put_any Xa Xc s e w1 X_1.out SS.out (by omega)).mono ?_
      rintro e w2 ⟨Pa, Pc, rfl, f2, d2⟩
      have D2 : Aside (Below u.heap.size u w2) := Below.trans D1.out (Below.mono d2 D1.out.size)
      have X_2 : Aside (IsL w2 Xa Xc s) := X_1.out.below d2
      clear X_1 D1
      clear z1 z2
      obtain ⟨z1, z2⟩ := BX.out w2 D2.out
      have P_2 : Aside (IsL w2 Pa Pc (insL s e)) := f2
      clear f2 d2
      obtain ⟨p, hp⟩ : ∃ p, insL s e = p := ⟨_, rfl⟩
      have HPN : Hid (p.length = s.length + 1) := by show p.length = s.length + 1; rw [← hp]; exact insL_len s e
      have pl : p.length ≤ 101 := by have := HPN.out; omega
      have pl2 : s.length < p.length := by have := HPN.out; omega
      have SP : Aside (Srt p) := by rw [← hp]; exact insL_srt s e SS.out
      obtain ⟨hk1, hk2⟩ := ins_at SS.out SH.out
      have KP : Aside (∃ h : smal s e < p.length, p[smal s e] = e) := by subst hp; exact ⟨hk1, hk2⟩
      have DP : Hid (dropL p e.2 = s ∧ hasL p e.2 = true) := by rw [← hp]; exact drop_ins SH.out
      rw [hp] at P_2 ⊢
      clear hp hk1 hk2
      go_wp2_with fail
      refine (place_any Xa Xc s e w2 X_2.out SS.out (by omega)).mono ?_
      rintro e w3 ⟨rfl, g3⟩
      have d3 := g3.below
      clear g3
      have D3 : Aside (Below u.heap.size u w3) := Below.trans D2.out (Below.mono d3 D2.out.size)
      have X_3 : Aside (IsL w3 Xa Xc s) := X_2.out.below d3
      have P_3 : Aside (IsL w3 Pa Pc p) := P_2.out.below d3
      clear X_2 P_2 D2
      clear z1 z2
      obtain ⟨z1, z2⟩ := BX.out w3 D3.out
      clear d3
      obtain ⟨m, hm⟩ : ∃ m, smal s e = m := ⟨_, rfl⟩
      have hms : m ≤ s.length := by rw [← hm]; exact smal_le s e
      rw [hm] at KP ⊢
      clear hm
      obtain ⟨km1, km2⟩ := KP.out
      obtain ⟨b, off, ha, hc⟩ := P_3.out.at km1
      have c1 := fun n os => (hc w3 (Grown.refl w3) n os).1
      have c2 := fun n os => (hc w3 (Grown.refl w3) n os).2
      simp only [km2] at c1 c2
      have hbs : S < w3.heap.size := by have := D3.out.size; omega
      have c3 : ∀ n os, (grow (w3.drewN n) os).cell? ⟨S, 0, none⟩ = some (.int .u64 e.1) := fun n os => cell_grown hbs z1 n os
      have c4 : ∀ n os, (grow (w3.drewN n) os).cell? ⟨S, 1, none⟩ = some (.int .i64 e.2) := fun n os => cell_grown hbs z2 n os
      have so : ∀ n os, Calls Try.prog 12 #[.slice Pa p.length Pc] (grow (w3.drewN n) os) fun e w' => e = .returned (.bool true) ∧ ∃ q : GrownBy, w' = grow (w3.drewN q.n) q.os := fun n os => by
        have h := sorted_any Pa Pc p (grow (w3.drewN n) os) (P_3.out.below (Grown.below ⟨n, os, rfl⟩))
        rw [(srtB_iff p).2 SP.out] at h
        exact Calls.grown_of h
      clear hc km2
      have q1 := eqE e e
      simp only [decide_true] at q1
      have q2 := guardE
      have v2 : ((p.length : Int) != (s.length : Int) + 1) = false := by have := HPN.out; simp; omega
      have v6 : IntKind.i64.wrap ((s.length : Int) + 1) = (s.length : Int) + 1 := by rw [IntKind.wrap_i64]; omega
      have v3 : decide ((s.length : Int) < (m : Int)) = false := decide_eq_false (by omega)
      have v4 : ¬ (s.length : Int) < (m : Int) := by omega
      have v5 : (m : Int) < (p.length : Int) := by omega
      subst ha
      go_wp2_with fail
      go_quiet_grown ((go_at_call 12; with_reducible exact so _ _))
      have dq : Below w3.heap.size w3 (grow (w3.drewN nq) osq) := Grown.below ⟨nq, osq, rfl⟩
      clear c1 c2 c3 c4 so q1 q2
      generalize grow (w3.drewN nq) osq = w4 at dq ⊢
      have D4 : Aside (Below u.heap.size u w4) := Below.trans D3.out (Below.mono dq D3.out.size)
      have X_4 : Aside (IsL w4 Xa Xc s) := X_3.out.below dq
      have P_4 : Aside (IsL w4 (some ⟨b, off, none⟩) Pc p) := P_3.out.below dq
      clear X_3 P_3 D3
      clear z1 z2
      obtain ⟨z1, z2⟩ := BX.out w4 D4.out
      clear dq
      obtain ⟨dp1, dp2⟩ := DP.out
      go_wp2_with fail
      refine (drop_any (some ⟨b, off, none⟩) Pc p e.2 w4 P_4.out (by omega)).mono ?_
      rintro r w5 ⟨Qa, Qc, rfl, f5, d5⟩
      rw [dp1] at f5
      rw [dp1, dp2]
      have D5 : Aside (Below u.heap.size u w5) := Below.trans D4.out (Below.mono d5 D4.out.size)
      have X_5 : Aside (IsL w5 Xa Xc s) := X_4.out.below d5
      have P_5 : Aside (IsL w5 (some ⟨b, off, none⟩) Pc p) := P_4.out.below d5
      clear X_4 P_4 D4
      clear z1 z2
      obtain ⟨z1, z2⟩ := BX.out w5 D5.out
      have Q_5 : Aside (IsL w5 Qa Qc s) := f5
      clear f5 d5
      clear dp1 dp2
      have sh := SH.out
      have se := dropL_none sh
      go_wp2_with fail
      refine (drop_any Qa Qc s e.2 w5 Q_5.out (by omega)).mono ?_
      rintro r w6 ⟨Ra, Rc, rfl, f6, d6⟩
      rw [se] at f6
      rw [se, sh]
      have D6 : Aside (Below u.heap.size u w6) := Below.trans D5.out (Below.mono d6 D5.out.size)
      have X_6 : Aside (IsL w6 Xa Xc s) := X_5.out.below d6
      have P_6 : Aside (IsL w6 (some ⟨b, off, none⟩) Pc p) := P_5.out.below d6
      have Q_6 : Aside (IsL w6 Qa Qc s) := Q_5.out.below d6
      clear X_5 P_5 Q_5 D5
      clear z1 z2
      obtain ⟨z1, z2⟩ := BX.out w6 D6.out
      have R_6 : Aside (IsL w6 Ra Rc s) := f6
      clear f6 d6
      clear sh se
      go_wp2_with fail
      refine (same_any Qa Xa Qc Xc s s w6 Q_6.out X_6.out).mono ?_
      rw [decide_eq_true (rfl : s = s)]
      rintro e w7 ⟨rfl, g7⟩
      have d7 := g7.below
      clear g7
      have D7 : Aside (Below u.heap.size u w7) := Below.trans D6.out (Below.mono d7 D6.out.size)
      have X_7 : Aside (IsL w7 Xa Xc s) := X_6.out.below d7
      have P_7 : Aside (IsL w7 (some ⟨b, off, none⟩) Pc p) := P_6.out.below d7
      have Q_7 : Aside (IsL w7 Qa Qc s) := Q_6.out.below d7
      have R_7 : Aside (IsL w7 Ra Rc s) := R_6.out.below d7
      clear X_6 P_6 Q_6 R_6 D6
      clear z1 z2
      obtain ⟨z1, z2⟩ := BX.out w7 D7.out
      clear d7
      go_wp2_with fail
      refine (awake_any w7).mono ?_
      rintro r v ⟨rfl, dv⟩
      have DV : Aside (Below w.heap.size w v) := Below.trans GU.out (Below.mono (Below.trans D7.out (Below.mono dv D7.out.size)) GU.out.size)
      clear dv
      go_wp2
      go_ret
      exact ⟨rfl, DV.out⟩
  · have hz : (100 : Int) < (l.length : Int) := by omega
    go_enter Try.func4, Try.ntmps4
    go_wp2_with fail
    rw [HU.out]
    refine (awake_any _).mono ?_
    rintro r v ⟨rfl, dv⟩
    go_wp2
    go_ret
    exact ⟨rfl, Below.trans GU.out (Below.mono dv GU.out.size)⟩
end Go.Proofs.Ytefkgljpocfpfaa

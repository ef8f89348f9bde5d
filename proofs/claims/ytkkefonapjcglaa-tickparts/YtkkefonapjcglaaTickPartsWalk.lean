/- The walk of 'TickParts'. -/
import Derived.Test.YtkkefonapjcglaaTick
namespace Go.Proofs.Ytkkefonapjcglaa
open Go.RowKit
set_option linter.unusedVariables false
theorem cnt_mono {f p a b : Int} (hp : 0 < p) (hab : a ≤ b) : cntT f p a ≤ cntT f p b := by
  unfold cntT
  by_cases h1 : f > a
  · rw [if_pos h1]
    by_cases h2 : f > b
    · rw [if_pos h2]; omega
    · rw [if_neg h2]
      have := Int.ediv_nonneg (a := b - f) (b := p) (by omega) (by omega)
      omega
  · rw [if_neg h1, if_neg (by omega)]
    have := Int.ediv_le_ediv hp (show a - f ≤ b - f by omega)
    omega
theorem miss_parts {f p a b c : Int} (hf : IsT f) (hp : IsT p) (ha : IsT a) (hb : IsT b) (hc : IsT c) (h0 : 0 < p) (hab : a ≤ b) (hbc : b ≤ c) :
    missT f p a b + missT f p b c = missT f p a c ∧ missT f p c a = 0 ∧ missT f p a c < 18446744073709551616 ∧ 0 ≤ missT f p a b ∧ 0 ≤ missT f p b c := by
  have b1 := miss_bound hf hp ha hc
  have b2 := miss_bound hf hp ha hb
  have b3 := miss_bound hf hp hb hc
  refine ⟨?_, ?_, ?_, b2.1, b3.1⟩
  · unfold missT
    by_cases e1 : a = b
    · subst e1
      rw [if_pos (by omega)]
      omega
    · by_cases e2 : b = c
      · subst e2
        rw [if_neg (by omega), if_pos (by omega)]
        omega
      · rw [if_neg (by omega), if_neg (by omega), if_neg (by omega)]
        omega
  · unfold missT
    rw [if_pos (by omega)]
  · have := hc.2
    omega
theorem tickParts_walk (f p a b c : Int) (w : World) (wf : (Lit.int .u64 f).wf = true) (wp : (Lit.int .u64 p).wf = true) (wa : (Lit.int .u64 a).wf = true) (wb : (Lit.int .u64 b).wf = true) (wc : (Lit.int .u64 c).wf = true) :
    Calls Try.prog 4 #[.int .u64 f, .int .u64 p, .int .u64 a, .int .u64 b, .int .u64 c] w fun e w' => e = .returned (.bool true) ∧ Below w.heap.size w w' := by
  have hf : IsT f := bounds_u64 wf
  have hp : IsT p := bounds_u64 wp
  have ha : IsT a := bounds_u64 wa
  have hb : IsT b := bounds_u64 wb
  have hc : IsT c := bounds_u64 wc
  have h2 : IsT 2 := by unfold IsT; decide
  clear wf wp wa wb wc
  by_cases k1 : a > b
  · by_cases k2 : a > c
    · by_cases k3 : b > c
      · by_cases kp : p < 2
        · have K := miss_parts hf h2 hc hb ha (by omega) (by omega) (by omega)
          have C1 := missed_any f 2 c b
          have C2 := missed_any f 2 b a
          have C3 := missed_any f 2 c a
          have C4 := missed_any f 2 a c
          generalize missT f 2 c b = m1 at *
          generalize missT f 2 b a = m2 at *
          generalize missT f 2 c a = m3 at *
          generalize missT f 2 a c = m4 at *
          obtain ⟨K1, rfl, K2, K3, K4⟩ := K
          subst K1
          go_enter Try.func4, Try.ntmps4
          go_wp2_with fail
          refine (C1 _ hf h2 hc hb).mono ?_
          rintro e w1 ⟨rfl, rfl⟩
          go_wp2_with fail
          refine (C2 _ hf h2 hb ha).mono ?_
          rintro e w1 ⟨rfl, rfl⟩
          go_wp2_with fail
          refine (C3 _ hf h2 hc ha).mono ?_
          rintro e w1 ⟨rfl, rfl⟩
          go_wp2_with fail
          refine (C4 _ hf h2 ha hc).mono ?_
          rintro e w1 ⟨rfl, rfl⟩
          go_wp2_with fail
          refine (awake_any _).mono ?_
          rintro e w1 ⟨rfl, rfl⟩
          go_wp2_with fail
          go_ret
          exact ⟨rfl, Below.refl _ _⟩
        · have K := miss_parts hf hp hc hb ha (by omega) (by omega) (by omega)
          have C1 := missed_any f p c b
          have C2 := missed_any f p b a
          have C3 := missed_any f p c a
          have C4 := missed_any f p a c
          generalize missT f p c b = m1 at *
          generalize missT f p b a = m2 at *
          generalize missT f p c a = m3 at *
          generalize missT f p a c = m4 at *
          obtain ⟨K1, rfl, K2, K3, K4⟩ := K
          subst K1
          go_enter Try.func4, Try.ntmps4
          go_wp2_with fail
          refine (C1 _ hf hp hc hb).mono ?_
          rintro e w1 ⟨rfl, rfl⟩
          go_wp2_with fail
          refine (C2 _ hf hp hb ha).mono ?_
          rintro e w1 ⟨rfl, rfl⟩
          go_wp2_with fail
          refine (C3 _ hf hp hc ha).mono ?_
          rintro e w1 ⟨rfl, rfl⟩
          go_wp2_with fail
          refine (C4 _ hf hp ha hc).mono ?_
          rintro e w1 ⟨rfl, rfl⟩
          go_wp2_with fail
          refine (awake_any _).mono ?_
          rintro e w1 ⟨rfl, rfl⟩
          go_wp2_with fail
          go_ret
          exact ⟨rfl, Below.refl _ _⟩
      · by_cases kp : p < 2
        · have K := miss_parts hf h2 hb hc ha (by omega) (by omega) (by omega)
          have C1 := missed_any f 2 b c
          have C2 := missed_any f 2 c a
          have C3 := missed_any f 2 b a
          have C4 := missed_any f 2 a b
          generalize missT f 2 b c = m1 at *
          generalize missT f 2 c a = m2 at *
          generalize missT f 2 b a = m3 at *
          generalize missT f 2 a b = m4 at *
          obtain ⟨K1, rfl, K2, K3, K4⟩ := K
          subst K1
          go_enter Try.func4, Try.ntmps4
          go_wp2_with fail
          refine (C1 _ hf h2 hb hc).mono ?_
          rintro e w1 ⟨rfl, rfl⟩
          go_wp2_with fail
          refine (C2 _ hf h2 hc ha).mono ?_
          rintro e w1 ⟨rfl, rfl⟩
          go_wp2_with fail
          refine (C3 _ hf h2 hb ha).mono ?_
          rintro e w1 ⟨rfl, rfl⟩
          go_wp2_with fail
          refine (C4 _ hf h2 ha hb).mono ?_
          rintro e w1 ⟨rfl, rfl⟩
          go_wp2_with fail
          refine (awake_any _).mono ?_
          rintro e w1 ⟨rfl, rfl⟩
          go_wp2_with fail
          go_ret
          exact ⟨rfl, Below.refl _ _⟩
        · have K := miss_parts hf hp hb hc ha (by omega) (by omega) (by omega)
          have C1 := missed_any f p b c
          have C2 := missed_any f p c a
          have C3 := missed_any f p b a
          have C4 := missed_any f p a b
          generalize missT f p b c = m1 at *
          generalize missT f p c a = m2 at *
          generalize missT f p b a = m3 at *
          generalize missT f p a b = m4 at *
          obtain ⟨K1, rfl, K2, K3, K4⟩ := K
          subst K1
          go_enter Try.func4, Try.ntmps4
          go_wp2_with fail
          refine (C1 _ hf hp hb hc).mono ?_
          rintro e w1 ⟨rfl, rfl⟩
          go_wp2_with fail
          refine (C2 _ hf hp hc ha).mono ?_
          rintro e w1 ⟨rfl, rfl⟩
          go_wp2_with fail
          refine (C3 _ hf hp hb ha).mono ?_
          rintro e w1 ⟨rfl, rfl⟩
          go_wp2_with fail
          refine (C4 _ hf hp ha hb).mono ?_
          rintro e w1 ⟨rfl, rfl⟩
          go_wp2_with fail
          refine (awake_any _).mono ?_
          rintro e w1 ⟨rfl, rfl⟩
          go_wp2_with fail
          go_ret
          exact ⟨rfl, Below.refl _ _⟩
    · by_cases kp : p < 2
      · have K := miss_parts hf h2 hb ha hc (by omega) (by omega) (by omega)
        have C1 := missed_any f 2 b a
        have C2 := missed_any f 2 a c
        have C3 := missed_any f 2 b c
        have C4 := missed_any f 2 c b
        generalize missT f 2 b a = m1 at *
        generalize missT f 2 a c = m2 at *
        generalize missT f 2 b c = m3 at *
        generalize missT f 2 c b = m4 at *
        obtain ⟨K1, rfl, K2, K3, K4⟩ := K
        subst K1
        go_enter Try.func4, Try.ntmps4
        go_wp2_with fail
        refine (C1 _ hf h2 hb ha).mono ?_
        rintro e w1 ⟨rfl, rfl⟩
        go_wp2_with fail
        refine (C2 _ hf h2 ha hc).mono ?_
        rintro e w1 ⟨rfl, rfl⟩
        go_wp2_with fail
        refine (C3 _ hf h2 hb hc).mono ?_
        rintro e w1 ⟨rfl, rfl⟩
        go_wp2_with fail
        refine (C4 _ hf h2 hc hb).mono ?_
        rintro e w1 ⟨rfl, rfl⟩
        go_wp2_with fail
        refine (awake_any _).mono ?_
        rintro e w1 ⟨rfl, rfl⟩
        go_wp2_with fail
        go_ret
        exact ⟨rfl, Below.refl _ _⟩
      · have K := miss_parts hf hp hb ha hc (by omega) (by omega) (by omega)
        have C1 := missed_any f p b a
        have C2 := missed_any f p a c
        have C3 := missed_any f p b c
        have C4 := missed_any f p c b
        generalize missT f p b a = m1 at *
        generalize missT f p a c = m2 at *
        generalize missT f p b c = m3 at *
        generalize missT f p c b = m4 at *
        obtain ⟨K1, rfl, K2, K3, K4⟩ := K
        subst K1
        go_enter Try.func4, Try.ntmps4
        go_wp2_with fail
        refine (C1 _ hf hp hb ha).mono ?_
        rintro e w1 ⟨rfl, rfl⟩
        go_wp2_with fail
        refine (C2 _ hf hp ha hc).mono ?_
        rintro e w1 ⟨rfl, rfl⟩
        go_wp2_with fail
        refine (C3 _ hf hp hb hc).mono ?_
        rintro e w1 ⟨rfl, rfl⟩
        go_wp2_with fail
        refine (C4 _ hf hp hc hb).mono ?_
        rintro e w1 ⟨rfl, rfl⟩
        go_wp2_with fail
        refine (awake_any _).mono ?_
        rintro e w1 ⟨rfl, rfl⟩
        go_wp2_with fail
        go_ret
        exact ⟨rfl, Below.refl _ _⟩
  · by_cases k4 : b > c
    · by_cases k5 : a > c
      · by_cases kp : p < 2
        · have K := miss_parts hf h2 hc ha hb (by omega) (by omega) (by omega)
          have C1 := missed_any f 2 c a
          have C2 := missed_any f 2 a b
          have C3 := missed_any f 2 c b
          have C4 := missed_any f 2 b c
          generalize missT f 2 c a = m1 at *
          generalize missT f 2 a b = m2 at *
          generalize missT f 2 c b = m3 at *
          generalize missT f 2 b c = m4 at *
          obtain ⟨K1, rfl, K2, K3, K4⟩ := K
          subst K1
          go_enter Try.func4, Try.ntmps4
          go_wp2_with fail
          refine (C1 _ hf h2 hc ha).mono ?_
          rintro e w1 ⟨rfl, rfl⟩
          go_wp2_with fail
          refine (C2 _ hf h2 ha hb).mono ?_
          rintro e w1 ⟨rfl, rfl⟩
          go_wp2_with fail
          refine (C3 _ hf h2 hc hb).mono ?_
          rintro e w1 ⟨rfl, rfl⟩
          go_wp2_with fail
          refine (C4 _ hf h2 hb hc).mono ?_
          rintro e w1 ⟨rfl, rfl⟩
          go_wp2_with fail
          refine (awake_any _).mono ?_
          rintro e w1 ⟨rfl, rfl⟩
          go_wp2_with fail
          go_ret
          exact ⟨rfl, Below.refl _ _⟩
        · have K := miss_parts hf hp hc ha hb (by omega) (by omega) (by omega)
          have C1 := missed_any f p c a
          have C2 := missed_any f p a b
          have C3 := missed_any f p c b
          have C4 := missed_any f p b c
          generalize missT f p c a = m1 at *
          generalize missT f p a b = m2 at *
          generalize missT f p c b = m3 at *
          generalize missT f p b c = m4 at *
          obtain ⟨K1, rfl, K2, K3, K4⟩ := K
          subst K1
          go_enter Try.func4, Try.ntmps4
          go_wp2_with fail
          refine (C1 _ hf hp hc ha).mono ?_
          rintro e w1 ⟨rfl, rfl⟩
          go_wp2_with fail
          refine (C2 _ hf hp ha hb).mono ?_
          rintro e w1 ⟨rfl, rfl⟩
          go_wp2_with fail
          refine (C3 _ hf hp hc hb).mono ?_
          rintro e w1 ⟨rfl, rfl⟩
          go_wp2_with fail
          refine (C4 _ hf hp hb hc).mono ?_
          rintro e w1 ⟨rfl, rfl⟩
          go_wp2_with fail
          refine (awake_any _).mono ?_
          rintro e w1 ⟨rfl, rfl⟩
          go_wp2_with fail
          go_ret
          exact ⟨rfl, Below.refl _ _⟩
      · by_cases kp : p < 2
        · have K := miss_parts hf h2 ha hc hb (by omega) (by omega) (by omega)
          have C1 := missed_any f 2 a c
          have C2 := missed_any f 2 c b
          have C3 := missed_any f 2 a b
          have C4 := missed_any f 2 b a
          generalize missT f 2 a c = m1 at *
          generalize missT f 2 c b = m2 at *
          generalize missT f 2 a b = m3 at *
          generalize missT f 2 b a = m4 at *
          obtain ⟨K1, rfl, K2, K3, K4⟩ := K
          subst K1
          go_enter Try.func4, Try.ntmps4
          go_wp2_with fail
          refine (C1 _ hf h2 ha hc).mono ?_
          rintro e w1 ⟨rfl, rfl⟩
          go_wp2_with fail
          refine (C2 _ hf h2 hc hb).mono ?_
          rintro e w1 ⟨rfl, rfl⟩
          go_wp2_with fail
          refine (C3 _ hf h2 ha hb).mono ?_
          rintro e w1 ⟨rfl, rfl⟩
          go_wp2_with fail
          refine (C4 _ hf h2 hb ha).mono ?_
          rintro e w1 ⟨rfl, rfl⟩
          go_wp2_with fail
          refine (awake_any _).mono ?_
          rintro e w1 ⟨rfl, rfl⟩
          go_wp2_with fail
          go_ret
          exact ⟨rfl, Below.refl _ _⟩
        · have K := miss_parts hf hp ha hc hb (by omega) (by omega) (by omega)
          have C1 := missed_any f p a c
          have C2 := missed_any f p c b
          have C3 := missed_any f p a b
          have C4 := missed_any f p b a
          generalize missT f p a c = m1 at *
          generalize missT f p c b = m2 at *
          generalize missT f p a b = m3 at *
          generalize missT f p b a = m4 at *
          obtain ⟨K1, rfl, K2, K3, K4⟩ := K
          subst K1
          go_enter Try.func4, Try.ntmps4
          go_wp2_with fail
          refine (C1 _ hf hp ha hc).mono ?_
          rintro e w1 ⟨rfl, rfl⟩
          go_wp2_with fail
          refine (C2 _ hf hp hc hb).mono ?_
          rintro e w1 ⟨rfl, rfl⟩
          go_wp2_with fail
          refine (C3 _ hf hp ha hb).mono ?_
          rintro e w1 ⟨rfl, rfl⟩
          go_wp2_with fail
          refine (C4 _ hf hp hb ha).mono ?_
          rintro e w1 ⟨rfl, rfl⟩
          go_wp2_with fail
          refine (awake_any _).mono ?_
          rintro e w1 ⟨rfl, rfl⟩
          go_wp2_with fail
          go_ret
          exact ⟨rfl, Below.refl _ _⟩
    · by_cases kp : p < 2
      · have K := miss_parts hf h2 ha hb hc (by omega) (by omega) (by omega)
        have C1 := missed_any f 2 a b
        have C2 := missed_any f 2 b c
        have C3 := missed_any f 2 a c
        have C4 := missed_any f 2 c a
        generalize missT f 2 a b = m1 at *
        generalize missT f 2 b c = m2 at *
        generalize missT f 2 a c = m3 at *
        generalize missT f 2 c a = m4 at *
        obtain ⟨K1, rfl, K2, K3, K4⟩ := K
        subst K1
        go_enter Try.func4, Try.ntmps4
        go_wp2_with fail
        refine (C1 _ hf h2 ha hb).mono ?_
        rintro e w1 ⟨rfl, rfl⟩
        go_wp2_with fail
        refine (C2 _ hf h2 hb hc).mono ?_
        rintro e w1 ⟨rfl, rfl⟩
        go_wp2_with fail
        refine (C3 _ hf h2 ha hc).mono ?_
        rintro e w1 ⟨rfl, rfl⟩
        go_wp2_with fail
        refine (C4 _ hf h2 hc ha).mono ?_
        rintro e w1 ⟨rfl, rfl⟩
        go_wp2_with fail
        refine (awake_any _).mono ?_
        rintro e w1 ⟨rfl, rfl⟩
        go_wp2_with fail
        go_ret
        exact ⟨rfl, Below.refl _ _⟩
      · have K := miss_parts hf hp ha hb hc (by omega) (by omega) (by omega)
        have C1 := missed_any f p a b
        have C2 := missed_any f p b c
        have C3 := missed_any f p a c
        have C4 := missed_any f p c a
        generalize missT f p a b = m1 at *
        generalize missT f p b c = m2 at *
        generalize missT f p a c = m3 at *
        generalize missT f p c a = m4 at *
        obtain ⟨K1, rfl, K2, K3, K4⟩ := K
        subst K1
        go_enter Try.func4, Try.ntmps4
        go_wp2_with fail
        refine (C1 _ hf hp ha hb).mono ?_
        rintro e w1 ⟨rfl, rfl⟩
        go_wp2_with fail
        refine (C2 _ hf hp hb hc).mono ?_
        rintro e w1 ⟨rfl, rfl⟩
        go_wp2_with fail
        refine (C3 _ hf hp ha hc).mono ?_
        rintro e w1 ⟨rfl, rfl⟩
        go_wp2_with fail
        refine (C4 _ hf hp hc ha).mono ?_
        rintro e w1 ⟨rfl, rfl⟩
        go_wp2_with fail
        refine (awake_any _).mono ?_
        rintro e w1 ⟨rfl, rfl⟩
        go_wp2_with fail
        go_ret
        exact ⟨rfl, Below.refl _ _⟩
end Go.Proofs.Ytkkefonapjcglaa

/- The walk of 'TickLaws'. -/
import Derived.Test.YtkkefonapjcglaaTickMul
namespace Go.Proofs.Ytkkefonapjcglaa
open Go.RowKit
set_option linter.unusedVariables false
theorem addT_comm (a b : Int) : addT b a = addT a b := by unfold addT; rw [Int.add_comm b a]
theorem mulT_comm (a b : Int) : mulT b a = mulT a b := by unfold mulT; rw [Int.mul_comm b a]
theorem addT_assoc {a b c : Int} (ha : IsT a) (hb : IsT b) (hc : IsT c) : addT a (addT b c) = addT (addT a b) c := by
  unfold IsT at *
  unfold addT
  split <;> split <;> split <;> split <;> omega
theorem addT_up {a b : Int} (ha : IsT a) (hb : IsT b) : a ≤ addT a b ∧ b ≤ addT a b := by
  unfold IsT addT at *
  split <;> omega
theorem addT_not {a b : Int} (ha : IsT a) (hb : IsT b) (h : addT a b ≠ 18446744073709551615) : addT a b = a + b := by
  unfold IsT addT at *
  split at h
  · rw [if_pos (by omega)]
  · omega
theorem subT_back {a b : Int} (ha : IsT a) (hb : IsT b) (h : addT a b ≠ 18446744073709551615) : subT (addT a b) b = a ∧ subT (addT a b) a = b := by
  have e := addT_not ha hb h
  rw [e]
  unfold IsT subT at *
  constructor
  · rw [if_neg (by omega)]; omega
  · rw [if_neg (by omega)]; omega
theorem tickLaws_walk (a b c : Int) (w : World) (wa : (Lit.int .u64 a).wf = true) (wb : (Lit.int .u64 b).wf = true) (wc : (Lit.int .u64 c).wf = true) :
    Calls Try.prog 8 #[.int .u64 a, .int .u64 b, .int .u64 c] w fun e w' => e = .returned (.bool true) ∧ Below w.heap.size w w' := by
  have ha : IsT a := bounds_u64 wa
  have hb : IsT b := bounds_u64 wb
  have hc : IsT c := bounds_u64 wc
  have hab := addT_is ha hb
  have hbc := addT_is hb hc
  have habc := addT_assoc ha hb hc
  obtain ⟨u1, u2⟩ := addT_up ha hb
  have k1 := subT_back ha hb
  have C0 := add_any a b
  have C1 := add_any b a
  rw [addT_comm] at C1
  have C2 := mul_any a b
  have C3 := mul_any b a
  rw [mulT_comm] at C3
  have C4 := add_any (addT a b) c
  have C5 := add_any b c
  have C6 := add_any a (addT b c)
  rw [habc] at C6
  have C7 := sub_any (addT a b) b
  have C8 := sub_any (addT a b) a
  by_cases hs : addT a b = 18446744073709551615
  · clear k1
    generalize addT a b = s at *
    generalize addT b c = s2 at *
    generalize addT s c = s3 at *
    generalize mulT a b = s4 at *
    clear wa wb wc habc
    subst hs
    go_enter Try.func8, Try.ntmps8
    go_wp2_with fail
    refine (C0 _ ha hb).mono ?_
    rintro e w1 ⟨rfl, rfl⟩
    go_wp2_with fail
    refine (C1 _ hb ha).mono ?_
    rintro e w1 ⟨rfl, rfl⟩
    go_wp2_with fail
    refine (C2 _ ha hb).mono ?_
    rintro e w1 ⟨rfl, rfl⟩
    go_wp2_with fail
    refine (C3 _ hb ha).mono ?_
    rintro e w1 ⟨rfl, rfl⟩
    go_wp2_with fail
    refine (C0 _ ha hb).mono ?_
    rintro e w1 ⟨rfl, rfl⟩
    go_wp2_with fail
    refine (C4 _ hab hc).mono ?_
    rintro e w1 ⟨rfl, rfl⟩
    go_wp2_with fail
    refine (C5 _ hb hc).mono ?_
    rintro e w1 ⟨rfl, rfl⟩
    go_wp2_with fail
    refine (C6 _ ha hbc).mono ?_
    rintro e w1 ⟨rfl, rfl⟩
    go_wp2_with fail
    refine (awake_any _).mono ?_
    rintro e w1 ⟨rfl, rfl⟩
    go_wp2_with fail
    go_ret
    exact ⟨rfl, Below.refl _ _⟩
  · obtain ⟨k2, k3⟩ := k1 hs
    rw [k2] at C7
    rw [k3] at C8
    have hs' : (addT a b == 18446744073709551615) = false := by simp [hs]
    clear k1 k2 k3 hs
    generalize addT a b = s at *
    generalize addT b c = s2 at *
    generalize addT s c = s3 at *
    generalize mulT a b = s4 at *
    clear wa wb wc habc
    go_enter Try.func8, Try.ntmps8
    go_wp2_with fail
    refine (C0 _ ha hb).mono ?_
    rintro e w1 ⟨rfl, rfl⟩
    go_wp2_with fail
    refine (C1 _ hb ha).mono ?_
    rintro e w1 ⟨rfl, rfl⟩
    go_wp2_with fail
    refine (C2 _ ha hb).mono ?_
    rintro e w1 ⟨rfl, rfl⟩
    go_wp2_with fail
    refine (C3 _ hb ha).mono ?_
    rintro e w1 ⟨rfl, rfl⟩
    go_wp2_with fail
    refine (C0 _ ha hb).mono ?_
    rintro e w1 ⟨rfl, rfl⟩
    go_wp2_with fail
    refine (C4 _ hab hc).mono ?_
    rintro e w1 ⟨rfl, rfl⟩
    go_wp2_with fail
    refine (C5 _ hb hc).mono ?_
    rintro e w1 ⟨rfl, rfl⟩
    go_wp2_with fail
    refine (C6 _ ha hbc).mono ?_
    rintro e w1 ⟨rfl, rfl⟩
    go_wp2_with fail
    refine (C7 _ hab hb).mono ?_
    rintro e w1 ⟨rfl, rfl⟩
    go_wp2_with fail
    refine (C8 _ hab ha).mono ?_
    rintro e w1 ⟨rfl, rfl⟩
    go_wp2_with fail
    refine (awake_any _).mono ?_
    rintro e w1 ⟨rfl, rfl⟩
    go_wp2_with fail
    go_ret
    exact ⟨rfl, Below.refl _ _⟩
end Go.Proofs.Ytkkefonapjcglaa

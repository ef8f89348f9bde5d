/- entry.Less, the compare function of entry.Sort, and the document's Less. Each boxes what it is handed: a world that has grown, nothing turned. -/
import Derived.Deep.QuietTactic
import Derived.BigQuiet
import Derived.Test.YtboccihcomaaoaaEntW
namespace Go.Proofs.Ytboccihcomaaoaa
open Go.RowKit Go.Lib Go.Sort
set_option linter.unusedVariables false

/-- Draws, and blocks laid behind: nothing else. -/
def Grown (w w' : World) : Prop := ∃ q os, w' = grow (w.drewN q) os
theorem Grown.refl (w : World) : Grown w w := ⟨0, #[], by rw [grow_empty]; rfl⟩
theorem Grown.trans {u v w : World} (h : Grown u v) (k : Grown v w) : Grown u w := by
  obtain ⟨q, os, rfl⟩ := h
  obtain ⟨q', os', rfl⟩ := k
  exact ⟨q + q', os ++ os', by show grow (grow ((u.drewN q).drewN q') os) os' = _; rw [grow_grow, World.drewN_drewN]⟩
theorem Grown.alloc {u v : World} (h : Grown u v) (o : Obj) : Grown u (v.alloc o) := h.trans ⟨0, #[o], by rw [alloc_eq_grow]; rfl⟩
theorem Grown.drewN {u v : World} (h : Grown u v) (q : Nat) : Grown u (v.drewN q) := h.trans ⟨q, #[], by rw [grow_empty]⟩
theorem Grown.drew {u v : World} (h : Grown u v) : Grown u v.drew := h.drewN 1

theorem Grown.below {u v : World} (h : Grown u v) : Below u.heap.size u v := by
  obtain ⟨q, os, rfl⟩ := h
  exact ⟨rfl, rfl, rfl, by simp [grow], fun k hk => heap_grow_old _ _ hk⟩
theorem Grown.cells {u v : World} (h : Grown u v) (b o : Nat) (hb : b < u.heap.size) : v.cell? ⟨b, o, none⟩ = u.cell? ⟨b, o, none⟩ := h.below.cell (p := ⟨b, o, none⟩) hb

/-- What the compare function answers. -/
def cfE (x y : Ent) : Int := if ltE x y then -1 else if ltE y x then 1 else 0
theorem ltOf_cfE (x y : Ent) : decide (cfE x y < 0) = ltE x y := by
  unfold cfE
  cases h : ltE x y <;> cases h' : ltE y x <;> simp
theorem cfE_neg (x y : Ent) (h : ltE x y = true) : cfE x y < 0 := of_decide_eq_true ((ltOf_cfE x y).trans h)
theorem cfE_not (x y : Ent) (h : ltE x y = false) : ¬ cfE x y < 0 := of_decide_eq_false ((ltOf_cfE x y).trans h)

set_option maxHeartbeats 400000 in
theorem less_any (x y : Ent) (w : World) :
    Calls Try.prog 59 #[.agg #[.int .u64 x.1, .int .i64 x.2], .agg #[.int .u64 y.1, .int .i64 y.2]] w fun e w' => e = .returned (.bool (ltE x y)) ∧ Grown w w' := by
  obtain ⟨k1, i1⟩ := x
  obtain ⟨k2, i2⟩ := y
  by_cases h : k1 = k2
  · have e : ltE (k1, i1) (k2, i2) = decide (i1 < i2) := by unfold ltE; rw [if_pos h]
    rw [e]
    clear e
    go_enter Try.func59, Try.ntmps59
    go_wp2
    go_ret
    exact ⟨rfl, ((Grown.refl w).alloc _).alloc _⟩
  · have e : ltE (k1, i1) (k2, i2) = decide (k1 < k2) := by unfold ltE; rw [if_neg h]
    rw [e]
    clear e
    go_enter Try.func59, Try.ntmps59
    go_wp2
    go_ret
    exact ⟨rfl, ((Grown.refl w).alloc _).alloc _⟩

set_option maxHeartbeats 400000 in
theorem cmp_any (x y : Ent) (w : World) :
    Calls Try.prog 66 #[.agg #[.int .u64 x.1, .int .i64 x.2], .agg #[.int .u64 y.1, .int .i64 y.2]] w fun e w' => e = .returned (.int .i64 (cfE x y)) ∧ Grown w w' := by
  obtain ⟨B, hB⟩ : ∃ B, ltE x y = B := ⟨_, rfl⟩
  obtain ⟨C, hC⟩ : ∃ C, ltE y x = C := ⟨_, rfl⟩
  have HC : Hid (cfE x y = if B then -1 else if C then 1 else 0) := by show cfE x y = _; unfold cfE; rw [hB, hC]
  have l1 := fun w => less_any x y w
  have l2 := fun w => less_any y x w
  rw [hB] at l1
  rw [hC] at l2
  go_enter Try.func66, Try.ntmps66
  go_wp2_with fail
  refine (l1 _).mono ?_
  rintro e w1 ⟨rfl, g1⟩
  have hc := g1.cells
  cases B with
  | true =>
    go_wp2_with fail
    go_ret
    exact ⟨by rw [HC.out]; rfl, (((Grown.refl w).alloc _).alloc _).trans g1⟩
  | false =>
    go_wp2_with fail
    refine (l2 _).mono ?_
    rintro e w2 ⟨rfl, g2⟩
    cases C with
    | true =>
      go_wp2_with fail
      go_ret
      exact ⟨by rw [HC.out]; rfl, ((((Grown.refl w).alloc _).alloc _).trans g1).trans g2⟩
    | false =>
      go_wp2_with fail
      go_ret
      exact ⟨by rw [HC.out]; rfl, ((((Grown.refl w).alloc _).alloc _).trans g1).trans g2⟩

/-- .. for the sort's own words. -/
theorem cmp_grown (x y : Ent) (w : World) (n : Nat) (os : Array Obj) :
    Calls Try.prog 66 #[.agg #[.int .u64 x.1, .int .i64 x.2], .agg #[.int .u64 y.1, .int .i64 y.2]] (grow (w.drewN n) os) fun e w' => e = .returned (.int .i64 (cfE x y)) ∧ ∃ p : GrownBy, w' = grow (w.drewN p.n) p.os :=
  Calls.grown_of (cmp_any x y _)

set_option maxHeartbeats 400000 in
theorem refLess_any (x y : Ent) (w : World) :
    Calls Try.prog 37 #[.agg #[.int .u64 x.1, .int .i64 x.2], .agg #[.int .u64 y.1, .int .i64 y.2]] w fun e w' => e = .returned (.bool (ltE x y)) ∧ Grown w w' := by
  obtain ⟨k1, i1⟩ := x
  obtain ⟨k2, i2⟩ := y
  by_cases h : k1 = k2
  · have e : ltE (k1, i1) (k2, i2) = decide (i1 < i2) := by unfold ltE; rw [if_pos h]
    have h' : ¬ k1 < k2 := by omega
    rw [e]
    clear e
    go_enter Try.func37, Try.ntmps37
    go_wp2
    go_ret
    exact ⟨rfl, ((Grown.refl w).alloc _).alloc _⟩
  · by_cases h' : k1 < k2
    · have e : ltE (k1, i1) (k2, i2) = true := by unfold ltE; rw [if_neg h]; exact decide_eq_true h'
      rw [e]
      clear e
      go_enter Try.func37, Try.ntmps37
      go_wp2
      go_ret
      exact ⟨rfl, ((Grown.refl w).alloc _).alloc _⟩
    · have e : ltE (k1, i1) (k2, i2) = false := by unfold ltE; rw [if_neg h]; exact decide_eq_false h'
      rw [e]
      clear e
      go_enter Try.func37, Try.ntmps37
      go_wp2
      go_ret
      exact ⟨rfl, ((Grown.refl w).alloc _).alloc _⟩
end Go.Proofs.Ytboccihcomaaoaa

/- Which step may be: what Can answers. -/
import Derived.Test.YtpenjncbodcbnaaDoorSteps
namespace Go.Proofs.YtpenjncbodcbnaaDoor
open Go.RowKit Go.WideMaps Go.Maps

/-- May a state be followed by a state? -/
def canB (a b : Int) : Bool := (a == 0 && (b == 1 || b == 2 || b == 6)) || (a == 1 && (b == 2 || b == 6)) || (a == 2 && (b == 3 || b == 6)) || (a == 3 && (b == 1 || b == 4 || b == 5))

theorem zeroUnit (w : World) : (zeroValue 88).run Tryd.prog w = .ok (.agg #[]) w := by kernel_rfl

theorem can_has {a b : Int} (wa : (Lit.int .i64 a).wf = true) (wb : (Lit.int .i64 b).wf = true) {D : DataW Unit} (hhas : ∀ kl, Maps.has D kl = true ↔ ∃ j ∈ places, pairKey (pairAt j).1 (pairAt j).2 = kl) : Maps.has D (pairKey a b) = canB a b := by
  have inj : ∀ x y : Int, (Lit.int .i64 x).wf = true → (Lit.int .i64 y).wf = true → (pairKey x y = pairKey a b ↔ x = a ∧ y = b) := by
    intro x y wx wy
    constructor
    · intro h
      have h1 := key_pair wx wy
      rw [h] at h1
      have h2 := lawPair.inj h1 (key_pair wa wb)
      simpa using h2
    · rintro ⟨rfl, rfl⟩; rfl
  rw [Bool.eq_iff_iff, hhas]
  simp only [places, List.mem_cons, List.not_mem_nil, or_false, exists_eq_or_imp, exists_eq_left, pairAt]
  rw [inj 0 1 (by decide) (by decide), inj 0 2 (by decide) (by decide), inj 0 6 (by decide) (by decide), inj 1 2 (by decide) (by decide), inj 1 6 (by decide) (by decide), inj 2 3 (by decide) (by decide), inj 2 6 (by decide) (by decide), inj 3 1 (by decide) (by decide), inj 3 4 (by decide) (by decide), inj 3 5 (by decide) (by decide)]
  simp only [canB, Bool.or_eq_true, Bool.and_eq_true, beq_iff_eq]
  omega

set_option maxRecDepth 100000 in
theorem can_any (a b : Int) (w : World) (wa : (Lit.int .i64 a).wf = true) (wb : (Lit.int .i64 b).wf = true) :
    Calls Tryd.prog 29 #[.int .i64 a, .int .i64 b] w fun e w' => e = .returned (.bool (canB a b)) ∧ Below w.heap.size w w' := by
  go_enter Tryd.func29, Tryd.ntmps29
  go_wp2_with fail
  refine (steps_any _).mono ?_
  rintro e w1 ⟨rfl, hb, D, hown, hhas⟩
  obtain ⟨v, ps, hrun, hv⟩ := hown.look_ok lawPair undSteps (zeroUnit _) unitElem_mk (key_pair wa wb)
  obtain rfl := (unitElem_inv hv).1
  rw [can_has wa wb hhas] at hrun
  clear hhas hv hown
  go_wp2_with fail
  go_ret
  exact ⟨rfl, hb.alloc hb.size _⟩
end Go.Proofs.YtpenjncbodcbnaaDoor

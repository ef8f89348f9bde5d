/- The version of a Snap that was just told. -/
import Derived.Test.YtboccihcomaaoaaShrK
namespace Go.Proofs.Ytboccihcomaaoaa
open Go.RowKit Go.Lib Go.Sort
set_option linter.unusedVariables false
theorem fieldN (v : Int) (y : Value) (w : World) : (Instr.field 30 (.agg #[.int .u64 v, y]) 0).run Try.prog w = .ok (.int .u64 v) w := by
  simp [Instr.field, run_underlying Try.underlying30, asAgg, part]
/-- Add, whether there is something or not. -/
theorem sadd_any (B v : Nat) (ls : List (List Ent)) (a : Option Addr) (K cap : Nat) (l : List Ent) (w : World) (h : Shr w B v ls) (hL : IsL w a cap l) (hK : l.length = K) (hlen : ls.length ≤ 9000) (hsum : ls.flatten.length + K ≤ 100000) (hs : ∀ d ∈ ls, Srt d) (hv : v ≤ 1000000) :
    Calls Try.prog 10 #[.pointer (some ⟨B, 0, none⟩), .slice a K cap] w fun r w' => r = .returned (.tuple #[]) ∧ Shr w' B (if K = 0 then v else v + 1) (addS ls l) ∧ w.grownBy w' (some B) := by
  by_cases c : K = 0
  · subst c
    have e : addS ls l = ls := by unfold addS; rw [if_pos hK]
    rw [e, if_pos rfl]
    refine (sadd_none B a cap w).mono ?_
    rintro r w' ⟨rfl, rfl⟩
    exact ⟨rfl, h, grown_of_below (Below.refl _ _) _⟩
  · rw [if_neg c]
    exact sadd_some B v ls a K cap l w h hL hK (by omega) hlen hsum hs hv
end Go.Proofs.Ytboccihcomaaoaa

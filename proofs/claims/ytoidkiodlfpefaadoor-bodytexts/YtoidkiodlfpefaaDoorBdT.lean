/- What Parse makes of a body's own text; the least of two numbers. -/
import Derived.Test.YtoidkiodlfpefaaDoorBdF
namespace Go.Proofs.YtoidkiodlfpefaaDoor
open Go.RowKit Go.Lib Go.Shelf Go.Sort
set_option linter.unusedVariables false
set_option maxRecDepth 10000

theorem code_txt {d : List OpR} (h : okL d = true) : codeL (txtL d) = 0 ∧ opsL (txtL d) = d := by
  have hl := txtL_len h
  unfold codeL opsL
  have h4 : ¬ 400 < (txtL d).length := by omega
  rw [if_neg h4, if_neg h4]
  by_cases h0 : d = []
  · subst h0
    exact ⟨rfl, rfl⟩
  · obtain ⟨p1, p2⟩ := prs_txtL h h0
    rw [if_neg (txtL_ne h h0), if_neg (txtL_ne h h0), if_pos p1, if_pos p1]
    exact ⟨rfl, p2⟩
/-- .. and of what has a mark behind it, or a blank ahead. -/
theorem code_end {d : List OpR} (h : okL d = true) : codeL (txtL d ++ [59]) = 3 := by
  have hl := txtL_len h
  have h4 : ¬ 400 < (txtL d ++ [59]).length := by rw [List.length_append, List.length_singleton]; omega
  unfold codeL
  rw [if_neg h4, if_neg (fun e => ?_), prsB_end]
  · rfl
  · have := congrArg (fun l => l.getLast?) e
    simp at this
theorem code_blank {d : List OpR} (h : okL d = true) : codeL (32 :: txtL d) = 3 := by
  have hl := txtL_len h
  have h4 : ¬ 400 < (32 :: txtL d).length := by rw [List.length_cons]; omega
  unfold codeL
  rw [if_neg h4, if_neg (fun e => ?_), prsB_blank]
  · rfl
  · injection e with e _
    cases e
theorem minI (s : TypeId) (us : Array TypeId) (x y K : Int) (h : min x y = K) (w : World) : (Builtin.min_ us s #[.int .i64 x, .int .i64 y]).run Tryd.prog w = .ok (.int .i64 K) w := by
  have e : (if y < x then y else x) = K := by split <;> omega
  rw [← e]
  rfl
end Go.Proofs.YtoidkiodlfpefaaDoor

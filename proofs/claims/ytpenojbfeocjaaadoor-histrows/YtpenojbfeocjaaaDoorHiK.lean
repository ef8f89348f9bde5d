/- What Ok answers at the rows of HistRows, row by row. -/
import Derived.Test.YtpenojbfeocjaaaDoorHiE
import Derived.KernelRfl
namespace Go.Proofs.YtpenojbfeocjaaaDoor
def cutOk (n : Nat) : Bool := okB rw0 (rowsH n) && (List.range (4 * n)).all fun k => okB rw0 (cutH k (rowsH n)) == decide (k % 4 = 3)
theorem cut_ok1 : cutOk 1 = true := by kernel_rfl
theorem cut_ok2 : cutOk 2 = true := by kernel_rfl
theorem cut_ok3 : cutOk 3 = true := by kernel_rfl
theorem cut_ok4 : cutOk 4 = true := by kernel_rfl
theorem cut_ok5 : cutOk 5 = true := by kernel_rfl
theorem cut_ok6 : cutOk 6 = true := by kernel_rfl
theorem cut_ok7 : cutOk 7 = true := by kernel_rfl
theorem cut_ok8 : cutOk 8 = true := by kernel_rfl
theorem cut_ok9 : cutOk 9 = true := by kernel_rfl
theorem cut_ok10 : cutOk 10 = true := by kernel_rfl
theorem cut_ok11 : cutOk 11 = true := by kernel_rfl
theorem cut_ok12 : cutOk 12 = true := by kernel_rfl
theorem cut_ok13 : cutOk 13 = true := by kernel_rfl
theorem cut_ok14 : cutOk 14 = true := by kernel_rfl
theorem cut_ok15 : cutOk 15 = true := by kernel_rfl
theorem cut_ok16 : cutOk 16 = true := by kernel_rfl
theorem cut_ok17 : cutOk 17 = true := by kernel_rfl
theorem cut_ok18 : cutOk 18 = true := by kernel_rfl
theorem cut_ok19 : cutOk 19 = true := by kernel_rfl
theorem cut_ok20 : cutOk 20 = true := by kernel_rfl
theorem cut_ok {n : Nat} (h1 : 1 ≤ n) (h2 : n ≤ 20) : cutOk n = true := by
  have h : n = 1 ∨ n = 2 ∨ n = 3 ∨ n = 4 ∨ n = 5 ∨ n = 6 ∨ n = 7 ∨ n = 8 ∨ n = 9 ∨ n = 10 ∨ n = 11 ∨ n = 12 ∨ n = 13 ∨ n = 14 ∨ n = 15 ∨ n = 16 ∨ n = 17 ∨ n = 18 ∨ n = 19 ∨ n = 20 := by omega
  rcases h with rfl | rfl | rfl | rfl | rfl | rfl | rfl | rfl | rfl | rfl | rfl | rfl | rfl | rfl | rfl | rfl | rfl | rfl | rfl | rfl
  · exact cut_ok1
  · exact cut_ok2
  · exact cut_ok3
  · exact cut_ok4
  · exact cut_ok5
  · exact cut_ok6
  · exact cut_ok7
  · exact cut_ok8
  · exact cut_ok9
  · exact cut_ok10
  · exact cut_ok11
  · exact cut_ok12
  · exact cut_ok13
  · exact cut_ok14
  · exact cut_ok15
  · exact cut_ok16
  · exact cut_ok17
  · exact cut_ok18
  · exact cut_ok19
  · exact cut_ok20
theorem ok_all {n : Nat} (h1 : 1 ≤ n) (h2 : n ≤ 20) : okB rw0 (rowsH n) = true := (Bool.and_eq_true_iff.1 (cut_ok h1 h2)).1
theorem ok_cut {n k : Nat} (h1 : 1 ≤ n) (h2 : n ≤ 20) (hk : k < 4 * n) : okB rw0 (cutH k (rowsH n)) = decide (k % 4 = 3) := by
  have := List.all_eq_true.1 (Bool.and_eq_true_iff.1 (cut_ok h1 h2)).2 k (List.mem_range.2 hk)
  exact eq_of_beq this
end Go.Proofs.YtpenojbfeocjaaaDoor

/- What is told of the rows of BoundWaits, row by row. -/
import Derived.Test.YtpcmdbpgplcnnaaBnX
import Derived.KernelRfl
namespace Go.Proofs.Ytpcmdbpgplcnnaa
theorem wait_ok0 : ((List.range 20).all fun b => waitOk 0 b) = true := by kernel_rfl
theorem wait_ok1 : ((List.range 20).all fun b => waitOk 1 b) = true := by kernel_rfl
theorem wait_ok2 : ((List.range 20).all fun b => waitOk 2 b) = true := by kernel_rfl
theorem wait_ok3 : ((List.range 20).all fun b => waitOk 3 b) = true := by kernel_rfl
theorem wait_ok4 : ((List.range 20).all fun b => waitOk 4 b) = true := by kernel_rfl
theorem wait_ok5 : ((List.range 20).all fun b => waitOk 5 b) = true := by kernel_rfl
theorem wait_ok6 : ((List.range 20).all fun b => waitOk 6 b) = true := by kernel_rfl
theorem wait_ok7 : ((List.range 20).all fun b => waitOk 7 b) = true := by kernel_rfl
theorem wait_ok8 : ((List.range 20).all fun b => waitOk 8 b) = true := by kernel_rfl
theorem wait_ok9 : ((List.range 20).all fun b => waitOk 9 b) = true := by kernel_rfl
theorem wait_ok10 : ((List.range 20).all fun b => waitOk 10 b) = true := by kernel_rfl
theorem wait_ok11 : ((List.range 20).all fun b => waitOk 11 b) = true := by kernel_rfl
theorem wait_ok12 : ((List.range 20).all fun b => waitOk 12 b) = true := by kernel_rfl
theorem wait_ok13 : ((List.range 20).all fun b => waitOk 13 b) = true := by kernel_rfl
theorem wait_ok14 : ((List.range 20).all fun b => waitOk 14 b) = true := by kernel_rfl
theorem wait_ok15 : ((List.range 20).all fun b => waitOk 15 b) = true := by kernel_rfl
theorem wait_ok16 : ((List.range 20).all fun b => waitOk 16 b) = true := by kernel_rfl
theorem wait_ok17 : ((List.range 20).all fun b => waitOk 17 b) = true := by kernel_rfl
theorem wait_ok18 : ((List.range 20).all fun b => waitOk 18 b) = true := by kernel_rfl
theorem wait_ok19 : ((List.range 20).all fun b => waitOk 19 b) = true := by kernel_rfl
theorem wait_ok (a b : Nat) (ha : a < 20) (hb : b < 20) : waitOk a b = true := by
  have hm : b ∈ List.range 20 := List.mem_range.2 hb
  have h : a = 0 ∨ a = 1 ∨ a = 2 ∨ a = 3 ∨ a = 4 ∨ a = 5 ∨ a = 6 ∨ a = 7 ∨ a = 8 ∨ a = 9 ∨ a = 10 ∨ a = 11 ∨ a = 12 ∨ a = 13 ∨ a = 14 ∨ a = 15 ∨ a = 16 ∨ a = 17 ∨ a = 18 ∨ a = 19 := by omega
  rcases h with rfl | rfl | rfl | rfl | rfl | rfl | rfl | rfl | rfl | rfl | rfl | rfl | rfl | rfl | rfl | rfl | rfl | rfl | rfl | rfl
  · exact List.all_eq_true.1 wait_ok0 b hm
  · exact List.all_eq_true.1 wait_ok1 b hm
  · exact List.all_eq_true.1 wait_ok2 b hm
  · exact List.all_eq_true.1 wait_ok3 b hm
  · exact List.all_eq_true.1 wait_ok4 b hm
  · exact List.all_eq_true.1 wait_ok5 b hm
  · exact List.all_eq_true.1 wait_ok6 b hm
  · exact List.all_eq_true.1 wait_ok7 b hm
  · exact List.all_eq_true.1 wait_ok8 b hm
  · exact List.all_eq_true.1 wait_ok9 b hm
  · exact List.all_eq_true.1 wait_ok10 b hm
  · exact List.all_eq_true.1 wait_ok11 b hm
  · exact List.all_eq_true.1 wait_ok12 b hm
  · exact List.all_eq_true.1 wait_ok13 b hm
  · exact List.all_eq_true.1 wait_ok14 b hm
  · exact List.all_eq_true.1 wait_ok15 b hm
  · exact List.all_eq_true.1 wait_ok16 b hm
  · exact List.all_eq_true.1 wait_ok17 b hm
  · exact List.all_eq_true.1 wait_ok18 b hm
  · exact List.all_eq_true.1 wait_ok19 b hm
end Go.Proofs.Ytpcmdbpgplcnnaa

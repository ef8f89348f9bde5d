/- Plain facts on lives: which states come next, and how long a life may be. -/
import Derived.Test.YtdpljhajgocneaaDoorWordStatesWalk
namespace Go.Proofs.YtdpljhajgocneaaDoor
open Go.RowKit
set_option linter.unusedVariables false

/-- The states below k that may follow s. -/
def nextTo (s : Int) (k : Nat) : List Int := ((List.range k).map (fun j : Nat => (j : Int))).filter (fun b => canB s b)
theorem nextTo_succ (s : Int) (k : Nat) : nextTo s (k + 1) = if canB s k = true then nextTo s k ++ [(k : Int)] else nextTo s k := by
  unfold nextTo
  rw [List.range_succ, List.map_append, List.filter_append]
  by_cases h : canB s k = true <;> simp [h]
theorem nextTo_len (s : Int) (k : Nat) : (nextTo s k).length ≤ k := by
  unfold nextTo
  refine Nat.le_trans (List.length_filter_le _ _) ?_
  simp
theorem nextTo_mem {s : Int} {k : Nat} {b : Int} (h : b ∈ nextTo s k) : canB s b = true ∧ 0 ≤ b ∧ b < k := by
  unfold nextTo at h
  rw [List.mem_filter] at h
  obtain ⟨h1, h2⟩ := h
  rw [List.mem_map] at h1
  obtain ⟨j, hj, rfl⟩ := h1
  rw [List.mem_range] at hj
  exact ⟨h2, by omega, by omega⟩
theorem nextTo_nil (s : Int) (h0 : 0 ≤ s) (h1 : s ≤ 6) : overB s = decide ((nextTo s 7).length = 0) := by
  have h : s = 0 ∨ s = 1 ∨ s = 2 ∨ s = 3 ∨ s = 4 ∨ s = 5 ∨ s = 6 := by omega
  rcases h with rfl | rfl | rfl | rfl | rfl | rfl | rfl <;> decide
/-- How many turns may lie behind a state. -/
def phi (s : Int) : Int := if s = 0 then 0 else if s = 1 then 1 else if s = 2 then 2 else if s = 3 then 3 else 4
theorem phi_le (s : Int) : phi s ≤ 4 := by unfold phi; repeat' split <;> omega
theorem phi_step (s s' : Int) (T A : Int) (hc : canB s s' = true) (h : T ≤ phi s + 3 * A) (hA : (s == 3) = false ∨ (s' == 1) = false) : T + 1 ≤ phi s' + 3 * A := by
  simp [canB] at hc
  simp at hA
  unfold phi at *
  repeat' split at *
  all_goals omega
theorem phi_again (T A : Int) (h : T ≤ phi 3 + 3 * A) : T + 1 ≤ phi 1 + 3 * (A + 1) := by
  simp [phi] at *
  omega
theorem and255_i64 (n : Int) : bits .and .i64 n 255 = n % 256 := by
  show IntKind.i64.wrap ((BitVec.ofInt 64 n &&& 255#64).toNat : Int) = n % 256
  rw [BitVec.toNat_and, BitVec.toNat_ofInt]
  have h7 : (255#64).toNat = 255 := rfl
  rw [h7, nat_mask8]
  simp only [IntKind.wrap, IntKind.bits, IntKind.signed]
  simp
  omega
end Go.Proofs.YtdpljhajgocneaaDoor

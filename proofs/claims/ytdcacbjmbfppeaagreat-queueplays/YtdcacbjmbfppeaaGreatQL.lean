/- queue: the least of all (plain). -/
import Derived.Test.YtdcacbjmbfppeaaGreatQT
namespace Go.Proofs.YtdcacbjmbfppeaaGreat
open Go.RowKit Go.Lib Go.Sort
set_option linter.unusedVariables false

theorem leastL_is (ls : List (List Ent)) (hs : ∀ d ∈ ls, Srt d) : ∀ k, k ≤ ls.length → (leastL ls k = none ∧ (ls.take k).flatten = []) ∨ ∃ j x, leastL ls k = some (j, x) ∧ IsMin x (ls.take k).flatten
  | 0, _ => .inl ⟨rfl, rfl⟩
  | k + 1, hk => by
    have hk' : k < ls.length := by omega
    have ih := leastL_is ls hs k (by omega)
    have e : ls.getD k [] = ls[k] := by rw [List.getD_eq_getElem?_getD, List.getElem?_eq_getElem hk']; rfl
    have srt := hs ls[k] (List.getElem_mem hk')
    rw [flat_take hk']
    show (least1 (leastL ls k) k (ls.getD k []) = none ∧ _) ∨ ∃ j x, least1 (leastL ls k) k (ls.getD k []) = some (j, x) ∧ _
    rw [e]
    cases hd : ls[k] with
    | nil =>
      rw [List.append_nil]
      rcases ih with ⟨i1, i2⟩ | ⟨j, x, i1, i2⟩
      · rw [i1]; exact .inl ⟨rfl, i2⟩
      · rw [i1]; exact .inr ⟨j, x, rfl, i2⟩
    | cons y r =>
      rw [hd] at srt
      rcases ih with ⟨i1, i2⟩ | ⟨j, x, i1, i2⟩
      · rw [i1, i2]
        exact .inr ⟨k, y, rfl, by rw [List.nil_append]; exact IsMin.head srt⟩
      · rw [i1]
        cases c : ltE y x with
        | true =>
          refine .inr ⟨k, y, ?_, i2.right (IsMin.head srt) c⟩
          show (if ltE y x then some (k, y) else some (j, x)) = _
          rw [if_pos c]
        | false =>
          refine .inr ⟨j, x, ?_, i2.left (IsMin.head srt) c⟩
          show (if ltE y x then some (k, y) else some (j, x)) = _
          rw [if_neg (by rw [c]; simp)]
variable {T K : Nat} {s : QSt} {sl ow : Nat → List Ent} {sh : List Ent}
theorem slotL_srt (p : Pl) : Srt (slotL p) := by
  unfold slotL
  split
  · simp [Srt]
  · exact Srt.nil
theorem View.lists_srt (h : View T s sl ow sh) : ∀ d ∈ listsQ s T, Srt d := by
  intro d hd
  unfold listsQ at hd
  obtain ⟨j, _, rfl⟩ := List.mem_map.1 hd
  unfold spotL
  split
  · exact slotL_srt _
  · split
    · exact sortE_srt _
    · exact sortE_srt _
theorem View.flatten (h : View T s sl ow sh) : (listsQ s T).flatten = allV T sl ow sh := by
  rw [h.lists]
  unfold allV
  rw [List.flatten_append, List.flatten_append, List.flatten_cons, List.flatten_nil, List.append_nil, List.append_assoc]
  rfl
/-- The least of all that there is. -/
theorem View.least (h : View T s sl ow sh) : (leastQ s T = none ∧ allV T sl ow sh = []) ∨ ∃ j x, leastQ s T = some (j, x) ∧ IsMin x (allV T sl ow sh) := by
  have l := leastL_is (listsQ s T) h.lists_srt (2 * T + 1) (by rw [listsQ_len]; exact Nat.le_refl _)
  rw [List.take_of_length_le (by rw [listsQ_len]; exact Nat.le_refl _), h.flatten] at l
  exact l
end Go.Proofs.YtdcacbjmbfppeaaGreat

/- Levels; what cutting, shrinking and merging do to lists in order. Plain: nothing of the program. -/
import Derived.Test.YtboccihcomaaoaaEntS
namespace Go.Proofs.Ytboccihcomaaoaa
open Go.Sort
set_option linter.unusedVariables false

/-- The least level with room for n. -/
def lvl (n : Nat) : Nat := if n ≤ 1 then 0 else (n - 1).log2 + 1
theorem lvl_room (n : Nat) : n ≤ 2 ^ lvl n := by
  unfold lvl
  split
  · simpa using ‹n ≤ 1›
  · have := @Nat.lt_log2_self (n - 1)
    omega
theorem lvl_least {n k : Nat} (h : k < lvl n) : 2 ^ k < n := by
  unfold lvl at h
  split at h
  · omega
  · have h1 := Nat.log2_self_le (n := n - 1) (by omega)
    have h2 : 2 ^ k ≤ 2 ^ (n - 1).log2 := Nat.pow_le_pow_right (by omega) (by omega)
    omega
theorem lvl_not {n k : Nat} (h : ¬ k < lvl n) : ¬ 2 ^ k < n := by
  have h1 := lvl_room n
  have h2 : 2 ^ lvl n ≤ 2 ^ k := Nat.pow_le_pow_right (by omega) (by omega)
  omega
theorem lvl_uniq {n k : Nat} (h1 : n ≤ 2 ^ k) (h2 : k = 0 ∨ 2 ^ (k - 1) < n) : lvl n = k := by
  have h3 := lvl_room n
  by_cases c : k < lvl n
  · have := lvl_least c; omega
  · by_cases c2 : lvl n < k
    · rcases h2 with h2 | h2
      · omega
      · have : 2 ^ lvl n ≤ 2 ^ (k - 1) := Nat.pow_le_pow_right (by omega) (by omega)
        omega
    · omega
theorem lvl_le {n : Nat} (h : n ≤ 1000000) : lvl n ≤ 20 := by
  by_cases c : 20 < lvl n
  · have := lvl_least c
    have e : (2 : Nat) ^ 20 = 1048576 := by decide
    omega
  · omega
theorem lvl_zero {n : Nat} (h : n ≤ 1) : lvl n = 0 := by unfold lvl; rw [if_pos h]
theorem lvl_half {n : Nat} (h : 0 < lvl n) : 2 ^ lvl n / 2 < n := by
  have := lvl_least (n := n) (k := lvl n - 1) (by omega)
  have e : 2 ^ lvl n = 2 ^ (lvl n - 1) * 2 := by rw [← Nat.pow_succ]; congr 1; omega
  omega
/-- Two of one level make one of the next. -/
theorem lvl_two {a b : Nat} (ha : 0 < a) (hb : 0 < b) (h : lvl a = lvl b) : lvl (a + b) = lvl a + 1 := by
  have a1 := lvl_room a
  have b1 := lvl_room b
  rw [← h] at b1
  have e : 2 ^ (lvl a + 1) = 2 ^ lvl a * 2 := Nat.pow_succ ..
  refine lvl_uniq (by omega) (.inr ?_)
  show 2 ^ lvl a < a + b
  by_cases c : lvl a = 0
  · rw [c]; simp; omega
  · have a2 := lvl_half (n := a) (by omega)
    have b2 := lvl_half (n := b) (by omega)
    rw [← h] at b2
    omega

/-- What comes of cutting a list in order. -/
theorem sortE_take {d : List Ent} (h : Srt d) (k : Nat) : sortE (d.take k) = d.take k := sortE_id (h.take k)
theorem sortE_drop {d : List Ent} (h : Srt d) (k : Nat) : sortE (d.drop k) = d.drop k := sortE_id (h.drop k)
theorem Srt.filter {d : List Ent} (h : Srt d) (p : Ent → Bool) : Srt (d.filter p) := List.Pairwise.sublist List.filter_sublist h
theorem sortE_filter (d : List Ent) (p : Ent → Bool) : sortE (d.filter p) = (sortE d).filter p :=
  (sortE_of ((sortE_srt d).filter p) ((sortE_perm d).filter p)).symm
theorem sortE_congr {c d : List Ent} (h : c.Perm d) : sortE c = sortE d := sortE_of (sortE_srt c) ((sortE_perm c).trans h)
theorem sortE_sort (c d : List Ent) : sortE (sortE c ++ sortE d) = sortE (c ++ d) := sortE_congr ((sortE_perm c).append (sortE_perm d))
theorem sortE_idem (d : List Ent) : sortE (sortE d) = sortE d := sortE_id (sortE_srt d)
end Go.Proofs.Ytboccihcomaaoaa

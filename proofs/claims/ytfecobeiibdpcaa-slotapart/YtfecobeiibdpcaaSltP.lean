/- Which threads announce, by the bits of a number; what All then tells. -/
import Derived.Test.YtfecobeiibdpcaaSltD
import Derived.Test.YtfecobeiibdpcaaMask
namespace Go.Proofs.Ytfecobeiibdpcaa
open Go.RowKit Go.Lib Go.Sort
set_option linter.unusedVariables false

/-- Bit t of x. -/
def apP (x : Int) (t : Nat) : Bool := decide (x / 2 ^ t % 2 = 1)
theorem apBit (x : Int) (t : Nat) : ∃ X : Nat, bits .and .i64 (x / 2 ^ t) 1 = (X : Int) ∧ X < 2 ∧ ((X : Int) == 1) = apP x t := by
  have h := mask_i64 (x / 2 ^ t) 1 1 2 (by omega) rfl rfl
  refine ⟨(x / 2 ^ t % 2).toNat, by rw [h]; omega, by omega, ?_⟩
  unfold apP
  have e : (((x / 2 ^ t % 2).toNat : Nat) : Int) = x / 2 ^ t % 2 := by omega
  rw [e]
  rfl
/-- The slots, when the first j threads have announced. -/
def apG (x : Int) (j : Nat) : Nat → Pl := fun i => if i < j ∧ apP x i = true then ⟨(90 - (i : Int), (i : Int) + 1), 1, true⟩ else Pl.zero
theorem apG_zero (x : Int) (i : Nat) : Pl.zero = apG x 0 i := by unfold apG; rw [if_neg (by omega)]
theorem apG_put {x : Int} {t : Nat} (h : apP x t = true) (i : Nat) : slSet (apG x t) t ⟨(90 - (t : Int), (t : Int) + 1), 1, true⟩ i = apG x (t + 1) i := by
  by_cases c : i = t
  · subst c; rw [slSet_same]; unfold apG; rw [if_pos ⟨by omega, h⟩]
  · rw [slSet_ne _ _ c]
    unfold apG
    by_cases d : i < t ∧ apP x i = true
    · rw [if_pos d, if_pos ⟨by omega, d.2⟩]
    · rw [if_neg d, if_neg (fun k => d ⟨by omega, k.2⟩)]
theorem apG_skip {x : Int} {t : Nat} (h : apP x t = false) (i : Nat) : apG x t i = apG x (t + 1) i := by
  unfold apG
  by_cases c : i = t
  · subst c; rw [if_neg (by omega), if_neg (by simp [h])]
  · by_cases d : i < t ∧ apP x i = true
    · rw [if_pos d, if_pos ⟨by omega, d.2⟩]
    · rw [if_neg d, if_neg (fun k => d ⟨by omega, k.2⟩)]
theorem apG_new {x : Int} {t : Nat} : apG x t t = Pl.zero := by unfold apG; rw [if_neg (by omega)]
theorem apG_at {x : Int} {n i : Nat} (hi : i < n) (h : apP x i = true) : apG x n i = ⟨(90 - (i : Int), (i : Int) + 1), 1, true⟩ := by unfold apG; rw [if_pos ⟨hi, h⟩]
theorem apG_no {x : Int} {n i : Nat} (h : apP x i = false) : apG x n i = Pl.zero := by unfold apG; rw [if_neg (by simp [h])]
/-- How many of the first t announce. -/
def apC (x : Int) : Nat → Nat
  | 0 => 0
  | t + 1 => apC x t + (if apP x t then 1 else 0)
theorem apC_le (x : Int) : ∀ t, apC x t ≤ t
  | 0 => Nat.le_refl _
  | t + 1 => by have := apC_le x t; unfold apC; split <;> omega
theorem apC_yes {x : Int} {t : Nat} (h : apP x t = true) : apC x (t + 1) = apC x t + 1 := by show apC x t + _ = _; rw [h]; rfl
theorem apC_no {x : Int} {t : Nat} (h : apP x t = false) : apC x (t + 1) = apC x t := by show apC x t + _ = _; rw [h]; rfl
theorem slAll_succ (g : Nat → Pl) (k : Nat) : slAll g (k + 1) = slAll g k ++ (if (g k).f then [(g k).e] else []) := rfl
theorem apAll (x : Int) (n : Nat) : ∀ k, k ≤ n → (slAll (apG x n) k).length = apC x k
  | 0, _ => rfl
  | k + 1, h => by
    rw [slAll_succ, List.length_append, apAll x n k (by omega)]
    cases c : apP x k with
    | true => rw [apG_at (by omega) c, apC_yes c]; rfl
    | false => rw [apG_no c, apC_no c]; rfl
theorem apOrd (x : Int) (n : Nat) : ∀ k, k ≤ n → (slAll (apG x n) k).Pairwise (fun y z => y.2 < z.2) ∧ ∀ y ∈ slAll (apG x n) k, y.2 ≤ (k : Int)
  | 0, _ => ⟨List.Pairwise.nil, fun y h => by simp [slAll] at h⟩
  | k + 1, h => by
    obtain ⟨h1, h2⟩ := apOrd x n k (by omega)
    rw [slAll_succ]
    cases c : apP x k with
    | true =>
      rw [apG_at (by omega) c]
      simp only [if_true]
      refine ⟨List.pairwise_append.2 ⟨h1, by simp, fun y hy z hz => ?_⟩, fun y hy => ?_⟩
      · simp at hz; subst hz; have := h2 y hy; simp only; omega
      · rcases List.mem_append.1 hy with hy | hy
        · have := h2 y hy; omega
        · simp at hy; subst hy; simp only; omega
    | false =>
      rw [apG_no c]
      simp only [Pl.zero, Bool.false_eq_true, if_false, List.append_nil]
      exact ⟨h1, fun y hy => by have := h2 y hy; omega⟩
theorem apHit {x : Int} {n i : Nat} {d : Int} (h : apP x i = false ∨ (i : Int) + 1 ≠ d) : slHit (apG x n i) d = false := by
  unfold apG
  split
  · next c =>
    rcases h with h | h
    · rw [c.2] at h; cases h
    · simp [slHit, h]
  · rfl
theorem slHit_set {g : Nat → Pl} {A i v : Nat} {e : Ent} {d : Int} (h : slHit (g i) d = false ∨ i = A) : slHit (slSet g A ⟨e, v, false⟩ i) d = false := by
  by_cases c : i = A
  · subst c; rw [slSet_same]; rfl
  · rw [slSet_ne _ _ c]
    rcases h with h | h
    · exact h
    · exact absurd h c
theorem slAll_gone {g : Nat → Pl} {A v : Nat} {e : Ent} (hA : (g A).f = true) : ∀ k, (slAll (slSet g A ⟨e, v, false⟩) k).length + (if A < k then 1 else 0) = (slAll g k).length
  | 0 => rfl
  | k + 1 => by
    have ih := slAll_gone (g := g) (v := v) (e := e) hA k
    rw [slAll_succ, slAll_succ, List.length_append, List.length_append]
    by_cases c : k = A
    · subst c
      rw [slSet_same, hA]
      rw [if_neg (show ¬ k < k by omega)] at ih
      rw [if_pos (show k < k + 1 by omega)]
      simp
      omega
    · rw [slSet_ne _ _ c]
      by_cases d : A < k
      · rw [if_pos d] at ih; rw [if_pos (show A < k + 1 by omega)]; omega
      · rw [if_neg d] at ih; rw [if_neg (show ¬ A < k + 1 by omega)]; omega
end Go.Proofs.Ytfecobeiibdpcaa

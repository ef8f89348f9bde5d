/- Adds one behind the other. Plain. -/
import Derived.Test.YtboccihcomaaoaaEntM
namespace Go.Proofs.Ytboccihcomaaoaa
open Go.Sort
set_option linter.unusedVariables false

/-- f 0, f 1, .. added one behind the other. -/
def addUp (f : Nat → List Ent) : Nat → List (List Ent)
  | 0 => []
  | k + 1 => addS (addUp f k) (f k)
theorem addUp_perm (f : Nat → List Ent) : ∀ k, (addUp f k).flatten.Perm ((List.range k).flatMap f)
  | 0 => List.Perm.refl _
  | k + 1 => by
    rw [List.range_succ, List.flatMap_append]
    refine (addS_perm _ _).trans ?_
    simp only [List.flatMap_cons, List.flatMap_nil, List.append_nil]
    exact (addUp_perm f k).append_right _
theorem addUp_fall (f : Nat → List Ent) : ∀ k, Fall (addUp f k)
  | 0 => Fall.nil
  | k + 1 => addS_fall _ (addUp_fall f k)
theorem addUp_srt (f : Nat → List Ent) (k : Nat) : ∀ d ∈ addUp f k, Srt d := (addUp_fall f k).srt
theorem addUp_count (f : Nat → List Ent) : ∀ k, (addUp f k).length ≤ k
  | 0 => Nat.le_refl _
  | k + 1 => by
    have h1 := addS_count (addUp f k) (f k)
    have h2 := addUp_count f k
    show (addS (addUp f k) (f k)).length ≤ _
    omega
theorem addUp_succ (f : Nat → List Ent) (k : Nat) : (addUp f (k + 1)).flatten.length = (addUp f k).flatten.length + (f k).length := addS_len _ _
theorem addUp_len1 (f : Nat → List Ent) (h : ∀ i, (f i).length = 1) : ∀ k, (addUp f k).flatten.length = k
  | 0 => rfl
  | k + 1 => by rw [addUp_succ, h, addUp_len1 f h k]
end Go.Proofs.Ytboccihcomaaoaa

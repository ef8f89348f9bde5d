/- queue: what is found further off. -/
import Derived.Test.YtdcacbjmbfppeabQ5
import Derived.Deep.DeepCutAuto
import Derived.Deep.Cut
namespace Go.Proofs.Ytdcacbjmbfppeab
open Go.RowKit Go.Lib Go.Sort
set_option linter.unusedVariables false

/-- The first of a list, if there is one. -/
def headO : List Ent → Ent × Bool
  | [] => ((0, 0), false)
  | x :: _ => (x, true)
/-- Which own list of the others has something, from t + 1 on. -/
def furtherI (s : QSt) (T t : Nat) : Option Nat := (List.range T).find? (fun i => decide (0 < (s.ls ((t + 1 + i) % T)).flatten.length))
def furtherL (s : QSt) (T t : Nat) : List Ent := match furtherI s T t with
  | some i => sortE (s.ls ((t + 1 + i) % T)).flatten
  | none => sortE (slAll s.g T)
theorem sortE_nil : sortE [] = [] := sortE_id Srt.nil
theorem headO_min {F : Bool} {x : Ent} {d : List Ent} (h : (F = false ∧ d = [] ∧ x = (0, 0)) ∨ (F = true ∧ ∃ t, sortE d = x :: t)) : (x, F) = headO (sortE d) := by
  rcases h with ⟨rfl, rfl, rfl⟩ | ⟨rfl, t, e⟩
  · rw [sortE_nil]; rfl
  · rw [e]; rfl
theorem least_one (d : List Ent) : (unl (leastL [d] 1), unb (leastL [d] 1)) = headO d := by
  cases d <;> rfl
theorem entf {w : World} {B : Nat} {cs : Array Value} {U : TypeId} (h : w.heap[B]? = some (.cells cs U (0, 0))) (o : Nat) : w.frozen? ⟨B, o, none⟩ = false := by simp [World.frozen?, h]
theorem entSet2 {w : World} {B : Nat} {x y : Value} {U : TypeId} (h : w.heap[B]? = some (.cells #[x, y] U (0, 0))) (a b : Value) : ((w.setCell ⟨B, 0, none⟩ a).setCell ⟨B, 1, none⟩ b).heap[B]? = some (.cells #[a, b] U (0, 0)) := by
  have h1 : (w.setCell ⟨B, 0, none⟩ a).heap[B]? = some (.cells #[a, y] U (0, 0)) := by simp [World.setCell, Array.getElem?_modify, h]
  generalize w.setCell ⟨B, 0, none⟩ a = v at h1 ⊢
  simp [World.setCell, Array.getElem?_modify, h1]
theorem isLL_one {w : World} {g n cap : Nat} {a : Option Addr} {d : List Ent} (hg : w.heap[g]? = some (.cells #[.slice a n cap] 35 (0, 0))) (hn : d.length = n) (hd : IsL w a cap d) : IsLL w (some ⟨g, 0, none⟩) [d] := by
  refine ⟨by simp, fun i x hx => ?_⟩
  cases i with
  | zero =>
    simp at hx
    subst hx
    exact ⟨g, 0, a, cap, rfl, lt_of_block hg, by rw [hn, cell_of_row _ _ _ _ _ _ hg]; rfl, hd⟩
  | succ i => simp at hx

end Go.Proofs.Ytdcacbjmbfppeab

/- The table of steps: a new map that has just the ten pairs. -/
import Derived.Test.YtpenjncbodcbnaaDoorProg
import Derived.Test.YtpenjncbodcbnaaDoorLit
import Derived.WalkKit
import Derived.WalkLawsBesides
import Derived.WalkSpells
import Derived.WideKeyPair
import Derived.DeepKeys4
import Derived.Outline
namespace Go.Proofs.YtpenjncbodcbnaaDoor
open Go.RowKit Go.WideMaps Go.Maps

theorem laidOut : laidOutB Tryd.prog = true := by kernel_rfl
theorem rowPair : (64 : TypeId) < Tryd.prog.types.size := of_decide_eq_true (by kernel_rfl)
theorem widePair : (match Tryd.prog.underlying 64 with | some (.array _ _) | some (.struct _) => true | _ => false) = true := by kernel_rfl
theorem lawPair : Keyed Tryd.prog 64 := Keyed.of_law (deep_law_laid laidOut (m := 2) (by omega) rowPair (by kernel_rfl) widePair)
theorem cellsPair : Tryd.prog.cellsOf 64 = 2 := by kernel_rfl
theorem arrPair : ArrKey Tryd.prog 64 3 2 := ⟨Tryd.underlying64, by kernel_rfl, by kernel_rfl, cellsPair⟩
abbrev pairKey (a b : Int) : Lit := .string (keyBytes [.int .i64 a, .int .i64 b])
theorem key_pair {a b : Int} (wa : (Lit.int .i64 a).wf = true) (wb : (Lit.int .i64 b).wf = true) : keyOf Tryd.prog 64 (.agg #[.int .i64 a, .int .i64 b]) = some (pairKey a b) :=
  keyOf_pair arrPair Tryd.underlying3 ⟨_, rfl⟩ wa wb
theorem undSteps : Tryd.prog.underlying 90 = some (.map 64 88) := Tryd.underlying90

/-- The ten pairs, by the places of their insertions. -/
def pairAt : Nat → Int × Int
  | 3 => (0, 1) | 6 => (0, 2) | 9 => (0, 6) | 12 => (1, 2) | 15 => (1, 6) | 18 => (2, 3) | 21 => (2, 6) | 24 => (3, 1) | 27 => (3, 4) | _ => (3, 5)
def places : List Nat := [3, 6, 9, 12, 15, 18, 21, 24, 27, 30]

/-- What is listed when the builds and the new map are. -/
def listedA : Array Bool := #[true, true, true, false, true, true, false, true, true, false, true, true, false, true, true, false, true, true, false, true, true, false, true, true, false, true, true, false, true, true, false, false, false]
def listedB : Array Bool := #[true, true, true, true, true, true, true, true, true, true, true, true, true, true, true, true, true, true, true, true, true, true, true, true, true, true, true, true, true, true, true, false, false]
theorem getD_out {L : Array Bool} {j : Nat} (h : L.size ≤ j) : L.getD j true = true := by
  simp [Nat.not_lt.2 h]

theorem steps_any (w : World) : Calls Tryd.prog 40 #[] w fun e w' => e = .returned (.map (some w.heap.size)) ∧ Below w.heap.size w w' ∧
    ∃ D, w'.ownsMap Tryd.prog 64 (unitElem (H := Unit)) w.heap.size 10 D ∧ ∀ kl, Maps.has D kl = true ↔ ∃ j ∈ places, pairKey (pairAt j).1 (pairAt j).2 = kl := by
  have hmm := @run_makeMap Tryd.prog
  go_enter Tryd.func40, Tryd.ntmps40
  go_wp2
  refine wp_region_any (by kernel_rfl) ?_
  refine wpAny_take (i := 1) (v := .agg #[.int .i64 0, .int .i64 1]) rfl (by kernel_rfl) (by kernel_rfl) (by kernel_rfl) (fun _ _ _ h => h) (Or.inl ⟨by rfl, fun _ => by kernel_rfl⟩) ?_
  refine wpAny_take (i := 2) (v := .agg #[]) rfl (by kernel_rfl) (by kernel_rfl) (by kernel_rfl) (fun _ _ _ h => h) (Or.inl ⟨by rfl, fun _ => by kernel_rfl⟩) ?_
  refine wpAny_take (i := 4) (v := .agg #[.int .i64 0, .int .i64 2]) rfl (by kernel_rfl) (by kernel_rfl) (by kernel_rfl) (fun _ _ _ h => h) (Or.inl ⟨by rfl, fun _ => by kernel_rfl⟩) ?_
  refine wpAny_take (i := 5) (v := .agg #[]) rfl (by kernel_rfl) (by kernel_rfl) (by kernel_rfl) (fun _ _ _ h => h) (Or.inl ⟨by rfl, fun _ => by kernel_rfl⟩) ?_
  refine wpAny_take (i := 7) (v := .agg #[.int .i64 0, .int .i64 6]) rfl (by kernel_rfl) (by kernel_rfl) (by kernel_rfl) (fun _ _ _ h => h) (Or.inl ⟨by rfl, fun _ => by kernel_rfl⟩) ?_
  refine wpAny_take (i := 8) (v := .agg #[]) rfl (by kernel_rfl) (by kernel_rfl) (by kernel_rfl) (fun _ _ _ h => h) (Or.inl ⟨by rfl, fun _ => by kernel_rfl⟩) ?_
  refine wpAny_take (i := 10) (v := .agg #[.int .i64 1, .int .i64 2]) rfl (by kernel_rfl) (by kernel_rfl) (by kernel_rfl) (fun _ _ _ h => h) (Or.inl ⟨by rfl, fun _ => by kernel_rfl⟩) ?_
  refine wpAny_take (i := 11) (v := .agg #[]) rfl (by kernel_rfl) (by kernel_rfl) (by kernel_rfl) (fun _ _ _ h => h) (Or.inl ⟨by rfl, fun _ => by kernel_rfl⟩) ?_
  refine wpAny_take (i := 13) (v := .agg #[.int .i64 1, .int .i64 6]) rfl (by kernel_rfl) (by kernel_rfl) (by kernel_rfl) (fun _ _ _ h => h) (Or.inl ⟨by rfl, fun _ => by kernel_rfl⟩) ?_
  refine wpAny_take (i := 14) (v := .agg #[]) rfl (by kernel_rfl) (by kernel_rfl) (by kernel_rfl) (fun _ _ _ h => h) (Or.inl ⟨by rfl, fun _ => by kernel_rfl⟩) ?_
  refine wpAny_take (i := 16) (v := .agg #[.int .i64 2, .int .i64 3]) rfl (by kernel_rfl) (by kernel_rfl) (by kernel_rfl) (fun _ _ _ h => h) (Or.inl ⟨by rfl, fun _ => by kernel_rfl⟩) ?_
  refine wpAny_take (i := 17) (v := .agg #[]) rfl (by kernel_rfl) (by kernel_rfl) (by kernel_rfl) (fun _ _ _ h => h) (Or.inl ⟨by rfl, fun _ => by kernel_rfl⟩) ?_
  refine wpAny_take (i := 19) (v := .agg #[.int .i64 2, .int .i64 6]) rfl (by kernel_rfl) (by kernel_rfl) (by kernel_rfl) (fun _ _ _ h => h) (Or.inl ⟨by rfl, fun _ => by kernel_rfl⟩) ?_
  refine wpAny_take (i := 20) (v := .agg #[]) rfl (by kernel_rfl) (by kernel_rfl) (by kernel_rfl) (fun _ _ _ h => h) (Or.inl ⟨by rfl, fun _ => by kernel_rfl⟩) ?_
  refine wpAny_take (i := 22) (v := .agg #[.int .i64 3, .int .i64 1]) rfl (by kernel_rfl) (by kernel_rfl) (by kernel_rfl) (fun _ _ _ h => h) (Or.inl ⟨by rfl, fun _ => by kernel_rfl⟩) ?_
  refine wpAny_take (i := 23) (v := .agg #[]) rfl (by kernel_rfl) (by kernel_rfl) (by kernel_rfl) (fun _ _ _ h => h) (Or.inl ⟨by rfl, fun _ => by kernel_rfl⟩) ?_
  refine wpAny_take (i := 25) (v := .agg #[.int .i64 3, .int .i64 4]) rfl (by kernel_rfl) (by kernel_rfl) (by kernel_rfl) (fun _ _ _ h => h) (Or.inl ⟨by rfl, fun _ => by kernel_rfl⟩) ?_
  refine wpAny_take (i := 26) (v := .agg #[]) rfl (by kernel_rfl) (by kernel_rfl) (by kernel_rfl) (fun _ _ _ h => h) (Or.inl ⟨by rfl, fun _ => by kernel_rfl⟩) ?_
  refine wpAny_take (i := 28) (v := .agg #[.int .i64 3, .int .i64 5]) rfl (by kernel_rfl) (by kernel_rfl) (by kernel_rfl) (fun _ _ _ h => h) (Or.inl ⟨by rfl, fun _ => by kernel_rfl⟩) ?_
  refine wpAny_take (i := 29) (v := .agg #[]) rfl (by kernel_rfl) (by kernel_rfl) (by kernel_rfl) (fun _ _ _ h => h) (Or.inl ⟨by rfl, fun _ => by kernel_rfl⟩) ?_
  refine wpAny_all (rs := [0]) (by kernel_rfl) (by simp) (fun i hi => ?_)
  obtain rfl : i = 0 := by simpa using hi
  refine wpOp_step rfl (fun K hK => ?_)
  go_simp
  refine hK _ _ ?_
  clear hK K
  show wpAny Tryd.prog .any _ _ (2 + 10) listedA _ _
  refine wpAny_fill (H := Unit) (t := 90) (K := 64) (E := 88) lawPair Tryd.underlying90 (R := unitElem) (B := w.heap.size) (J := places) (m := 31) (by kernel_rfl) (fun j => pairKey (pairAt j).1 (pairAt j).2) ?hop 2 10 places _ _ 0 (.map []) rfl (fun _ h => h) (by decide) rfl ?hl (World.ownsMap_made _ _ _ _) (by decide) ?fin
  case hop =>
    intro j hj
    simp only [places, List.mem_cons, List.not_mem_nil, or_false] at hj
    rcases hj with rfl | rfl | rfl | rfl | rfl | rfl | rfl | rfl | rfl | rfl
    all_goals exact ⟨_, _, _, _, _, _, rfl, rfl, rfl, key_pair (by decide) (by decide), unitElem_mk⟩
  case hl =>
    intro j
    by_cases hj : j < 33
    · have h : ∀ j, j < 33 → (listedA.getD j true = false ↔ (j ∈ places ∨ (31 ≤ j ∧ j < 33))) := by decide +kernel
      exact h j hj
    · constructor
      · intro h
        exact absurd h (by rw [getD_out (by exact Nat.le_of_not_lt hj)]; simp)
      · rintro (h | h)
        · simp only [places, List.mem_cons, List.not_mem_nil, or_false] at h
          omega
        · exact absurd h.2 hj
  case fin =>
    intro L w' D hL1 hL2 hown hhas hgr
    have hb : Below w.heap.size w w' := (((Below.refl w.heap.size w).alloc (Nat.le_refl _) (.map #[] 0)).drew).grown hgr (by simp) (fun j hj => by cases hj; exact Nat.le_refl _)
    obtain rfl : L = listedB := listed_eq hL1 (fun j => by
      rw [hL2 j]
      by_cases hj : j < 33
      · have h : ∀ j, j < 33 → ((31 ≤ j ∧ j < 33) ↔ listedB.getD j true = false) := by decide +kernel
        exact h j hj
      · constructor
        · intro h
          exact absurd h.2 hj
        · intro h
          exact absurd h (by rw [getD_out (by exact Nat.le_of_not_lt hj)]; simp))
    clear hL1 hL2 hgr hmm
    refine wpAny_take (i := 31) (v := .map (some w.heap.size)) rfl (by kernel_rfl) (by kernel_rfl) (by kernel_rfl) (fun _ _ _ h => h) (Or.inl ⟨by rfl, fun _ => rfl⟩) ?_
    refine wpAny_take (i := 32) (v := .map (some w.heap.size)) rfl (by kernel_rfl) (by kernel_rfl) (by kernel_rfl) (fun _ _ _ h => h) (Or.inl ⟨by rfl, fun _ => rfl⟩) ?_
    refine wpAny_done (by kernel_rfl) ?_ _
    go_wp2
    go_ret
    exact ⟨rfl, hb, D, hown, fun kl => by rw [hhas kl]; simp [Maps.has]⟩
end Go.Proofs.YtpenjncbodcbnaaDoor

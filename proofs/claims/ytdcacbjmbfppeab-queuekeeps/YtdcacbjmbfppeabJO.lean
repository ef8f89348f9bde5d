import Derived.Test.YtdcacbjmbfppeabJN
import Derived.Test.YtdcacbjmbfppeabJG
import Derived.Deep.QuietTactic
import Derived.BigQuiet
/- One of the blocks of an own list. -/
namespace Go.Proofs.Ytdcacbjmbfppeab
open Go.RowKit Go.Lib Go.Sort
set_option linter.unusedVariables false

theorem Lsm.at {w : World} {base B : Nat} {ls : List (List Ent)} (h : Lsm w base B ls) : ∃ (a : Option Addr) (cap : Nat), w.cell? ⟨B, 0, none⟩ = some (.slice a ls.length cap) ∧ ls.length ≤ cap ∧ cap ≤ maxLen ∧ B < w.heap.size ∧
    ∀ (i : Nat) (hi : i < ls.length), ∃ g p q, a = some ⟨g, 0, none⟩ ∧ g < w.heap.size ∧ ∀ W, Below w.heap.size w W → W.cell? ⟨g, i * 2, none⟩ = some (.int .i64 (lv ls[i])) ∧ W.cell? ⟨g, i * 2 + 1, none⟩ = some (.slice p ls[i].length q) ∧ IsL W p q ls[i] := by
  obtain ⟨a, cap, cB, h1, h2, hB, _, _, bs, rfl, row⟩ := h.open
  refine ⟨a, cap, cB, h1, h2, hB, fun i hi => ?_⟩
  have hi' : i < bs.length := by simpa using hi
  obtain ⟨g, e, _, hg, c0, c1⟩ := row.at hi'
  refine ⟨g, bs[i].p, bs[i].q, e, hg, fun W hW => ?_⟩
  simp only [List.getElem_map]
  exact ⟨(hW.cell (p := ⟨g, i * 2, none⟩) hg).trans c0, (hW.cell (p := ⟨g, i * 2 + 1, none⟩) hg).trans c1, (row.own bs[i] (List.getElem_mem hi')).is.below hW⟩

end Go.Proofs.Ytdcacbjmbfppeab

/- lsm: Min. -/
namespace Go.Proofs.Ytdcacbjmbfppeab
open Go.RowKit Go.Lib Go.Sort
set_option linter.unusedVariables false

/-- The least of a list. -/
def IsMin (x : Ent) (d : List Ent) : Prop := x ∈ d ∧ ∀ y ∈ d, ltE y x = false
theorem IsMin.sort {x : Ent} {d : List Ent} (h : IsMin x d) : ∃ t, sortE d = x :: t := by
  have p := sortE_perm d
  cases e : sortE d with
  | nil =>
    rw [e] at p
    have := p.mem_iff.2 h.1
    simp at this
  | cons y t =>
    have s := sortE_srt d
    rw [e] at s p
    have hy : y ∈ d := p.mem_iff.1 (by simp)
    have h1 := h.2 y hy
    have hx : x ∈ y :: t := p.mem_iff.2 h.1
    rcases List.mem_cons.1 hx with rfl | hx
    · exact ⟨t, rfl⟩
    · have h2 := (List.pairwise_cons.1 s).1 x hx
      rw [totE _ _ h1 h2]
      exact ⟨t, rfl⟩
theorem IsMin.head {x : Ent} {d : List Ent} (h : Srt (x :: d)) : IsMin x (x :: d) :=
  ⟨by simp, fun y hy => by
    rcases List.mem_cons.1 hy with rfl | hy
    · exact swoE.irrefl _
    · exact (List.pairwise_cons.1 h).1 y hy⟩
theorem IsMin.left {x y : Ent} {c d : List Ent} (h : IsMin x c) (g : IsMin y d) (hl : ltE y x = false) : IsMin x (c ++ d) :=
  ⟨by simp [h.1], fun z hz => by
    rcases List.mem_append.1 hz with hz | hz
    · exact h.2 z hz
    · exact swoE.ntrans _ _ _ (g.2 z hz) hl⟩
theorem IsMin.right {x y : Ent} {c d : List Ent} (h : IsMin x c) (g : IsMin y d) (hl : ltE y x = true) : IsMin y (c ++ d) :=
  ⟨by simp [g.1], fun z hz => by
    rcases List.mem_append.1 hz with hz | hz
    · exact swoE.ntrans _ _ _ (h.2 z hz) (swoE.asymmA hl)
    · exact g.2 z hz⟩
/-- What the first k blocks tell. -/
def MinUp (ls : List (List Ent)) (k : Nat) (F : Bool) (x : Ent) : Prop := (F = false ∧ k = 0 ∧ x = (0, 0)) ∨ (F = true ∧ IsMin x (ls.take k).flatten)
theorem MinUp.first {ls : List (List Ent)} {k : Nat} {x e : Ent} {r : List Ent} (h : MinUp ls k false x) (hk : k < ls.length) (hd : ls[k] = e :: r) (hs : Srt (e :: r)) : MinUp ls (k + 1) true e := by
  rcases h with ⟨_, rfl, _⟩ | ⟨h, _⟩
  · right
    refine ⟨rfl, ?_⟩
    rw [flat_take hk, hd]
    simpa using IsMin.head hs
  · cases h
theorem MinUp.less {ls : List (List Ent)} {k : Nat} {x e : Ent} {r : List Ent} (h : MinUp ls k true x) (hk : k < ls.length) (hd : ls[k] = e :: r) (hs : Srt (e :: r)) (hl : ltE e x = true) : MinUp ls (k + 1) true e := by
  rcases h with ⟨h, _⟩ | ⟨_, h⟩
  · cases h
  · right
    refine ⟨rfl, ?_⟩
    rw [flat_take hk, hd]
    exact h.right (IsMin.head hs) hl
theorem MinUp.more {ls : List (List Ent)} {k : Nat} {x e : Ent} {r : List Ent} (h : MinUp ls k true x) (hk : k < ls.length) (hd : ls[k] = e :: r) (hs : Srt (e :: r)) (hl : ltE e x = false) : MinUp ls (k + 1) true x := by
  rcases h with ⟨h, _⟩ | ⟨_, h⟩
  · cases h
  · right
    refine ⟨rfl, ?_⟩
    rw [flat_take hk, hd]
    exact h.left (IsMin.head hs) hl

/-- What Min tells of an own list. -/
def MinL (w : World) (d : List Ent) (r : Ending) (w' : World) : Prop := ∃ (F : Bool) (x : Ent), r = .returned (.tuple #[.agg #[.int .u64 x.1, .int .i64 x.2], .bool F]) ∧ ((F = false ∧ d = [] ∧ x = (0, 0)) ∨ (F = true ∧ ∃ t, sortE d = x :: t)) ∧ Below w.heap.size w w'

end Go.Proofs.Ytdcacbjmbfppeab

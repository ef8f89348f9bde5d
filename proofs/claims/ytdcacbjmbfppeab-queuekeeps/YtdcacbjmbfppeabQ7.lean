/- queue: Relaxed. -/
import Derived.Test.YtdcacbjmbfppeabQ6
namespace Go.Proofs.Ytdcacbjmbfppeab
open Go.RowKit Go.Lib Go.Sort
set_option linter.unusedVariables false

/-- The shared one's Candidate, as a list. -/
def candL (s : QSt) (K dr : Nat) : List Ent := match (sortE s.hs.flatten)[dr % drawN K s.hs.flatten.length]? with
  | some x => if s.hs.flatten.length = 0 then [] else [x]
  | none => []
def own1 (s : QSt) (t : Nat) : List Ent := (sortE (s.ls t).flatten).take 1
def nearQ (s : QSt) (K t dr : Nat) : Option (Nat × Ent) := leastL [own1 s t, candL s K dr] 2
/-- What is Relaxed. -/
def relaxQ (s : QSt) (T K t dr : Nat) : Ent × Bool := if unb (nearQ s K t dr) then (unl (nearQ s K t dr), true) else headO (furtherL s T t)
theorem slotL_head (d : List Ent) : slotL ⟨(headO d).1, 0, (headO d).2⟩ = d.take 1 := by
  cases d <;> rfl
theorem candL_take (s : QSt) (K dr : Nat) : (candL s K dr).take 1 = candL s K dr := by
  unfold candL
  split
  · split <;> rfl
  · rfl
theorem isLL_two {w : World} {g n1 n2 c1 c2 : Nat} {a1 a2 : Option Addr} {d1 d2 : List Ent} (hg : w.heap[g]? = some (.cells #[.slice a1 n1 c1, .slice a2 n2 c2] 35 (0, 0))) (h1 : d1.length = n1) (h2 : d2.length = n2) (l1 : IsL w a1 c1 d1) (l2 : IsL w a2 c2 d2) : IsLL w (some ⟨g, 0, none⟩) [d1, d2] := by
  refine ⟨by simp, fun i x hx => ?_⟩
  match i, hx with
  | 0, hx =>
    simp at hx
    subst hx
    exact ⟨g, 0, a1, c1, rfl, lt_of_block hg, by rw [h1, cell_of_row _ _ _ _ _ _ hg]; rfl, l1⟩
  | 1, hx =>
    simp at hx
    subst hx
    exact ⟨g, 0, a2, c2, rfl, lt_of_block hg, by rw [h2, cell_of_row _ _ _ _ _ _ hg]; rfl, l2⟩
  | i + 2, hx => simp at hx
/-- What the cut behind the two looks keeps. -/
def NearAt (S x1 : Nat) (e1 e2 : Int) (u wx : World) : Prop := Below u.heap.size u wx ∧ wx.heap[x1]? = some (.cells #[.int .u64 e1, .int .i64 e2] 33 (0, 0)) ∧ u.heap.size ≤ x1
theorem _root_.Go.RowKit.Below.box {b : Nat} {u w : World} (h : Below b u w) {G : Nat} (hG : b ≤ G) (x y : Value) : Below b u ((w.setCell ⟨G, 0, none⟩ x).setCell ⟨G, 1, none⟩ y) := (h.setCell hG _).setCell hG _

theorem _root_.Go.RowKit.Below.st {w v x : World} (h : Below w.heap.size w v) (g : Below v.heap.size v x) : Below w.heap.size w x := h.trans (g.mono h.size)
theorem _root_.Go.RowKit.Below.sta {w v x : World} {o : Obj} (h : Below w.heap.size w v) (g : Below (v.alloc o).heap.size (v.alloc o) x) : Below w.heap.size w x := (h.alloc h.size o).trans (g.mono (h.alloc h.size o).size)

end Go.Proofs.Ytdcacbjmbfppeab

/- What the table of names holds when a call begins, and that the program's own start lays it so. -/
import Derived.Test.YtdpljhajgocneabDoorRows
import Derived.Test.YtdpljhajgocneabDoorWords
import Derived.ProofKit
import Derived.LaidMore
import Derived.OpenShut
import Derived.Stop.Joined
namespace Go.Proofs.YtdpljhajgocneabDoor
open Go.ChangeShapes Go.WideShapes Go.ChangeAt Go.WideMaps Go.WideElems Go.RowKit

theorem own : ownKnob Tryd.prog.godebug = none := by kernel_rfl
theorem gNames : Tryd.prog.globalNamed "verger/word.names" = some 0 := by kernel_rfl
theorem tNames : (Tryd.prog.globals[0]?).map (·.type) = some 35 := by kernel_rfl
theorem cellsStr : Tryd.prog.cellsOf 9 = 1 := by kernel_rfl
def laidAll : List (String × DataW Unit) := [("verger/word.names", Rows.laid_verger_word_names)]
theorem door_met (os : Os) (args : Array Value) : laidMetH Tryd.prog laidAll ((World.doorLaid Tryd.prog 400 os).forCall (fun _ _ => 0) ⟨#[], args, []⟩).memory :=
  laidMetH_of_parts3 (fuel := 8) (laidMet_of_run' 8 (by kernel_rfl) (by kernel_rfl)) (by kernel_rfl) (by kernel_rfl)
theorem bytes_inj {s : ByteArray} {l : List UInt8} (h : s.data.toList = l) : s = ⟨l.toArray⟩ := by
  cases s; simp at h; subst h; simp
theorem of_laid {W : World} (h : laidMetH Tryd.prog laidAll W) : Named W ∧ 0 < W.heap.size := by
  rw [MakeChecks.laidMetH_plain _ _ _ (by kernel_rfl)] at h
  obtain ⟨ps, ⟨g0, t0, cs0, f0, p0, q0, hg0, ht0, hv0, hd0, _, _⟩, _, _⟩ := h
  obtain rfl := Option.some.inj (gNames.symm.trans hg0)
  obtain rfl := Option.some.inj (tNames.symm.trans ht0)
  obtain ⟨xs, m1, rfl, hx1, hlen, hn, hel⟩ := DataW.trod_array Tryd.underlying35 hd0
  simp only [Prod.mk.injEq] at hx1
  have hc : ∀ k : Nat, W.cell? ⟨0, k, none⟩ = cs0[k]? := fun k => World.var?_cell hg0 hv0 k
  have hN : Named W := by
    intro k hk
    have hxk : k < xs.length := by omega
    have h1 := hel k hk
    rw [cellsStr, List.getElem?_eq_getElem hxk] at h1
    obtain ⟨s, e1, e2, _⟩ := DataW.trod_string Tryd.underlying9 h1
    have h2 : (xs.map (·.1))[k]? = some (.lit (.string s.data.toList)) := by simp [List.getElem?_eq_getElem hxk, e2]
    have h3 : (xs.map (·.1)) = [.lit (.string [102, 114, 101, 101]), .lit (.string [119, 97, 105, 116, 105, 110, 103]), .lit (.string [114, 101, 97, 100, 121]), .lit (.string [99, 108, 97, 105, 109, 101, 100]), .lit (.string [100, 111, 110, 101]), .lit (.string [102, 97, 105, 108, 101, 100]), .lit (.string [99, 97, 110, 99, 101, 108, 108, 101, 100])] := (DataW.agg.inj hx1.1).symm
    rw [h3] at h2
    have hs : s = nameB k := by
      have : k = 0 ∨ k = 1 ∨ k = 2 ∨ k = 3 ∨ k = 4 ∨ k = 5 ∨ k = 6 := by omega
      rcases this with rfl | rfl | rfl | rfl | rfl | rfl | rfl
      all_goals
        simp at h2
        exact bytes_inj h2.symm
    have h4 : cs0[k]? = some (.string s) := by
      have := congrArg (fun l => l[0]?) e1
      simpa [List.getElem?_take, List.getElem?_drop] using this
    rw [hc k, h4, hs]
  refine ⟨hN, ?_⟩
  have h0 := hN 0 (by omega)
  rcases Nat.eq_zero_or_pos W.heap.size with h | h
  · simp [World.cell?, h] at h0
  · exact h
end Go.Proofs.YtdpljhajgocneabDoor

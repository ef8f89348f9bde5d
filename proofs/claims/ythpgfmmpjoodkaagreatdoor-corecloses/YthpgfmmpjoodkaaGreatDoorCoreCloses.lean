/- The card of 'CoreCloses'. -/
import Derived.Test.YthpgfmmpjoodkaaGreatDoorCoreClosesD
import Derived.Test.YthpgfmmpjoodkaaGreatDoorCards
import Derived.Test.YthpgfmmpjoodkaaGreatDoorTie
import Derived.SevenTiedAt
import Derived.ProofKit
namespace Go.Proofs.YthpgfmmpjoodkaaGreatDoor
open Go
theorem coreCloses_proved : Rows.CoreClosesCardSaid :=
  Claim7.holds_tied_plain_at .later [] [.data, .data] true (true, "640980438e3fce4a63b8dd1bbed3232fc984b682043c7cc7bb2a89f314f02987") false
    coreCloses.over (fun _ h => by cases h) (by kernel_rfl) (fun _ h => by cases h) coreCloses_row_tie rfl ⟨rfl, rfl⟩ (by kernel_rfl) rfl
    (fun f fn hf hfn => by
      obtain rfl : f = 4 := Option.some.inj (coreClosesFn.symm.trans hf) |>.symm
      obtain rfl : fn = Tryz.f4 := (Option.some.inj (Tryz.func4.symm.trans hfn)).symm
      exact ⟨fLooks, fun j t ht => by
        rw [Tryz.params4] at ht
        have hm : t ∈ [3, 3, 34] := by simpa using Array.mem_of_getElem? ht
        have hall : ([3, 3, 34].all fun u => !Tryz.prog.wantsStandIn u) = true := by kernel_rfl
        exact (show Tryz.prog.wantsStandIn t = false by simpa using List.all_eq_true.1 hall t hm)⟩)
    coreClosesGoes
#print axioms coreCloses_proved
end Go.Proofs.YthpgfmmpjoodkaaGreatDoor

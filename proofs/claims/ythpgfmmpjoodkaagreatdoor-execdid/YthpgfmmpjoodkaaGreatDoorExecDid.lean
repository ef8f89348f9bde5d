/- The card of 'ExecDid'. -/
import Derived.Test.YthpgfmmpjoodkaaGreatDoorExecDidD
import Derived.Test.YthpgfmmpjoodkaaGreatDoorCards
import Derived.Test.YthpgfmmpjoodkaaGreatDoorTie
import Derived.SevenTiedAt
import Derived.ProofKit
namespace Go.Proofs.YthpgfmmpjoodkaaGreatDoor
open Go
theorem execDid_proved : Rows.ExecDidCardSaid :=
  Claim7.holds_tied_plain_at .later [] [.data] true (true, "640980438e3fce4a63b8dd1bbed3232fc984b682043c7cc7bb2a89f314f02987") false
    execDid.over (fun _ h => by cases h) (by kernel_rfl) (fun _ h => by cases h) execDid_row_tie rfl ⟨rfl, rfl⟩ (by kernel_rfl) rfl
    (fun f fn hf hfn => by
      obtain rfl : f = 6 := Option.some.inj (execDidFn.symm.trans hf) |>.symm
      obtain rfl : fn = Tryz.f6 := (Option.some.inj (Tryz.func6.symm.trans hfn)).symm
      exact ⟨fLooks, fun j t ht => by
        rw [Tryz.params6] at ht
        have hm : t ∈ [3, 3, 22, 66] := by simpa using Array.mem_of_getElem? ht
        have hall : ([3, 3, 22, 66].all fun u => !Tryz.prog.wantsStandIn u) = true := by kernel_rfl
        exact (show Tryz.prog.wantsStandIn t = false by simpa using List.all_eq_true.1 hall t hm)⟩)
    execDidGoes
#print axioms execDid_proved
end Go.Proofs.YthpgfmmpjoodkaaGreatDoor

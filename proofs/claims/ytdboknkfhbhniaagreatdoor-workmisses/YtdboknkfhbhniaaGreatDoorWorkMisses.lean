/- The card of 'WorkMisses'. -/
import Derived.Test.YtdboknkfhbhniaaGreatDoorWorkMissesD
import Derived.Test.YtdboknkfhbhniaaGreatDoorCards
import Derived.Test.YtdboknkfhbhniaaGreatDoorTie
import Derived.SevenTiedAt
import Derived.ProofKit
namespace Go.Proofs.YtdboknkfhbhniaaGreatDoor
open Go
theorem workMisses_proved : Rows.WorkMissesCardSaid :=
  Claim7.holds_tied_plain_at .later [] [.data] true (true, "6927b41b39d6b5b084851cf85ddbdf6eaacf9ab1a9d5311813a6d9ce9bb05371") false
    workMisses.over (fun _ h => by cases h) (by kernel_rfl) (fun _ h => by cases h) workMisses_row_tie rfl ⟨rfl, rfl⟩ (by kernel_rfl) rfl
    (fun f fn hf hfn => by
      obtain rfl : f = 5 := Option.some.inj (workMissesFn.symm.trans hf) |>.symm
      obtain rfl : fn = Tryz.f5 := (Option.some.inj (Tryz.func5.symm.trans hfn)).symm
      exact ⟨fLooks, fun j t ht => by
        rw [Tryz.params5] at ht
        have hm : t ∈ [3, 4, 31] := by simpa using Array.mem_of_getElem? ht
        have hall : ([3, 4, 31].all fun u => !Tryz.prog.wantsStandIn u) = true := by kernel_rfl
        exact (show Tryz.prog.wantsStandIn t = false by simpa using List.all_eq_true.1 hall t hm)⟩)
    workMissesGoes
#print axioms workMisses_proved
end Go.Proofs.YtdboknkfhbhniaaGreatDoor

/- The card of 'WorkBodies'. -/
import Derived.Test.YtjpbngiddjkjiaaGreatDoorWorkBodiesD
import Derived.Test.YtjpbngiddjkjiaaGreatDoorCards
import Derived.Test.YtjpbngiddjkjiaaGreatDoorTie
import Derived.SevenTiedAt
import Derived.ProofKit
namespace Go.Proofs.YtjpbngiddjkjiaaGreatDoor
open Go
theorem workBodies_proved : Rows.WorkBodiesCardSaid :=
  Claim7.holds_tied_plain_at .later [] [.data] true (true, "2321751db8c7483df57bc060d5e0fcc90f4d6326955b7b908c56a4a92f214d60") false
    workBodies.over (fun _ h => by cases h) (by kernel_rfl) (fun _ h => by cases h) workBodies_row_tie rfl ⟨rfl, rfl⟩ (by kernel_rfl) rfl
    (fun f fn hf hfn => by
      obtain rfl : f = 3 := Option.some.inj (workBodiesFn.symm.trans hf) |>.symm
      obtain rfl : fn = Tryz.f3 := (Option.some.inj (Tryz.func3.symm.trans hfn)).symm
      exact ⟨fLooks, fun j t ht => by
        rw [Tryz.params3] at ht
        have hm : t ∈ [22] := by simpa using Array.mem_of_getElem? ht
        have hall : ([22].all fun u => !Tryz.prog.wantsStandIn u) = true := by kernel_rfl
        exact (show Tryz.prog.wantsStandIn t = false by simpa using List.all_eq_true.1 hall t hm)⟩)
    workBodiesGoes
#print axioms workBodies_proved
end Go.Proofs.YtjpbngiddjkjiaaGreatDoor

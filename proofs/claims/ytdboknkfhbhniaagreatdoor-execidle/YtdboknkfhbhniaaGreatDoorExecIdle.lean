/- The card of 'ExecIdle'. -/
import Derived.Test.YtdboknkfhbhniaaGreatDoorExecIdleD
import Derived.Test.YtdboknkfhbhniaaGreatDoorCards
import Derived.Test.YtdboknkfhbhniaaGreatDoorTie
import Derived.SevenTiedAt
import Derived.ProofKit
namespace Go.Proofs.YtdboknkfhbhniaaGreatDoor
open Go
theorem execIdle_proved : Rows.ExecIdleCardSaid :=
  Claim7.holds_tied_plain_at .later [] [.data] true (true, "6927b41b39d6b5b084851cf85ddbdf6eaacf9ab1a9d5311813a6d9ce9bb05371") false
    execIdle.over (fun _ h => by cases h) (by kernel_rfl) (fun _ h => by cases h) execIdle_row_tie rfl ⟨rfl, rfl⟩ (by kernel_rfl) rfl
    (fun f fn hf hfn => by
      obtain rfl : f = 6 := Option.some.inj (execIdleFn.symm.trans hf) |>.symm
      obtain rfl : fn = Tryz.f6 := (Option.some.inj (Tryz.func6.symm.trans hfn)).symm
      exact ⟨fLooks, fun j t ht => by
        rw [Tryz.params6] at ht
        have hm : t ∈ [3, 3, 22] := by simpa using Array.mem_of_getElem? ht
        have hall : ([3, 3, 22].all fun u => !Tryz.prog.wantsStandIn u) = true := by kernel_rfl
        exact (show Tryz.prog.wantsStandIn t = false by simpa using List.all_eq_true.1 hall t hm)⟩)
    execIdleGoes
#print axioms execIdle_proved
end Go.Proofs.YtdboknkfhbhniaaGreatDoor

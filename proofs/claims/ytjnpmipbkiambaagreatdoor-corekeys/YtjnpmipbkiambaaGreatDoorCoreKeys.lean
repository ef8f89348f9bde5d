/- The card of 'CoreKeys': whatever the row of numbers and the number that came in, it answers true and leaves them as they were; the table of shapes is as the program's own text lays it. -/
import Derived.Test.YtjnpmipbkiambaaGreatDoorCoreKeysD
import Derived.Test.YtjnpmipbkiambaaGreatDoorCards
import Derived.Test.YtjnpmipbkiambaaGreatDoorTie
import Derived.SevenTiedAt
import Derived.ProofKit
namespace Go.Proofs.YtjnpmipbkiambaaGreatDoor
open Go
theorem coreKeys_proved : Rows.CoreKeysCardSaid :=
  Claim7.holds_tied_plain_at .later [] [.data] true (true, "d0ae09dedde305dd61a4ddecf44aa2bbe7a783367a8380f72db57524a54eacd2") false
    coreKeys.over (fun _ h => by cases h) (by kernel_rfl) (fun _ h => by cases h) coreKeys_row_tie rfl ⟨rfl, rfl⟩ (by kernel_rfl) rfl
    (fun f fn hf hfn => by
      obtain rfl : f = 3 := Option.some.inj (coreKeysFn.symm.trans hf) |>.symm
      obtain rfl : fn = Tryz.f3 := (Option.some.inj (Tryz.func3.symm.trans hfn)).symm
      exact ⟨fLooks, fun j t ht => by
        rw [Tryz.params3] at ht
        have hm : t ∈ [22, 3] := by simpa using Array.mem_of_getElem? ht
        have hall : ([22, 3].all fun u => !Tryz.prog.wantsStandIn u) = true := by kernel_rfl
        exact (show Tryz.prog.wantsStandIn t = false by simpa using List.all_eq_true.1 hall t hm)⟩)
    coreKeysGoes
#print axioms coreKeys_proved
end Go.Proofs.YtjnpmipbkiambaaGreatDoor

/- Facts of 'CoreWaits' over the program. -/
import Derived.Test.YthpgfmmpjoodkaaGreatDoorRows
import Derived.ProofKit
import Derived.Stop.Joined
import Derived.SevenTiedAt
namespace Go.Proofs.YthpgfmmpjoodkaaGreatDoor
open Go.ChangeShapes Go.WideShapes Go.ChangeAt Go.WideMaps Go.WideElems Go.RowKit
theorem coreWaitsFn : Tryz.prog.funcNamed Rows.coreWaitsRow.func = some 3 := by kernel_rfl
theorem coreWaitsPlace : Tryz.prog.inPlace 3 = Rows.coreWaitsRow.inPlace := by kernel_rfl
theorem coreWaitsUnf : Tryz.prog.unfollowed 3 = Rows.coreWaitsRow.unfollowed := by kernel_rfl
end Go.Proofs.YthpgfmmpjoodkaaGreatDoor

/- Facts of 'CoreCloses' over the program. -/
import Derived.Test.YthpgfmmpjoodkaaGreatDoorRows
import Derived.ProofKit
import Derived.Stop.Joined
import Derived.SevenTiedAt
namespace Go.Proofs.YthpgfmmpjoodkaaGreatDoor
open Go.ChangeShapes Go.WideShapes Go.ChangeAt Go.WideMaps Go.WideElems Go.RowKit
theorem coreClosesFn : Tryz.prog.funcNamed Rows.coreClosesRow.func = some 4 := by kernel_rfl
theorem coreClosesPlace : Tryz.prog.inPlace 4 = Rows.coreClosesRow.inPlace := by kernel_rfl
theorem coreClosesUnf : Tryz.prog.unfollowed 4 = Rows.coreClosesRow.unfollowed := by kernel_rfl
end Go.Proofs.YthpgfmmpjoodkaaGreatDoor

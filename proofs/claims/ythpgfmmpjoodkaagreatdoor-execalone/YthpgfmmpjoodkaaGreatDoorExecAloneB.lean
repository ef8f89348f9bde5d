/- Facts of 'ExecAlone' over the program. -/
import Derived.Test.YthpgfmmpjoodkaaGreatDoorRows
import Derived.ProofKit
import Derived.Stop.Joined
import Derived.SevenTiedAt
namespace Go.Proofs.YthpgfmmpjoodkaaGreatDoor
open Go.ChangeShapes Go.WideShapes Go.ChangeAt Go.WideMaps Go.WideElems Go.RowKit
theorem execAloneFn : Tryz.prog.funcNamed Rows.execAloneRow.func = some 5 := by kernel_rfl
theorem execAlonePlace : Tryz.prog.inPlace 5 = Rows.execAloneRow.inPlace := by kernel_rfl
theorem execAloneUnf : Tryz.prog.unfollowed 5 = Rows.execAloneRow.unfollowed := by kernel_rfl
end Go.Proofs.YthpgfmmpjoodkaaGreatDoor

/- Facts of 'ExecDid' over the program. -/
import Derived.Test.YthpgfmmpjoodkaaGreatDoorRows
import Derived.ProofKit
import Derived.Stop.Joined
import Derived.SevenTiedAt
namespace Go.Proofs.YthpgfmmpjoodkaaGreatDoor
open Go.ChangeShapes Go.WideShapes Go.ChangeAt Go.WideMaps Go.WideElems Go.RowKit
theorem execDidFn : Tryz.prog.funcNamed Rows.execDidRow.func = some 6 := by kernel_rfl
theorem execDidPlace : Tryz.prog.inPlace 6 = Rows.execDidRow.inPlace := by kernel_rfl
theorem execDidUnf : Tryz.prog.unfollowed 6 = Rows.execDidRow.unfollowed := by kernel_rfl
end Go.Proofs.YthpgfmmpjoodkaaGreatDoor

/- Facts of 'WorkMisses' over the program. -/
import Derived.Test.YtdboknkfhbhniaaGreatDoorRows
import Derived.ProofKit
import Derived.Stop.Joined
import Derived.SevenTiedAt
namespace Go.Proofs.YtdboknkfhbhniaaGreatDoor
open Go.ChangeShapes Go.WideShapes Go.ChangeAt Go.WideMaps Go.WideElems Go.RowKit
theorem workMissesFn : Tryz.prog.funcNamed Rows.workMissesRow.func = some 5 := by kernel_rfl
theorem workMissesPlace : Tryz.prog.inPlace 5 = Rows.workMissesRow.inPlace := by kernel_rfl
theorem workMissesUnf : Tryz.prog.unfollowed 5 = Rows.workMissesRow.unfollowed := by kernel_rfl
end Go.Proofs.YtdboknkfhbhniaaGreatDoor

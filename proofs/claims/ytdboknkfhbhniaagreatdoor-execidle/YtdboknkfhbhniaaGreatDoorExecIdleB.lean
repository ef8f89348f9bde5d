/- Facts of 'ExecIdle' over the program. -/
import Derived.Test.YtdboknkfhbhniaaGreatDoorRows
import Derived.ProofKit
import Derived.Stop.Joined
import Derived.SevenTiedAt
namespace Go.Proofs.YtdboknkfhbhniaaGreatDoor
open Go.ChangeShapes Go.WideShapes Go.ChangeAt Go.WideMaps Go.WideElems Go.RowKit
theorem execIdleFn : Tryz.prog.funcNamed Rows.execIdleRow.func = some 6 := by kernel_rfl
theorem execIdlePlace : Tryz.prog.inPlace 6 = Rows.execIdleRow.inPlace := by kernel_rfl
theorem execIdleUnf : Tryz.prog.unfollowed 6 = Rows.execIdleRow.unfollowed := by kernel_rfl
end Go.Proofs.YtdboknkfhbhniaaGreatDoor

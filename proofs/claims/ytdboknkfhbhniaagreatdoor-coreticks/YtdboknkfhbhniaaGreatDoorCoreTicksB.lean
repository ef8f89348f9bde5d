/- Facts of 'CoreTicks' over the program. -/
import Derived.Test.YtdboknkfhbhniaaGreatDoorRows
import Derived.ProofKit
import Derived.Stop.Joined
import Derived.SevenTiedAt
namespace Go.Proofs.YtdboknkfhbhniaaGreatDoor
open Go.ChangeShapes Go.WideShapes Go.ChangeAt Go.WideMaps Go.WideElems Go.RowKit
theorem coreTicksFn : Tryz.prog.funcNamed Rows.coreTicksRow.func = some 3 := by kernel_rfl
theorem coreTicksPlace : Tryz.prog.inPlace 3 = Rows.coreTicksRow.inPlace := by kernel_rfl
theorem coreTicksUnf : Tryz.prog.unfollowed 3 = Rows.coreTicksRow.unfollowed := by kernel_rfl
end Go.Proofs.YtdboknkfhbhniaaGreatDoor

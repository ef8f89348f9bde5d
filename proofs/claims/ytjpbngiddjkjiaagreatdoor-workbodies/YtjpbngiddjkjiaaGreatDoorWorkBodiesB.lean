/- Facts of 'WorkBodies' over the program. -/
import Derived.Test.YtjpbngiddjkjiaaGreatDoorRows
import Derived.ProofKit
import Derived.Stop.Joined
import Derived.SevenTiedAt
namespace Go.Proofs.YtjpbngiddjkjiaaGreatDoor
open Go.ChangeShapes Go.WideShapes Go.ChangeAt Go.WideMaps Go.WideElems Go.RowKit
theorem workBodiesFn : Tryz.prog.funcNamed Rows.workBodiesRow.func = some 3 := by kernel_rfl
theorem workBodiesPlace : Tryz.prog.inPlace 3 = Rows.workBodiesRow.inPlace := by kernel_rfl
theorem workBodiesUnf : Tryz.prog.unfollowed 3 = Rows.workBodiesRow.unfollowed := by kernel_rfl
end Go.Proofs.YtjpbngiddjkjiaaGreatDoor

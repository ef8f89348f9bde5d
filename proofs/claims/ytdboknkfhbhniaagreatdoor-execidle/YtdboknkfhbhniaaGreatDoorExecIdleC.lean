/- Facts of 'ExecIdle' over the program. -/
import Derived.Test.YtdboknkfhbhniaaGreatDoorRows
import Derived.ProofKit
import Derived.Stop.Joined
import Derived.SevenTiedAt
namespace Go.Proofs.YtdboknkfhbhniaaGreatDoor
open Go.ChangeShapes Go.WideShapes Go.ChangeAt Go.WideMaps Go.WideElems Go.RowKit
theorem execIdleRec : Tryz.prog.recurses 6 = Rows.execIdleRow.recurses := by kernel_rfl
theorem execIdleNamed : Tryz.prog.varsNamed 6 = Rows.execIdleRow.named := by kernel_rfl
theorem execIdleGoes : false = Rows.execIdleRow.goesBy Tryz.prog := by kernel_rfl
end Go.Proofs.YtdboknkfhbhniaaGreatDoor

/- Facts of 'WorkMisses' over the program. -/
import Derived.Test.YtdboknkfhbhniaaGreatDoorRows
import Derived.ProofKit
import Derived.Stop.Joined
import Derived.SevenTiedAt
namespace Go.Proofs.YtdboknkfhbhniaaGreatDoor
open Go.ChangeShapes Go.WideShapes Go.ChangeAt Go.WideMaps Go.WideElems Go.RowKit
theorem workMissesRec : Tryz.prog.recurses 5 = Rows.workMissesRow.recurses := by kernel_rfl
theorem workMissesNamed : Tryz.prog.varsNamed 5 = Rows.workMissesRow.named := by kernel_rfl
theorem workMissesGoes : false = Rows.workMissesRow.goesBy Tryz.prog := by kernel_rfl
end Go.Proofs.YtdboknkfhbhniaaGreatDoor

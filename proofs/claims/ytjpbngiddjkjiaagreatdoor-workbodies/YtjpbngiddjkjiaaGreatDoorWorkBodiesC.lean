/- Facts of 'WorkBodies' over the program. -/
import Derived.Test.YtjpbngiddjkjiaaGreatDoorRows
import Derived.ProofKit
import Derived.Stop.Joined
import Derived.SevenTiedAt
namespace Go.Proofs.YtjpbngiddjkjiaaGreatDoor
open Go.ChangeShapes Go.WideShapes Go.ChangeAt Go.WideMaps Go.WideElems Go.RowKit
theorem workBodiesRec : Tryz.prog.recurses 3 = Rows.workBodiesRow.recurses := by kernel_rfl
theorem workBodiesNamed : Tryz.prog.varsNamed 3 = Rows.workBodiesRow.named := by kernel_rfl
theorem workBodiesGoes : false = Rows.workBodiesRow.goesBy Tryz.prog := by kernel_rfl
end Go.Proofs.YtjpbngiddjkjiaaGreatDoor

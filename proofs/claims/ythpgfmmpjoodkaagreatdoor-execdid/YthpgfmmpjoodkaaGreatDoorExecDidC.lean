/- Facts of 'ExecDid' over the program. -/
import Derived.Test.YthpgfmmpjoodkaaGreatDoorRows
import Derived.ProofKit
import Derived.Stop.Joined
import Derived.SevenTiedAt
namespace Go.Proofs.YthpgfmmpjoodkaaGreatDoor
open Go.ChangeShapes Go.WideShapes Go.ChangeAt Go.WideMaps Go.WideElems Go.RowKit
theorem execDidRec : Tryz.prog.recurses 6 = Rows.execDidRow.recurses := by kernel_rfl
theorem execDidNamed : Tryz.prog.varsNamed 6 = Rows.execDidRow.named := by kernel_rfl
theorem execDidGoes : false = Rows.execDidRow.goesBy Tryz.prog := by kernel_rfl
end Go.Proofs.YthpgfmmpjoodkaaGreatDoor

/- Facts of 'ExecAlone' over the program. -/
import Derived.Test.YthpgfmmpjoodkaaGreatDoorRows
import Derived.ProofKit
import Derived.Stop.Joined
import Derived.SevenTiedAt
namespace Go.Proofs.YthpgfmmpjoodkaaGreatDoor
open Go.ChangeShapes Go.WideShapes Go.ChangeAt Go.WideMaps Go.WideElems Go.RowKit
theorem execAloneRec : Tryz.prog.recurses 5 = Rows.execAloneRow.recurses := by kernel_rfl
theorem execAloneNamed : Tryz.prog.varsNamed 5 = Rows.execAloneRow.named := by kernel_rfl
theorem execAloneGoes : false = Rows.execAloneRow.goesBy Tryz.prog := by kernel_rfl
end Go.Proofs.YthpgfmmpjoodkaaGreatDoor

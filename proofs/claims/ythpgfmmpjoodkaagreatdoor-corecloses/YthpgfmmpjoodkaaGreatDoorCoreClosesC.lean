/- Facts of 'CoreCloses' over the program. -/
import Derived.Test.YthpgfmmpjoodkaaGreatDoorRows
import Derived.ProofKit
import Derived.Stop.Joined
import Derived.SevenTiedAt
namespace Go.Proofs.YthpgfmmpjoodkaaGreatDoor
open Go.ChangeShapes Go.WideShapes Go.ChangeAt Go.WideMaps Go.WideElems Go.RowKit
theorem coreClosesRec : Tryz.prog.recurses 4 = Rows.coreClosesRow.recurses := by kernel_rfl
theorem coreClosesNamed : Tryz.prog.varsNamed 4 = Rows.coreClosesRow.named := by kernel_rfl
theorem coreClosesGoes : false = Rows.coreClosesRow.goesBy Tryz.prog := by kernel_rfl
end Go.Proofs.YthpgfmmpjoodkaaGreatDoor

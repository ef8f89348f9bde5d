/- Facts of 'CoreWaits' over the program. -/
import Derived.Test.YthpgfmmpjoodkaaGreatDoorRows
import Derived.ProofKit
import Derived.Stop.Joined
import Derived.SevenTiedAt
namespace Go.Proofs.YthpgfmmpjoodkaaGreatDoor
open Go.ChangeShapes Go.WideShapes Go.ChangeAt Go.WideMaps Go.WideElems Go.RowKit
theorem coreWaitsRec : Tryz.prog.recurses 3 = Rows.coreWaitsRow.recurses := by kernel_rfl
theorem coreWaitsNamed : Tryz.prog.varsNamed 3 = Rows.coreWaitsRow.named := by kernel_rfl
theorem coreWaitsGoes : false = Rows.coreWaitsRow.goesBy Tryz.prog := by kernel_rfl
end Go.Proofs.YthpgfmmpjoodkaaGreatDoor

/- Facts of 'CoreTicks' over the program. -/
import Derived.Test.YtdboknkfhbhniaaGreatDoorRows
import Derived.ProofKit
import Derived.Stop.Joined
import Derived.SevenTiedAt
namespace Go.Proofs.YtdboknkfhbhniaaGreatDoor
open Go.ChangeShapes Go.WideShapes Go.ChangeAt Go.WideMaps Go.WideElems Go.RowKit
theorem coreTicksRec : Tryz.prog.recurses 3 = Rows.coreTicksRow.recurses := by kernel_rfl
theorem coreTicksNamed : Tryz.prog.varsNamed 3 = Rows.coreTicksRow.named := by kernel_rfl
theorem coreTicksGoes : false = Rows.coreTicksRow.goesBy Tryz.prog := by kernel_rfl
end Go.Proofs.YtdboknkfhbhniaaGreatDoor

/- Facts of 'CoreKeys' over the program. -/
import Derived.Test.YtjnpmipbkiambaaGreatDoorRows
import Derived.ProofKit
import Derived.Stop.Joined
import Derived.SevenTiedAt
namespace Go.Proofs.YtjnpmipbkiambaaGreatDoor
open Go.ChangeShapes Go.WideShapes Go.ChangeAt Go.WideMaps Go.WideElems Go.RowKit
theorem coreKeysRec : Tryz.prog.recurses 3 = Rows.coreKeysRow.recurses := by kernel_rfl
theorem coreKeysNamed : Tryz.prog.varsNamed 3 = Rows.coreKeysRow.named := by kernel_rfl
theorem coreKeysGoes : false = Rows.coreKeysRow.goesBy Tryz.prog := by kernel_rfl
end Go.Proofs.YtjnpmipbkiambaaGreatDoor

/- Facts of 'CoreKeys' over the program. -/
import Derived.Test.YtjnpmipbkiambaaGreatDoorRows
import Derived.ProofKit
import Derived.Stop.Joined
import Derived.SevenTiedAt
namespace Go.Proofs.YtjnpmipbkiambaaGreatDoor
open Go.ChangeShapes Go.WideShapes Go.ChangeAt Go.WideMaps Go.WideElems Go.RowKit
theorem coreKeysFn : Tryz.prog.funcNamed Rows.coreKeysRow.func = some 3 := by kernel_rfl
theorem coreKeysPlace : Tryz.prog.inPlace 3 = Rows.coreKeysRow.inPlace := by kernel_rfl
theorem coreKeysUnf : Tryz.prog.unfollowed 3 = Rows.coreKeysRow.unfollowed := by kernel_rfl
end Go.Proofs.YtjnpmipbkiambaaGreatDoor

import Derived.Test.YtjpmepfbpfkmoaaGreatDoorRRows
import Derived.ProofKit
import Derived.Stop.Joined
import Derived.SevenTiedAt
namespace Go.Proofs.YtjpmepfbpfkmoaaGreatDoorR
open Go.ChangeShapes Go.WideShapes Go.ChangeAt Go.WideMaps Go.WideElems Go.RowKit
theorem coreFullsFn:Tryz.prog.funcNamed Rows.coreFullsRow.func=some 3:=by kernel_rfl
theorem coreFullsPlace:Tryz.prog.inPlace 3=Rows.coreFullsRow.inPlace:=by kernel_rfl
theorem coreFullsUnf:Tryz.prog.unfollowed 3=Rows.coreFullsRow.unfollowed:=by kernel_rfl
end Go.Proofs.YtjpmepfbpfkmoaaGreatDoorR

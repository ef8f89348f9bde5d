import Derived.Test.YtjpmepfbpfkmoaaGreatDoorRRows
import Derived.ProofKit
import Derived.Stop.Joined
import Derived.SevenTiedAt
namespace Go.Proofs.YtjpmepfbpfkmoaaGreatDoorR
open Go.ChangeShapes Go.WideShapes Go.ChangeAt Go.WideMaps Go.WideElems Go.RowKit
theorem coreFullsRec:Tryz.prog.recurses 3=Rows.coreFullsRow.recurses:=by kernel_rfl
theorem coreFullsNamed:Tryz.prog.varsNamed 3=Rows.coreFullsRow.named:=by kernel_rfl
theorem coreFullsGoes:false=Rows.coreFullsRow.goesBy Tryz.prog:=by kernel_rfl
end Go.Proofs.YtjpmepfbpfkmoaaGreatDoorR

/- Facts of the whole program, each alone. -/
import Derived.Test.YtjpbngiddjkjiaaGreatDoorRows
import Derived.ProofKit
import Derived.Stop.Joined
import Derived.SevenTiedAt
namespace Go.Proofs.YtjpbngiddjkjiaaGreatDoor
open Go.ChangeShapes Go.WideShapes Go.ChangeAt Go.WideMaps Go.WideElems Go.RowKit
theorem fRowed : mapsRowed Tryz.prog = true := by kernel_rfl
theorem fHeard : Tryz.prog.stopsHeard = true := by kernel_rfl
theorem fLifts : Tryz.prog.liftsFinal = false := by kernel_rfl
theorem fMake : Tryz.prog.make = some Rows.workBodiesRow.make := by kernel_rfl
theorem fMay : Tryz.prog.mayEnter = true := by kernel_rfl
theorem fLooks : false = Tryz.prog.looks [] := by kernel_rfl
end Go.Proofs.YtjpbngiddjkjiaaGreatDoor

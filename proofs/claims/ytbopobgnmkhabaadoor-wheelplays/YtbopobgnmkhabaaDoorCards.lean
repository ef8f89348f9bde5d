/-
  DERIVED. GIVEN WITH THE SEED: THE CARDS: each row of YtbopobgnmkhabaaDoorRows.lean that lists a variable, with what it lists TIED to the program's text (the seventh form; the later family's looks); each row that meets fmt, with fmt's text TOLD by the authors' own Lean function (tested against real Go, not proved from fmt's source: count such statements apart). THE CARD IS WHAT COUNTS. Prove the row's statement (the work); the ties are given (YtbopobgnmkhabaaDoorTie.lean); close each card by the builder's one call (the guide's Derived/Test/ToyasCard.lean, 'card_holds'). Laid BY PROGRAM, IN A SANDBOX (cutbox-door.mjs). By AI agents, Wed Nov 11 2026. No macro, syntax, notation, axiom, sorry.
-/
import Derived.Test.YtbopobgnmkhabaaDoorRows
import GoSem.ClaimSeven
namespace Go.Proofs.YtbopobgnmkhabaaDoor
namespace Rows

/-- THE TIED CARD OF 'vergerlaw12.WheelCuts'. -/
def wheelCutsCard : Claim7 := { stood := { row := wheelCutsRow, standIns := [], harness := (true, "be030fa9fd6f5ba0de5ff39a3ad8145533dcf5b4f7df01c54f2d9ae1bb2e5d27"), looks := false }, kinds := [], alts := [], laidByText := true, laidKinds := [.data], laidTests := true, laidLooks := .later }
def WheelCutsCardSaid : Prop := Claim7.holds Tryd.pinned (.plain (OpenSpec.ofChange wheelCutsSpec)) wheelCutsCard

/-- THE TIED CARD OF 'vergerlaw12.WheelStops'. -/
def wheelStopsCard : Claim7 := { stood := { row := wheelStopsRow, standIns := [], harness := (true, "be030fa9fd6f5ba0de5ff39a3ad8145533dcf5b4f7df01c54f2d9ae1bb2e5d27"), looks := false }, kinds := [], alts := [], laidByText := true, laidKinds := [.data], laidTests := true, laidLooks := .later }
def WheelStopsCardSaid : Prop := Claim7.holds Tryd.pinned (.plain (OpenSpec.ofChange wheelStopsSpec)) wheelStopsCard

/-- THE TIED CARD OF 'vergerlaw12.WheelFills'. -/
def wheelFillsCard : Claim7 := { stood := { row := wheelFillsRow, standIns := [], harness := (true, "be030fa9fd6f5ba0de5ff39a3ad8145533dcf5b4f7df01c54f2d9ae1bb2e5d27"), looks := false }, kinds := [], alts := [], laidByText := true, laidKinds := [.data], laidTests := true, laidLooks := .later }
def WheelFillsCardSaid : Prop := Claim7.holds Tryd.pinned (.plain (OpenSpec.ofChange wheelFillsSpec)) wheelFillsCard

/-- THE TIED CARD OF 'vergerlaw12.WheelPlays'. -/
def wheelPlaysCard : Claim7 := { stood := { row := wheelPlaysRow, standIns := [], harness := (true, "be030fa9fd6f5ba0de5ff39a3ad8145533dcf5b4f7df01c54f2d9ae1bb2e5d27"), looks := false }, kinds := [], alts := [], laidByText := true, laidKinds := [.data], laidTests := true, laidLooks := .later }
def WheelPlaysCardSaid : Prop := Claim7.holds Tryd.pinned (.plain (OpenSpec.ofChange wheelPlaysSpec)) wheelPlaysCard

/-- THE TIED CARD OF 'vergerlaw12.WheelOnce'. -/
def wheelOnceCard : Claim7 := { stood := { row := wheelOnceRow, standIns := [], harness := (true, "be030fa9fd6f5ba0de5ff39a3ad8145533dcf5b4f7df01c54f2d9ae1bb2e5d27"), looks := false }, kinds := [], alts := [], laidByText := true, laidKinds := [.data], laidTests := true, laidLooks := .later }
def WheelOnceCardSaid : Prop := Claim7.holds Tryd.pinned (.plain (OpenSpec.ofChange wheelOnceSpec)) wheelOnceCard

/-- THE TIED CARD OF 'vergerlaw12.WheelFar'. -/
def wheelFarCard : Claim7 := { stood := { row := wheelFarRow, standIns := [], harness := (true, "be030fa9fd6f5ba0de5ff39a3ad8145533dcf5b4f7df01c54f2d9ae1bb2e5d27"), looks := false }, kinds := [], alts := [], laidByText := true, laidKinds := [.data], laidTests := true, laidLooks := .later }
def WheelFarCardSaid : Prop := Claim7.holds Tryd.pinned (.plain (OpenSpec.ofChange wheelFarSpec)) wheelFarCard

/-- THE SECOND FORM's CARD OF 'vergerlaw12.WheelCuts'. -/
def wheelCutsUptoCard : Claim7 := { stood := { row := wheelCutsUptoRow, standIns := [], harness := (true, "be030fa9fd6f5ba0de5ff39a3ad8145533dcf5b4f7df01c54f2d9ae1bb2e5d27"), looks := false }, kinds := [], alts := [], laidByText := true, laidKinds := [.data], laidTests := true, laidLooks := .later }
def WheelCutsUptoCardSaid : Prop := Claim7.holds Tryd.pinned (.plain (OpenSpec.upto wheelCutsSpec)) wheelCutsUptoCard

/-- THE SECOND FORM's CARD OF 'vergerlaw12.WheelStops'. -/
def wheelStopsUptoCard : Claim7 := { stood := { row := wheelStopsUptoRow, standIns := [], harness := (true, "be030fa9fd6f5ba0de5ff39a3ad8145533dcf5b4f7df01c54f2d9ae1bb2e5d27"), looks := false }, kinds := [], alts := [], laidByText := true, laidKinds := [.data], laidTests := true, laidLooks := .later }
def WheelStopsUptoCardSaid : Prop := Claim7.holds Tryd.pinned (.plain (OpenSpec.upto wheelStopsSpec)) wheelStopsUptoCard

/-- THE SECOND FORM's CARD OF 'vergerlaw12.WheelFills'. -/
def wheelFillsUptoCard : Claim7 := { stood := { row := wheelFillsUptoRow, standIns := [], harness := (true, "be030fa9fd6f5ba0de5ff39a3ad8145533dcf5b4f7df01c54f2d9ae1bb2e5d27"), looks := false }, kinds := [], alts := [], laidByText := true, laidKinds := [.data], laidTests := true, laidLooks := .later }
def WheelFillsUptoCardSaid : Prop := Claim7.holds Tryd.pinned (.plain (OpenSpec.upto wheelFillsSpec)) wheelFillsUptoCard

/-- THE SECOND FORM's CARD OF 'vergerlaw12.WheelPlays'. -/
def wheelPlaysUptoCard : Claim7 := { stood := { row := wheelPlaysUptoRow, standIns := [], harness := (true, "be030fa9fd6f5ba0de5ff39a3ad8145533dcf5b4f7df01c54f2d9ae1bb2e5d27"), looks := false }, kinds := [], alts := [], laidByText := true, laidKinds := [.data], laidTests := true, laidLooks := .later }
def WheelPlaysUptoCardSaid : Prop := Claim7.holds Tryd.pinned (.plain (OpenSpec.upto wheelPlaysSpec)) wheelPlaysUptoCard

/-- THE SECOND FORM's CARD OF 'vergerlaw12.WheelOnce'. -/
def wheelOnceUptoCard : Claim7 := { stood := { row := wheelOnceUptoRow, standIns := [], harness := (true, "be030fa9fd6f5ba0de5ff39a3ad8145533dcf5b4f7df01c54f2d9ae1bb2e5d27"), looks := false }, kinds := [], alts := [], laidByText := true, laidKinds := [.data], laidTests := true, laidLooks := .later }
def WheelOnceUptoCardSaid : Prop := Claim7.holds Tryd.pinned (.plain (OpenSpec.upto wheelOnceSpec)) wheelOnceUptoCard

/-- THE SECOND FORM's CARD OF 'vergerlaw12.WheelFar'. -/
def wheelFarUptoCard : Claim7 := { stood := { row := wheelFarUptoRow, standIns := [], harness := (true, "be030fa9fd6f5ba0de5ff39a3ad8145533dcf5b4f7df01c54f2d9ae1bb2e5d27"), looks := false }, kinds := [], alts := [], laidByText := true, laidKinds := [.data], laidTests := true, laidLooks := .later }
def WheelFarUptoCardSaid : Prop := Claim7.holds Tryd.pinned (.plain (OpenSpec.upto wheelFarSpec)) wheelFarUptoCard
end Rows
end Go.Proofs.YtbopobgnmkhabaaDoor

/-
  DERIVED. GIVEN WITH THE SEED: THE CARDS: each row of YtjpmepfbpfkmoaaGreatDoorRRows.lean that lists a variable, with what it lists TIED to the program's text (the seventh form; the later family's looks); each row that meets fmt, with fmt's text TOLD by the authors' own Lean function (tested against real Go, not proved from fmt's source: count such statements apart). THE CARD IS WHAT COUNTS. Prove the row's statement (the work); the ties are given (YtjpmepfbpfkmoaaGreatDoorRTie.lean); close each card by the builder's one call (the guide's Derived/Test/ToyasCard.lean, 'card_holds'). Laid BY PROGRAM, IN A SANDBOX (cutbox-door.mjs). By AI agents, Wed Nov 11 2026. No macro, syntax, notation, axiom, sorry.
-/
import Derived.Test.YtjpmepfbpfkmoaaGreatDoorRRows
import GoSem.ClaimSeven
namespace Go.Proofs.YtjpmepfbpfkmoaaGreatDoorR
namespace Rows

/-- THE TIED CARD OF 'vergerlaw18.CoreFulls'. -/
def coreFullsCard : Claim7 := { stood := { row := coreFullsRow, standIns := [], harness := (true, "bdf528471bfdda2661d1d52622fa937b2a75dfb56b264d05e2efb6a12fd21aa8"), looks := false }, kinds := [], alts := [], laidByText := true, laidKinds := [.data], laidTests := true, laidLooks := .later }
def CoreFullsCardSaid : Prop := Claim7.holds Tryz.pinned (.plain (OpenSpec.ofChange coreFullsSpec)) coreFullsCard

/-- THE TIED CARD OF 'vergerlaw18.CoreTicks'. -/
def coreTicksCard : Claim7 := { stood := { row := coreTicksRow, standIns := [], harness := (true, "bdf528471bfdda2661d1d52622fa937b2a75dfb56b264d05e2efb6a12fd21aa8"), looks := false }, kinds := [], alts := [], laidByText := true, laidKinds := [.data, .data], laidTests := true, laidLooks := .later }
def CoreTicksCardSaid : Prop := Claim7.holds Tryz.pinned (.plain (OpenSpec.ofChange coreTicksSpec)) coreTicksCard

/-- THE TIED CARD OF 'vergerlaw18.CoreWaits'. -/
def coreWaitsCard : Claim7 := { stood := { row := coreWaitsRow, standIns := [], harness := (true, "bdf528471bfdda2661d1d52622fa937b2a75dfb56b264d05e2efb6a12fd21aa8"), looks := false }, kinds := [], alts := [], laidByText := true, laidKinds := [.data], laidTests := true, laidLooks := .later }
def CoreWaitsCardSaid : Prop := Claim7.holds Tryz.pinned (.plain (OpenSpec.ofChange coreWaitsSpec)) coreWaitsCard

/-- THE TIED CARD OF 'vergerlaw19.WorkMisses'. -/
def workMissesCard : Claim7 := { stood := { row := workMissesRow, standIns := [], harness := (true, "bdf528471bfdda2661d1d52622fa937b2a75dfb56b264d05e2efb6a12fd21aa8"), looks := false }, kinds := [], alts := [], laidByText := true, laidKinds := [.data], laidTests := true, laidLooks := .later }
def WorkMissesCardSaid : Prop := Claim7.holds Tryz.pinned (.plain (OpenSpec.ofChange workMissesSpec)) workMissesCard

/-- THE TIED CARD OF 'vergerlaw19.WorkBodies'. -/
def workBodiesCard : Claim7 := { stood := { row := workBodiesRow, standIns := [], harness := (true, "bdf528471bfdda2661d1d52622fa937b2a75dfb56b264d05e2efb6a12fd21aa8"), looks := false }, kinds := [], alts := [], laidByText := true, laidKinds := [.data], laidTests := true, laidLooks := .later }
def WorkBodiesCardSaid : Prop := Claim7.holds Tryz.pinned (.plain (OpenSpec.ofChange workBodiesSpec)) workBodiesCard

/-- THE SECOND FORM's CARD OF 'vergerlaw18.CoreFulls'. -/
def coreFullsUptoCard : Claim7 := { stood := { row := coreFullsUptoRow, standIns := [], harness := (true, "bdf528471bfdda2661d1d52622fa937b2a75dfb56b264d05e2efb6a12fd21aa8"), looks := false }, kinds := [], alts := [], laidByText := true, laidKinds := [.data], laidTests := true, laidLooks := .later }
def CoreFullsUptoCardSaid : Prop := Claim7.holds Tryz.pinned (.plain (OpenSpec.upto coreFullsSpec)) coreFullsUptoCard

/-- THE SECOND FORM's CARD OF 'vergerlaw18.CoreTicks'. -/
def coreTicksUptoCard : Claim7 := { stood := { row := coreTicksUptoRow, standIns := [], harness := (true, "bdf528471bfdda2661d1d52622fa937b2a75dfb56b264d05e2efb6a12fd21aa8"), looks := false }, kinds := [], alts := [], laidByText := true, laidKinds := [.data, .data], laidTests := true, laidLooks := .later }
def CoreTicksUptoCardSaid : Prop := Claim7.holds Tryz.pinned (.plain (OpenSpec.upto coreTicksSpec)) coreTicksUptoCard

/-- THE SECOND FORM's CARD OF 'vergerlaw18.CoreWaits'. -/
def coreWaitsUptoCard : Claim7 := { stood := { row := coreWaitsUptoRow, standIns := [], harness := (true, "bdf528471bfdda2661d1d52622fa937b2a75dfb56b264d05e2efb6a12fd21aa8"), looks := false }, kinds := [], alts := [], laidByText := true, laidKinds := [.data], laidTests := true, laidLooks := .later }
def CoreWaitsUptoCardSaid : Prop := Claim7.holds Tryz.pinned (.plain (OpenSpec.upto coreWaitsSpec)) coreWaitsUptoCard

/-- THE SECOND FORM's CARD OF 'vergerlaw19.WorkMisses'. -/
def workMissesUptoCard : Claim7 := { stood := { row := workMissesUptoRow, standIns := [], harness := (true, "bdf528471bfdda2661d1d52622fa937b2a75dfb56b264d05e2efb6a12fd21aa8"), looks := false }, kinds := [], alts := [], laidByText := true, laidKinds := [.data], laidTests := true, laidLooks := .later }
def WorkMissesUptoCardSaid : Prop := Claim7.holds Tryz.pinned (.plain (OpenSpec.upto workMissesSpec)) workMissesUptoCard

/-- THE SECOND FORM's CARD OF 'vergerlaw19.WorkBodies'. -/
def workBodiesUptoCard : Claim7 := { stood := { row := workBodiesUptoRow, standIns := [], harness := (true, "bdf528471bfdda2661d1d52622fa937b2a75dfb56b264d05e2efb6a12fd21aa8"), looks := false }, kinds := [], alts := [], laidByText := true, laidKinds := [.data], laidTests := true, laidLooks := .later }
def WorkBodiesUptoCardSaid : Prop := Claim7.holds Tryz.pinned (.plain (OpenSpec.upto workBodiesSpec)) workBodiesUptoCard
end Rows
end Go.Proofs.YtjpmepfbpfkmoaaGreatDoorR

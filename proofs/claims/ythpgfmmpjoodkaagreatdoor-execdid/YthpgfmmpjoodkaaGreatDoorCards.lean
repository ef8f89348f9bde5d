/-
  DERIVED. GIVEN WITH THE SEED: THE CARDS: each row of YthpgfmmpjoodkaaGreatDoorRows.lean that lists a variable, with what it lists TIED to the program's text (the seventh form; the later family's looks); each row that meets fmt, with fmt's text TOLD by the authors' own Lean function (tested against real Go, not proved from fmt's source: count such statements apart). THE CARD IS WHAT COUNTS. Prove the row's statement (the work); the ties are given (YthpgfmmpjoodkaaGreatDoorTie.lean); close each card by the builder's one call (the guide's Derived/Test/ToyasCard.lean, 'card_holds'). Laid BY PROGRAM, IN A SANDBOX (cutbox-door.mjs). By AI agents, Wed Nov 11 2026. No macro, syntax, notation, axiom, sorry.
-/
import Derived.Test.YthpgfmmpjoodkaaGreatDoorRows
import GoSem.ClaimSeven
namespace Go.Proofs.YthpgfmmpjoodkaaGreatDoor
namespace Rows

/-- THE TIED CARD OF 'vergerlaw18.CoreWaits'. -/
def coreWaitsCard : Claim7 := { stood := { row := coreWaitsRow, standIns := [], harness := (true, "640980438e3fce4a63b8dd1bbed3232fc984b682043c7cc7bb2a89f314f02987"), looks := false }, kinds := [], alts := [], laidByText := true, laidKinds := [.data], laidTests := true, laidLooks := .later }
def CoreWaitsCardSaid : Prop := Claim7.holds Tryz.pinned (.plain (OpenSpec.ofChange coreWaitsSpec)) coreWaitsCard

/-- THE TIED CARD OF 'vergerlaw18.CoreCloses'. -/
def coreClosesCard : Claim7 := { stood := { row := coreClosesRow, standIns := [], harness := (true, "640980438e3fce4a63b8dd1bbed3232fc984b682043c7cc7bb2a89f314f02987"), looks := false }, kinds := [], alts := [], laidByText := true, laidKinds := [.data, .data], laidTests := true, laidLooks := .later }
def CoreClosesCardSaid : Prop := Claim7.holds Tryz.pinned (.plain (OpenSpec.ofChange coreClosesSpec)) coreClosesCard

/-- THE TIED CARD OF 'vergerlaw20.ExecAlone'. -/
def execAloneCard : Claim7 := { stood := { row := execAloneRow, standIns := [], harness := (true, "640980438e3fce4a63b8dd1bbed3232fc984b682043c7cc7bb2a89f314f02987"), looks := false }, kinds := [], alts := [], laidByText := true, laidKinds := [.data], laidTests := true, laidLooks := .later }
def ExecAloneCardSaid : Prop := Claim7.holds Tryz.pinned (.plain (OpenSpec.ofChange execAloneSpec)) execAloneCard

/-- THE TIED CARD OF 'vergerlaw20.ExecDid'. -/
def execDidCard : Claim7 := { stood := { row := execDidRow, standIns := [], harness := (true, "640980438e3fce4a63b8dd1bbed3232fc984b682043c7cc7bb2a89f314f02987"), looks := false }, kinds := [], alts := [], laidByText := true, laidKinds := [.data], laidTests := true, laidLooks := .later }
def ExecDidCardSaid : Prop := Claim7.holds Tryz.pinned (.plain (OpenSpec.ofChange execDidSpec)) execDidCard

/-- THE TIED CARD OF 'vergerlaw19.WorkBodies'. -/
def workBodiesCard : Claim7 := { stood := { row := workBodiesRow, standIns := [], harness := (true, "640980438e3fce4a63b8dd1bbed3232fc984b682043c7cc7bb2a89f314f02987"), looks := false }, kinds := [], alts := [], laidByText := true, laidKinds := [.data], laidTests := true, laidLooks := .later }
def WorkBodiesCardSaid : Prop := Claim7.holds Tryz.pinned (.plain (OpenSpec.ofChange workBodiesSpec)) workBodiesCard

/-- THE SECOND FORM's CARD OF 'vergerlaw18.CoreWaits'. -/
def coreWaitsUptoCard : Claim7 := { stood := { row := coreWaitsUptoRow, standIns := [], harness := (true, "640980438e3fce4a63b8dd1bbed3232fc984b682043c7cc7bb2a89f314f02987"), looks := false }, kinds := [], alts := [], laidByText := true, laidKinds := [.data], laidTests := true, laidLooks := .later }
def CoreWaitsUptoCardSaid : Prop := Claim7.holds Tryz.pinned (.plain (OpenSpec.upto coreWaitsSpec)) coreWaitsUptoCard

/-- THE SECOND FORM's CARD OF 'vergerlaw18.CoreCloses'. -/
def coreClosesUptoCard : Claim7 := { stood := { row := coreClosesUptoRow, standIns := [], harness := (true, "640980438e3fce4a63b8dd1bbed3232fc984b682043c7cc7bb2a89f314f02987"), looks := false }, kinds := [], alts := [], laidByText := true, laidKinds := [.data, .data], laidTests := true, laidLooks := .later }
def CoreClosesUptoCardSaid : Prop := Claim7.holds Tryz.pinned (.plain (OpenSpec.upto coreClosesSpec)) coreClosesUptoCard

/-- THE SECOND FORM's CARD OF 'vergerlaw20.ExecAlone'. -/
def execAloneUptoCard : Claim7 := { stood := { row := execAloneUptoRow, standIns := [], harness := (true, "640980438e3fce4a63b8dd1bbed3232fc984b682043c7cc7bb2a89f314f02987"), looks := false }, kinds := [], alts := [], laidByText := true, laidKinds := [.data], laidTests := true, laidLooks := .later }
def ExecAloneUptoCardSaid : Prop := Claim7.holds Tryz.pinned (.plain (OpenSpec.upto execAloneSpec)) execAloneUptoCard

/-- THE SECOND FORM's CARD OF 'vergerlaw20.ExecDid'. -/
def execDidUptoCard : Claim7 := { stood := { row := execDidUptoRow, standIns := [], harness := (true, "640980438e3fce4a63b8dd1bbed3232fc984b682043c7cc7bb2a89f314f02987"), looks := false }, kinds := [], alts := [], laidByText := true, laidKinds := [.data], laidTests := true, laidLooks := .later }
def ExecDidUptoCardSaid : Prop := Claim7.holds Tryz.pinned (.plain (OpenSpec.upto execDidSpec)) execDidUptoCard

/-- THE SECOND FORM's CARD OF 'vergerlaw19.WorkBodies'. -/
def workBodiesUptoCard : Claim7 := { stood := { row := workBodiesUptoRow, standIns := [], harness := (true, "640980438e3fce4a63b8dd1bbed3232fc984b682043c7cc7bb2a89f314f02987"), looks := false }, kinds := [], alts := [], laidByText := true, laidKinds := [.data], laidTests := true, laidLooks := .later }
def WorkBodiesUptoCardSaid : Prop := Claim7.holds Tryz.pinned (.plain (OpenSpec.upto workBodiesSpec)) workBodiesUptoCard
end Rows
end Go.Proofs.YthpgfmmpjoodkaaGreatDoor

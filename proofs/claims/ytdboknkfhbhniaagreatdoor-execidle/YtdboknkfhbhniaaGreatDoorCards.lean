/-
  DERIVED. GIVEN WITH THE SEED: THE CARDS: each row of YtdboknkfhbhniaaGreatDoorRows.lean that lists a variable, with what it lists TIED to the program's text (the seventh form; the later family's looks); each row that meets fmt, with fmt's text TOLD by the authors' own Lean function (tested against real Go, not proved from fmt's source: count such statements apart). THE CARD IS WHAT COUNTS. Prove the row's statement (the work); the ties are given (YtdboknkfhbhniaaGreatDoorTie.lean); close each card by the builder's one call (the guide's Derived/Test/ToyasCard.lean, 'card_holds'). Laid BY PROGRAM, IN A SANDBOX (cutbox-door.mjs). By AI agents, Wed Nov 11 2026. No macro, syntax, notation, axiom, sorry.
-/
import Derived.Test.YtdboknkfhbhniaaGreatDoorRows
import GoSem.ClaimSeven
namespace Go.Proofs.YtdboknkfhbhniaaGreatDoor
namespace Rows

/-- THE TIED CARD OF 'vergerlaw18.CoreTicks'. -/
def coreTicksCard : Claim7 := { stood := { row := coreTicksRow, standIns := [], harness := (true, "6927b41b39d6b5b084851cf85ddbdf6eaacf9ab1a9d5311813a6d9ce9bb05371"), looks := false }, kinds := [], alts := [], laidByText := true, laidKinds := [.data, .data], laidTests := true, laidLooks := .later }
def CoreTicksCardSaid : Prop := Claim7.holds Tryz.pinned (.plain (OpenSpec.ofChange coreTicksSpec)) coreTicksCard

/-- THE TIED CARD OF 'vergerlaw18.CoreWaits'. -/
def coreWaitsCard : Claim7 := { stood := { row := coreWaitsRow, standIns := [], harness := (true, "6927b41b39d6b5b084851cf85ddbdf6eaacf9ab1a9d5311813a6d9ce9bb05371"), looks := false }, kinds := [], alts := [], laidByText := true, laidKinds := [.data], laidTests := true, laidLooks := .later }
def CoreWaitsCardSaid : Prop := Claim7.holds Tryz.pinned (.plain (OpenSpec.ofChange coreWaitsSpec)) coreWaitsCard

/-- THE TIED CARD OF 'vergerlaw19.WorkMisses'. -/
def workMissesCard : Claim7 := { stood := { row := workMissesRow, standIns := [], harness := (true, "6927b41b39d6b5b084851cf85ddbdf6eaacf9ab1a9d5311813a6d9ce9bb05371"), looks := false }, kinds := [], alts := [], laidByText := true, laidKinds := [.data], laidTests := true, laidLooks := .later }
def WorkMissesCardSaid : Prop := Claim7.holds Tryz.pinned (.plain (OpenSpec.ofChange workMissesSpec)) workMissesCard

/-- THE TIED CARD OF 'vergerlaw20.ExecIdle'. -/
def execIdleCard : Claim7 := { stood := { row := execIdleRow, standIns := [], harness := (true, "6927b41b39d6b5b084851cf85ddbdf6eaacf9ab1a9d5311813a6d9ce9bb05371"), looks := false }, kinds := [], alts := [], laidByText := true, laidKinds := [.data], laidTests := true, laidLooks := .later }
def ExecIdleCardSaid : Prop := Claim7.holds Tryz.pinned (.plain (OpenSpec.ofChange execIdleSpec)) execIdleCard

/-- THE TIED CARD OF 'vergerlaw20.ExecAlone'. -/
def execAloneCard : Claim7 := { stood := { row := execAloneRow, standIns := [], harness := (true, "6927b41b39d6b5b084851cf85ddbdf6eaacf9ab1a9d5311813a6d9ce9bb05371"), looks := false }, kinds := [], alts := [], laidByText := true, laidKinds := [.data], laidTests := true, laidLooks := .later }
def ExecAloneCardSaid : Prop := Claim7.holds Tryz.pinned (.plain (OpenSpec.ofChange execAloneSpec)) execAloneCard

/-- THE SECOND FORM's CARD OF 'vergerlaw18.CoreTicks'. -/
def coreTicksUptoCard : Claim7 := { stood := { row := coreTicksUptoRow, standIns := [], harness := (true, "6927b41b39d6b5b084851cf85ddbdf6eaacf9ab1a9d5311813a6d9ce9bb05371"), looks := false }, kinds := [], alts := [], laidByText := true, laidKinds := [.data, .data], laidTests := true, laidLooks := .later }
def CoreTicksUptoCardSaid : Prop := Claim7.holds Tryz.pinned (.plain (OpenSpec.upto coreTicksSpec)) coreTicksUptoCard

/-- THE SECOND FORM's CARD OF 'vergerlaw18.CoreWaits'. -/
def coreWaitsUptoCard : Claim7 := { stood := { row := coreWaitsUptoRow, standIns := [], harness := (true, "6927b41b39d6b5b084851cf85ddbdf6eaacf9ab1a9d5311813a6d9ce9bb05371"), looks := false }, kinds := [], alts := [], laidByText := true, laidKinds := [.data], laidTests := true, laidLooks := .later }
def CoreWaitsUptoCardSaid : Prop := Claim7.holds Tryz.pinned (.plain (OpenSpec.upto coreWaitsSpec)) coreWaitsUptoCard

/-- THE SECOND FORM's CARD OF 'vergerlaw19.WorkMisses'. -/
def workMissesUptoCard : Claim7 := { stood := { row := workMissesUptoRow, standIns := [], harness := (true, "6927b41b39d6b5b084851cf85ddbdf6eaacf9ab1a9d5311813a6d9ce9bb05371"), looks := false }, kinds := [], alts := [], laidByText := true, laidKinds := [.data], laidTests := true, laidLooks := .later }
def WorkMissesUptoCardSaid : Prop := Claim7.holds Tryz.pinned (.plain (OpenSpec.upto workMissesSpec)) workMissesUptoCard

/-- THE SECOND FORM's CARD OF 'vergerlaw20.ExecIdle'. -/
def execIdleUptoCard : Claim7 := { stood := { row := execIdleUptoRow, standIns := [], harness := (true, "6927b41b39d6b5b084851cf85ddbdf6eaacf9ab1a9d5311813a6d9ce9bb05371"), looks := false }, kinds := [], alts := [], laidByText := true, laidKinds := [.data], laidTests := true, laidLooks := .later }
def ExecIdleUptoCardSaid : Prop := Claim7.holds Tryz.pinned (.plain (OpenSpec.upto execIdleSpec)) execIdleUptoCard

/-- THE SECOND FORM's CARD OF 'vergerlaw20.ExecAlone'. -/
def execAloneUptoCard : Claim7 := { stood := { row := execAloneUptoRow, standIns := [], harness := (true, "6927b41b39d6b5b084851cf85ddbdf6eaacf9ab1a9d5311813a6d9ce9bb05371"), looks := false }, kinds := [], alts := [], laidByText := true, laidKinds := [.data], laidTests := true, laidLooks := .later }
def ExecAloneUptoCardSaid : Prop := Claim7.holds Tryz.pinned (.plain (OpenSpec.upto execAloneSpec)) execAloneUptoCard
end Rows
end Go.Proofs.YtdboknkfhbhniaaGreatDoor

/-
  DERIVED. GIVEN WITH THE SEED: THE CARDS: each row of YtdpljhajgocneabDoorRows.lean that lists a variable, with what it lists TIED to the program's text (the seventh form; the later family's looks); each row that meets fmt, with fmt's text TOLD by the authors' own Lean function (tested against real Go, not proved from fmt's source: count such statements apart). THE CARD IS WHAT COUNTS. Prove the row's statement (the work); the ties are given (YtdpljhajgocneabDoorTie.lean); close each card by the builder's one call (the guide's Derived/Test/ToyasCard.lean, 'card_holds'). Laid BY PROGRAM, IN A SANDBOX (cutbox-door.mjs). By AI agents, Wed Nov 11 2026. No macro, syntax, notation, axiom, sorry.
-/
import Derived.Test.YtdpljhajgocneabDoorRows
import GoSem.ClaimSeven
namespace Go.Proofs.YtdpljhajgocneabDoor
namespace Rows

/-- THE TIED CARD OF 'vergerlaw1.WordRises'. -/
def wordRisesCard : Claim7 := { stood := { row := wordRisesRow, standIns := [], harness := (true, "79aa96b73614b94a68051250528b8cec991183018dea402623d6aec136108591"), looks := false }, kinds := [], alts := [], laidByText := true, laidKinds := [.data], laidTests := true, laidLooks := .later }
def WordRisesCardSaid : Prop := Claim7.holds Tryd.pinned (.plain (OpenSpec.ofChange wordRisesSpec)) wordRisesCard

/-- THE SECOND FORM's CARD OF 'vergerlaw1.WordRises'. -/
def wordRisesUptoCard : Claim7 := { stood := { row := wordRisesUptoRow, standIns := [], harness := (true, "79aa96b73614b94a68051250528b8cec991183018dea402623d6aec136108591"), looks := false }, kinds := [], alts := [], laidByText := true, laidKinds := [.data], laidTests := true, laidLooks := .later }
def WordRisesUptoCardSaid : Prop := Claim7.holds Tryd.pinned (.plain (OpenSpec.upto wordRisesSpec)) wordRisesUptoCard
end Rows
end Go.Proofs.YtdpljhajgocneabDoor

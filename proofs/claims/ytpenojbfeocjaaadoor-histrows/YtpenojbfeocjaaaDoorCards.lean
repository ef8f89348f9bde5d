/-
  DERIVED. GIVEN WITH THE SEED: THE CARDS: each row of YtpenojbfeocjaaaDoorRows.lean that lists a variable, with what it lists TIED to the program's text (the seventh form; the later family's looks); each row that meets fmt, with fmt's text TOLD by the authors' own Lean function (tested against real Go, not proved from fmt's source: count such statements apart). THE CARD IS WHAT COUNTS. Prove the row's statement (the work); the ties are given (YtpenojbfeocjaaaDoorTie.lean); close each card by the builder's one call (the guide's Derived/Test/ToyasCard.lean, 'card_holds'). Laid BY PROGRAM, IN A SANDBOX (cutbox-door.mjs). By AI agents, Wed Nov 11 2026. No macro, syntax, notation, axiom, sorry.
-/
import Derived.Test.YtpenojbfeocjaaaDoorRows
import GoSem.ClaimSeven
namespace Go.Proofs.YtpenojbfeocjaaaDoor
namespace Rows

/-- THE TIED CARD OF 'vergerlaw21.HistRows'. -/
def histRowsCard : Claim7 := { stood := { row := histRowsRow, standIns := [], harness := (true, "b1910ce22e4cf9892f57a10c3c0997e6978326e163286c6f7df77cfe810989c3"), looks := false }, kinds := [], alts := [], laidByText := true, laidKinds := [.data, .data, .data], laidTests := true, laidLooks := .later }
def HistRowsCardSaid : Prop := Claim7.holds Tryd.pinned (.plain (OpenSpec.ofChange histRowsSpec)) histRowsCard

/-- THE SECOND FORM's CARD OF 'vergerlaw21.HistRows'. -/
def histRowsUptoCard : Claim7 := { stood := { row := histRowsUptoRow, standIns := [], harness := (true, "b1910ce22e4cf9892f57a10c3c0997e6978326e163286c6f7df77cfe810989c3"), looks := false }, kinds := [], alts := [], laidByText := true, laidKinds := [.data, .data, .data], laidTests := true, laidLooks := .later }
def HistRowsUptoCardSaid : Prop := Claim7.holds Tryd.pinned (.plain (OpenSpec.upto histRowsSpec)) histRowsUptoCard
end Rows
end Go.Proofs.YtpenojbfeocjaaaDoor

/-
  DERIVED. GIVEN WITH THE SEED: THE CARDS: each row of YtjpbngiddjkjiaaGreatDoorRows.lean that lists a variable, with what it lists TIED to the program's text (the seventh form; the later family's looks); each row that meets fmt, with fmt's text TOLD by the authors' own Lean function (tested against real Go, not proved from fmt's source: count such statements apart). THE CARD IS WHAT COUNTS. Prove the row's statement (the work); the ties are given (YtjpbngiddjkjiaaGreatDoorTie.lean); close each card by the builder's one call (the guide's Derived/Test/ToyasCard.lean, 'card_holds'). Laid BY PROGRAM, IN A SANDBOX (cutbox-door.mjs). By AI agents, Wed Nov 11 2026. No macro, syntax, notation, axiom, sorry.
-/
import Derived.Test.YtjpbngiddjkjiaaGreatDoorRows
import GoSem.ClaimSeven
namespace Go.Proofs.YtjpbngiddjkjiaaGreatDoor
namespace Rows

/-- THE TIED CARD OF 'vergerlaw19.WorkBodies'. -/
def workBodiesCard : Claim7 := { stood := { row := workBodiesRow, standIns := [], harness := (true, "2321751db8c7483df57bc060d5e0fcc90f4d6326955b7b908c56a4a92f214d60"), looks := false }, kinds := [], alts := [], laidByText := true, laidKinds := [.data], laidTests := true, laidLooks := .later }
def WorkBodiesCardSaid : Prop := Claim7.holds Tryz.pinned (.plain (OpenSpec.ofChange workBodiesSpec)) workBodiesCard

/-- THE SECOND FORM's CARD OF 'vergerlaw19.WorkBodies'. -/
def workBodiesUptoCard : Claim7 := { stood := { row := workBodiesUptoRow, standIns := [], harness := (true, "2321751db8c7483df57bc060d5e0fcc90f4d6326955b7b908c56a4a92f214d60"), looks := false }, kinds := [], alts := [], laidByText := true, laidKinds := [.data], laidTests := true, laidLooks := .later }
def WorkBodiesUptoCardSaid : Prop := Claim7.holds Tryz.pinned (.plain (OpenSpec.upto workBodiesSpec)) workBodiesUptoCard
end Rows
end Go.Proofs.YtjpbngiddjkjiaaGreatDoor

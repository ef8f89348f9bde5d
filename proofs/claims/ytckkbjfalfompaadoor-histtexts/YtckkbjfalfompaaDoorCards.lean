/-
  DERIVED. GIVEN WITH THE SEED: THE CARDS: each row of YtckkbjfalfompaaDoorRows.lean that lists a variable, with what it lists TIED to the program's text (the seventh form; the later family's looks); each row that meets fmt, with fmt's text TOLD by the authors' own Lean function (tested against real Go, not proved from fmt's source: count such statements apart). THE CARD IS WHAT COUNTS. Prove the row's statement (the work); the ties are given (YtckkbjfalfompaaDoorTie.lean); close each card by the builder's one call (the guide's Derived/Test/ToyasCard.lean, 'card_holds'). Laid BY PROGRAM, IN A SANDBOX (cutbox-door.mjs). By AI agents, Wed Nov 11 2026. No macro, syntax, notation, axiom, sorry.
-/
import Derived.Test.YtckkbjfalfompaaDoorRows
import GoSem.ClaimSeven
namespace Go.Proofs.YtckkbjfalfompaaDoor
namespace Rows

/-- THE TIED CARD OF 'vergerlaw21.HistRows'. -/
def histRowsCard : Claim7 := { stood := { row := histRowsRow, standIns := [], harness := (true, "a2ba621393b3a81739457e74286335ca6b51594e0fc129329d5297734355a1f7"), looks := false }, kinds := [], alts := [], laidByText := true, laidKinds := [.data, .data, .data], laidTests := true, laidLooks := .later }
def HistRowsCardSaid : Prop := Claim7.holds Tryd.pinned (.plain (OpenSpec.ofChange histRowsSpec)) histRowsCard

/-- THE TIED CARD OF 'vergerlaw21.HistTexts'. -/
def histTextsCard : Claim7 := { stood := { row := histTextsRow, standIns := [], harness := (true, "a2ba621393b3a81739457e74286335ca6b51594e0fc129329d5297734355a1f7"), looks := false }, kinds := [], alts := [], laidByText := true, laidKinds := [.data, .data, .data], laidTests := true, laidLooks := .later }
def HistTextsCardSaid : Prop := Claim7.holds Tryd.pinned (.plain (OpenSpec.ofChange histTextsSpec)) histTextsCard

/-- THE SECOND FORM's CARD OF 'vergerlaw21.HistRows'. -/
def histRowsUptoCard : Claim7 := { stood := { row := histRowsUptoRow, standIns := [], harness := (true, "a2ba621393b3a81739457e74286335ca6b51594e0fc129329d5297734355a1f7"), looks := false }, kinds := [], alts := [], laidByText := true, laidKinds := [.data, .data, .data], laidTests := true, laidLooks := .later }
def HistRowsUptoCardSaid : Prop := Claim7.holds Tryd.pinned (.plain (OpenSpec.upto histRowsSpec)) histRowsUptoCard

/-- THE SECOND FORM's CARD OF 'vergerlaw21.HistTexts'. -/
def histTextsUptoCard : Claim7 := { stood := { row := histTextsUptoRow, standIns := [], harness := (true, "a2ba621393b3a81739457e74286335ca6b51594e0fc129329d5297734355a1f7"), looks := false }, kinds := [], alts := [], laidByText := true, laidKinds := [.data, .data, .data], laidTests := true, laidLooks := .later }
def HistTextsUptoCardSaid : Prop := Claim7.holds Tryd.pinned (.plain (OpenSpec.upto histTextsSpec)) histTextsUptoCard
end Rows
end Go.Proofs.YtckkbjfalfompaaDoor

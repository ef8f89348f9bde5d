/-
  DERIVED. GIVEN WITH THE SEED: THE CARDS: each row of YtoidkiodlfpefaaDoorRows.lean that lists a variable, with what it lists TIED to the program's text (the seventh form; the later family's looks); each row that meets fmt, with fmt's text TOLD by the authors' own Lean function (tested against real Go, not proved from fmt's source: count such statements apart). THE CARD IS WHAT COUNTS. Prove the row's statement (the work); the ties are given (YtoidkiodlfpefaaDoorTie.lean); close each card by the builder's one call (the guide's Derived/Test/ToyasCard.lean, 'card_holds'). Laid BY PROGRAM, IN A SANDBOX (cutbox-door.mjs). By AI agents, Wed Nov 11 2026. No macro, syntax, notation, axiom, sorry.
-/
import Derived.Test.YtoidkiodlfpefaaDoorRows
import GoSem.ClaimSeven
namespace Go.Proofs.YtoidkiodlfpefaaDoor
namespace Rows

/-- THE TIED CARD OF 'vergerlaw16.BodyBounds'. -/
def bodyBoundsCard : Claim7 := { stood := { row := bodyBoundsRow, standIns := [], harness := (true, "34204b3dcfc569ef1a9116e10eed1b300814f71bb57f5f99f0ac426b425c249c"), looks := false }, kinds := [], alts := [], laidByText := true, laidKinds := [.data, .data, .data, .data, .data, .pinned], laidTests := true, laidLooks := .later }
def BodyBoundsCardSaid : Prop := Claim7.holds Tryd.pinned (.plain (OpenSpec.ofChange bodyBoundsSpec)) bodyBoundsCard

/-- THE TIED CARD OF 'vergerlaw16.BodySteps'. -/
def bodyStepsCard : Claim7 := { stood := { row := bodyStepsRow, standIns := [], harness := (true, "34204b3dcfc569ef1a9116e10eed1b300814f71bb57f5f99f0ac426b425c249c"), looks := false }, kinds := [], alts := [], laidByText := true, laidKinds := [.data, .data, .data, .data, .data, .pinned], laidTests := true, laidLooks := .later }
def BodyStepsCardSaid : Prop := Claim7.holds Tryd.pinned (.plain (OpenSpec.ofChange bodyStepsSpec)) bodyStepsCard

/-- THE TIED CARD OF 'vergerlaw16.BodyTexts'. -/
def bodyTextsCard : Claim7 := { stood := { row := bodyTextsRow, standIns := [], harness := (true, "34204b3dcfc569ef1a9116e10eed1b300814f71bb57f5f99f0ac426b425c249c"), looks := false }, kinds := [], alts := [], laidByText := true, laidKinds := [.data, .data, .data, .data, .data, .pinned], laidTests := true, laidLooks := .later }
def BodyTextsCardSaid : Prop := Claim7.holds Tryd.pinned (.plain (OpenSpec.ofChange bodyTextsSpec)) bodyTextsCard

/-- THE TIED CARD OF 'vergerlaw16.BodyParses'. -/
def bodyParsesCard : Claim7 := { stood := { row := bodyParsesRow, standIns := [], harness := (true, "34204b3dcfc569ef1a9116e10eed1b300814f71bb57f5f99f0ac426b425c249c"), looks := false }, kinds := [], alts := [], laidByText := true, laidKinds := [.data, .data, .data, .data, .data, .pinned], laidTests := true, laidLooks := .later }
def BodyParsesCardSaid : Prop := Claim7.holds Tryd.pinned (.plain (OpenSpec.ofChange bodyParsesSpec)) bodyParsesCard

/-- THE SECOND FORM's CARD OF 'vergerlaw16.BodyBounds'. -/
def bodyBoundsUptoCard : Claim7 := { stood := { row := bodyBoundsUptoRow, standIns := [], harness := (true, "34204b3dcfc569ef1a9116e10eed1b300814f71bb57f5f99f0ac426b425c249c"), looks := false }, kinds := [], alts := [], laidByText := true, laidKinds := [.data, .data, .data, .data, .data, .pinned], laidTests := true, laidLooks := .later }
def BodyBoundsUptoCardSaid : Prop := Claim7.holds Tryd.pinned (.plain (OpenSpec.upto bodyBoundsSpec)) bodyBoundsUptoCard

/-- THE SECOND FORM's CARD OF 'vergerlaw16.BodySteps'. -/
def bodyStepsUptoCard : Claim7 := { stood := { row := bodyStepsUptoRow, standIns := [], harness := (true, "34204b3dcfc569ef1a9116e10eed1b300814f71bb57f5f99f0ac426b425c249c"), looks := false }, kinds := [], alts := [], laidByText := true, laidKinds := [.data, .data, .data, .data, .data, .pinned], laidTests := true, laidLooks := .later }
def BodyStepsUptoCardSaid : Prop := Claim7.holds Tryd.pinned (.plain (OpenSpec.upto bodyStepsSpec)) bodyStepsUptoCard

/-- THE SECOND FORM's CARD OF 'vergerlaw16.BodyTexts'. -/
def bodyTextsUptoCard : Claim7 := { stood := { row := bodyTextsUptoRow, standIns := [], harness := (true, "34204b3dcfc569ef1a9116e10eed1b300814f71bb57f5f99f0ac426b425c249c"), looks := false }, kinds := [], alts := [], laidByText := true, laidKinds := [.data, .data, .data, .data, .data, .pinned], laidTests := true, laidLooks := .later }
def BodyTextsUptoCardSaid : Prop := Claim7.holds Tryd.pinned (.plain (OpenSpec.upto bodyTextsSpec)) bodyTextsUptoCard

/-- THE SECOND FORM's CARD OF 'vergerlaw16.BodyParses'. -/
def bodyParsesUptoCard : Claim7 := { stood := { row := bodyParsesUptoRow, standIns := [], harness := (true, "34204b3dcfc569ef1a9116e10eed1b300814f71bb57f5f99f0ac426b425c249c"), looks := false }, kinds := [], alts := [], laidByText := true, laidKinds := [.data, .data, .data, .data, .data, .pinned], laidTests := true, laidLooks := .later }
def BodyParsesUptoCardSaid : Prop := Claim7.holds Tryd.pinned (.plain (OpenSpec.upto bodyParsesSpec)) bodyParsesUptoCard
end Rows
end Go.Proofs.YtoidkiodlfpefaaDoor

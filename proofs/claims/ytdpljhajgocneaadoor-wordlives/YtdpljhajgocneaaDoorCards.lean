/-
  DERIVED. GIVEN WITH THE SEED: THE CARDS: each row of YtdpljhajgocneaaDoorRows.lean that lists a variable, with what it lists TIED to the program's text (the seventh form; the later family's looks); each row that meets fmt, with fmt's text TOLD by the authors' own Lean function (tested against real Go, not proved from fmt's source: count such statements apart). THE CARD IS WHAT COUNTS. Prove the row's statement (the work); the ties are given (YtdpljhajgocneaaDoorTie.lean); close each card by the builder's one call (the guide's Derived/Test/ToyasCard.lean, 'card_holds'). Laid BY PROGRAM, IN A SANDBOX (cutbox-door.mjs). By AI agents, Wed Nov 11 2026. No macro, syntax, notation, axiom, sorry.
-/
import Derived.Test.YtdpljhajgocneaaDoorRows
import GoSem.ClaimSeven
namespace Go.Proofs.YtdpljhajgocneaaDoor
namespace Rows

/-- THE TIED CARD OF 'vergerlaw1.WordApart'. -/
def wordApartCard : Claim7 := { stood := { row := wordApartRow, standIns := [], harness := (true, "46df569c4becd7227a19f63b4f30665744b06630c4ebd66d4fe87613c1fa84cc"), looks := false }, kinds := [], alts := [], laidByText := true, laidKinds := [.data], laidTests := true, laidLooks := .later }
def WordApartCardSaid : Prop := Claim7.holds Tryd.pinned (.plain (OpenSpec.ofChange wordApartSpec)) wordApartCard

/-- THE TIED CARD OF 'vergerlaw1.WordLives'. -/
def wordLivesCard : Claim7 := { stood := { row := wordLivesRow, standIns := [], harness := (true, "46df569c4becd7227a19f63b4f30665744b06630c4ebd66d4fe87613c1fa84cc"), looks := false }, kinds := [], alts := [], laidByText := true, laidKinds := [.data], laidTests := true, laidLooks := .later }
def WordLivesCardSaid : Prop := Claim7.holds Tryd.pinned (.plain (OpenSpec.ofChange wordLivesSpec)) wordLivesCard

/-- THE TIED CARD OF 'vergerlaw1.WordParts'. -/
def wordPartsCard : Claim7 := { stood := { row := wordPartsRow, standIns := [], harness := (true, "46df569c4becd7227a19f63b4f30665744b06630c4ebd66d4fe87613c1fa84cc"), looks := false }, kinds := [], alts := [], laidByText := true, laidKinds := [.data], laidTests := true, laidLooks := .later }
def WordPartsCardSaid : Prop := Claim7.holds Tryd.pinned (.plain (OpenSpec.ofChange wordPartsSpec)) wordPartsCard

/-- THE TIED CARD OF 'vergerlaw1.WordPacks'. -/
def wordPacksCard : Claim7 := { stood := { row := wordPacksRow, standIns := [], harness := (true, "46df569c4becd7227a19f63b4f30665744b06630c4ebd66d4fe87613c1fa84cc"), looks := false }, kinds := [], alts := [], laidByText := true, laidKinds := [.data], laidTests := true, laidLooks := .later }
def WordPacksCardSaid : Prop := Claim7.holds Tryd.pinned (.plain (OpenSpec.ofChange wordPacksSpec)) wordPacksCard

/-- THE TIED CARD OF 'vergerlaw1.WordStates'. -/
def wordStatesCard : Claim7 := { stood := { row := wordStatesRow, standIns := [], harness := (true, "46df569c4becd7227a19f63b4f30665744b06630c4ebd66d4fe87613c1fa84cc"), looks := false }, kinds := [], alts := [], laidByText := true, laidKinds := [.data], laidTests := true, laidLooks := .later }
def WordStatesCardSaid : Prop := Claim7.holds Tryd.pinned (.plain (OpenSpec.ofChange wordStatesSpec)) wordStatesCard

/-- THE TIED CARD OF 'vergerlaw1.WordFields'. -/
def wordFieldsCard : Claim7 := { stood := { row := wordFieldsRow, standIns := [], harness := (true, "46df569c4becd7227a19f63b4f30665744b06630c4ebd66d4fe87613c1fa84cc"), looks := false }, kinds := [], alts := [], laidByText := true, laidKinds := [.data], laidTests := true, laidLooks := .later }
def WordFieldsCardSaid : Prop := Claim7.holds Tryd.pinned (.plain (OpenSpec.ofChange wordFieldsSpec)) wordFieldsCard

/-- THE SECOND FORM's CARD OF 'vergerlaw1.WordApart'. -/
def wordApartUptoCard : Claim7 := { stood := { row := wordApartUptoRow, standIns := [], harness := (true, "46df569c4becd7227a19f63b4f30665744b06630c4ebd66d4fe87613c1fa84cc"), looks := false }, kinds := [], alts := [], laidByText := true, laidKinds := [.data], laidTests := true, laidLooks := .later }
def WordApartUptoCardSaid : Prop := Claim7.holds Tryd.pinned (.plain (OpenSpec.upto wordApartSpec)) wordApartUptoCard

/-- THE SECOND FORM's CARD OF 'vergerlaw1.WordLives'. -/
def wordLivesUptoCard : Claim7 := { stood := { row := wordLivesUptoRow, standIns := [], harness := (true, "46df569c4becd7227a19f63b4f30665744b06630c4ebd66d4fe87613c1fa84cc"), looks := false }, kinds := [], alts := [], laidByText := true, laidKinds := [.data], laidTests := true, laidLooks := .later }
def WordLivesUptoCardSaid : Prop := Claim7.holds Tryd.pinned (.plain (OpenSpec.upto wordLivesSpec)) wordLivesUptoCard

/-- THE SECOND FORM's CARD OF 'vergerlaw1.WordParts'. -/
def wordPartsUptoCard : Claim7 := { stood := { row := wordPartsUptoRow, standIns := [], harness := (true, "46df569c4becd7227a19f63b4f30665744b06630c4ebd66d4fe87613c1fa84cc"), looks := false }, kinds := [], alts := [], laidByText := true, laidKinds := [.data], laidTests := true, laidLooks := .later }
def WordPartsUptoCardSaid : Prop := Claim7.holds Tryd.pinned (.plain (OpenSpec.upto wordPartsSpec)) wordPartsUptoCard

/-- THE SECOND FORM's CARD OF 'vergerlaw1.WordPacks'. -/
def wordPacksUptoCard : Claim7 := { stood := { row := wordPacksUptoRow, standIns := [], harness := (true, "46df569c4becd7227a19f63b4f30665744b06630c4ebd66d4fe87613c1fa84cc"), looks := false }, kinds := [], alts := [], laidByText := true, laidKinds := [.data], laidTests := true, laidLooks := .later }
def WordPacksUptoCardSaid : Prop := Claim7.holds Tryd.pinned (.plain (OpenSpec.upto wordPacksSpec)) wordPacksUptoCard

/-- THE SECOND FORM's CARD OF 'vergerlaw1.WordStates'. -/
def wordStatesUptoCard : Claim7 := { stood := { row := wordStatesUptoRow, standIns := [], harness := (true, "46df569c4becd7227a19f63b4f30665744b06630c4ebd66d4fe87613c1fa84cc"), looks := false }, kinds := [], alts := [], laidByText := true, laidKinds := [.data], laidTests := true, laidLooks := .later }
def WordStatesUptoCardSaid : Prop := Claim7.holds Tryd.pinned (.plain (OpenSpec.upto wordStatesSpec)) wordStatesUptoCard

/-- THE SECOND FORM's CARD OF 'vergerlaw1.WordFields'. -/
def wordFieldsUptoCard : Claim7 := { stood := { row := wordFieldsUptoRow, standIns := [], harness := (true, "46df569c4becd7227a19f63b4f30665744b06630c4ebd66d4fe87613c1fa84cc"), looks := false }, kinds := [], alts := [], laidByText := true, laidKinds := [.data], laidTests := true, laidLooks := .later }
def WordFieldsUptoCardSaid : Prop := Claim7.holds Tryd.pinned (.plain (OpenSpec.upto wordFieldsSpec)) wordFieldsUptoCard
end Rows
end Go.Proofs.YtdpljhajgocneaaDoor

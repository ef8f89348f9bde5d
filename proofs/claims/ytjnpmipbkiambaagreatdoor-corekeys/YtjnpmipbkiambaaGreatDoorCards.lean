/-
  DERIVED. GIVEN WITH THE SEED: THE CARDS: each row of YtjnpmipbkiambaaGreatDoorRows.lean that lists a variable, with what it lists TIED to the program's text (the seventh form; the later family's looks); each row that meets fmt, with fmt's text TOLD by the authors' own Lean function (tested against real Go, not proved from fmt's source: count such statements apart). THE CARD IS WHAT COUNTS. Prove the row's statement (the work); the ties are given (YtjnpmipbkiambaaGreatDoorTie.lean); close each card by the builder's one call (the guide's Derived/Test/ToyasCard.lean, 'card_holds'). Laid BY PROGRAM, IN A SANDBOX (cutbox-door.mjs). By AI agents, Wed Nov 11 2026. No macro, syntax, notation, axiom, sorry.
-/
import Derived.Test.YtjnpmipbkiambaaGreatDoorRows
import GoSem.ClaimSeven
namespace Go.Proofs.YtjnpmipbkiambaaGreatDoor
namespace Rows

/-- THE TIED CARD OF 'vergerlaw18.CoreKeys'. -/
def coreKeysCard : Claim7 := { stood := { row := coreKeysRow, standIns := [], harness := (true, "d0ae09dedde305dd61a4ddecf44aa2bbe7a783367a8380f72db57524a54eacd2"), looks := false }, kinds := [], alts := [], laidByText := true, laidKinds := [.data], laidTests := true, laidLooks := .later }
def CoreKeysCardSaid : Prop := Claim7.holds Tryz.pinned (.plain (OpenSpec.ofChange coreKeysSpec)) coreKeysCard

/-- THE TIED CARD OF 'vergerlaw18.CoreFulls'. -/
def coreFullsCard : Claim7 := { stood := { row := coreFullsRow, standIns := [], harness := (true, "d0ae09dedde305dd61a4ddecf44aa2bbe7a783367a8380f72db57524a54eacd2"), looks := false }, kinds := [], alts := [], laidByText := true, laidKinds := [.data], laidTests := true, laidLooks := .later }
def CoreFullsCardSaid : Prop := Claim7.holds Tryz.pinned (.plain (OpenSpec.ofChange coreFullsSpec)) coreFullsCard

/-- THE TIED CARD OF 'vergerlaw18.CoreTicks'. -/
def coreTicksCard : Claim7 := { stood := { row := coreTicksRow, standIns := [], harness := (true, "d0ae09dedde305dd61a4ddecf44aa2bbe7a783367a8380f72db57524a54eacd2"), looks := false }, kinds := [], alts := [], laidByText := true, laidKinds := [.data, .data], laidTests := true, laidLooks := .later }
def CoreTicksCardSaid : Prop := Claim7.holds Tryz.pinned (.plain (OpenSpec.ofChange coreTicksSpec)) coreTicksCard

/-- THE TIED CARD OF 'vergerlaw18.CoreCloses'. -/
def coreClosesCard : Claim7 := { stood := { row := coreClosesRow, standIns := [], harness := (true, "d0ae09dedde305dd61a4ddecf44aa2bbe7a783367a8380f72db57524a54eacd2"), looks := false }, kinds := [], alts := [], laidByText := true, laidKinds := [.data, .data], laidTests := true, laidLooks := .later }
def CoreClosesCardSaid : Prop := Claim7.holds Tryz.pinned (.plain (OpenSpec.ofChange coreClosesSpec)) coreClosesCard

/-- THE TIED CARD OF 'vergerlaw18.CoreLooks'. -/
def coreLooksCard : Claim7 := { stood := { row := coreLooksRow, standIns := [], harness := (true, "d0ae09dedde305dd61a4ddecf44aa2bbe7a783367a8380f72db57524a54eacd2"), looks := false }, kinds := [], alts := [], laidByText := true, laidKinds := [.data, .data], laidTests := true, laidLooks := .later }
def CoreLooksCardSaid : Prop := Claim7.holds Tryz.pinned (.plain (OpenSpec.ofChange coreLooksSpec)) coreLooksCard

/-- THE TIED CARD OF 'vergerlaw18.CorePlays'. -/
def corePlaysCard : Claim7 := { stood := { row := corePlaysRow, standIns := [], harness := (true, "d0ae09dedde305dd61a4ddecf44aa2bbe7a783367a8380f72db57524a54eacd2"), looks := false }, kinds := [], alts := [], laidByText := true, laidKinds := [.data, .data], laidTests := true, laidLooks := .later }
def CorePlaysCardSaid : Prop := Claim7.holds Tryz.pinned (.plain (OpenSpec.ofChange corePlaysSpec)) corePlaysCard

/-- THE SECOND FORM's CARD OF 'vergerlaw18.CoreKeys'. -/
def coreKeysUptoCard : Claim7 := { stood := { row := coreKeysUptoRow, standIns := [], harness := (true, "d0ae09dedde305dd61a4ddecf44aa2bbe7a783367a8380f72db57524a54eacd2"), looks := false }, kinds := [], alts := [], laidByText := true, laidKinds := [.data], laidTests := true, laidLooks := .later }
def CoreKeysUptoCardSaid : Prop := Claim7.holds Tryz.pinned (.plain (OpenSpec.upto coreKeysSpec)) coreKeysUptoCard

/-- THE SECOND FORM's CARD OF 'vergerlaw18.CoreFulls'. -/
def coreFullsUptoCard : Claim7 := { stood := { row := coreFullsUptoRow, standIns := [], harness := (true, "d0ae09dedde305dd61a4ddecf44aa2bbe7a783367a8380f72db57524a54eacd2"), looks := false }, kinds := [], alts := [], laidByText := true, laidKinds := [.data], laidTests := true, laidLooks := .later }
def CoreFullsUptoCardSaid : Prop := Claim7.holds Tryz.pinned (.plain (OpenSpec.upto coreFullsSpec)) coreFullsUptoCard

/-- THE SECOND FORM's CARD OF 'vergerlaw18.CoreTicks'. -/
def coreTicksUptoCard : Claim7 := { stood := { row := coreTicksUptoRow, standIns := [], harness := (true, "d0ae09dedde305dd61a4ddecf44aa2bbe7a783367a8380f72db57524a54eacd2"), looks := false }, kinds := [], alts := [], laidByText := true, laidKinds := [.data, .data], laidTests := true, laidLooks := .later }
def CoreTicksUptoCardSaid : Prop := Claim7.holds Tryz.pinned (.plain (OpenSpec.upto coreTicksSpec)) coreTicksUptoCard

/-- THE SECOND FORM's CARD OF 'vergerlaw18.CoreCloses'. -/
def coreClosesUptoCard : Claim7 := { stood := { row := coreClosesUptoRow, standIns := [], harness := (true, "d0ae09dedde305dd61a4ddecf44aa2bbe7a783367a8380f72db57524a54eacd2"), looks := false }, kinds := [], alts := [], laidByText := true, laidKinds := [.data, .data], laidTests := true, laidLooks := .later }
def CoreClosesUptoCardSaid : Prop := Claim7.holds Tryz.pinned (.plain (OpenSpec.upto coreClosesSpec)) coreClosesUptoCard

/-- THE SECOND FORM's CARD OF 'vergerlaw18.CoreLooks'. -/
def coreLooksUptoCard : Claim7 := { stood := { row := coreLooksUptoRow, standIns := [], harness := (true, "d0ae09dedde305dd61a4ddecf44aa2bbe7a783367a8380f72db57524a54eacd2"), looks := false }, kinds := [], alts := [], laidByText := true, laidKinds := [.data, .data], laidTests := true, laidLooks := .later }
def CoreLooksUptoCardSaid : Prop := Claim7.holds Tryz.pinned (.plain (OpenSpec.upto coreLooksSpec)) coreLooksUptoCard

/-- THE SECOND FORM's CARD OF 'vergerlaw18.CorePlays'. -/
def corePlaysUptoCard : Claim7 := { stood := { row := corePlaysUptoRow, standIns := [], harness := (true, "d0ae09dedde305dd61a4ddecf44aa2bbe7a783367a8380f72db57524a54eacd2"), looks := false }, kinds := [], alts := [], laidByText := true, laidKinds := [.data, .data], laidTests := true, laidLooks := .later }
def CorePlaysUptoCardSaid : Prop := Claim7.holds Tryz.pinned (.plain (OpenSpec.upto corePlaysSpec)) corePlaysUptoCard
end Rows
end Go.Proofs.YtjnpmipbkiambaaGreatDoor

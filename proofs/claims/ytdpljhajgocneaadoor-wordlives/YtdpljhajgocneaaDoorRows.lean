/-
  NARROWER THAN 'FOR EVERY INPUT', by the rows' own cells (each row's printed sentence says how): WordApart: laid · WordLives: laid · WordParts: laid · WordPacks: laid · WordStates: laid · WordFields: laid.
  DERIVED. THE GIVEN ROWS OF THIS SEAT. 6 by the template 'for every input the law returns true; each argument reads behind the call as it read before'; 0 by the template 'total and deterministic' (their statements: YtdpljhajgocneaaDoorTotals.lean).
  GIVEN WITH THE SEED: the statements are not yours to turn. If you find one false, say at which input.
  Laid BY PROGRAM, IN A SANDBOX (cutbox-rows.mjs): the forced cells as the released guide's own fill.sh prints them over the translation d55032a0c9f3c858… (all of the seat's roots in one cut). By AI agents, Wed Nov 11 2026. No macro, syntax, notation, axiom, sorry.
-/
import Derived.Test.YtdpljhajgocneaaDoorChecked
import GoSem.Claim
import GoSem.ClaimJoined
import GoSem.ClaimMapViews
import Derived.JoinedTies
import Derived.KernelRfl
namespace Go.Proofs.YtdpljhajgocneaaDoor
/- THE CELL 'sum', in the pinned program and in every row, IS THE sha256 OF THE DUMP (.gsa) THAT YtdpljhajgocneaaDoorProg.lean LOADS. Nothing in Lean hashes anything: it is a label: what it is worth is what the hold of that sum in a sandbox is worth. -/
noncomputable def Tryd.pinned : Pinned := { name := "ytdpljhajgocneaadoor", sum := "d55032a0c9f3c85800fbcf225ff93597985109f8bd98886be8436db2ad828e99", checked := Tryd.checked }
namespace Rows
def none {H : Type} : Left H := { results := [], args := [] }

/- WHAT THE LISTED PACKAGE-LEVEL VARIABLES READ AS WHEN THE CALL BEGINS. Each datum BY PROGRAM (the guide's laid-datum.mjs) off the statement by which the dump's own 'gosem.cut.vars' lays the variable. In a bare row this is a premise. The card (YtdpljhajgocneaaDoorCards.lean) ties it to the program's text. -/
def laid_verger_word_names {H : Type} : DataW H := .agg [.lit (.string [102, 114, 101, 101]), .lit (.string [119, 97, 105, 116, 105, 110, 103]), .lit (.string [114, 101, 97, 100, 121]), .lit (.string [99, 108, 97, 105, 109, 101, 100]), .lit (.string [100, 111, 110, 101]), .lit (.string [102, 97, 105, 108, 101, 100]), .lit (.string [99, 97, 110, 99, 101, 108, 108, 101, 100])]

/-- 'vergerlaw1.WordApart': WHATEVER THE INPUT: true; the input reads as it did. -/
def wordApartSpec : ChangeSpec := { name := "wordApart", fn := fun _ => fun
  | [d1, d2, d3, d4] => { results := [.lit (.bool true)], args := [d1, d2, d3, d4] }
  | _ => none }
def wordApartRow : OpenClaim := { program := "ytdpljhajgocneaadoor", sum := "d55032a0c9f3c85800fbcf225ff93597985109f8bd98886be8436db2ad828e99", func := "verger/vergerlaw1.WordApart", spec := "wordApart", named := ["verger/word.names"], plainKeys := false, apart := false, laid := [("verger/word.names", laid_verger_word_names)] }
def WordApartSaid : Prop := wordApartRow.holds Tryd.pinned (OpenSpec.ofChange wordApartSpec)

/-- ITS FALSE NEIGHBOUR: 'it returns false'. Refute it at one input. -/
def wordApartWrong : ChangeSpec := { name := "wordApart", fn := fun _ => fun
  | [d1, d2, d3, d4] => { results := [.lit (.bool false)], args := [d1, d2, d3, d4] }
  | _ => none }
def WordApartWrongFalsely : Prop := wordApartRow.holds Tryd.pinned (OpenSpec.ofChange wordApartWrong)

/-- 'vergerlaw1.WordLives': WHATEVER THE INPUT: true; the input reads as it did. -/
def wordLivesSpec : ChangeSpec := { name := "wordLives", fn := fun _ => fun
  | [d] => { results := [.lit (.bool true)], args := [d] }
  | _ => none }
def wordLivesRow : OpenClaim := { program := "ytdpljhajgocneaadoor", sum := "d55032a0c9f3c85800fbcf225ff93597985109f8bd98886be8436db2ad828e99", func := "verger/vergerlaw1.WordLives", spec := "wordLives", named := ["verger/word.names"], plainKeys := false, apart := false, laid := [("verger/word.names", laid_verger_word_names)] }
def WordLivesSaid : Prop := wordLivesRow.holds Tryd.pinned (OpenSpec.ofChange wordLivesSpec)

/-- ITS FALSE NEIGHBOUR: 'it returns false'. Refute it at one input. -/
def wordLivesWrong : ChangeSpec := { name := "wordLives", fn := fun _ => fun
  | [d] => { results := [.lit (.bool false)], args := [d] }
  | _ => none }
def WordLivesWrongFalsely : Prop := wordLivesRow.holds Tryd.pinned (OpenSpec.ofChange wordLivesWrong)

/-- 'vergerlaw1.WordParts': WHATEVER THE INPUT: true; the input reads as it did. -/
def wordPartsSpec : ChangeSpec := { name := "wordParts", fn := fun _ => fun
  | [d1, d2] => { results := [.lit (.bool true)], args := [d1, d2] }
  | _ => none }
def wordPartsRow : OpenClaim := { program := "ytdpljhajgocneaadoor", sum := "d55032a0c9f3c85800fbcf225ff93597985109f8bd98886be8436db2ad828e99", func := "verger/vergerlaw1.WordParts", spec := "wordParts", named := ["verger/word.names"], plainKeys := false, apart := false, laid := [("verger/word.names", laid_verger_word_names)] }
def WordPartsSaid : Prop := wordPartsRow.holds Tryd.pinned (OpenSpec.ofChange wordPartsSpec)

/-- ITS FALSE NEIGHBOUR: 'it returns false'. Refute it at one input. -/
def wordPartsWrong : ChangeSpec := { name := "wordParts", fn := fun _ => fun
  | [d1, d2] => { results := [.lit (.bool false)], args := [d1, d2] }
  | _ => none }
def WordPartsWrongFalsely : Prop := wordPartsRow.holds Tryd.pinned (OpenSpec.ofChange wordPartsWrong)

/-- 'vergerlaw1.WordPacks': WHATEVER THE INPUT: true; the input reads as it did. -/
def wordPacksSpec : ChangeSpec := { name := "wordPacks", fn := fun _ => fun
  | [d1, d2, d3] => { results := [.lit (.bool true)], args := [d1, d2, d3] }
  | _ => none }
def wordPacksRow : OpenClaim := { program := "ytdpljhajgocneaadoor", sum := "d55032a0c9f3c85800fbcf225ff93597985109f8bd98886be8436db2ad828e99", func := "verger/vergerlaw1.WordPacks", spec := "wordPacks", named := ["verger/word.names"], plainKeys := false, apart := false, laid := [("verger/word.names", laid_verger_word_names)] }
def WordPacksSaid : Prop := wordPacksRow.holds Tryd.pinned (OpenSpec.ofChange wordPacksSpec)

/-- ITS FALSE NEIGHBOUR: 'it returns false'. Refute it at one input. -/
def wordPacksWrong : ChangeSpec := { name := "wordPacks", fn := fun _ => fun
  | [d1, d2, d3] => { results := [.lit (.bool false)], args := [d1, d2, d3] }
  | _ => none }
def WordPacksWrongFalsely : Prop := wordPacksRow.holds Tryd.pinned (OpenSpec.ofChange wordPacksWrong)

/-- 'vergerlaw1.WordStates': WHATEVER THE INPUT: true; the input reads as it did. -/
def wordStatesSpec : ChangeSpec := { name := "wordStates", fn := fun _ => fun
  | [d1, d2] => { results := [.lit (.bool true)], args := [d1, d2] }
  | _ => none }
def wordStatesRow : OpenClaim := { program := "ytdpljhajgocneaadoor", sum := "d55032a0c9f3c85800fbcf225ff93597985109f8bd98886be8436db2ad828e99", func := "verger/vergerlaw1.WordStates", spec := "wordStates", named := ["verger/word.names"], plainKeys := false, apart := false, laid := [("verger/word.names", laid_verger_word_names)] }
def WordStatesSaid : Prop := wordStatesRow.holds Tryd.pinned (OpenSpec.ofChange wordStatesSpec)

/-- ITS FALSE NEIGHBOUR: 'it returns false'. Refute it at one input. -/
def wordStatesWrong : ChangeSpec := { name := "wordStates", fn := fun _ => fun
  | [d1, d2] => { results := [.lit (.bool false)], args := [d1, d2] }
  | _ => none }
def WordStatesWrongFalsely : Prop := wordStatesRow.holds Tryd.pinned (OpenSpec.ofChange wordStatesWrong)

/-- 'vergerlaw1.WordFields': WHATEVER THE INPUT: true; the input reads as it did. -/
def wordFieldsSpec : ChangeSpec := { name := "wordFields", fn := fun _ => fun
  | [d1, d2, d3, d4] => { results := [.lit (.bool true)], args := [d1, d2, d3, d4] }
  | _ => none }
def wordFieldsRow : OpenClaim := { program := "ytdpljhajgocneaadoor", sum := "d55032a0c9f3c85800fbcf225ff93597985109f8bd98886be8436db2ad828e99", func := "verger/vergerlaw1.WordFields", spec := "wordFields", named := ["verger/word.names"], plainKeys := false, apart := false, laid := [("verger/word.names", laid_verger_word_names)] }
def WordFieldsSaid : Prop := wordFieldsRow.holds Tryd.pinned (OpenSpec.ofChange wordFieldsSpec)

/-- ITS FALSE NEIGHBOUR: 'it returns false'. Refute it at one input. -/
def wordFieldsWrong : ChangeSpec := { name := "wordFields", fn := fun _ => fun
  | [d1, d2, d3, d4] => { results := [.lit (.bool false)], args := [d1, d2, d3, d4] }
  | _ => none }
def WordFieldsWrongFalsely : Prop := wordFieldsRow.holds Tryd.pinned (OpenSpec.ofChange wordFieldsWrong)

/- THE SECOND FORM. 'bulk': how many values and letters a reading holds, each counted each time it is reached (what is shared counts as often as it is met; a slice's spare places count too). A statement '..UptoSaid' is the law's where the arguments, and the package variables that the reading takes, are together of bulk at most 1048576: NARROWER than '..Said'. Prove '..Said' where nothing that the law and all that it calls make is longer than what came in: it says more and counts as full. Else prove '..UptoSaid'. A law counts once. -/
mutual
def uptoBulk {H : Type} : DataW H → Nat
  | .lit (.string bytes) => bytes.length + 1
  | .lit _ => 1
  | .nil => 1
  | .ptr d => uptoBulk d + 1
  | .slice elems spare => uptoBulkAll elems + uptoBulkAll spare + 1
  | .agg parts => uptoBulkAll parts + 1
  | .iface _ d => uptoBulk d + 1
  | .map entries => uptoBulkEntries entries + 1
  | .held _ => 1
def uptoBulkAll {H : Type} : List (DataW H) → Nat
  | [] => 0
  | d :: r => uptoBulk d + uptoBulkAll r
def uptoBulkEntries {H : Type} : List (Lit × DataW H) → Nat
  | [] => 0
  | x :: r => uptoBulkEntry x + uptoBulkEntries r
def uptoBulkEntry {H : Type} : Lit × DataW H → Nat
  | (.string bytes, d) => bytes.length + uptoBulk d + 1
  | (_, d) => uptoBulk d + 1
 end
def uptoSmall : (H : Type) → List (DataW H) → Bool := fun _ ds => decide (uptoBulkAll ds ≤ 1048576)
def OpenSpec.upto (s : _root_.Go.ChangeSpec) : _root_.Go.OpenSpec := { _root_.Go.OpenSpec.ofChange s with cond := some uptoSmall }

/-- 'vergerlaw1.WordApart', WHERE WHAT IT READS IS OF BULK AT MOST 1048576: true; the input reads as it did. -/
def wordApartUptoRow : OpenClaim := { program := "ytdpljhajgocneaadoor", sum := "d55032a0c9f3c85800fbcf225ff93597985109f8bd98886be8436db2ad828e99", func := "verger/vergerlaw1.WordApart", spec := "wordApart", named := ["verger/word.names"], plainKeys := false, apart := false, laid := [("verger/word.names", laid_verger_word_names)], narrowed := true }
def WordApartUptoSaid : Prop := wordApartUptoRow.holds Tryd.pinned (OpenSpec.upto wordApartSpec)

/-- 'vergerlaw1.WordLives', WHERE WHAT IT READS IS OF BULK AT MOST 1048576: true; the input reads as it did. -/
def wordLivesUptoRow : OpenClaim := { program := "ytdpljhajgocneaadoor", sum := "d55032a0c9f3c85800fbcf225ff93597985109f8bd98886be8436db2ad828e99", func := "verger/vergerlaw1.WordLives", spec := "wordLives", named := ["verger/word.names"], plainKeys := false, apart := false, laid := [("verger/word.names", laid_verger_word_names)], narrowed := true }
def WordLivesUptoSaid : Prop := wordLivesUptoRow.holds Tryd.pinned (OpenSpec.upto wordLivesSpec)

/-- 'vergerlaw1.WordParts', WHERE WHAT IT READS IS OF BULK AT MOST 1048576: true; the input reads as it did. -/
def wordPartsUptoRow : OpenClaim := { program := "ytdpljhajgocneaadoor", sum := "d55032a0c9f3c85800fbcf225ff93597985109f8bd98886be8436db2ad828e99", func := "verger/vergerlaw1.WordParts", spec := "wordParts", named := ["verger/word.names"], plainKeys := false, apart := false, laid := [("verger/word.names", laid_verger_word_names)], narrowed := true }
def WordPartsUptoSaid : Prop := wordPartsUptoRow.holds Tryd.pinned (OpenSpec.upto wordPartsSpec)

/-- 'vergerlaw1.WordPacks', WHERE WHAT IT READS IS OF BULK AT MOST 1048576: true; the input reads as it did. -/
def wordPacksUptoRow : OpenClaim := { program := "ytdpljhajgocneaadoor", sum := "d55032a0c9f3c85800fbcf225ff93597985109f8bd98886be8436db2ad828e99", func := "verger/vergerlaw1.WordPacks", spec := "wordPacks", named := ["verger/word.names"], plainKeys := false, apart := false, laid := [("verger/word.names", laid_verger_word_names)], narrowed := true }
def WordPacksUptoSaid : Prop := wordPacksUptoRow.holds Tryd.pinned (OpenSpec.upto wordPacksSpec)

/-- 'vergerlaw1.WordStates', WHERE WHAT IT READS IS OF BULK AT MOST 1048576: true; the input reads as it did. -/
def wordStatesUptoRow : OpenClaim := { program := "ytdpljhajgocneaadoor", sum := "d55032a0c9f3c85800fbcf225ff93597985109f8bd98886be8436db2ad828e99", func := "verger/vergerlaw1.WordStates", spec := "wordStates", named := ["verger/word.names"], plainKeys := false, apart := false, laid := [("verger/word.names", laid_verger_word_names)], narrowed := true }
def WordStatesUptoSaid : Prop := wordStatesUptoRow.holds Tryd.pinned (OpenSpec.upto wordStatesSpec)

/-- 'vergerlaw1.WordFields', WHERE WHAT IT READS IS OF BULK AT MOST 1048576: true; the input reads as it did. -/
def wordFieldsUptoRow : OpenClaim := { program := "ytdpljhajgocneaadoor", sum := "d55032a0c9f3c85800fbcf225ff93597985109f8bd98886be8436db2ad828e99", func := "verger/vergerlaw1.WordFields", spec := "wordFields", named := ["verger/word.names"], plainKeys := false, apart := false, laid := [("verger/word.names", laid_verger_word_names)], narrowed := true }
def WordFieldsUptoSaid : Prop := wordFieldsUptoRow.holds Tryd.pinned (OpenSpec.upto wordFieldsSpec)

end Rows
end Go.Proofs.YtdpljhajgocneaaDoor

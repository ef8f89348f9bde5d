/-
  NARROWER THAN 'FOR EVERY INPUT', by the rows' own cells (each row's printed sentence says how): CoreWaits: laid · CoreCloses: laid · ExecAlone: laid · ExecDid: laid · WorkBodies: laid.
  DERIVED. THE GIVEN ROWS OF THIS SEAT. 5 by the template 'for every input the law returns true; each argument reads behind the call as it read before'; 0 by the template 'total and deterministic' (their statements: YthpgfmmpjoodkaaGreatDoorTotals.lean).
  GIVEN WITH THE SEED: the statements are not yours to turn. If you find one false, say at which input.
  Laid BY PROGRAM, IN A SANDBOX (cutbox-rows.mjs): the forced cells as the released guide's own fill.sh prints them over the translation 858a353be4919bca… (all of the seat's roots in one cut). By AI agents, Wed Nov 11 2026. No macro, syntax, notation, axiom, sorry.
-/
import Derived.Test.YthpgfmmpjoodkaaGreatDoorChecked
import GoSem.Claim
import GoSem.ClaimJoined
import GoSem.ClaimMapViews
import Derived.JoinedTies
import Derived.KernelRfl
namespace Go.Proofs.YthpgfmmpjoodkaaGreatDoor
/- THE CELL 'sum', in the pinned program and in every row, IS THE sha256 OF THE DUMP (.gsa) THAT YthpgfmmpjoodkaaGreatDoorProg.lean LOADS. Nothing in Lean hashes anything: it is a label: what it is worth is what the hold of that sum in a sandbox is worth. -/
noncomputable def Tryz.pinned : Pinned := { name := "ythpgfmmpjoodkaagreatdoor", sum := "858a353be4919bcacb81cb09888f6dc5ad779fbc35297bda35b0b0fd1c603324", checked := Tryz.checked }
namespace Rows
def none {H : Type} : Left H := { results := [], args := [] }

/- WHAT THE LISTED PACKAGE-LEVEL VARIABLES READ AS WHEN THE CALL BEGINS. Each datum BY PROGRAM (the guide's laid-datum.mjs) off the statement by which the dump's own 'gosem.cut.vars' lays the variable. In a bare row this is a premise. The card (YthpgfmmpjoodkaaGreatDoorCards.lean) ties it to the program's text. -/
def laid_verger_body_shapes {H : Type} : DataW H := .agg [.agg [.lit (.string []), .lit (.int .i64 0), .agg [.lit (.int .i64 0), .lit (.int .i64 0)], .agg [.lit (.int .i64 0), .lit (.int .i64 0)]], .agg [.lit (.string [110, 111, 112]), .lit (.int .i64 0), .agg [.lit (.int .i64 0), .lit (.int .i64 0)], .agg [.lit (.int .i64 0), .lit (.int .i64 0)]], .agg [.lit (.string [115, 117, 98, 109, 105, 116]), .lit (.int .i64 1), .agg [.lit (.int .i64 0), .lit (.int .i64 0)], .agg [.lit (.int .i64 7), .lit (.int .i64 0)]], .agg [.lit (.string [97, 102, 116, 101, 114]), .lit (.int .i64 2), .agg [.lit (.int .i64 0), .lit (.int .i64 0)], .agg [.lit (.int .i64 7), .lit (.int .i64 1000000)]], .agg [.lit (.string [99, 97, 110, 99, 101, 108]), .lit (.int .i64 1), .agg [.lit (.int .i64 1), .lit (.int .i64 0)], .agg [.lit (.int .i64 1000), .lit (.int .i64 0)]], .agg [.lit (.string [112, 97, 110, 105, 99]), .lit (.int .i64 0), .agg [.lit (.int .i64 0), .lit (.int .i64 0)], .agg [.lit (.int .i64 0), .lit (.int .i64 0)]]]
def laid_math_bits_deBruijn64tab {H : Type} : DataW H := .agg [.lit (.int .u8 0), .lit (.int .u8 1), .lit (.int .u8 56), .lit (.int .u8 2), .lit (.int .u8 57), .lit (.int .u8 49), .lit (.int .u8 28), .lit (.int .u8 3), .lit (.int .u8 61), .lit (.int .u8 58), .lit (.int .u8 42), .lit (.int .u8 50), .lit (.int .u8 38), .lit (.int .u8 29), .lit (.int .u8 17), .lit (.int .u8 4), .lit (.int .u8 62), .lit (.int .u8 47), .lit (.int .u8 59), .lit (.int .u8 36), .lit (.int .u8 45), .lit (.int .u8 43), .lit (.int .u8 51), .lit (.int .u8 22), .lit (.int .u8 53), .lit (.int .u8 39), .lit (.int .u8 33), .lit (.int .u8 30), .lit (.int .u8 24), .lit (.int .u8 18), .lit (.int .u8 12), .lit (.int .u8 5), .lit (.int .u8 63), .lit (.int .u8 55), .lit (.int .u8 48), .lit (.int .u8 27), .lit (.int .u8 60), .lit (.int .u8 41), .lit (.int .u8 37), .lit (.int .u8 16), .lit (.int .u8 46), .lit (.int .u8 35), .lit (.int .u8 44), .lit (.int .u8 21), .lit (.int .u8 52), .lit (.int .u8 32), .lit (.int .u8 23), .lit (.int .u8 11), .lit (.int .u8 54), .lit (.int .u8 26), .lit (.int .u8 40), .lit (.int .u8 15), .lit (.int .u8 34), .lit (.int .u8 20), .lit (.int .u8 31), .lit (.int .u8 10), .lit (.int .u8 25), .lit (.int .u8 14), .lit (.int .u8 19), .lit (.int .u8 9), .lit (.int .u8 13), .lit (.int .u8 8), .lit (.int .u8 7), .lit (.int .u8 6)]

/-- 'vergerlaw18.CoreWaits': WHATEVER THE INPUT: true; the input reads as it did. -/
def coreWaitsSpec : ChangeSpec := { name := "coreWaits", fn := fun _ => fun
  | [d1, d2, d3] => { results := [.lit (.bool true)], args := [d1, d2, d3] }
  | _ => none }
def coreWaitsRow : OpenClaim := { program := "ythpgfmmpjoodkaagreatdoor", sum := "858a353be4919bcacb81cb09888f6dc5ad779fbc35297bda35b0b0fd1c603324", func := "verger/vergerlaw18.CoreWaits", spec := "coreWaits", inPlace := ["slices.overlaps[verger/block.Block]", "math/bits.Add64", "slices.overlaps[verger/api.Timer]"], unfollowed := true, recurses := true, named := ["verger/body.shapes"], plainKeys := false, apart := false, laid := [("verger/body.shapes", laid_verger_body_shapes)] }
def CoreWaitsSaid : Prop := coreWaitsRow.holds Tryz.pinned (OpenSpec.ofChange coreWaitsSpec)

/-- ITS FALSE NEIGHBOUR: 'it returns false'. Refute it at one input. -/
def coreWaitsWrong : ChangeSpec := { name := "coreWaits", fn := fun _ => fun
  | [d1, d2, d3] => { results := [.lit (.bool false)], args := [d1, d2, d3] }
  | _ => none }
def CoreWaitsWrongFalsely : Prop := coreWaitsRow.holds Tryz.pinned (OpenSpec.ofChange coreWaitsWrong)

/-- 'vergerlaw18.CoreCloses': WHATEVER THE INPUT: true; the input reads as it did. -/
def coreClosesSpec : ChangeSpec := { name := "coreCloses", fn := fun _ => fun
  | [d1, d2, d3] => { results := [.lit (.bool true)], args := [d1, d2, d3] }
  | _ => none }
def coreClosesRow : OpenClaim := { program := "ythpgfmmpjoodkaagreatdoor", sum := "858a353be4919bcacb81cb09888f6dc5ad779fbc35297bda35b0b0fd1c603324", func := "verger/vergerlaw18.CoreCloses", spec := "coreCloses", inPlace := ["slices.overlaps[verger/block.Block]", "math/bits.Add64", "slices.overlaps[verger/api.Timer]"], unfollowed := true, recurses := true, named := ["verger/body.shapes", "math/bits.deBruijn64tab"], plainKeys := false, apart := false, laid := [("math/bits.deBruijn64tab", laid_math_bits_deBruijn64tab), ("verger/body.shapes", laid_verger_body_shapes)] }
def CoreClosesSaid : Prop := coreClosesRow.holds Tryz.pinned (OpenSpec.ofChange coreClosesSpec)

/-- ITS FALSE NEIGHBOUR: 'it returns false'. Refute it at one input. -/
def coreClosesWrong : ChangeSpec := { name := "coreCloses", fn := fun _ => fun
  | [d1, d2, d3] => { results := [.lit (.bool false)], args := [d1, d2, d3] }
  | _ => none }
def CoreClosesWrongFalsely : Prop := coreClosesRow.holds Tryz.pinned (OpenSpec.ofChange coreClosesWrong)

/-- 'vergerlaw20.ExecAlone': WHATEVER THE INPUT: true; the input reads as it did. -/
def execAloneSpec : ChangeSpec := { name := "execAlone", fn := fun _ => fun
  | [d1, d2, d3] => { results := [.lit (.bool true)], args := [d1, d2, d3] }
  | _ => none }
def execAloneRow : OpenClaim := { program := "ythpgfmmpjoodkaagreatdoor", sum := "858a353be4919bcacb81cb09888f6dc5ad779fbc35297bda35b0b0fd1c603324", func := "verger/vergerlaw20.ExecAlone", spec := "execAlone", inPlace := ["slices.overlaps[verger/block.Block]", "math/bits.Add64", "slices.overlaps[verger/api.Timer]"], unfollowed := true, recurses := true, named := ["verger/body.shapes"], plainKeys := false, apart := false, laid := [("verger/body.shapes", laid_verger_body_shapes)] }
def ExecAloneSaid : Prop := execAloneRow.holds Tryz.pinned (OpenSpec.ofChange execAloneSpec)

/-- ITS FALSE NEIGHBOUR: 'it returns false'. Refute it at one input. -/
def execAloneWrong : ChangeSpec := { name := "execAlone", fn := fun _ => fun
  | [d1, d2, d3] => { results := [.lit (.bool false)], args := [d1, d2, d3] }
  | _ => none }
def ExecAloneWrongFalsely : Prop := execAloneRow.holds Tryz.pinned (OpenSpec.ofChange execAloneWrong)

/-- 'vergerlaw20.ExecDid': WHATEVER THE INPUT: true; the input reads as it did. -/
def execDidSpec : ChangeSpec := { name := "execDid", fn := fun _ => fun
  | [d1, d2, d3, d4] => { results := [.lit (.bool true)], args := [d1, d2, d3, d4] }
  | _ => none }
def execDidRow : OpenClaim := { program := "ythpgfmmpjoodkaagreatdoor", sum := "858a353be4919bcacb81cb09888f6dc5ad779fbc35297bda35b0b0fd1c603324", func := "verger/vergerlaw20.ExecDid", spec := "execDid", inPlace := ["slices.overlaps[verger/block.Block]", "math/bits.Add64", "slices.overlaps[verger/api.Timer]"], unfollowed := true, recurses := true, named := ["verger/body.shapes"], plainKeys := false, apart := false, laid := [("verger/body.shapes", laid_verger_body_shapes)] }
def ExecDidSaid : Prop := execDidRow.holds Tryz.pinned (OpenSpec.ofChange execDidSpec)

/-- ITS FALSE NEIGHBOUR: 'it returns false'. Refute it at one input. -/
def execDidWrong : ChangeSpec := { name := "execDid", fn := fun _ => fun
  | [d1, d2, d3, d4] => { results := [.lit (.bool false)], args := [d1, d2, d3, d4] }
  | _ => none }
def ExecDidWrongFalsely : Prop := execDidRow.holds Tryz.pinned (OpenSpec.ofChange execDidWrong)

/-- 'vergerlaw19.WorkBodies': WHATEVER THE INPUT: true; the input reads as it did. -/
def workBodiesSpec : ChangeSpec := { name := "workBodies", fn := fun _ => fun
  | [d] => { results := [.lit (.bool true)], args := [d] }
  | _ => none }
def workBodiesRow : OpenClaim := { program := "ythpgfmmpjoodkaagreatdoor", sum := "858a353be4919bcacb81cb09888f6dc5ad779fbc35297bda35b0b0fd1c603324", func := "verger/vergerlaw19.WorkBodies", spec := "workBodies", inPlace := ["slices.overlaps[verger/block.Block]", "math/bits.Add64", "slices.overlaps[verger/api.Timer]"], unfollowed := true, recurses := true, named := ["verger/body.shapes"], plainKeys := false, apart := false, laid := [("verger/body.shapes", laid_verger_body_shapes)] }
def WorkBodiesSaid : Prop := workBodiesRow.holds Tryz.pinned (OpenSpec.ofChange workBodiesSpec)

/-- ITS FALSE NEIGHBOUR: 'it returns false'. Refute it at one input. -/
def workBodiesWrong : ChangeSpec := { name := "workBodies", fn := fun _ => fun
  | [d] => { results := [.lit (.bool false)], args := [d] }
  | _ => none }
def WorkBodiesWrongFalsely : Prop := workBodiesRow.holds Tryz.pinned (OpenSpec.ofChange workBodiesWrong)

/- THE SECOND FORM. 'bulk': how many values and letters a reading holds, each counted each time it is reached (what is shared counts as often as it is met; a slice's spare places count too). A statement '..UptoSaid' is the law's where the arguments, and the package variables that the reading takes, are together of bulk at most 1048576: NARROWER than '..Said'. Prove '..Said' where nothing that the law and all that it calls make is longer than what came in: it says more and counts as full. Else prove '..UptoSaid'. A law counts once. -/
mutual
def uptoBulk {H : Type} : DataW H → Nat
  | .lit (.string bytes) => bytes.length + 1
  | .lit _ => 1
  | .nil => 1
  | .ptr d => uptoBulk d + 1
  | .slice elems spare => uptoBulkAll elems + uptoBulkAll spare + 1
  | .agg parts => uptoBulkAll parts + 1
  | .iface _ d => uptoBulk d + 1
  | .map entries => uptoBulkEntries entries + 1
  | .held _ => 1
def uptoBulkAll {H : Type} : List (DataW H) → Nat
  | [] => 0
  | d :: r => uptoBulk d + uptoBulkAll r
def uptoBulkEntries {H : Type} : List (Lit × DataW H) → Nat
  | [] => 0
  | x :: r => uptoBulkEntry x + uptoBulkEntries r
def uptoBulkEntry {H : Type} : Lit × DataW H → Nat
  | (.string bytes, d) => bytes.length + uptoBulk d + 1
  | (_, d) => uptoBulk d + 1
 end
def uptoSmall : (H : Type) → List (DataW H) → Bool := fun _ ds => decide (uptoBulkAll ds ≤ 1048576)
def OpenSpec.upto (s : _root_.Go.ChangeSpec) : _root_.Go.OpenSpec := { _root_.Go.OpenSpec.ofChange s with cond := some uptoSmall }

/-- 'vergerlaw18.CoreWaits', WHERE WHAT IT READS IS OF BULK AT MOST 1048576: true; the input reads as it did. -/
def coreWaitsUptoRow : OpenClaim := { program := "ythpgfmmpjoodkaagreatdoor", sum := "858a353be4919bcacb81cb09888f6dc5ad779fbc35297bda35b0b0fd1c603324", func := "verger/vergerlaw18.CoreWaits", spec := "coreWaits", inPlace := ["slices.overlaps[verger/block.Block]", "math/bits.Add64", "slices.overlaps[verger/api.Timer]"], unfollowed := true, recurses := true, named := ["verger/body.shapes"], plainKeys := false, apart := false, laid := [("verger/body.shapes", laid_verger_body_shapes)], narrowed := true }
def CoreWaitsUptoSaid : Prop := coreWaitsUptoRow.holds Tryz.pinned (OpenSpec.upto coreWaitsSpec)

/-- 'vergerlaw18.CoreCloses', WHERE WHAT IT READS IS OF BULK AT MOST 1048576: true; the input reads as it did. -/
def coreClosesUptoRow : OpenClaim := { program := "ythpgfmmpjoodkaagreatdoor", sum := "858a353be4919bcacb81cb09888f6dc5ad779fbc35297bda35b0b0fd1c603324", func := "verger/vergerlaw18.CoreCloses", spec := "coreCloses", inPlace := ["slices.overlaps[verger/block.Block]", "math/bits.Add64", "slices.overlaps[verger/api.Timer]"], unfollowed := true, recurses := true, named := ["verger/body.shapes", "math/bits.deBruijn64tab"], plainKeys := false, apart := false, laid := [("math/bits.deBruijn64tab", laid_math_bits_deBruijn64tab), ("verger/body.shapes", laid_verger_body_shapes)], narrowed := true }
def CoreClosesUptoSaid : Prop := coreClosesUptoRow.holds Tryz.pinned (OpenSpec.upto coreClosesSpec)

/-- 'vergerlaw20.ExecAlone', WHERE WHAT IT READS IS OF BULK AT MOST 1048576: true; the input reads as it did. -/
def execAloneUptoRow : OpenClaim := { program := "ythpgfmmpjoodkaagreatdoor", sum := "858a353be4919bcacb81cb09888f6dc5ad779fbc35297bda35b0b0fd1c603324", func := "verger/vergerlaw20.ExecAlone", spec := "execAlone", inPlace := ["slices.overlaps[verger/block.Block]", "math/bits.Add64", "slices.overlaps[verger/api.Timer]"], unfollowed := true, recurses := true, named := ["verger/body.shapes"], plainKeys := false, apart := false, laid := [("verger/body.shapes", laid_verger_body_shapes)], narrowed := true }
def ExecAloneUptoSaid : Prop := execAloneUptoRow.holds Tryz.pinned (OpenSpec.upto execAloneSpec)

/-- 'vergerlaw20.ExecDid', WHERE WHAT IT READS IS OF BULK AT MOST 1048576: true; the input reads as it did. -/
def execDidUptoRow : OpenClaim := { program := "ythpgfmmpjoodkaagreatdoor", sum := "858a353be4919bcacb81cb09888f6dc5ad779fbc35297bda35b0b0fd1c603324", func := "verger/vergerlaw20.ExecDid", spec := "execDid", inPlace := ["slices.overlaps[verger/block.Block]", "math/bits.Add64", "slices.overlaps[verger/api.Timer]"], unfollowed := true, recurses := true, named := ["verger/body.shapes"], plainKeys := false, apart := false, laid := [("verger/body.shapes", laid_verger_body_shapes)], narrowed := true }
def ExecDidUptoSaid : Prop := execDidUptoRow.holds Tryz.pinned (OpenSpec.upto execDidSpec)

/-- 'vergerlaw19.WorkBodies', WHERE WHAT IT READS IS OF BULK AT MOST 1048576: true; the input reads as it did. -/
def workBodiesUptoRow : OpenClaim := { program := "ythpgfmmpjoodkaagreatdoor", sum := "858a353be4919bcacb81cb09888f6dc5ad779fbc35297bda35b0b0fd1c603324", func := "verger/vergerlaw19.WorkBodies", spec := "workBodies", inPlace := ["slices.overlaps[verger/block.Block]", "math/bits.Add64", "slices.overlaps[verger/api.Timer]"], unfollowed := true, recurses := true, named := ["verger/body.shapes"], plainKeys := false, apart := false, laid := [("verger/body.shapes", laid_verger_body_shapes)], narrowed := true }
def WorkBodiesUptoSaid : Prop := workBodiesUptoRow.holds Tryz.pinned (OpenSpec.upto workBodiesSpec)

end Rows
end Go.Proofs.YthpgfmmpjoodkaaGreatDoor

/-
  NARROWER THAN 'FOR EVERY INPUT', by the rows' own cells (each row's printed sentence says how): WorkBodies: laid.
  DERIVED. THE GIVEN ROWS OF THIS SEAT. 1 by the template 'for every input the law returns true; each argument reads behind the call as it read before'; 0 by the template 'total and deterministic' (their statements: YtjpbngiddjkjiaaGreatDoorTotals.lean).
  GIVEN WITH THE SEED: the statements are not yours to turn. If you find one false, say at which input.
  Laid BY PROGRAM, IN A SANDBOX (cutbox-rows.mjs): the forced cells as the released guide's own fill.sh prints them over the translation 88b77683e7d0954c… (all of the seat's roots in one cut). By AI agents, Wed Nov 11 2026. No macro, syntax, notation, axiom, sorry.
-/
import Derived.Test.YtjpbngiddjkjiaaGreatDoorChecked
import GoSem.Claim
import GoSem.ClaimJoined
import GoSem.ClaimMapViews
import Derived.JoinedTies
import Derived.KernelRfl
namespace Go.Proofs.YtjpbngiddjkjiaaGreatDoor
/- THE CELL 'sum', in the pinned program and in every row, IS THE sha256 OF THE DUMP (.gsa) THAT YtjpbngiddjkjiaaGreatDoorProg.lean LOADS. Nothing in Lean hashes anything: it is a label: what it is worth is what the hold of that sum in a sandbox is worth. -/
noncomputable def Tryz.pinned : Pinned := { name := "ytjpbngiddjkjiaagreatdoor", sum := "88b77683e7d0954cbfec3732ffa9c6885bf8a35c3153d974df95823624eba6cb", checked := Tryz.checked }
namespace Rows
def none {H : Type} : Left H := { results := [], args := [] }

/- WHAT THE LISTED PACKAGE-LEVEL VARIABLES READ AS WHEN THE CALL BEGINS. Each datum BY PROGRAM (the guide's laid-datum.mjs) off the statement by which the dump's own 'gosem.cut.vars' lays the variable. In a bare row this is a premise. The card (YtjpbngiddjkjiaaGreatDoorCards.lean) ties it to the program's text. -/
def laid_verger_body_shapes {H : Type} : DataW H := .agg [.agg [.lit (.string []), .lit (.int .i64 0), .agg [.lit (.int .i64 0), .lit (.int .i64 0)], .agg [.lit (.int .i64 0), .lit (.int .i64 0)]], .agg [.lit (.string [110, 111, 112]), .lit (.int .i64 0), .agg [.lit (.int .i64 0), .lit (.int .i64 0)], .agg [.lit (.int .i64 0), .lit (.int .i64 0)]], .agg [.lit (.string [115, 117, 98, 109, 105, 116]), .lit (.int .i64 1), .agg [.lit (.int .i64 0), .lit (.int .i64 0)], .agg [.lit (.int .i64 7), .lit (.int .i64 0)]], .agg [.lit (.string [97, 102, 116, 101, 114]), .lit (.int .i64 2), .agg [.lit (.int .i64 0), .lit (.int .i64 0)], .agg [.lit (.int .i64 7), .lit (.int .i64 1000000)]], .agg [.lit (.string [99, 97, 110, 99, 101, 108]), .lit (.int .i64 1), .agg [.lit (.int .i64 1), .lit (.int .i64 0)], .agg [.lit (.int .i64 1000), .lit (.int .i64 0)]], .agg [.lit (.string [112, 97, 110, 105, 99]), .lit (.int .i64 0), .agg [.lit (.int .i64 0), .lit (.int .i64 0)], .agg [.lit (.int .i64 0), .lit (.int .i64 0)]]]

/-- 'vergerlaw19.WorkBodies': WHATEVER THE INPUT: true; the input reads as it did. -/
def workBodiesSpec : ChangeSpec := { name := "workBodies", fn := fun _ => fun
  | [d] => { results := [.lit (.bool true)], args := [d] }
  | _ => none }
def workBodiesRow : OpenClaim := { program := "ytjpbngiddjkjiaagreatdoor", sum := "88b77683e7d0954cbfec3732ffa9c6885bf8a35c3153d974df95823624eba6cb", func := "verger/vergerlaw19.WorkBodies", spec := "workBodies", inPlace := ["slices.overlaps[verger/block.Block]", "math/bits.Add64", "slices.overlaps[verger/api.Timer]"], unfollowed := true, recurses := true, named := ["verger/body.shapes"], plainKeys := false, apart := false, laid := [("verger/body.shapes", laid_verger_body_shapes)] }
def WorkBodiesSaid : Prop := workBodiesRow.holds Tryz.pinned (OpenSpec.ofChange workBodiesSpec)

/-- ITS FALSE NEIGHBOUR: 'it returns false'. Refute it at one input. -/
def workBodiesWrong : ChangeSpec := { name := "workBodies", fn := fun _ => fun
  | [d] => { results := [.lit (.bool false)], args := [d] }
  | _ => none }
def WorkBodiesWrongFalsely : Prop := workBodiesRow.holds Tryz.pinned (OpenSpec.ofChange workBodiesWrong)

/- THE SECOND FORM. 'bulk': how many values and letters a reading holds, each counted each time it is reached (what is shared counts as often as it is met; a slice's spare places count too). A statement '..UptoSaid' is the law's where the arguments, and the package variables that the reading takes, are together of bulk at most 1048576: NARROWER than '..Said'. Prove '..Said' where nothing that the law and all that it calls make is longer than what came in: it says more and counts as full. Else prove '..UptoSaid'. A law counts once. -/
mutual
def uptoBulk {H : Type} : DataW H → Nat
  | .lit (.string bytes) => bytes.length + 1
  | .lit _ => 1
  | .nil => 1
  | .ptr d => uptoBulk d + 1
  | .slice elems spare => uptoBulkAll elems + uptoBulkAll spare + 1
  | .agg parts => uptoBulkAll parts + 1
  | .iface _ d => uptoBulk d + 1
  | .map entries => uptoBulkEntries entries + 1
  | .held _ => 1
def uptoBulkAll {H : Type} : List (DataW H) → Nat
  | [] => 0
  | d :: r => uptoBulk d + uptoBulkAll r
def uptoBulkEntries {H : Type} : List (Lit × DataW H) → Nat
  | [] => 0
  | x :: r => uptoBulkEntry x + uptoBulkEntries r
def uptoBulkEntry {H : Type} : Lit × DataW H → Nat
  | (.string bytes, d) => bytes.length + uptoBulk d + 1
  | (_, d) => uptoBulk d + 1
 end
def uptoSmall : (H : Type) → List (DataW H) → Bool := fun _ ds => decide (uptoBulkAll ds ≤ 1048576)
def OpenSpec.upto (s : _root_.Go.ChangeSpec) : _root_.Go.OpenSpec := { _root_.Go.OpenSpec.ofChange s with cond := some uptoSmall }

/-- 'vergerlaw19.WorkBodies', WHERE WHAT IT READS IS OF BULK AT MOST 1048576: true; the input reads as it did. -/
def workBodiesUptoRow : OpenClaim := { program := "ytjpbngiddjkjiaagreatdoor", sum := "88b77683e7d0954cbfec3732ffa9c6885bf8a35c3153d974df95823624eba6cb", func := "verger/vergerlaw19.WorkBodies", spec := "workBodies", inPlace := ["slices.overlaps[verger/block.Block]", "math/bits.Add64", "slices.overlaps[verger/api.Timer]"], unfollowed := true, recurses := true, named := ["verger/body.shapes"], plainKeys := false, apart := false, laid := [("verger/body.shapes", laid_verger_body_shapes)], narrowed := true }
def WorkBodiesUptoSaid : Prop := workBodiesUptoRow.holds Tryz.pinned (OpenSpec.upto workBodiesSpec)

end Rows
end Go.Proofs.YtjpbngiddjkjiaaGreatDoor

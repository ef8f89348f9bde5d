/-
  No cell of these rows narrows 'for every input' (looked for: loops, veiled, ifaces, maps, wideKeys, modest, calm, conditions, laid).
  DERIVED. THE GIVEN ROWS OF THIS SEAT. 4 by the template 'for every input the law returns true; each argument reads behind the call as it read before'; 0 by the template 'total and deterministic' (their statements: YtcaeakddcanamaaTotals.lean).
  GIVEN WITH THE SEED: the statements are not yours to turn. If you find one false, say at which input.
  Laid BY PROGRAM, IN A SANDBOX (cutbox-rows.mjs): the forced cells as the released guide's own fill.sh prints them over the translation 08c00f3d6600399b… (all of the seat's roots in one cut). By AI agents, Wed Nov 11 2026. No macro, syntax, notation, axiom, sorry.
-/
import Derived.Test.YtcaeakddcanamaaChecked
import GoSem.Claim
import GoSem.ClaimJoined
import GoSem.ClaimMapViews
import Derived.JoinedTies
import Derived.KernelRfl
namespace Go.Proofs.Ytcaeakddcanamaa
/- THE CELL 'sum', in the pinned program and in every row, IS THE sha256 OF THE DUMP (.gsa) THAT YtcaeakddcanamaaProg.lean LOADS. Nothing in Lean hashes anything: it is a label: what it is worth is what the hold of that sum in a sandbox is worth. -/
noncomputable def Try.pinned : Pinned := { name := "ytcaeakddcanamaa", sum := "08c00f3d6600399b4e2b3d0388b9bb73330342c3817f780022992e0512e4eaf3", checked := Try.checked }
namespace Rows
def none {H : Type} : Left H := { results := [], args := [] }

/-- 'vergerlaw4.ArenaFills': WHATEVER THE INPUT: true; the input reads as it did. -/
def arenaFillsSpec : ChangeSpec := { name := "arenaFills", fn := fun _ => fun
  | [d1, d2] => { results := [.lit (.bool true)], args := [d1, d2] }
  | _ => none }
def arenaFillsRow : OpenClaim := { program := "ytcaeakddcanamaa", sum := "08c00f3d6600399b4e2b3d0388b9bb73330342c3817f780022992e0512e4eaf3", func := "verger/vergerlaw4.ArenaFills", spec := "arenaFills", plainKeys := false, apart := false }
def ArenaFillsSaid : Prop := arenaFillsRow.holds Try.pinned (OpenSpec.ofChange arenaFillsSpec)

/-- ITS FALSE NEIGHBOUR: 'it returns false'. Refute it at one input. -/
def arenaFillsWrong : ChangeSpec := { name := "arenaFills", fn := fun _ => fun
  | [d1, d2] => { results := [.lit (.bool false)], args := [d1, d2] }
  | _ => none }
def ArenaFillsWrongFalsely : Prop := arenaFillsRow.holds Try.pinned (OpenSpec.ofChange arenaFillsWrong)

/-- 'vergerlaw4.ArenaOld': WHATEVER THE INPUT: true; the input reads as it did. -/
def arenaOldSpec : ChangeSpec := { name := "arenaOld", fn := fun _ => fun
  | [d] => { results := [.lit (.bool true)], args := [d] }
  | _ => none }
def arenaOldRow : OpenClaim := { program := "ytcaeakddcanamaa", sum := "08c00f3d6600399b4e2b3d0388b9bb73330342c3817f780022992e0512e4eaf3", func := "verger/vergerlaw4.ArenaOld", spec := "arenaOld", plainKeys := false, apart := false }
def ArenaOldSaid : Prop := arenaOldRow.holds Try.pinned (OpenSpec.ofChange arenaOldSpec)

/-- ITS FALSE NEIGHBOUR: 'it returns false'. Refute it at one input. -/
def arenaOldWrong : ChangeSpec := { name := "arenaOld", fn := fun _ => fun
  | [d] => { results := [.lit (.bool false)], args := [d] }
  | _ => none }
def ArenaOldWrongFalsely : Prop := arenaOldRow.holds Try.pinned (OpenSpec.ofChange arenaOldWrong)

/-- 'vergerlaw4.ArenaPlays': WHATEVER THE INPUT: true; the input reads as it did. -/
def arenaPlaysSpec : ChangeSpec := { name := "arenaPlays", fn := fun _ => fun
  | [d1, d2] => { results := [.lit (.bool true)], args := [d1, d2] }
  | _ => none }
def arenaPlaysRow : OpenClaim := { program := "ytcaeakddcanamaa", sum := "08c00f3d6600399b4e2b3d0388b9bb73330342c3817f780022992e0512e4eaf3", func := "verger/vergerlaw4.ArenaPlays", spec := "arenaPlays", plainKeys := false, apart := false }
def ArenaPlaysSaid : Prop := arenaPlaysRow.holds Try.pinned (OpenSpec.ofChange arenaPlaysSpec)

/-- ITS FALSE NEIGHBOUR: 'it returns false'. Refute it at one input. -/
def arenaPlaysWrong : ChangeSpec := { name := "arenaPlays", fn := fun _ => fun
  | [d1, d2] => { results := [.lit (.bool false)], args := [d1, d2] }
  | _ => none }
def ArenaPlaysWrongFalsely : Prop := arenaPlaysRow.holds Try.pinned (OpenSpec.ofChange arenaPlaysWrong)

/-- 'vergerlaw4.ArenaClaims': WHATEVER THE INPUT: true; the input reads as it did. -/
def arenaClaimsSpec : ChangeSpec := { name := "arenaClaims", fn := fun _ => fun
  | [d1, d2] => { results := [.lit (.bool true)], args := [d1, d2] }
  | _ => none }
def arenaClaimsRow : OpenClaim := { program := "ytcaeakddcanamaa", sum := "08c00f3d6600399b4e2b3d0388b9bb73330342c3817f780022992e0512e4eaf3", func := "verger/vergerlaw4.ArenaClaims", spec := "arenaClaims", plainKeys := false, apart := false }
def ArenaClaimsSaid : Prop := arenaClaimsRow.holds Try.pinned (OpenSpec.ofChange arenaClaimsSpec)

/-- ITS FALSE NEIGHBOUR: 'it returns false'. Refute it at one input. -/
def arenaClaimsWrong : ChangeSpec := { name := "arenaClaims", fn := fun _ => fun
  | [d1, d2] => { results := [.lit (.bool false)], args := [d1, d2] }
  | _ => none }
def ArenaClaimsWrongFalsely : Prop := arenaClaimsRow.holds Try.pinned (OpenSpec.ofChange arenaClaimsWrong)

/- THE SECOND FORM. 'bulk': how many values and letters a reading holds, each counted each time it is reached (what is shared counts as often as it is met; a slice's spare places count too). A statement '..UptoSaid' is the law's where the arguments, and the package variables that the reading takes, are together of bulk at most 1048576: NARROWER than '..Said'. Prove '..Said' where nothing that the law and all that it calls make is longer than what came in: it says more and counts as full. Else prove '..UptoSaid'. A law counts once. -/
mutual
def uptoBulk {H : Type} : DataW H → Nat
  | .lit (.string bytes) => bytes.length + 1
  | .lit _ => 1
  | .nil => 1
  | .ptr d => uptoBulk d + 1
  | .slice elems spare => uptoBulkAll elems + uptoBulkAll spare + 1
  | .agg parts => uptoBulkAll parts + 1
  | .iface _ d => uptoBulk d + 1
  | .map entries => uptoBulkEntries entries + 1
  | .held _ => 1
def uptoBulkAll {H : Type} : List (DataW H) → Nat
  | [] => 0
  | d :: r => uptoBulk d + uptoBulkAll r
def uptoBulkEntries {H : Type} : List (Lit × DataW H) → Nat
  | [] => 0
  | x :: r => uptoBulkEntry x + uptoBulkEntries r
def uptoBulkEntry {H : Type} : Lit × DataW H → Nat
  | (.string bytes, d) => bytes.length + uptoBulk d + 1
  | (_, d) => uptoBulk d + 1
 end
def uptoSmall : (H : Type) → List (DataW H) → Bool := fun _ ds => decide (uptoBulkAll ds ≤ 1048576)
def OpenSpec.upto (s : _root_.Go.ChangeSpec) : _root_.Go.OpenSpec := { _root_.Go.OpenSpec.ofChange s with cond := some uptoSmall }

/-- 'vergerlaw4.ArenaFills', WHERE WHAT IT READS IS OF BULK AT MOST 1048576: true; the input reads as it did. -/
def arenaFillsUptoRow : OpenClaim := { program := "ytcaeakddcanamaa", sum := "08c00f3d6600399b4e2b3d0388b9bb73330342c3817f780022992e0512e4eaf3", func := "verger/vergerlaw4.ArenaFills", spec := "arenaFills", plainKeys := false, apart := false, narrowed := true }
def ArenaFillsUptoSaid : Prop := arenaFillsUptoRow.holds Try.pinned (OpenSpec.upto arenaFillsSpec)

/-- 'vergerlaw4.ArenaOld', WHERE WHAT IT READS IS OF BULK AT MOST 1048576: true; the input reads as it did. -/
def arenaOldUptoRow : OpenClaim := { program := "ytcaeakddcanamaa", sum := "08c00f3d6600399b4e2b3d0388b9bb73330342c3817f780022992e0512e4eaf3", func := "verger/vergerlaw4.ArenaOld", spec := "arenaOld", plainKeys := false, apart := false, narrowed := true }
def ArenaOldUptoSaid : Prop := arenaOldUptoRow.holds Try.pinned (OpenSpec.upto arenaOldSpec)

/-- 'vergerlaw4.ArenaPlays', WHERE WHAT IT READS IS OF BULK AT MOST 1048576: true; the input reads as it did. -/
def arenaPlaysUptoRow : OpenClaim := { program := "ytcaeakddcanamaa", sum := "08c00f3d6600399b4e2b3d0388b9bb73330342c3817f780022992e0512e4eaf3", func := "verger/vergerlaw4.ArenaPlays", spec := "arenaPlays", plainKeys := false, apart := false, narrowed := true }
def ArenaPlaysUptoSaid : Prop := arenaPlaysUptoRow.holds Try.pinned (OpenSpec.upto arenaPlaysSpec)

/-- 'vergerlaw4.ArenaClaims', WHERE WHAT IT READS IS OF BULK AT MOST 1048576: true; the input reads as it did. -/
def arenaClaimsUptoRow : OpenClaim := { program := "ytcaeakddcanamaa", sum := "08c00f3d6600399b4e2b3d0388b9bb73330342c3817f780022992e0512e4eaf3", func := "verger/vergerlaw4.ArenaClaims", spec := "arenaClaims", plainKeys := false, apart := false, narrowed := true }
def ArenaClaimsUptoSaid : Prop := arenaClaimsUptoRow.holds Try.pinned (OpenSpec.upto arenaClaimsSpec)

end Rows
end Go.Proofs.Ytcaeakddcanamaa

/-
  No cell of these rows narrows 'for every input' (looked for: loops, veiled, ifaces, maps, wideKeys, modest, calm, conditions, laid).
  DERIVED. THE GIVEN ROWS OF THIS SEAT. 5 by the template 'for every input the law returns true; each argument reads behind the call as it read before'; 0 by the template 'total and deterministic' (their statements: YtboccihcomaaoaaTotals.lean).
  GIVEN WITH THE SEED: the statements are not yours to turn. If you find one false, say at which input.
  Laid BY PROGRAM, IN A SANDBOX (cutbox-rows.mjs): the forced cells as the released guide's own fill.sh prints them over the translation c31f94172aeb3b1b… (all of the seat's roots in one cut). By AI agents, Wed Nov 11 2026. No macro, syntax, notation, axiom, sorry.
-/
import Derived.Test.YtboccihcomaaoaaChecked
import GoSem.Claim
import GoSem.ClaimJoined
import GoSem.ClaimMapViews
import Derived.JoinedTies
import Derived.KernelRfl
namespace Go.Proofs.Ytboccihcomaaoaa
/- THE CELL 'sum', in the pinned program and in every row, IS THE sha256 OF THE DUMP (.gsa) THAT YtboccihcomaaoaaProg.lean LOADS. Nothing in Lean hashes anything: it is a label: what it is worth is what the hold of that sum in a sandbox is worth. -/
noncomputable def Try.pinned : Pinned := { name := "ytboccihcomaaoaa", sum := "c31f94172aeb3b1b83ed38a5c8d7ba8dab1c0b976278d07e27194f67f5a737d6", checked := Try.checked }
namespace Rows
def none {H : Type} : Left H := { results := [], args := [] }

/-- 'vergerlaw8.SharedKeeps': WHATEVER THE INPUT: true; the input reads as it did. -/
def sharedKeepsSpec : ChangeSpec := { name := "sharedKeeps", fn := fun _ => fun
  | [d1, d2] => { results := [.lit (.bool true)], args := [d1, d2] }
  | _ => none }
def sharedKeepsRow : OpenClaim := { program := "ytboccihcomaaoaa", sum := "c31f94172aeb3b1b83ed38a5c8d7ba8dab1c0b976278d07e27194f67f5a737d6", func := "verger/vergerlaw8.SharedKeeps", spec := "sharedKeeps", inPlace := ["slices.overlaps[verger/block.Block]"], unfollowed := true, recurses := true, apart := false }
def SharedKeepsSaid : Prop := sharedKeepsRow.holds Try.pinned (OpenSpec.ofChange sharedKeepsSpec)

/-- ITS FALSE NEIGHBOUR: 'it returns false'. Refute it at one input. -/
def sharedKeepsWrong : ChangeSpec := { name := "sharedKeeps", fn := fun _ => fun
  | [d1, d2] => { results := [.lit (.bool false)], args := [d1, d2] }
  | _ => none }
def SharedKeepsWrongFalsely : Prop := sharedKeepsRow.holds Try.pinned (OpenSpec.ofChange sharedKeepsWrong)

/-- 'vergerlaw8.SharedLevels': WHATEVER THE INPUT: true; the input reads as it did. -/
def sharedLevelsSpec : ChangeSpec := { name := "sharedLevels", fn := fun _ => fun
  | [d] => { results := [.lit (.bool true)], args := [d] }
  | _ => none }
def sharedLevelsRow : OpenClaim := { program := "ytboccihcomaaoaa", sum := "c31f94172aeb3b1b83ed38a5c8d7ba8dab1c0b976278d07e27194f67f5a737d6", func := "verger/vergerlaw8.SharedLevels", spec := "sharedLevels", inPlace := ["slices.overlaps[verger/block.Block]"], unfollowed := true, recurses := true, apart := false }
def SharedLevelsSaid : Prop := sharedLevelsRow.holds Try.pinned (OpenSpec.ofChange sharedLevelsSpec)

/-- ITS FALSE NEIGHBOUR: 'it returns false'. Refute it at one input. -/
def sharedLevelsWrong : ChangeSpec := { name := "sharedLevels", fn := fun _ => fun
  | [d] => { results := [.lit (.bool false)], args := [d] }
  | _ => none }
def SharedLevelsWrongFalsely : Prop := sharedLevelsRow.holds Try.pinned (OpenSpec.ofChange sharedLevelsWrong)

/-- 'vergerlaw8.SharedPlays': WHATEVER THE INPUT: true; the input reads as it did. -/
def sharedPlaysSpec : ChangeSpec := { name := "sharedPlays", fn := fun _ => fun
  | [d1, d2, d3] => { results := [.lit (.bool true)], args := [d1, d2, d3] }
  | _ => none }
def sharedPlaysRow : OpenClaim := { program := "ytboccihcomaaoaa", sum := "c31f94172aeb3b1b83ed38a5c8d7ba8dab1c0b976278d07e27194f67f5a737d6", func := "verger/vergerlaw8.SharedPlays", spec := "sharedPlays", inPlace := ["slices.overlaps[verger/block.Block]"], unfollowed := true, recurses := true, apart := false }
def SharedPlaysSaid : Prop := sharedPlaysRow.holds Try.pinned (OpenSpec.ofChange sharedPlaysSpec)

/-- ITS FALSE NEIGHBOUR: 'it returns false'. Refute it at one input. -/
def sharedPlaysWrong : ChangeSpec := { name := "sharedPlays", fn := fun _ => fun
  | [d1, d2, d3] => { results := [.lit (.bool false)], args := [d1, d2, d3] }
  | _ => none }
def SharedPlaysWrongFalsely : Prop := sharedPlaysRow.holds Try.pinned (OpenSpec.ofChange sharedPlaysWrong)

/-- 'vergerlaw8.SharedRaces': WHATEVER THE INPUT: true; the input reads as it did. -/
def sharedRacesSpec : ChangeSpec := { name := "sharedRaces", fn := fun _ => fun
  | [d1, d2] => { results := [.lit (.bool true)], args := [d1, d2] }
  | _ => none }
def sharedRacesRow : OpenClaim := { program := "ytboccihcomaaoaa", sum := "c31f94172aeb3b1b83ed38a5c8d7ba8dab1c0b976278d07e27194f67f5a737d6", func := "verger/vergerlaw8.SharedRaces", spec := "sharedRaces", inPlace := ["slices.overlaps[verger/block.Block]"], unfollowed := true, recurses := true, apart := false }
def SharedRacesSaid : Prop := sharedRacesRow.holds Try.pinned (OpenSpec.ofChange sharedRacesSpec)

/-- ITS FALSE NEIGHBOUR: 'it returns false'. Refute it at one input. -/
def sharedRacesWrong : ChangeSpec := { name := "sharedRaces", fn := fun _ => fun
  | [d1, d2] => { results := [.lit (.bool false)], args := [d1, d2] }
  | _ => none }
def SharedRacesWrongFalsely : Prop := sharedRacesRow.holds Try.pinned (OpenSpec.ofChange sharedRacesWrong)

/-- 'vergerlaw8.SharedDraws': WHATEVER THE INPUT: true; the input reads as it did. -/
def sharedDrawsSpec : ChangeSpec := { name := "sharedDraws", fn := fun _ => fun
  | [d1, d2] => { results := [.lit (.bool true)], args := [d1, d2] }
  | _ => none }
def sharedDrawsRow : OpenClaim := { program := "ytboccihcomaaoaa", sum := "c31f94172aeb3b1b83ed38a5c8d7ba8dab1c0b976278d07e27194f67f5a737d6", func := "verger/vergerlaw8.SharedDraws", spec := "sharedDraws", inPlace := ["slices.overlaps[verger/block.Block]"], unfollowed := true, recurses := true, apart := false }
def SharedDrawsSaid : Prop := sharedDrawsRow.holds Try.pinned (OpenSpec.ofChange sharedDrawsSpec)

/-- ITS FALSE NEIGHBOUR: 'it returns false'. Refute it at one input. -/
def sharedDrawsWrong : ChangeSpec := { name := "sharedDraws", fn := fun _ => fun
  | [d1, d2] => { results := [.lit (.bool false)], args := [d1, d2] }
  | _ => none }
def SharedDrawsWrongFalsely : Prop := sharedDrawsRow.holds Try.pinned (OpenSpec.ofChange sharedDrawsWrong)

/- THE SECOND FORM. 'bulk': how many values and letters a reading holds, each counted each time it is reached (what is shared counts as often as it is met; a slice's spare places count too). A statement '..UptoSaid' is the law's where the arguments, and the package variables that the reading takes, are together of bulk at most 1048576: NARROWER than '..Said'. Prove '..Said' where nothing that the law and all that it calls make is longer than what came in: it says more and counts as full. Else prove '..UptoSaid'. A law counts once. -/
mutual
def uptoBulk {H : Type} : DataW H → Nat
  | .lit (.string bytes) => bytes.length + 1
  | .lit _ => 1
  | .nil => 1
  | .ptr d => uptoBulk d + 1
  | .slice elems spare => uptoBulkAll elems + uptoBulkAll spare + 1
  | .agg parts => uptoBulkAll parts + 1
  | .iface _ d => uptoBulk d + 1
  | .map entries => uptoBulkEntries entries + 1
  | .held _ => 1
def uptoBulkAll {H : Type} : List (DataW H) → Nat
  | [] => 0
  | d :: r => uptoBulk d + uptoBulkAll r
def uptoBulkEntries {H : Type} : List (Lit × DataW H) → Nat
  | [] => 0
  | x :: r => uptoBulkEntry x + uptoBulkEntries r
def uptoBulkEntry {H : Type} : Lit × DataW H → Nat
  | (.string bytes, d) => bytes.length + uptoBulk d + 1
  | (_, d) => uptoBulk d + 1
 end
def uptoSmall : (H : Type) → List (DataW H) → Bool := fun _ ds => decide (uptoBulkAll ds ≤ 1048576)
def OpenSpec.upto (s : _root_.Go.ChangeSpec) : _root_.Go.OpenSpec := { _root_.Go.OpenSpec.ofChange s with cond := some uptoSmall }

/-- 'vergerlaw8.SharedKeeps', WHERE WHAT IT READS IS OF BULK AT MOST 1048576: true; the input reads as it did. -/
def sharedKeepsUptoRow : OpenClaim := { program := "ytboccihcomaaoaa", sum := "c31f94172aeb3b1b83ed38a5c8d7ba8dab1c0b976278d07e27194f67f5a737d6", func := "verger/vergerlaw8.SharedKeeps", spec := "sharedKeeps", inPlace := ["slices.overlaps[verger/block.Block]"], unfollowed := true, recurses := true, apart := false, narrowed := true }
def SharedKeepsUptoSaid : Prop := sharedKeepsUptoRow.holds Try.pinned (OpenSpec.upto sharedKeepsSpec)

/-- 'vergerlaw8.SharedLevels', WHERE WHAT IT READS IS OF BULK AT MOST 1048576: true; the input reads as it did. -/
def sharedLevelsUptoRow : OpenClaim := { program := "ytboccihcomaaoaa", sum := "c31f94172aeb3b1b83ed38a5c8d7ba8dab1c0b976278d07e27194f67f5a737d6", func := "verger/vergerlaw8.SharedLevels", spec := "sharedLevels", inPlace := ["slices.overlaps[verger/block.Block]"], unfollowed := true, recurses := true, apart := false, narrowed := true }
def SharedLevelsUptoSaid : Prop := sharedLevelsUptoRow.holds Try.pinned (OpenSpec.upto sharedLevelsSpec)

/-- 'vergerlaw8.SharedPlays', WHERE WHAT IT READS IS OF BULK AT MOST 1048576: true; the input reads as it did. -/
def sharedPlaysUptoRow : OpenClaim := { program := "ytboccihcomaaoaa", sum := "c31f94172aeb3b1b83ed38a5c8d7ba8dab1c0b976278d07e27194f67f5a737d6", func := "verger/vergerlaw8.SharedPlays", spec := "sharedPlays", inPlace := ["slices.overlaps[verger/block.Block]"], unfollowed := true, recurses := true, apart := false, narrowed := true }
def SharedPlaysUptoSaid : Prop := sharedPlaysUptoRow.holds Try.pinned (OpenSpec.upto sharedPlaysSpec)

/-- 'vergerlaw8.SharedRaces', WHERE WHAT IT READS IS OF BULK AT MOST 1048576: true; the input reads as it did. -/
def sharedRacesUptoRow : OpenClaim := { program := "ytboccihcomaaoaa", sum := "c31f94172aeb3b1b83ed38a5c8d7ba8dab1c0b976278d07e27194f67f5a737d6", func := "verger/vergerlaw8.SharedRaces", spec := "sharedRaces", inPlace := ["slices.overlaps[verger/block.Block]"], unfollowed := true, recurses := true, apart := false, narrowed := true }
def SharedRacesUptoSaid : Prop := sharedRacesUptoRow.holds Try.pinned (OpenSpec.upto sharedRacesSpec)

/-- 'vergerlaw8.SharedDraws', WHERE WHAT IT READS IS OF BULK AT MOST 1048576: true; the input reads as it did. -/
def sharedDrawsUptoRow : OpenClaim := { program := "ytboccihcomaaoaa", sum := "c31f94172aeb3b1b83ed38a5c8d7ba8dab1c0b976278d07e27194f67f5a737d6", func := "verger/vergerlaw8.SharedDraws", spec := "sharedDraws", inPlace := ["slices.overlaps[verger/block.Block]"], unfollowed := true, recurses := true, apart := false, narrowed := true }
def SharedDrawsUptoSaid : Prop := sharedDrawsUptoRow.holds Try.pinned (OpenSpec.upto sharedDrawsSpec)

end Rows
end Go.Proofs.Ytboccihcomaaoaa

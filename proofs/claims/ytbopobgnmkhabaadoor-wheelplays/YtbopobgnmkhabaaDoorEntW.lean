/- A row of entries in the heap, as a sort sees it: its cells, a swap of two entries; the compare function's own contract. -/
import Derived.Test.YtbopobgnmkhabaaDoorProg
import Derived.Test.YtbopobgnmkhabaaDoorEntM
import Derived.Shelf.SlSortCmp.KitK
import Derived.WalkKit
namespace Go.Proofs.YtbopobgnmkhabaaDoor
open Go.RowKit Go.Lib Go.Sort
set_option linter.unusedVariables false

/-- An entry's cells. -/
def encE (x : Ent) : List Value := [.int .u64 x.1, .int .i64 x.2]
theorem encE_len (x : Ent) : (encE x).length = 2 := rfl
theorem encE_one (x : Ent) : ∀ v ∈ encE x, v.oneCell' = true := by
  intro v hv
  simp [encE] at hv
  rcases hv with rfl | rfl <;> rfl
/-- The world is w0 but for the row's entries, draws, and blocks laid since. -/
abbrev SE (w0 : World) (blk off : Nat) (d : Array Ent) (W : World) : Prop := SWK encE 2 w0 blk off d W
abbrev RE (w0 : World) (blk off : Nat) (d : Array Ent) : Prop := RowK encE 2 w0 blk off d

variable {w0 W : World} {blk off : Nat} {d0 d dk : Array Ent}

theorem se_c0 (S : SE w0 blk off dk W) (R : RE w0 blk off d0) (hs : dk.size = d0.size) {i : Nat} (hi : i < dk.size) : W.cell? ⟨blk, off + i * 2, none⟩ = some (.int .u64 dk[i]!.1) :=
  ((S.holds R.hblk R.hH hs).cell hi (show 0 < 2 by omega)).1
theorem se_c1 (S : SE w0 blk off dk W) (R : RE w0 blk off d0) (hs : dk.size = d0.size) {i : Nat} (hi : i < dk.size) : W.cell? ⟨blk, off + i * 2 + 1, none⟩ = some (.int .i64 dk[i]!.2) :=
  ((S.holds R.hblk R.hH hs).cell hi (show 1 < 2 by omega)).1
theorem se_f0 (S : SE w0 blk off dk W) (R : RE w0 blk off d0) (hs : dk.size = d0.size) {i : Nat} (hi : i < dk.size) : W.frozen? ⟨blk, off + i * 2, none⟩ = false :=
  ((S.holds R.hblk R.hH hs).cell hi (show 0 < 2 by omega)).2
theorem se_f1 (S : SE w0 blk off dk W) (R : RE w0 blk off d0) (hs : dk.size = d0.size) {i : Nat} (hi : i < dk.size) : W.frozen? ⟨blk, off + i * 2 + 1, none⟩ = false :=
  ((S.holds R.hblk R.hH hs).cell hi (show 1 < 2 by omega)).2
theorem se_swap (S : SE w0 blk off dk W) (R : RE w0 blk off d0) {i j : Nat} (hi : i < dk.size) (hj : j < dk.size) :
    SE w0 blk off (swp dk i j) ((((W.setCell ⟨blk, off + i * 2, none⟩ (.int .u64 dk[j]!.1)).setCell ⟨blk, off + i * 2 + 1, none⟩ (.int .i64 dk[j]!.2)).setCell ⟨blk, off + j * 2, none⟩ (.int .u64 dk[i]!.1)).setCell ⟨blk, off + j * 2 + 1, none⟩ (.int .i64 dk[i]!.2)).drew :=
  (S.swap R.hk R.hblk i j hi hj).drew
theorem mixed : Tryd.prog.follows .mixedOrders = true := by kernel_rfl
end Go.Proofs.YtbopobgnmkhabaaDoor

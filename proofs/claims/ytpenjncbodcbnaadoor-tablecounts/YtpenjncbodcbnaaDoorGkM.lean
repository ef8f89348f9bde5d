/- A job in the heap; New, Ok and the document's JobOk: contracts. -/
import Derived.Test.YtpenjncbodcbnaaDoorTkA
import Derived.Deep.LoopGhost
import Derived.Deep.RegionHeld3
import Derived.Deep.Fields
import Derived.Laws.CopyOwn
namespace Go.Proofs.YtpenjncbodcbnaaDoor.Tk
open Go.RowKit
set_option linter.unusedVariables false

theorem alloc_sz (w : World) (o : Obj) : (w.alloc o).heap.size = w.heap.size + 1 := by unfold World.alloc; simp
theorem bel1 (w : World) (o : Obj) : Below w.heap.size w (w.alloc o) := (Below.refl _ _).alloc (Nat.le_refl _) _
/-- A box of a job. -/
def JBox (w : World) (B : Nat) (f p d r m : Int) : Prop := w.heap[B]? = some (.cells #[.int .u64 f, .int .u64 p, .int .u64 d, .int .u64 r, .int .u64 m] 31 (0, 0))
section
variable {w w' : World} {B : Nat} {f p d r m : Int}
theorem JBox.below (h : JBox w B f p d r m) (hw : Below w.heap.size w w') : JBox w' B f p d r m := (hw.block B (lt_of_block h)).trans h
theorem JBox.cell (h : JBox w B f p d r m) : w.cell? ⟨B, 0, none⟩ = some (.int .u64 f) ∧ w.cell? ⟨B, 1, none⟩ = some (.int .u64 p) ∧ w.cell? ⟨B, 2, none⟩ = some (.int .u64 d) ∧ w.cell? ⟨B, 3, none⟩ = some (.int .u64 r) ∧ w.cell? ⟨B, 4, none⟩ = some (.int .u64 m) := by
  unfold JBox at h
  exact ⟨by rw [cell_of_row _ _ _ _ _ _ h]; rfl, by rw [cell_of_row _ _ _ _ _ _ h]; rfl, by rw [cell_of_row _ _ _ _ _ _ h]; rfl, by rw [cell_of_row _ _ _ _ _ _ h]; rfl, by rw [cell_of_row _ _ _ _ _ _ h]; rfl⟩
theorem JBox.fz (h : JBox w B f p d r m) : (∀ o, w.frozen? ⟨B, o, none⟩ = false) ∧ B < w.heap.size := by
  unfold JBox at h
  exact ⟨fun o => by simp [World.frozen?, h], lt_of_block h⟩
theorem JBox.new (w : World) (f p d r m : Int) : JBox (w.alloc (.cells #[.int .u64 f, .int .u64 p, .int .u64 d, .int .u64 r, .int .u64 m] 31)) w.heap.size f p d r m := heap_alloc_new w _
theorem JBox.set2 (h : JBox w B f p d r m) (x : Int) : JBox (w.setCell ⟨B, 2, none⟩ (.int .u64 x)) B f p x r m := by
  unfold JBox at *
  have e1 := setRow_heap w B _ (#[.int .u64 f, .int .u64 p, .int .u64 d, .int .u64 r, .int .u64 m].setIfInBounds 2 (.int .u64 x)) 31 (0, 0) h
  rw [← setCell_eq_setRow w B 2 _ _ (0, 0) _ h] at e1
  exact e1
theorem JBox.set3 (h : JBox w B f p d r m) (x : Int) : JBox (w.setCell ⟨B, 3, none⟩ (.int .u64 x)) B f p d x m := by
  unfold JBox at *
  have e1 := setRow_heap w B _ (#[.int .u64 f, .int .u64 p, .int .u64 d, .int .u64 r, .int .u64 m].setIfInBounds 3 (.int .u64 x)) 31 (0, 0) h
  rw [← setCell_eq_setRow w B 3 _ _ (0, 0) _ h] at e1
  exact e1
theorem JBox.set4 (h : JBox w B f p d r m) (x : Int) : JBox (w.setCell ⟨B, 4, none⟩ (.int .u64 x)) B f p d r x := by
  unfold JBox at *
  have e1 := setRow_heap w B _ (#[.int .u64 f, .int .u64 p, .int .u64 d, .int .u64 r, .int .u64 m].setIfInBounds 4 (.int .u64 x)) 31 (0, 0) h
  rw [← setCell_eq_setRow w B 4 _ _ (0, 0) _ h] at e1
  exact e1
theorem JBox.set0 (h : JBox w B f p d r m) (x : Int) : JBox (w.setCell ⟨B, 0, none⟩ (.int .u64 x)) B x p d r m := by
  unfold JBox at *
  have e1 := setRow_heap w B _ (#[.int .u64 f, .int .u64 p, .int .u64 d, .int .u64 r, .int .u64 m].setIfInBounds 0 (.int .u64 x)) 31 (0, 0) h
  rw [← setCell_eq_setRow w B 0 _ _ (0, 0) _ h] at e1
  exact e1
theorem JBox.set1 (h : JBox w B f p d r m) (x : Int) : JBox (w.setCell ⟨B, 1, none⟩ (.int .u64 x)) B f x d r m := by
  unfold JBox at *
  have e1 := setRow_heap w B _ (#[.int .u64 f, .int .u64 p, .int .u64 d, .int .u64 r, .int .u64 m].setIfInBounds 1 (.int .u64 x)) 31 (0, 0) h
  rw [← setCell_eq_setRow w B 1 _ _ (0, 0) _ h] at e1
  exact e1
theorem JBox.other (h : JBox w B f p d r m) {C o : Nat} (hn : B ≠ C) (v : Value) : JBox (w.setCell ⟨C, o, none⟩ v) B f p d r m := by
  unfold JBox at *
  rw [Below.heap_setCell]
  · exact h
  · exact hn
/-- All five cells written. -/
def put5 (w : World) (B : Nat) (f p d r m : Int) : World := ((((w.setCell ⟨B, 0, none⟩ (.int .u64 f)).setCell ⟨B, 1, none⟩ (.int .u64 p)).setCell ⟨B, 2, none⟩ (.int .u64 d)).setCell ⟨B, 3, none⟩ (.int .u64 r)).setCell ⟨B, 4, none⟩ (.int .u64 m)
theorem JBox.put {f' p' d' r' m' : Int} (h : JBox w B f' p' d' r' m') (f p d r m : Int) : JBox (put5 w B f p d r m) B f p d r m := ((((h.set0 f).set1 p).set2 d).set3 r).set4 m
theorem JBox.put_other (h : JBox w B f p d r m) {C : Nat} (hn : B ≠ C) (f' p' d' r' m' : Int) : JBox (put5 w C f' p' d' r' m') B f p d r m := ((((h.other hn _).other hn _).other hn _).other hn _).other hn _
theorem put5_below {S : Nat} {w0 : World} (h : Below S w0 w) (hB : S ≤ B) (f p d r m : Int) : Below S w0 (put5 w B f p d r m) := ((((h.setCell hB _).setCell hB _).setCell hB _).setCell hB _).setCell hB _
end
/-- Whether a job is due at a tick of its grid. -/
def okJ (f p d : Int) : Bool := decide (p > 0) && (decide (d ≥ f) && decide ((d - f) % p = 0))
section
variable {f p d : Int}
theorem ok_any (f p d r m : Int) (w : World) (hf : IsT f) (hp : IsT p) (hd : IsT d) :
    Calls Tryd.prog 19 #[.agg #[.int .u64 f, .int .u64 p, .int .u64 d, .int .u64 r, .int .u64 m]] w fun e w' => e = .returned (.bool (okJ f p d)) ∧ w' = w.alloc (.cells #[.int .u64 f, .int .u64 p, .int .u64 d, .int .u64 r, .int .u64 m] 31) := by
  obtain ⟨f0, f1⟩ := hf
  obtain ⟨p0, p1⟩ := hp
  obtain ⟨d0, d1⟩ := hd
  by_cases hp : p > 0
  · by_cases hd : d ≥ f
    · have e : okJ f p d = decide ((d - f) % p = 0) := by simp [okJ, hp, hd]
      rw [e]
      go_enter Tryd.func19, Tryd.ntmps19
      go_wp2
      go_ret
      exact ⟨ret_bool (by rw [Bool.eq_iff_iff]; simp), rfl⟩
    · have e : okJ f p d = false := by simp [okJ, hd]
      rw [e]
      go_enter Tryd.func19, Tryd.ntmps19
      go_wp2
      go_ret
      exact ⟨rfl, rfl⟩
  · have e : okJ f p d = false := by simp [okJ, hp]
    rw [e]
    obtain rfl : p = 0 := by omega
    go_enter Tryd.func19, Tryd.ntmps19
    go_wp2
    go_ret
    exact ⟨rfl, rfl⟩
end
end Go.Proofs.YtpenjncbodcbnaaDoor.Tk

/- A memory of words in the heap: what it holds, and what a store does to it. -/
import Derived.WalkKit
import Derived.Deep.OwnRows
namespace Go.Proofs.Ytnphcbogknaadaa
open Go.RowKit
set_option linter.unusedVariables false

/-- What a memory holds: its words, how many accesses, how many wins, the last word, the last kind. -/
structure Mem where
  ws : Nat → Int
  st : Nat
  wn : Nat
  lw : Int
  lk : Int

def Mem.zero : Mem := ⟨fun _ => 0, 0, 0, 0, 0⟩
/-- An access of word i of the kind c. -/
def Mem.hit (m : Mem) (i : Nat) (c : Int) : Mem := { m with st := m.st + 1, lw := i, lk := c }
/-- Word i is v now. -/
def Mem.put (m : Mem) (i : Nat) (v : Int) : Mem := { m with ws := fun j => if j = i then v else m.ws j }
def Mem.win (m : Mem) : Mem := { m with wn := m.wn + 1 }

@[simp] theorem Mem.hit_ws (m : Mem) (i : Nat) (c : Int) : (m.hit i c).ws = m.ws := rfl
@[simp] theorem Mem.hit_st (m : Mem) (i : Nat) (c : Int) : (m.hit i c).st = m.st + 1 := rfl
@[simp] theorem Mem.hit_wn (m : Mem) (i : Nat) (c : Int) : (m.hit i c).wn = m.wn := rfl
@[simp] theorem Mem.hit_lw (m : Mem) (i : Nat) (c : Int) : (m.hit i c).lw = i := rfl
@[simp] theorem Mem.hit_lk (m : Mem) (i : Nat) (c : Int) : (m.hit i c).lk = c := rfl
@[simp] theorem Mem.put_st (m : Mem) (i : Nat) (v : Int) : (m.put i v).st = m.st := rfl
@[simp] theorem Mem.put_wn (m : Mem) (i : Nat) (v : Int) : (m.put i v).wn = m.wn := rfl
@[simp] theorem Mem.put_lw (m : Mem) (i : Nat) (v : Int) : (m.put i v).lw = m.lw := rfl
@[simp] theorem Mem.put_lk (m : Mem) (i : Nat) (v : Int) : (m.put i v).lk = m.lk := rfl
@[simp] theorem Mem.put_same (m : Mem) (i : Nat) (v : Int) : (m.put i v).ws i = v := by simp [Mem.put]
theorem Mem.put_other (m : Mem) (i j : Nat) (v : Int) (h : j ≠ i) : (m.put i v).ws j = m.ws j := by simp [Mem.put, h]
@[simp] theorem Mem.win_ws (m : Mem) : m.win.ws = m.ws := rfl
@[simp] theorem Mem.win_st (m : Mem) : m.win.st = m.st := rfl
@[simp] theorem Mem.win_wn (m : Mem) : m.win.wn = m.wn + 1 := rfl
@[simp] theorem Mem.win_lw (m : Mem) : m.win.lw = m.lw := rfl
@[simp] theorem Mem.win_lk (m : Mem) : m.win.lk = m.lk := rfl

/-- Nothing but the blocks b and r has turned. -/
structure Wrote (b r : Nat) (w w' : World) : Prop where
  os : w'.os = w.os
  tape : w'.tape = w.tape
  output : w'.output = w.output
  size : w'.heap.size = w.heap.size
  block : ∀ k, k ≠ b → k ≠ r → w'.heap[k]? = w.heap[k]?

theorem Wrote.refl (b r : Nat) (w : World) : Wrote b r w w := ⟨rfl, rfl, rfl, rfl, fun _ _ _ => rfl⟩
theorem Wrote.trans {b r : Nat} {u v w : World} (h : Wrote b r u v) (k : Wrote b r v w) : Wrote b r u w :=
  ⟨k.os.trans h.os, k.tape.trans h.tape, k.output.trans h.output, k.size.trans h.size, fun i hb hr => (k.block i hb hr).trans (h.block i hb hr)⟩
theorem Wrote.setB {b r : Nat} {u v : World} (h : Wrote b r u v) (i : Nat) (x : Value) : Wrote b r u (v.setCell ⟨b, i, none⟩ x) :=
  h.trans ⟨rfl, rfl, rfl, by simp [World.setCell], fun k hb hr => Below.heap_setCell _ _ _ _ hb⟩
theorem Wrote.setR {b r : Nat} {u v : World} (h : Wrote b r u v) (i : Nat) (x : Value) : Wrote b r u (v.setCell ⟨r, i, none⟩ x) :=
  h.trans ⟨rfl, rfl, rfl, by simp [World.setCell], fun k hb hr => Below.heap_setCell _ _ _ _ hr⟩
theorem Wrote.below {b r B : Nat} {u w w' : World} (h : Wrote b r w w') (hu : Below B u w) (hb : B ≤ b) (hr : B ≤ r) : Below B u w' :=
  hu.trans ⟨h.os, h.tape, h.output, by rw [h.size]; omega, fun k hk => h.block k (by omega) (by omega)⟩
theorem Wrote.cell {b r : Nat} {w w' : World} (h : Wrote b r w w') {p : Addr} (hb : p.block ≠ b) (hr : p.block ≠ r) : w'.cell? p = w.cell? p := World.cell?_of_block (w := w) (h.block p.block hb hr)
theorem Wrote.frozen {b r : Nat} {w w' : World} (h : Wrote b r w w') {p : Addr} (hb : p.block ≠ b) (hr : p.block ≠ r) : w'.frozen? p = w.frozen? p := World.frozen?_of_block (w := w) (h.block p.block hb hr)
theorem Wrote.drew {b r : Nat} {u v : World} (h : Wrote b r u v) : Wrote b r u v.drew := ⟨h.os, h.tape, h.output, h.size, h.block⟩

/-- At block b lies a memory of n words, its row at block r; its counters are of the kind k. -/
structure At (k : IntKind) (t e : TypeId) (w : World) (b r n : Nat) (m : Mem) : Prop where
  ne : b ≠ r
  head : w.heap[b]? = some (.cells #[.slice (some ⟨r, 0, none⟩) n n, .int k m.st, .int k m.wn, .int .i64 m.lw, .int .i64 m.lk] t (0, 0))
  row : w.rowIs r e n (fun i => .int .u64 (m.ws i))
  fits : ∀ i, i < n → 0 ≤ m.ws i ∧ m.ws i < 18446744073709551616
  size : n ≤ 4096

variable {k : IntKind} {t e : TypeId} {w w' : World} {b r n : Nat} {m : Mem}

theorem At.c0 (h : At k t e w b r n m) : w.cell? ⟨b, 0, none⟩ = some (.slice (some ⟨r, 0, none⟩) n n) := by simp [World.cell?, h.head]
theorem At.c1 (h : At k t e w b r n m) : w.cell? ⟨b, 1, none⟩ = some (.int k m.st) := by simp [World.cell?, h.head]
theorem At.c2 (h : At k t e w b r n m) : w.cell? ⟨b, 2, none⟩ = some (.int k m.wn) := by simp [World.cell?, h.head]
theorem At.c3 (h : At k t e w b r n m) : w.cell? ⟨b, 3, none⟩ = some (.int .i64 m.lw) := by simp [World.cell?, h.head]
theorem At.c4 (h : At k t e w b r n m) : w.cell? ⟨b, 4, none⟩ = some (.int .i64 m.lk) := by simp [World.cell?, h.head]
theorem At.free (h : At k t e w b r n m) (i : Nat) : w.frozen? ⟨b, i, none⟩ = false := by simp [World.frozen?, h.head]
theorem At.word (h : At k t e w b r n m) {i : Nat} (hi : i < n) : w.cell? ⟨r, i, none⟩ = some (.int .u64 (m.ws i)) := h.row.cell hi
theorem At.free' (h : At k t e w b r n m) (i : Nat) : w.frozen? ⟨r, i, none⟩ = false := h.row.frozen i
theorem At.blt (h : At k t e w b r n m) : b < w.heap.size := lt_of_block h.head
theorem At.rlt (h : At k t e w b r n m) : r < w.heap.size := h.row.lt

theorem At.of_blocks (h : At k t e w b r n m) (hb : w'.heap[b]? = w.heap[b]?) (hr : w'.heap[r]? = w.heap[r]?) : At k t e w' b r n m :=
  ⟨h.ne, hb.trans h.head, h.row.of_block hr, h.fits, h.size⟩
theorem At.wrote {b' r' : Nat} (h : At k t e w b r n m) (hw : Wrote b' r' w w') (h1 : b ≠ b') (h2 : b ≠ r') (h3 : r ≠ b') (h4 : r ≠ r') : At k t e w' b r n m :=
  h.of_blocks (hw.block b h1 h2) (hw.block r h3 h4)
theorem At.below {B : Nat} (h : At k t e w b r n m) (hw : Below B w w') (h1 : b < B) (h2 : r < B) : At k t e w' b r n m :=
  h.of_blocks (hw.block b h1) (hw.block r h2)
theorem At.drew (h : At k t e w b r n m) : At k t e w.drew b r n m := ⟨h.ne, h.head, h.row, h.fits, h.size⟩
theorem At.alloc (h : At k t e w b r n m) (o : Obj) : At k t e (w.alloc o) b r n m := h.of_blocks (Below.heap_alloc _ _ _ h.blt) (Below.heap_alloc _ _ _ h.rlt)

theorem set_head {c : Array Value} {b i : Nat} {x : Value} {t : TypeId} (h : w.heap[b]? = some (.cells c t (0, 0))) : (w.setCell ⟨b, i, none⟩ x).heap[b]? = some (.cells (c.setIfInBounds i x) t (0, 0)) := by
  simp [World.setCell, Array.getElem?_modify, h]

/-- An access. -/
theorem At.hit (h : At k t e w b r n m) (i : Nat) (c : Int) :
    At k t e (((w.setCell ⟨b, 1, none⟩ (.int k (m.st + 1))).setCell ⟨b, 3, none⟩ (.int .i64 i)).setCell ⟨b, 4, none⟩ (.int .i64 c)) b r n (m.hit i c) ∧
      Wrote b r w (((w.setCell ⟨b, 1, none⟩ (.int k (m.st + 1))).setCell ⟨b, 3, none⟩ (.int .i64 i)).setCell ⟨b, 4, none⟩ (.int .i64 c)) := by
  refine ⟨⟨h.ne, ?_, ((h.row.setOther (Ne.symm h.ne) _).setOther (Ne.symm h.ne) _).setOther (Ne.symm h.ne) _, h.fits, h.size⟩, (((Wrote.refl _ _ _).setB _ _).setB _ _).setB _ _⟩
  rw [set_head (set_head (set_head h.head))]
  simp [Mem.hit]
/-- A store into word i. -/
theorem At.put (h : At k t e w b r n m) (i : Nat) (v : Int) (h0 : 0 ≤ v) (h1 : v < 18446744073709551616) :
    At k t e (w.setCell ⟨r, i, none⟩ (.int .u64 v)) b r n (m.put i v) ∧ Wrote b r w (w.setCell ⟨r, i, none⟩ (.int .u64 v)) := by
  refine ⟨⟨h.ne, ?_, (h.row.set i (.int .u64 v)).congr fun j hj => ?_, fun j hj => ?_, h.size⟩, (Wrote.refl _ _ _).setR _ _⟩
  · rw [Below.heap_setCell _ _ _ _ h.ne]
    exact h.head
  · by_cases e : j = i <;> simp [Mem.put, e]
  · by_cases e : j = i
    · simp [Mem.put, e, h0, h1]
    · simpa [Mem.put, e] using h.fits j hj
/-- A win. -/
theorem At.win (h : At k t e w b r n m) :
    At k t e (w.setCell ⟨b, 2, none⟩ (.int k (m.wn + 1))) b r n m.win ∧ Wrote b r w (w.setCell ⟨b, 2, none⟩ (.int k (m.wn + 1))) := by
  refine ⟨⟨h.ne, ?_, h.row.setOther (Ne.symm h.ne) _, h.fits, h.size⟩, (Wrote.refl _ _ _).setB _ _⟩
  rw [set_head h.head]
  simp [Mem.win]
end Go.Proofs.Ytnphcbogknaadaa

/- slot: a row of slots in the heap, and what a store into one of them does. -/
import Derived.Test.YtfecobeiibdpcaaEntL
import Derived.Deep.OwnRows
namespace Go.Proofs.Ytfecobeiibdpcaa
open Go.RowKit Go.Lib Go.Sort
set_option linter.unusedVariables false

/-- A slot: what it has, its version, whether it has one. -/
structure Pl where
  e : Ent
  v : Nat
  f : Bool
def Pl.zero : Pl := ⟨(0, 0), 0, false⟩
def Pl.cell (p : Pl) : Nat → Value
  | 0 => .int .u64 p.e.1
  | 1 => .int .i64 p.e.2
  | 2 => .int .u64 p.v
  | _ => .bool p.f
/-- Slot i is p now. -/
def slSet (g : Nat → Pl) (i : Nat) (p : Pl) : Nat → Pl := fun j => if j = i then p else g j
theorem slSet_same (g : Nat → Pl) (i : Nat) (p : Pl) : slSet g i p i = p := by unfold slSet; rw [if_pos rfl]
theorem slSet_ne (g : Nat → Pl) {i j : Nat} (p : Pl) (h : j ≠ i) : slSet g i p j = g j := by unfold slSet; rw [if_neg h]

theorem gr_trans {u v w : World} {row : Option Nat} (h : u.grownBy v row) (g : v.grownBy w row) : u.grownBy w row :=
  ⟨g.os.trans h.os, g.tape.trans h.tape, g.output.trans h.output, Nat.le_trans h.size g.size, fun k hk hne => (g.block k (Nat.lt_of_lt_of_le hk h.size) hne).trans (h.block k hk hne)⟩
theorem gr_below {w w' : World} (h : Below w.heap.size w w') (row : Option Nat) : w.grownBy w' row := ⟨h.os, h.tape, h.output, h.size, fun k hk _ => h.block k hk⟩
theorem gr_set (w : World) (R o : Nat) (u : Value) : w.grownBy (w.setCell ⟨R, o, none⟩ u) (some R) :=
  ⟨rfl, rfl, rfl, by simp [World.setCell], fun k hk hne => Below.heap_setCell w ⟨R, o, none⟩ u k (fun e => hne (by rw [e]))⟩
theorem below_gr {w w' : World} {R b : Nat} (h : w.grownBy w' (some R)) (hb : b ≤ R) (hw : b ≤ w.heap.size) : Below b w w' :=
  ⟨h.os, h.tape, h.output, h.size, fun k hk => h.block k (by omega) (by intro e; injection e with e; omega)⟩

/-- At block B lie n slots, their row at block R. -/
structure Slt (w : World) (B R n : Nat) (g : Nat → Pl) : Prop where
  ne : B ≠ R
  head : w.heap[B]? = some (.cells #[.slice (some ⟨R, 0, none⟩) n n] 58 (0, 0))
  row : w.rowIs R 62 (n * 4) (fun j => (g (j / 4)).cell (j % 4))
  most : n ≤ 8

variable {w w' : World} {B R n : Nat} {g : Nat → Pl}

theorem Slt.c0 (h : Slt w B R n g) : w.cell? ⟨B, 0, none⟩ = some (.slice (some ⟨R, 0, none⟩) n n) := by simp [World.cell?, h.head]
theorem Slt.blt (h : Slt w B R n g) : B < w.heap.size := lt_of_block h.head
theorem Slt.rlt (h : Slt w B R n g) : R < w.heap.size := h.row.lt
theorem Slt.of_blocks (h : Slt w B R n g) (hb : w'.heap[B]? = w.heap[B]?) (hr : w'.heap[R]? = w.heap[R]?) : Slt w' B R n g :=
  ⟨h.ne, hb.trans h.head, h.row.of_block hr, h.most⟩
theorem Slt.below (h : Slt w B R n g) (hw : Below w.heap.size w w') : Slt w' B R n g := h.of_blocks (hw.block B h.blt) (hw.block R h.rlt)
theorem Slt.alloc (h : Slt w B R n g) (o : Obj) : Slt (w.alloc o) B R n g := h.of_blocks (Below.heap_alloc _ _ _ h.blt) (Below.heap_alloc _ _ _ h.rlt)
theorem Slt.drew (h : Slt w B R n g) : Slt w.drew B R n g := ⟨h.ne, h.head, h.row, h.most⟩
theorem Slt.kept {row : Option Nat} (h : Slt w B R n g) (hw : w.grownBy w' row) (h1 : some B ≠ row) (h2 : some R ≠ row) : Slt w' B R n g := h.of_blocks (hw.block B h.blt h1) (hw.block R h.rlt h2)
theorem Slt.congr {g' : Nat → Pl} (h : Slt w B R n g) (e : ∀ i, i < n → g i = g' i) : Slt w B R n g' :=
  ⟨h.ne, h.head, h.row.congr fun j hj => by rw [e _ (by omega)], h.most⟩
/-- What slot i holds. -/
theorem Slt.cells (h : Slt w B R n g) {i : Nat} (hi : i < n) {k d : Int} {v : Nat} {f : Bool} (hp : g i = ⟨(k, d), v, f⟩) :
    w.cell? ⟨R, i * 4, none⟩ = some (.int .u64 k) ∧ w.cell? ⟨R, i * 4 + 1, none⟩ = some (.int .i64 d) ∧ w.cell? ⟨R, i * 4 + 2, none⟩ = some (.int .u64 v) ∧ w.cell? ⟨R, i * 4 + 3, none⟩ = some (.bool f) := by
  have h0 := h.row.cell (i := i * 4) (by omega)
  have h1 := h.row.cell (i := i * 4 + 1) (by omega)
  have h2 := h.row.cell (i := i * 4 + 2) (by omega)
  have h3 := h.row.cell (i := i * 4 + 3) (by omega)
  rw [show i * 4 / 4 = i by omega, show i * 4 % 4 = 0 by omega, hp] at h0
  rw [show (i * 4 + 1) / 4 = i by omega, show (i * 4 + 1) % 4 = 1 by omega, hp] at h1
  rw [show (i * 4 + 2) / 4 = i by omega, show (i * 4 + 2) % 4 = 2 by omega, hp] at h2
  rw [show (i * 4 + 3) / 4 = i by omega, show (i * 4 + 3) % 4 = 3 by omega, hp] at h3
  exact ⟨h0, h1, h2, h3⟩
theorem Slt.free (h : Slt w B R n g) (o : Nat) : w.frozen? ⟨R, o, none⟩ = false := h.row.frozen o
/-- Slot i stored anew. -/
theorem Slt.put (h : Slt w B R n g) {i : Nat} (hi : i < n) (k d : Int) (v : Nat) (f : Bool) :
    Slt ((((w.setCell ⟨R, i * 4, none⟩ (.int .u64 k)).setCell ⟨R, i * 4 + 1, none⟩ (.int .i64 d)).setCell ⟨R, i * 4 + 2, none⟩ (.int .u64 v)).setCell ⟨R, i * 4 + 3, none⟩ (.bool f)) B R n (slSet g i ⟨(k, d), v, f⟩) ∧
      w.grownBy ((((w.setCell ⟨R, i * 4, none⟩ (.int .u64 k)).setCell ⟨R, i * 4 + 1, none⟩ (.int .i64 d)).setCell ⟨R, i * 4 + 2, none⟩ (.int .u64 v)).setCell ⟨R, i * 4 + 3, none⟩ (.bool f)) (some R) := by
  have gr := gr_trans (gr_trans (gr_trans (gr_set w R (i * 4) (.int .u64 k)) (gr_set _ R (i * 4 + 1) (.int .i64 d))) (gr_set _ R (i * 4 + 2) (.int .u64 v))) (gr_set _ R (i * 4 + 3) (.bool f))
  refine ⟨⟨h.ne, (gr.block B h.blt (by intro e; injection e with e; exact h.ne e)).trans h.head, ((((h.row.set (i * 4) (.int .u64 k)).set (i * 4 + 1) (.int .i64 d)).set (i * 4 + 2) (.int .u64 v)).set (i * 4 + 3) (.bool f)).congr fun j hj => ?_, h.most⟩, gr⟩
  by_cases e : j / 4 = i
  · rw [e, slSet_same]
    have : j % 4 = 0 ∨ j % 4 = 1 ∨ j % 4 = 2 ∨ j % 4 = 3 := by omega
    rcases this with m | m | m | m
    · rw [if_neg (by omega), if_neg (by omega), if_neg (by omega), if_pos (by omega), m]; rfl
    · rw [if_neg (by omega), if_neg (by omega), if_pos (by omega), m]; rfl
    · rw [if_neg (by omega), if_pos (by omega), m]; rfl
    · rw [if_pos (by omega), m]; rfl
  · rw [slSet_ne g _ e, if_neg (by omega), if_neg (by omega), if_neg (by omega), if_neg (by omega)]

theorem infoPl : ∃ i, Try.prog.info? 62 = some i ∧ i.zero = some (.agg #[.int .u64 0, .int .i64 0, .int .u64 0, .bool false]) ∧ i.size = 4 ∧ i.bytes = 32 := by
  have h : (Try.prog.info? 62).map (fun i => (i.zero, i.size, i.bytes)) = some (some (.agg #[.int .u64 0, .int .i64 0, .int .u64 0, .bool false]), 4, 32) := by kernel_rfl
  obtain ⟨i, h1, h2⟩ := Option.map_eq_some_iff.1 h
  simp at h2
  exact ⟨i, h1, h2.1, h2.2.1, h2.2.2⟩
theorem slMade (z : Array Value) (n j : Nat) (hj : j < n) : (madeCells z n)[j]? = some (z[j % z.size]!) := by
  unfold madeCells
  simp [hj]
theorem makePl_run (w : World) (n : Nat) (hn : n ≤ 8) :
    ∃ w', (Instr.makeSlice 56 (.int .i64 (n : Int)) (.int .i64 (n : Int))).run Try.prog w = .ok (.slice (some ⟨w.heap.size, 0, none⟩) n n) w' ∧ w'.rowIs w.heap.size 62 (n * 4) (fun j => Pl.zero.cell (j % 4)) ∧ Below w.heap.size w w' ∧ w'.heap.size = w.heap.size + 1 := by
  obtain ⟨i, hi, hz, hs, hby⟩ := infoPl
  have hm := run_make (P := Try.prog) w 56 62 i _ Try.underlying56 hi hz .i64 .i64 n n (by omega) (Int.le_refl _) (by rw [hby]; omega) (by omega)
  simp only [Int.toNat_natCast, hs] at hm
  refine ⟨_, hm, ⟨_, heap_alloc_new w _, by simp [madeCells], fun j hj => ?_⟩, (Below.refl _ _).alloc (Nat.le_refl _) _, by simp⟩
  rw [slMade _ _ _ hj]
  show some ((#[Value.int .u64 0, .int .i64 0, .int .u64 0, .bool false] : Array Value)[j % 4]!) = some (Pl.zero.cell (j % 4))
  have : j % 4 = 0 ∨ j % 4 = 1 ∨ j % 4 = 2 ∨ j % 4 = 3 := by omega
  rcases this with m | m | m | m <;> rw [m] <;> rfl
end Go.Proofs.Ytfecobeiibdpcaa

/- The document's row of slots beside the program's; a script of calls that came in. -/
import Derived.Test.YtfecobeiibdpcaaSltA
import Derived.Test.YtfecobeiibdpcaaRecs
namespace Go.Proofs.Ytfecobeiibdpcaa
open Go.RowKit Go.Lib Go.Sort
set_option linter.unusedVariables false

def Pl.rcell (p : Pl) : Nat → Value
  | 0 => .bool p.f
  | 1 => .int .u64 p.e.1
  | 2 => .int .i64 p.e.2
  | _ => .int .u64 p.v
/-- The document's slots. -/
def RSl (w : World) (Q n : Nat) (g : Nat → Pl) : Prop := w.rowIs Q 50 (n * 4) (fun j => (g (j / 4)).rcell (j % 4))
theorem RSl.cells {w : World} {Q n : Nat} {g : Nat → Pl} (h : RSl w Q n g) {i : Nat} (hi : i < n) {k d : Int} {v : Nat} {f : Bool} (hp : g i = ⟨(k, d), v, f⟩) :
    w.cell? ⟨Q, i * 4, none⟩ = some (.bool f) ∧ w.cell? ⟨Q, i * 4 + 1, none⟩ = some (.int .u64 k) ∧ w.cell? ⟨Q, i * 4 + 2, none⟩ = some (.int .i64 d) ∧ w.cell? ⟨Q, i * 4 + 3, none⟩ = some (.int .u64 v) := by
  have h0 := World.rowIs.cell h (i := i * 4) (by omega)
  have h1 := World.rowIs.cell h (i := i * 4 + 1) (by omega)
  have h2 := World.rowIs.cell h (i := i * 4 + 2) (by omega)
  have h3 := World.rowIs.cell h (i := i * 4 + 3) (by omega)
  rw [show i * 4 / 4 = i by omega, show i * 4 % 4 = 0 by omega, hp] at h0
  rw [show (i * 4 + 1) / 4 = i by omega, show (i * 4 + 1) % 4 = 1 by omega, hp] at h1
  rw [show (i * 4 + 2) / 4 = i by omega, show (i * 4 + 2) % 4 = 2 by omega, hp] at h2
  rw [show (i * 4 + 3) / 4 = i by omega, show (i * 4 + 3) % 4 = 3 by omega, hp] at h3
  exact ⟨h0, h1, h2, h3⟩
theorem RSl.put {w : World} {Q n : Nat} {g : Nat → Pl} (h : RSl w Q n g) (i : Nat) (k d : Int) (v : Nat) (f : Bool) :
    RSl ((((w.setCell ⟨Q, i * 4, none⟩ (.bool f)).setCell ⟨Q, i * 4 + 1, none⟩ (.int .u64 k)).setCell ⟨Q, i * 4 + 2, none⟩ (.int .i64 d)).setCell ⟨Q, i * 4 + 3, none⟩ (.int .u64 v)) Q n (slSet g i ⟨(k, d), v, f⟩) ∧
      w.grownBy ((((w.setCell ⟨Q, i * 4, none⟩ (.bool f)).setCell ⟨Q, i * 4 + 1, none⟩ (.int .u64 k)).setCell ⟨Q, i * 4 + 2, none⟩ (.int .i64 d)).setCell ⟨Q, i * 4 + 3, none⟩ (.int .u64 v)) (some Q) := by
  have gr := gr_trans (gr_trans (gr_trans (gr_set w Q (i * 4) (.bool f)) (gr_set _ Q (i * 4 + 1) (.int .u64 k))) (gr_set _ Q (i * 4 + 2) (.int .i64 d))) (gr_set _ Q (i * 4 + 3) (.int .u64 v))
  refine ⟨((((World.rowIs.set h (i * 4) (.bool f)).set (i * 4 + 1) (.int .u64 k)).set (i * 4 + 2) (.int .i64 d)).set (i * 4 + 3) (.int .u64 v)).congr fun j hj => ?_, gr⟩
  by_cases e : j / 4 = i
  · rw [e, slSet_same]
    have : j % 4 = 0 ∨ j % 4 = 1 ∨ j % 4 = 2 ∨ j % 4 = 3 := by omega
    rcases this with m | m | m | m
    · rw [if_neg (by omega), if_neg (by omega), if_neg (by omega), if_pos (by omega), m]; rfl
    · rw [if_neg (by omega), if_neg (by omega), if_pos (by omega), m]; rfl
    · rw [if_neg (by omega), if_pos (by omega), m]; rfl
    · rw [if_pos (by omega), m]; rfl
  · rw [slSet_ne g _ e, if_neg (by omega), if_neg (by omega), if_neg (by omega), if_neg (by omega)]
theorem infoRS : ∃ i, Try.prog.info? 50 = some i ∧ i.zero = some (.agg #[.bool false, .int .u64 0, .int .i64 0, .int .u64 0]) ∧ i.size = 4 ∧ i.bytes = 32 := by
  have h : (Try.prog.info? 50).map (fun i => (i.zero, i.size, i.bytes)) = some (some (.agg #[.bool false, .int .u64 0, .int .i64 0, .int .u64 0]), 4, 32) := by kernel_rfl
  obtain ⟨i, h1, h2⟩ := Option.map_eq_some_iff.1 h
  simp at h2
  exact ⟨i, h1, h2.1, h2.2.1, h2.2.2⟩
theorem makeRS_run (w : World) (n : Nat) (hn : n ≤ 8) :
    ∃ w', (Instr.makeSlice 46 (.int .i64 (n : Int)) (.int .i64 (n : Int))).run Try.prog w = .ok (.slice (some ⟨w.heap.size, 0, none⟩) n n) w' ∧ RSl w' w.heap.size n (fun _ => Pl.zero) ∧ Below w.heap.size w w' ∧ w'.heap.size = w.heap.size + 1 := by
  obtain ⟨i, hi, hz, hs, hby⟩ := infoRS
  have hm := run_make (P := Try.prog) w 46 50 i _ Try.underlying46 hi hz .i64 .i64 n n (by omega) (Int.le_refl _) (by rw [hby]; omega) (by omega)
  simp only [Int.toNat_natCast, hs] at hm
  refine ⟨_, hm, ⟨_, heap_alloc_new w _, by simp [madeCells], fun j hj => ?_⟩, (Below.refl _ _).alloc (Nat.le_refl _) _, by simp⟩
  rw [slMade _ _ _ hj]
  show some ((#[Value.bool false, .int .u64 0, .int .i64 0, .int .u64 0] : Array Value)[j % 4]!) = some (Pl.zero.rcell (j % 4))
  have : j % 4 = 0 ∨ j % 4 = 1 ∨ j % 4 = 2 ∨ j % 4 = 3 := by omega
  rcases this with m | m | m | m <;> rw [m] <;> rfl

/-- The program's slots (g) and the document's (h), side by side. -/
structure Play9 (w0 : World) (S n i : Nat) (g h : Nat → Pl) (wr : World) : Prop where
  slt : Slt wr (S + 1) S n g
  ref : RSl wr (S + 2) n h
  low : Below S w0 wr
  few : ∀ j, j < n → (g j).v ≤ i
section
variable {w0 : World} {S n i : Nat} {g h : Nat → Pl} {wr w' : World}
theorem Play9.on (p : Play9 w0 S n i g h wr) (hv : Below wr.heap.size wr w') : Play9 w0 S n i g h w' :=
  ⟨p.slt.below hv, World.rowIs.of_block p.ref (hv.block _ (World.rowIs.lt p.ref)), p.low.trans (hv.mono (by have := p.slt.rlt; omega)), p.few⟩
theorem Play9.up (p : Play9 w0 S n i g h wr) : Play9 w0 S n (i + 1) g h wr := ⟨p.slt, p.ref, p.low, fun j hj => by have := p.few j hj; omega⟩
theorem Play9.sz (p : Play9 w0 S n i g h wr) : S + 2 < wr.heap.size := World.rowIs.lt p.ref
/-- The program's slot T was turned. -/
theorem Play9.turn {T v : Nat} {e : Ent} {f : Bool} (p : Play9 w0 S n i g h wr) (hT : T < n) (hv : (g T).v = v) (hs : Slt w' (S + 1) S n (slSet g T ⟨e, v + 1, f⟩)) (hg : wr.grownBy w' (some S)) : Play9 w0 S n (i + 1) (slSet g T ⟨e, v + 1, f⟩) h w' := by
  refine ⟨hs, World.rowIs.of_block p.ref (hg.block _ (World.rowIs.lt p.ref) (by simp)), p.low.trans (below_gr hg (Nat.le_refl _) (by have := p.slt.rlt; omega)), fun j hj => ?_⟩
  by_cases c : j = T
  · subst c; rw [slSet_same]; have := p.few j hj; simp only; omega
  · rw [slSet_ne _ _ c]; have := p.few j hj; omega
/-- The document's slot T was set. -/
theorem Play9.set (p : Play9 w0 S n i g h wr) (T : Nat) (k d : Int) (v : Nat) (f : Bool) :
    Play9 w0 S n i g (slSet h T ⟨(k, d), v, f⟩) ((((wr.setCell ⟨S + 2, T * 4, none⟩ (.bool f)).setCell ⟨S + 2, T * 4 + 1, none⟩ (.int .u64 k)).setCell ⟨S + 2, T * 4 + 2, none⟩ (.int .i64 d)).setCell ⟨S + 2, T * 4 + 3, none⟩ (.int .u64 v)) := by
  obtain ⟨h1, h2⟩ := p.ref.put T k d v f
  exact ⟨p.slt.kept h2 (by simp) (by simp), h1, p.low.trans (below_gr h2 (by omega) (by have := p.slt.rlt; omega)), p.few⟩
theorem Play9.kept (p : Play9 w0 S n i g h wr) {O : Nat} {x : Obj} (hO : wr.heap[O]? = some x) (hS : S + 2 < O) (hg : wr.grownBy w' (some S)) : w'.heap[O]? = some x :=
  (hg.block O (by obtain ⟨h, _⟩ := Array.getElem?_eq_some_iff.1 hO; exact h) (by intro e; injection e with e; omega)).trans hO
theorem Play9.keptR (p : Play9 w0 S n i g h wr) {O : Nat} {x : Obj} (hO : wr.heap[O]? = some x) (hS : S + 2 < O) (T : Nat) (k d : Int) (v : Nat) (f : Bool) :
    ((((wr.setCell ⟨S + 2, T * 4, none⟩ (.bool f)).setCell ⟨S + 2, T * 4 + 1, none⟩ (.int .u64 k)).setCell ⟨S + 2, T * 4 + 2, none⟩ (.int .i64 d)).setCell ⟨S + 2, T * 4 + 3, none⟩ (.int .u64 v)).drew.heap[O]? = some x :=
  ((p.ref.put T k d v f).2.block O (by obtain ⟨h, _⟩ := Array.getElem?_eq_some_iff.1 hO; exact h) (by intro e; injection e with e; omega)).trans hO
end

/-- A call of a script. -/
structure Op9 where
  kind : Int
  t : Int
  v : Int
  k : Int
  d : Int
def IsOp9 (w : World) (a : Option Addr) (len : Nat) (Z : Nat → Op9) : Prop := len ≤ 9223372036854775807 ∧ ∀ i, i < len → ∃ b off, a = some ⟨b, off, none⟩ ∧ b < w.heap.size ∧
  w.cell? ⟨b, off + i * 5, none⟩ = some (.int .i64 (Z i).kind) ∧ w.cell? ⟨b, off + i * 5 + 1, none⟩ = some (.int .i64 (Z i).t) ∧ w.cell? ⟨b, off + i * 5 + 2, none⟩ = some (.int .u64 (Z i).v) ∧ w.cell? ⟨b, off + i * 5 + 3, none⟩ = some (.int .u64 (Z i).k) ∧ w.cell? ⟨b, off + i * 5 + 4, none⟩ = some (.int .i64 (Z i).d)
theorem box5 {w : World} {O : Nat} {a b c d e : Value} {T : TypeId} (h : w.heap[O]? = some (.cells #[a, b, c, d, e] T (0, 0))) :
    w.cell? ⟨O, 0, none⟩ = some a ∧ w.cell? ⟨O, 1, none⟩ = some b ∧ w.cell? ⟨O, 2, none⟩ = some c ∧ w.cell? ⟨O, 3, none⟩ = some d ∧ w.cell? ⟨O, 4, none⟩ = some e :=
  ⟨by rw [cell_of_row _ _ _ _ _ _ h]; rfl, by rw [cell_of_row _ _ _ _ _ _ h]; rfl, by rw [cell_of_row _ _ _ _ _ _ h]; rfl, by rw [cell_of_row _ _ _ _ _ _ h]; rfl, by rw [cell_of_row _ _ _ _ _ _ h]; rfl⟩
end Go.Proofs.Ytfecobeiibdpcaa

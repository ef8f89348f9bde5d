/- Rows of events, and of strings by their bytes. -/
import Derived.Test.YtpenojbfeocjaaaDoorTbL
import Derived.Test.YtpenojbfeocjaaaDoorHiN
namespace Go.Proofs.YtpenojbfeocjaaaDoor
open Go.RowKit Go.Lib
set_option linter.unusedVariables false

def evL (x : EvR) : List Value := [.int .i64 x.k, .int .i64 x.t, .int .i64 x.i, .int .u64 x.y, .int .u64 x.c, .int .u64 x.n]
def evV (x : EvR) : Value := .agg #[.int .i64 x.k, .int .i64 x.t, .int .i64 x.i, .int .u64 x.y, .int .u64 x.c, .int .u64 x.n]
def rE : RowT EvR where
  enc := evL
  k := 6
  et := 27
  st := 24
  z := .agg #[.int .i64 0, .int .i64 0, .int .i64 0, .int .u64 0, .int .u64 0, .int .u64 0]
  nb := 48
  kpos := by decide
  len := fun x => rfl
  one := fun x u hu => by
    simp [evL] at hu
    rcases hu with rfl | rfl | rfl | rfl | rfl | rfl <;> rfl
  und := Tryd.underlying24
  info := by
    have h : (Tryd.prog.info? 27).map (fun i => (i.zero, i.size, i.bytes)) = some (some (.agg #[.int .i64 0, .int .i64 0, .int .i64 0, .int .u64 0, .int .u64 0, .int .u64 0]), 6, 48) := by kernel_rfl
    obtain ⟨i, h1, h2⟩ := Option.map_eq_some_iff.1 h
    simp at h2
    exact ⟨i, h1, h2.1, h2.2.1, h2.2.2⟩
  zs := rfl
  small := by decide
/-- Strings, by their bytes. -/
def sV (l : List UInt8) : Value := .string ⟨l.toArray⟩
theorem sV_of (s : ByteArray) : Value.string s = sV s.data.toList := by
  unfold sV
  congr 1
def rS : RowT (List UInt8) where
  enc := fun x => [sV x]
  k := 1
  et := 9
  st := 77
  z := .string ⟨#[]⟩
  nb := 16
  kpos := by decide
  len := fun x => rfl
  one := fun x u hu => by
    simp at hu
    subst hu; rfl
  und := Tryd.underlying77
  info := by
    have h : (Tryd.prog.info? 9).map (fun i => (i.zero, i.size, i.bytes)) = some (some (.string ⟨#[]⟩), 1, 16) := by kernel_rfl
    obtain ⟨i, h1, h2⟩ := Option.map_eq_some_iff.1 h
    simp at h2
    exact ⟨i, h1, h2.1, h2.2.1, h2.2.2⟩
  zs := rfl
  small := by decide
section
variable {w w' : World} {a : Option Addr} {cap base : Nat} {v : Value}
theorem evAt {d : List EvR} (h : IsG rE w a cap d) {i : Nat} {x : EvR} (hi : d[i]? = some x) : ∃ b off, a = some ⟨b, off, none⟩ ∧ b < w.heap.size ∧
    w.cell? ⟨b, off + i * 6, none⟩ = some (.int .i64 x.k) ∧ w.cell? ⟨b, off + i * 6 + 1, none⟩ = some (.int .i64 x.t) ∧ w.cell? ⟨b, off + i * 6 + 2, none⟩ = some (.int .i64 x.i) ∧
    w.cell? ⟨b, off + i * 6 + 3, none⟩ = some (.int .u64 x.y) ∧ w.cell? ⟨b, off + i * 6 + 4, none⟩ = some (.int .u64 x.c) ∧ w.cell? ⟨b, off + i * 6 + 5, none⟩ = some (.int .u64 x.n) := by
  obtain ⟨b, off, e, hb, hc⟩ := h.at hi
  exact ⟨b, off, e, hb, hc 0 _ rfl, hc 1 _ rfl, hc 2 _ rfl, hc 3 _ rfl, hc 4 _ rfl, hc 5 _ rfl⟩
theorem strAt {d : List (List UInt8)} (h : IsG rS w a cap d) {i : Nat} {x : List UInt8} (hi : d[i]? = some x) : ∃ b off, a = some ⟨b, off, none⟩ ∧ b < w.heap.size ∧ w.cell? ⟨b, off + i, none⟩ = some (sV x) := by
  obtain ⟨b, off, e, hb, hc⟩ := h.at hi
  have := hc 0 _ rfl
  rw [show rS.k = 1 from rfl, Nat.mul_one, Nat.add_zero] at this
  exact ⟨b, off, e, hb, this⟩
/-- A box of an event. -/
structure EBx (w : World) (b : Nat) (x : EvR) : Prop where
  lt : b < w.heap.size
  c0 : w.cell? ⟨b, 0, none⟩ = some (.int .i64 x.k)
  c1 : w.cell? ⟨b, 1, none⟩ = some (.int .i64 x.t)
  c2 : w.cell? ⟨b, 2, none⟩ = some (.int .i64 x.i)
  c3 : w.cell? ⟨b, 3, none⟩ = some (.int .u64 x.y)
  c4 : w.cell? ⟨b, 4, none⟩ = some (.int .u64 x.c)
  c5 : w.cell? ⟨b, 5, none⟩ = some (.int .u64 x.n)
theorem EBx.below {b : Nat} {x : EvR} (h : EBx w b x) (hb : Below w.heap.size w w') : EBx w' b x :=
  ⟨by have := hb.size; have := h.lt; omega, (hb.cell (p := ⟨b, 0, none⟩) h.lt).trans h.c0, (hb.cell (p := ⟨b, 1, none⟩) h.lt).trans h.c1, (hb.cell (p := ⟨b, 2, none⟩) h.lt).trans h.c2, (hb.cell (p := ⟨b, 3, none⟩) h.lt).trans h.c3, (hb.cell (p := ⟨b, 4, none⟩) h.lt).trans h.c4, (hb.cell (p := ⟨b, 5, none⟩) h.lt).trans h.c5⟩
theorem EBx.drew {b : Nat} {x : EvR} (h : EBx w b x) : EBx w.drew b x := ⟨h.lt, h.c0, h.c1, h.c2, h.c3, h.c4, h.c5⟩
theorem EBx.made (w : World) (x : EvR) : EBx (w.alloc (.cells #[.int .i64 x.k, .int .i64 x.t, .int .i64 x.i, .int .u64 x.y, .int .u64 x.c, .int .u64 x.n] 27)) w.heap.size x := by
  refine ⟨by rw [alloc_sz]; omega, ?_, ?_, ?_, ?_, ?_, ?_⟩ <;> rw [cell_fresh] <;> rfl
end
end Go.Proofs.YtpenojbfeocjaaaDoor

/- A script of calls that came in. -/
import Derived.Test.YtdcacbjmbfppeaaGreatJR
namespace Go.Proofs.YtdcacbjmbfppeaaGreat
open Go.RowKit Go.Deep
abbrev opKs : List IntKind := [.i64, .i64, .i64, .u64, .u64]
section
variable {H : Type} {enc : TypeId × Value → H} {w : World} {spare : Nat → Bool} {held : Bool}
set_option maxRecDepth 100000 in
theorem open_ops {fuel : Nat} {a : Option Addr} {len cap : Nat} {x : DataW H × List MemPlace}
    (h : DataW.trod enc Tryz.prog w 0 spare held fuel 22 [.slice a len cap] = some x) : ∃ Z, IsRecs opKs w a len Z :=
  open_recs opKs Tryz.underlying22 Tryz.underlying32 (by kernel_rfl) (by kernel_rfl) (by decide) h
end
theorem IsRecs.five {w : World} {a : Option Addr} {len : Nat} {Z : Nat → Nat → Int} (h : IsRecs opKs w a len Z) {i : Nat} (hi : i < len) :
    ∃ b off, a = some ⟨b, off, none⟩ ∧ b < w.heap.size ∧ w.cell? ⟨b, off + i * 5, none⟩ = some (.int .i64 (Z i 0)) ∧ w.cell? ⟨b, off + i * 5 + 1, none⟩ = some (.int .i64 (Z i 1)) ∧ w.cell? ⟨b, off + i * 5 + 2, none⟩ = some (.int .i64 (Z i 2)) ∧ w.cell? ⟨b, off + i * 5 + 3, none⟩ = some (.int .u64 (Z i 3)) ∧ w.cell? ⟨b, off + i * 5 + 4, none⟩ = some (.int .u64 (Z i 4)) := by
  obtain ⟨b, off, ha, hb, hc⟩ := h.elem i hi
  exact ⟨b, off, ha, hb, (hc 0 .i64 rfl).1, (hc 1 .i64 rfl).1, (hc 2 .i64 rfl).1, (hc 3 .u64 rfl).1, (hc 4 .u64 rfl).1⟩
end Go.Proofs.YtdcacbjmbfppeaaGreat

/- A script of calls that came in. -/
import Derived.Test.YtfecobeiibdpcaaSltR
import Derived.Test.YtfecobeiibdpcaaEntIn
namespace Go.Proofs.Ytfecobeiibdpcaa
open Go.RowKit Go.Deep
section
variable {H : Type} {enc : TypeId × Value → H} {w : World} {spare : Nat → Bool} {held : Bool}

set_option maxRecDepth 100000 in
theorem open_ops9 {fuel : Nat} {a : Option Addr} {len cap : Nat} {x : DataW H × List MemPlace}
    (h : DataW.trod enc Try.prog w 0 spare held fuel 44 [.slice a len cap] = some x) : ∃ Z, IsOp9 w a len Z := by
  rcases open_slice Try.underlying44 h with ⟨h0, _⟩ | ⟨a, len, cap, m, n, D, Pl, h0, hb, hl, hm, hmm, _, hx⟩
  · simp at h0
    obtain ⟨rfl, rfl, rfl⟩ := h0
    exact ⟨fun _ => ⟨0, 0, 0, 0, 0⟩, by omega, fun i hi => by omega⟩
  · simp at h0
    obtain ⟨rfl, rfl, rfl⟩ := h0
    unfold maxLen at hm
    have hlm : len ≤ m := by rw [hmm]; split <;> omega
    have hC : Try.prog.cellsOf 48 = 5 := by kernel_rfl
    have hC1 : Try.prog.cellsOf 3 = 1 := by kernel_rfl
    have hC2 : Try.prog.cellsOf 33 = 2 := by kernel_rfl
    have hC3 : Try.prog.cellsOf 27 = 1 := by kernel_rfl
    have each : ∀ i, i < len → ∃ o : Op9, ∃ b off, a = ⟨b, off, none⟩ ∧ b < w.heap.size ∧ w.cell? ⟨b, off + i * 5, none⟩ = some (.int .i64 o.kind) ∧ w.cell? ⟨b, off + i * 5 + 1, none⟩ = some (.int .i64 o.t) ∧ w.cell? ⟨b, off + i * 5 + 2, none⟩ = some (.int .u64 o.v) ∧ w.cell? ⟨b, off + i * 5 + 3, none⟩ = some (.int .u64 o.k) ∧ w.cell? ⟨b, off + i * 5 + 4, none⟩ = some (.int .i64 o.d) := by
      intro i hi
      obtain ⟨cs', h1, h2⟩ := hx i (by omega)
      obtain ⟨_, hlen, hcell⟩ := World.cells?_some h1
      obtain ⟨xs, q, _, _, _, hxl, hf⟩ := DataW.trod_struct Try.underlying48 h2
      rw [hC] at hlen hcell h1
      obtain ⟨b, off, spot⟩ := a
      obtain ⟨cs0, u1, _⟩ := hx 0 (by omega)
      obtain ⟨_, ulen, ucell⟩ := World.cells?_some u1
      rw [hC] at ulen ucell
      have gc := ucell 0 (by omega)
      rw [List.getElem?_eq_getElem (show 0 < cs0.length by omega)] at gc
      have hspot : spot = none := by simpa [Addr.add] using World.cell?_spot gc
      subst hspot
      match cs', hlen with
      | [c0, c1, c2, c3, c4], _ =>
        have g0 : DataW.trod enc Try.prog w 0 spare held q 3 (List.take (Try.prog.cellsOf 3) (List.drop 0 [c0, c1, c2, c3, c4])) = xs[0]? := hf 0 _ rfl
        have g1 : DataW.trod enc Try.prog w 0 spare held q 3 (List.take (Try.prog.cellsOf 3) (List.drop 1 [c0, c1, c2, c3, c4])) = xs[1]? := hf 1 _ rfl
        have g2 : DataW.trod enc Try.prog w 0 spare held q 27 (List.take (Try.prog.cellsOf 27) (List.drop 2 [c0, c1, c2, c3, c4])) = xs[2]? := hf 2 _ rfl
        have g3 : DataW.trod enc Try.prog w 0 spare held q 33 (List.take (Try.prog.cellsOf 33) (List.drop 3 [c0, c1, c2, c3, c4])) = xs[3]? := hf 3 _ rfl
        simp only [hC1, hC2, hC3, List.drop_zero, List.drop_succ_cons, List.take_succ_cons, List.take_zero] at g0 g1 g2 g3
        have hx4 : xs.length = 4 := hxl
        rw [List.getElem?_eq_getElem (show 0 < xs.length by omega)] at g0
        rw [List.getElem?_eq_getElem (show 1 < xs.length by omega)] at g1
        rw [List.getElem?_eq_getElem (show 2 < xs.length by omega)] at g2
        rw [List.getElem?_eq_getElem (show 3 < xs.length by omega)] at g3
        obtain ⟨ys, q', _, _, _, hyl, hf2⟩ := DataW.trod_struct Try.underlying33 g3
        have k0 : DataW.trod enc Try.prog w 0 spare held q' 27 (List.take (Try.prog.cellsOf 27) (List.drop 0 [c3, c4])) = ys[0]? := hf2 0 _ rfl
        have k1 : DataW.trod enc Try.prog w 0 spare held q' 3 (List.take (Try.prog.cellsOf 3) (List.drop 1 [c3, c4])) = ys[1]? := hf2 1 _ rfl
        simp only [hC1, hC3, List.drop_zero, List.drop_succ_cons, List.take_succ_cons, List.take_zero] at k0 k1
        have hy2 : ys.length = 2 := hyl
        rw [List.getElem?_eq_getElem (show 0 < ys.length by omega)] at k0
        rw [List.getElem?_eq_getElem (show 1 < ys.length by omega)] at k1
        obtain ⟨z0, e0, _⟩ := DataW.trod_int Try.underlying3 g0
        obtain ⟨z1, e1, _⟩ := DataW.trod_int Try.underlying3 g1
        obtain ⟨z2, e2, _⟩ := DataW.trod_int Try.underlying27 g2
        obtain ⟨z3, e3, _⟩ := DataW.trod_int Try.underlying27 k0
        obtain ⟨z4, e4, _⟩ := DataW.trod_int Try.underlying3 k1
        simp only [List.cons.injEq, and_true] at e0 e1 e2 e3 e4
        subst e0 e1 e2 e3 e4
        have d0 := hcell 0 (by omega)
        have d1 := hcell 1 (by omega)
        have d2 := hcell 2 (by omega)
        have d3 := hcell 3 (by omega)
        have d4 := hcell 4 (by omega)
        rw [Addr.add_lit, Addr.add_lit] at d0 d1 d2 d3 d4
        exact ⟨⟨z0, z1, z2, z3, z4⟩, b, off, rfl, World.block_lt_of_cell? w _ d0, d0, d1, d2, d3, d4⟩
    have : Inhabited Op9 := ⟨⟨0, 0, 0, 0, 0⟩⟩
    obtain ⟨Z, hZ⟩ := choose_lt each
    refine ⟨Z, by omega, fun i hi => ?_⟩
    obtain ⟨b, off, e, r⟩ := hZ i hi
    exact ⟨b, off, by rw [e], r⟩
end
end Go.Proofs.Ytfecobeiibdpcaa

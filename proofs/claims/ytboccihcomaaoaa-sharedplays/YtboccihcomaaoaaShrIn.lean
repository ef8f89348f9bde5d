/- A script of calls that came in. -/
import Derived.Test.YtboccihcomaaoaaShrOp
import Derived.Test.YtboccihcomaaoaaRecs
import Derived.Test.YtboccihcomaaoaaEntIn
namespace Go.Proofs.Ytboccihcomaaoaa
open Go.RowKit Go.Deep
section
variable {H : Type} {enc : TypeId × Value → H} {w : World} {spare : Nat → Bool} {held : Bool}

theorem open_one {fuel : Nat} {c : Value} {x : DataW H × List MemPlace} (h : DataW.trod enc Try.prog w 0 spare held fuel 32 [c] = some x) : ∃ (p : Option Addr) (q : Nat) (d : List Ent), c = .slice p d.length q ∧ IsL w p q d := by
  have hs : ∃ p l k, c = .slice p l k := by
    rcases open_slice Try.underlying32 h with ⟨h0, _⟩ | ⟨a', l', c', _, _, _, _, h0, _⟩
    · exact ⟨_, _, _, by simpa using h0⟩
    · exact ⟨_, _, _, by simpa using h0⟩
  obtain ⟨p, l, k, rfl⟩ := hs
  obtain ⟨d, rfl, L, _⟩ := open_ents h
  exact ⟨p, k, d, rfl, L⟩

set_option maxRecDepth 100000 in
theorem open_ops {fuel : Nat} {a : Option Addr} {len cap : Nat} {x : DataW H × List MemPlace}
    (h : DataW.trod enc Try.prog w 0 spare held fuel 46 [.slice a len cap] = some x) : ∃ Z, IsOps w a len Z := by
  rcases open_slice Try.underlying46 h with ⟨h0, _⟩ | ⟨a, len, cap, m, n, D, Pl, h0, hb, hl, hm, hmm, _, hx⟩
  · simp at h0
    obtain ⟨rfl, rfl, rfl⟩ := h0
    exact ⟨fun _ => ⟨0, 0, 0, false, none, 0, [], none, 0, []⟩, by omega, fun i hi => by omega⟩
  · simp at h0
    obtain ⟨rfl, rfl, rfl⟩ := h0
    unfold maxLen at hm
    have hlm : len ≤ m := by rw [hmm]; split <;> omega
    have hC : Try.prog.cellsOf 52 = 6 := by kernel_rfl
    have hC1 : Try.prog.cellsOf 3 = 1 := by kernel_rfl
    have hC2 : Try.prog.cellsOf 4 = 1 := by kernel_rfl
    have hC3 : Try.prog.cellsOf 32 = 1 := by kernel_rfl
    have each : ∀ i, i < len → ∃ o : OpR, ∃ b off, a = ⟨b, off, none⟩ ∧ b < w.heap.size ∧ w.cell? ⟨b, off + i * 6, none⟩ = some (.int .i64 o.kind) ∧ w.cell? ⟨b, off + i * 6 + 1, none⟩ = some (.int .i64 o.id) ∧ w.cell? ⟨b, off + i * 6 + 2, none⟩ = some (.int .i64 o.lev) ∧ w.cell? ⟨b, off + i * 6 + 3, none⟩ = some (.bool o.old) ∧ w.cell? ⟨b, off + i * 6 + 4, none⟩ = some (.slice o.pl o.L.length o.ql) ∧ w.cell? ⟨b, off + i * 6 + 5, none⟩ = some (.slice o.pm o.M.length o.qm) ∧ IsL w o.pl o.ql o.L ∧ IsL w o.pm o.qm o.M := by
      intro i hi
      obtain ⟨cs', h1, h2⟩ := hx i (by omega)
      obtain ⟨_, hlen, hcell⟩ := World.cells?_some h1
      obtain ⟨xs, q, _, _, _, hxl, hf⟩ := DataW.trod_struct Try.underlying52 h2
      rw [hC] at hlen hcell h1
      obtain ⟨b, off, spot⟩ := a
      obtain ⟨cs0, u1, _⟩ := hx 0 (by omega)
      obtain ⟨_, ulen, ucell⟩ := World.cells?_some u1
      rw [hC] at ulen ucell
      have gc := ucell 0 (by omega)
      rw [List.getElem?_eq_getElem (show 0 < cs0.length by omega)] at gc
      have hspot : spot = none := by simpa [Addr.add] using World.cell?_spot gc
      subst hspot
      match cs', hlen with
      | [c0, c1, c2, c3, c4, c5], _ =>
        have g0 : DataW.trod enc Try.prog w 0 spare held q 3 (List.take (Try.prog.cellsOf 3) (List.drop 0 [c0, c1, c2, c3, c4, c5])) = xs[0]? := hf 0 _ rfl
        have g1 : DataW.trod enc Try.prog w 0 spare held q 3 (List.take (Try.prog.cellsOf 3) (List.drop 1 [c0, c1, c2, c3, c4, c5])) = xs[1]? := hf 1 _ rfl
        have g2 : DataW.trod enc Try.prog w 0 spare held q 3 (List.take (Try.prog.cellsOf 3) (List.drop 2 [c0, c1, c2, c3, c4, c5])) = xs[2]? := hf 2 _ rfl
        have g3 : DataW.trod enc Try.prog w 0 spare held q 4 (List.take (Try.prog.cellsOf 4) (List.drop 3 [c0, c1, c2, c3, c4, c5])) = xs[3]? := hf 3 _ rfl
        have g4 : DataW.trod enc Try.prog w 0 spare held q 32 (List.take (Try.prog.cellsOf 32) (List.drop 4 [c0, c1, c2, c3, c4, c5])) = xs[4]? := hf 4 _ rfl
        have g5 : DataW.trod enc Try.prog w 0 spare held q 32 (List.take (Try.prog.cellsOf 32) (List.drop 5 [c0, c1, c2, c3, c4, c5])) = xs[5]? := hf 5 _ rfl
        simp only [hC1, hC2, hC3, List.drop_zero, List.drop_succ_cons, List.take_succ_cons, List.take_zero] at g0 g1 g2 g3 g4 g5
        have hx6 : xs.length = 6 := hxl
        rw [List.getElem?_eq_getElem (show 0 < xs.length by omega)] at g0
        rw [List.getElem?_eq_getElem (show 1 < xs.length by omega)] at g1
        rw [List.getElem?_eq_getElem (show 2 < xs.length by omega)] at g2
        rw [List.getElem?_eq_getElem (show 3 < xs.length by omega)] at g3
        rw [List.getElem?_eq_getElem (show 4 < xs.length by omega)] at g4
        rw [List.getElem?_eq_getElem (show 5 < xs.length by omega)] at g5
        obtain ⟨z0, e0, _⟩ := DataW.trod_int Try.underlying3 g0
        obtain ⟨z1, e1, _⟩ := DataW.trod_int Try.underlying3 g1
        obtain ⟨z2, e2, _⟩ := DataW.trod_int Try.underlying3 g2
        obtain ⟨z3, e3, _⟩ := DataW.trod_bool Try.underlying4 g3
        simp only [List.cons.injEq, and_true] at e0 e1 e2 e3
        subst e0 e1 e2 e3
        obtain ⟨pl, ql, L, rfl, LL⟩ := open_one g4
        obtain ⟨pm, qm, M, rfl, LM⟩ := open_one g5
        have d0 := hcell 0 (by omega)
        have d1 := hcell 1 (by omega)
        have d2 := hcell 2 (by omega)
        have d3 := hcell 3 (by omega)
        have d4 := hcell 4 (by omega)
        have d5 := hcell 5 (by omega)
        rw [Addr.add_lit, Addr.add_lit] at d0 d1 d2 d3 d4 d5
        exact ⟨⟨z0, z1, z2, z3, pl, ql, L, pm, qm, M⟩, b, off, rfl, World.block_lt_of_cell? w _ d0, d0, d1, d2, d3, d4, d5, LL, LM⟩
    have : Inhabited OpR := ⟨⟨0, 0, 0, false, none, 0, [], none, 0, []⟩⟩
    obtain ⟨Z, hZ⟩ := choose_lt each
    refine ⟨Z, by omega, fun i hi => ?_⟩
    obtain ⟨b, off, e, r⟩ := hZ i hi
    exact ⟨b, off, by rw [e], r⟩
end
end Go.Proofs.Ytboccihcomaaoaa

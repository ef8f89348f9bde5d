/- A script of calls that came in. -/
import Derived.Test.YthpdnlokjhafeaaDgL
import Derived.Test.YthpdnlokjhafeaaRecs
import Derived.ChangeSlices
import Derived.OpenShut
namespace Go.Proofs.Ythpdnlokjhafeaa
open Go.RowKit Go.Deep Go.ChangeShapes
/-- One call of a script. -/
structure OpR where
  kind : Int
  id : Int
  p : Option Addr
  c : Nat
  ps : List Int
/-- A script. -/
structure IsOps (w : World) (a : Option Addr) (len : Nat) (Z : Nat → OpR) : Prop where
  len_le : len ≤ 9223372036854775807
  elem : ∀ i, i < len → ∃ b off, a = some ⟨b, off, none⟩ ∧ b < w.heap.size ∧ w.cell? ⟨b, off + i * 3, none⟩ = some (.int .i64 (Z i).kind) ∧ w.cell? ⟨b, off + i * 3 + 1, none⟩ = some (.int .i64 (Z i).id) ∧ w.cell? ⟨b, off + i * 3 + 2, none⟩ = some (.slice (Z i).p (Z i).ps.length (Z i).c) ∧ wfI (Z i).id ∧ IsI w (Z i).p (Z i).c (Z i).ps
section
variable {H : Type} {enc : TypeId × Value → H} {w : World} {spare : Nat → Bool} {held : Bool}

theorem open_one {fuel : Nat} {c : Value} {x : DataW H × List MemPlace} (h : DataW.trod enc Try.prog w 0 spare held fuel 24 [c] = some x) : ∃ (p : Option Addr) (q : Nat) (d : List Int), c = .slice p d.length q ∧ IsI w p q d := by
  rcases open_ints Try.underlying24 Try.underlying3 (by kernel_rfl) h with ⟨hcs, _⟩ | ⟨x, l, c', zs, hcs, _, hl, hm, hz, _, hcell, hwz⟩
  · simp at hcs
    exact ⟨none, 0, [], hcs, IsI.nil w⟩
  · simp at hcs
    subst hcs
    have hz' : l ≤ zs.length := by rw [hz]; split <;> omega
    have e : (zs.take l).length = l := by simp; omega
    refine ⟨some x, c', zs.take l, by rw [e], by rw [e]; exact hl, hm, fun i y hy => ?_⟩
    have hi : i < l := by have := (List.getElem?_eq_some_iff.1 hy).1; omega
    have hc := hcell i (by omega)
    rw [List.getElem?_take, if_pos hi] at hy
    have ey : zs.getD i 0 = y := by simp [List.getD, hy]
    rw [ey] at hc
    obtain ⟨b, off, spot⟩ := x
    have hs : spot = none := by simpa [Addr.add] using World.cell?_spot (hcell 0 (by omega))
    subst hs
    rw [Addr.add_lit] at hc
    exact ⟨b, off, rfl, World.block_lt_of_cell? w _ hc, hc⟩

set_option maxRecDepth 100000 in
theorem open_ops {fuel : Nat} {a : Option Addr} {len cap : Nat} {x : DataW H × List MemPlace}
    (h : DataW.trod enc Try.prog w 0 spare held fuel 33 [.slice a len cap] = some x) : ∃ Z, IsOps w a len Z := by
  rcases open_slice Try.underlying33 h with ⟨h0, _⟩ | ⟨a, len, cap, m, n, D, Pl, h0, hb, hl, hm, hmm, _, hx⟩
  · simp at h0
    obtain ⟨rfl, rfl, rfl⟩ := h0
    exact ⟨fun _ => ⟨0, 0, none, 0, []⟩, by omega, fun i hi => by omega⟩
  · simp at h0
    obtain ⟨rfl, rfl, rfl⟩ := h0
    unfold maxLen at hm
    have hlm : len ≤ m := by rw [hmm]; split <;> omega
    have hC : Try.prog.cellsOf 39 = 3 := by kernel_rfl
    have hC1 : Try.prog.cellsOf 3 = 1 := by kernel_rfl
    have hC3 : Try.prog.cellsOf 24 = 1 := by kernel_rfl
    have each : ∀ i, i < len → ∃ o : OpR, ∃ b off, a = ⟨b, off, none⟩ ∧ b < w.heap.size ∧ w.cell? ⟨b, off + i * 3, none⟩ = some (.int .i64 o.kind) ∧ w.cell? ⟨b, off + i * 3 + 1, none⟩ = some (.int .i64 o.id) ∧ w.cell? ⟨b, off + i * 3 + 2, none⟩ = some (.slice o.p o.ps.length o.c) ∧ wfI o.id ∧ IsI w o.p o.c o.ps := by
      intro i hi
      obtain ⟨cs', h1, h2⟩ := hx i (by omega)
      obtain ⟨_, hlen, hcell⟩ := World.cells?_some h1
      obtain ⟨xs, q, _, _, _, hxl, hf⟩ := DataW.trod_struct Try.underlying39 h2
      rw [hC] at hlen hcell h1
      obtain ⟨b, off, spot⟩ := a
      obtain ⟨cs0, u1, _⟩ := hx 0 (by omega)
      obtain ⟨_, ulen, ucell⟩ := World.cells?_some u1
      rw [hC] at ulen ucell
      have gc := ucell 0 (by omega)
      rw [List.getElem?_eq_getElem (show 0 < cs0.length by omega)] at gc
      have hspot : spot = none := by simpa [Addr.add] using World.cell?_spot gc
      subst hspot
      match cs', hlen with
      | [c0, c1, c2], _ =>
        have g0 : DataW.trod enc Try.prog w 0 spare held q 3 (List.take (Try.prog.cellsOf 3) (List.drop 0 [c0, c1, c2])) = xs[0]? := hf 0 _ rfl
        have g1 : DataW.trod enc Try.prog w 0 spare held q 3 (List.take (Try.prog.cellsOf 3) (List.drop 1 [c0, c1, c2])) = xs[1]? := hf 1 _ rfl
        have g2 : DataW.trod enc Try.prog w 0 spare held q 24 (List.take (Try.prog.cellsOf 24) (List.drop 2 [c0, c1, c2])) = xs[2]? := hf 2 _ rfl
        simp only [hC1, hC3, List.drop_zero, List.drop_succ_cons, List.take_succ_cons, List.take_zero] at g0 g1 g2
        have hx3 : xs.length = 3 := hxl
        rw [List.getElem?_eq_getElem (show 0 < xs.length by omega)] at g0
        rw [List.getElem?_eq_getElem (show 1 < xs.length by omega)] at g1
        rw [List.getElem?_eq_getElem (show 2 < xs.length by omega)] at g2
        obtain ⟨z0, e0, _⟩ := DataW.trod_int Try.underlying3 g0
        obtain ⟨z1, e1, _, w1⟩ := DataW.trod_int Try.underlying3 g1
        obtain ⟨p, c, d, e2, q2⟩ := open_one g2
        simp only [List.cons.injEq, and_true] at e0 e1
        subst e0 e1 e2
        have d0 := hcell 0 (by omega)
        have d1 := hcell 1 (by omega)
        have d2 := hcell 2 (by omega)
        rw [Addr.add_lit, Addr.add_lit] at d0 d1 d2
        exact ⟨⟨z0, z1, p, c, d⟩, b, off, rfl, World.block_lt_of_cell? w _ d0, d0, d1, d2, w1, q2⟩
    haveI : Inhabited OpR := ⟨⟨0, 0, none, 0, []⟩⟩
    obtain ⟨Z, hZ⟩ := choose_lt each
    refine ⟨Z, by omega, fun i hi => ?_⟩
    obtain ⟨b, off, e, r⟩ := hZ i hi
    exact ⟨b, off, by rw [e], r⟩
end
end Go.Proofs.Ythpdnlokjhafeaa

/- A slice of records of numbers that came in: what a walk is told of it, and how it is drawn from the reading. -/
import Derived.WalkKit
import Derived.Deep.Slices
import Derived.Deep.Fields
import Derived.ChangeArms
import Derived.ProofKit
namespace Go.Proofs.YtckkbjfalfompaaDoor
open Go.RowKit Go.Deep

/-- Its elements are records of numbers of the kinds 'ks': number j of element i is 'Z i j'. -/
structure IsRecs (ks : List IntKind) (w : World) (a : Option Addr) (len : Nat) (Z : Nat → Nat → Int) : Prop where
  len_le : len ≤ 9223372036854775807
  elem : ∀ i, i < len → ∃ b off, a = some ⟨b, off, none⟩ ∧ b < w.heap.size ∧ ∀ j k, ks[j]? = some k → w.cell? ⟨b, off + i * ks.length + j, none⟩ = some (.int k (Z i j)) ∧ (Lit.int k (Z i j)).wf = true

/-- For the kernel: the fields are numbers of these kinds, each one cell, one behind the other. -/
def recFields (P : Program) (fs : Array Field) (ks : List IntKind) : Bool :=
  ks.length == fs.size && (List.range fs.size).all fun j => match fs[j]?, ks[j]? with
    | some f, some k => f.offset == j && P.cellsOf f.type == 1 && (match P.underlying f.type with | some (.int k') => decide (k' = k) | _ => false)
    | _, _ => false

theorem recFields_at {P : Program} {fs : Array Field} {ks : List IntKind} (h : recFields P fs ks = true) {j : Nat} {k : IntKind} (hk : ks[j]? = some k) :
    ks.length = fs.size ∧ ∃ f, fs[j]? = some f ∧ f.offset = j ∧ P.cellsOf f.type = 1 ∧ P.underlying f.type = some (.int k) := by
  simp only [recFields, Bool.and_eq_true, beq_iff_eq] at h
  obtain ⟨h1, h2⟩ := h
  have hj : j < fs.size := by
    have := (List.getElem?_eq_some_iff.1 hk).1
    omega
  have h3 := List.all_eq_true.1 h2 j (List.mem_range.2 hj)
  rw [hk, Array.getElem?_eq_getElem hj] at h3
  simp only [Bool.and_eq_true, beq_iff_eq] at h3
  obtain ⟨⟨h4, h5⟩, h6⟩ := h3
  refine ⟨h1, fs[j], Array.getElem?_eq_getElem hj, h4, h5, ?_⟩
  split at h6
  · rename_i k' e
    rw [e, of_decide_eq_true h6]
  · cases h6

section
variable {H : Type} {enc : TypeId × Value → H} {P : Program} {w : World} {spare : Nat → Bool} {held : Bool}

theorem open_recs {t e : TypeId} {fs : Array Field} {fuel : Nat} {a : Option Addr} {len cap : Nat} {x : DataW H × List MemPlace} (ks : List IntKind) (ht : P.underlying t = some (.slice e)) (he : P.underlying e = some (.struct fs))
    (hC : P.cellsOf e = fs.size) (hr : recFields P fs ks = true) (hpos : 0 < ks.length)
    (h : DataW.trod enc P w 0 spare held fuel t [.slice a len cap] = some x) : ∃ Z, IsRecs ks w a len Z := by
  rcases open_slice ht h with ⟨h0, _⟩ | ⟨a, len, cap, m, n, D, Pl, h0, hb, hl, hm, hmm, _, hx⟩
  · simp at h0
    obtain ⟨rfl, rfl, rfl⟩ := h0
    exact ⟨fun _ _ => 0, by omega, fun i hi => by omega⟩
  · simp at h0
    obtain ⟨rfl, rfl, rfl⟩ := h0
    unfold maxLen at hm
    have hlm : len ≤ m := by rw [hmm]; split <;> omega
    have each : ∀ i, i < len → ∃ z : Nat → Int, ∃ b off, a = ⟨b, off, none⟩ ∧ b < w.heap.size ∧ ∀ j k, ks[j]? = some k → w.cell? ⟨b, off + i * ks.length + j, none⟩ = some (.int k (z j)) ∧ (Lit.int k (z j)).wf = true := by
      intro i hi
      obtain ⟨cs', h1, h2⟩ := hx i (by omega)
      obtain ⟨_, hlen, hcell⟩ := World.cells?_some h1
      obtain ⟨xs, q, _, _, _, hxl, hf⟩ := DataW.trod_struct he h2
      obtain ⟨k0, hk0⟩ : ∃ k, ks[0]? = some k := ⟨_, List.getElem?_eq_getElem hpos⟩
      have hks := (recFields_at hr hk0).1
      rw [hC] at hlen hcell h1
      obtain ⟨b, off, spot⟩ := a
      obtain ⟨cs0, g1, g2⟩ := hx 0 (by omega)
      obtain ⟨_, glen, gcell⟩ := World.cells?_some g1
      rw [hC] at glen gcell
      have gc := gcell 0 (by omega)
      rw [List.getElem?_eq_getElem (show 0 < cs0.length by omega)] at gc
      have hspot : spot = none := by simpa [Addr.add] using World.cell?_spot gc
      subst hspot
      have eachj : ∀ j, j < ks.length → ∃ v : Int, ∀ k, ks[j]? = some k → w.cell? ⟨b, off + i * ks.length + j, none⟩ = some (.int k v) ∧ (Lit.int k v).wf = true := by
        intro j hj
        obtain ⟨k, hk⟩ : ∃ k, ks[j]? = some k := ⟨_, List.getElem?_eq_getElem hj⟩
        obtain ⟨_, f, hfj, ho, hc, hu⟩ := recFields_at hr hk
        have g := hf j f hfj
        rw [ho, hc, take1_drop cs' j undef (by omega), List.getElem?_eq_getElem (by omega)] at g
        obtain ⟨v, hv, _, hw⟩ := DataW.trod_int hu g
        refine ⟨v, fun k' hk' => ?_⟩
        obtain rfl : k = k' := Option.some.inj (hk.symm.trans hk')
        have hc2 := hcell j (by omega)
        rw [List.getElem?_eq_getElem (show j < cs'.length by omega), Addr.add_lit, Addr.add_lit] at hc2
        have hv2 : cs'[j]'(by omega) = .int k v := by
          have : cs'.getD j undef = .int k v := by simpa using hv
          simpa [List.getD, List.getElem?_eq_getElem (show j < cs'.length by omega)] using this
        rw [hv2] at hc2
        rw [hks]
        exact ⟨hc2, hw⟩
      obtain ⟨z, hz⟩ := choose_lt eachj
      have hb0 := World.block_lt_of_cell? w _ ((hz 0 hpos k0 hk0).1)
      exact ⟨z, b, off, rfl, hb0, fun j k hk => hz j (List.getElem?_eq_some_iff.1 hk).1 k hk⟩
    obtain ⟨Z, hZ⟩ := choose_lt each
    refine ⟨Z, by omega, fun i hi => ?_⟩
    obtain ⟨b, off, e, r⟩ := hZ i hi
    exact ⟨b, off, by rw [e], r⟩
end
end Go.Proofs.YtckkbjfalfompaaDoor

/- slices.SortFunc at timers by wheel.order; math/bits.Len64. -/
import Derived.Test.YtbopobgnmkhabaaDoorTmShelf
import Derived.Test.YtbopobgnmkhabaaDoorTmF
import Derived.Test.YtbopobgnmkhabaaDoorEntS
import Derived.Shelf.Strconv.Itoa0
namespace Go.Proofs.YtbopobgnmkhabaaDoor
open Go.RowKit Go.Lib Go.Sort Go.Shelf
set_option linter.unusedVariables false

theorem RowF.of_cells {w : World} {base g off cap : Nat} {d : List Ent} {cur : Array Value} (hb : base ≤ g) (hp : 0 < cap) (hl : d.length ≤ cap) (hm : cap ≤ maxLen) (hg : w.heap[g]? = some (.cells cur 33 (0, 0))) (hs : cur.size = off + cap * 2) (hc : ∀ j, j < d.length * 2 → cur[off + j]? = (flat d)[j]?) :
    RowF w base g off cap d := by
  refine ⟨hb, hp, hl, hm, cur.toList.take off, cur.toList.drop off, by rw [List.take_append_drop]; exact hg, by simp; omega, by simp; omega, ?_⟩
  apply List.ext_getElem?
  intro j
  by_cases hj : j < d.length * 2
  · rw [List.getElem?_take_of_lt hj, List.getElem?_drop, ← hc j hj]
    simp
  · rw [List.getElem?_eq_none (by simp; omega), List.getElem?_eq_none (by rw [flat_len]; omega)]
theorem RowF.row {w : World} {base g off cap : Nat} {d : List Ent} (h : RowF w base g off cap d) : RE w g off d.toArray := by
  refine ⟨encE_len, encE_one, ?_, h.lt⟩
  intro j hj
  have hj' : j < d.length * 2 := by simpa using hj
  rw [get_flatK _ _ _ _ (by simpa using hj')]
  have hx : d[j / 2]? = some (d[j / 2]'(by omega)) := List.getElem?_eq_getElem (by omega)
  have e1 : d.toArray[j / 2]! = d[j / 2]'(by omega) := by rw [getElem!_pos d.toArray (j / 2) (by simpa using (by omega : j / 2 < d.length))]; rfl
  obtain ⟨g1, g2⟩ := flat_at d _ _ hx
  constructor
  · rw [h.cell j hj', e1]
    by_cases e : j = j / 2 * 2
    · have : j % 2 = 0 := by omega
      rw [← e] at g1
      rw [g1, this]; rfl
    · have e' : j / 2 * 2 + 1 = j := by omega
      have : j % 2 = 1 := by omega
      rw [e'] at g2
      rw [g2, this]; rfl
  · exact h.frozen _
/-- .. and back from it. -/
theorem RowF.sorted {w : World} {base g off cap n : Nat} {d c : List Ent} {os : Array Obj} (h : RowF w base g off cap d) (hl : c.length = d.length) :
    RowF (sortWorldK encE 2 w g off n c.toArray os) base g off cap c ∧ w.grownBy (sortWorldK encE 2 w g off n c.toArray os) (some g) := by
  have R := h.row
  have S : SE w g off c.toArray (sortWorldK encE 2 w g off n c.toArray os) := ⟨n, os, rfl⟩
  obtain ⟨P, Q, m1, m2, m3, m4⟩ := h.mem
  have hW : (sortWorldK encE 2 w g off n c.toArray os).heap[g]? = some (.cells (putCells id off (flatK encE 2 c.toArray) (P ++ Q).toArray) 33 (0, 0)) := by
    unfold sortWorldK
    rw [heap_grow_old _ _ (by rw [size_putRowK]; exact R.hblk)]
    show (w.heap.modify g _)[g]? = _
    rw [Array.getElem?_modify, if_pos rfl, m1]
    rfl
  have hsz : c.toArray.size = d.toArray.size := by simpa using hl
  refine ⟨RowF.of_cells h.low h.pos (by rw [hl]; exact h.le) h.big hW (by simp [putCells]; omega) (fun j hj => ?_), ⟨rfl, rfl, rfl, SWK.le S, fun k hk hne => ?_⟩⟩
  · rw [← cell_of_row _ g _ _ _ _ hW]
    have hu : (flat c)[j]? = some ((flat c)[j]'(by rw [flat_len]; exact hj)) := List.getElem?_eq_getElem _
    refine (flat_get c (fun j => (sortWorldK encE 2 w g off n c.toArray os).cell? ⟨g, off + j, none⟩) (fun i x hx => ?_) j _ hu).trans hu.symm
    have hi : i < c.toArray.size := by simpa using (List.getElem?_eq_some_iff.1 hx).1
    have e : c.toArray[i]! = x := by
      rw [getElem!_pos c.toArray i hi]
      have := (List.getElem?_eq_some_iff.1 hx).2
      simpa using this
    have h0 := se_c0 S R hsz hi
    have h1 := se_c1 S R hsz hi
    rw [e] at h0 h1
    exact ⟨h0, h1⟩
  · unfold sortWorldK
    rw [heap_grow_old _ _ (by rw [size_putRowK]; exact hk)]
    show (w.heap.modify g _)[k]? = _
    rw [Array.getElem?_modify, if_neg (fun e => hne (by rw [e]))]

theorem ltOf_eq : ltOf cfE = ltE := funext fun x => funext fun y => ltOf_cfE x y
theorem aggT : ∀ w, (isAgg 33).run Tryd.prog w = .ok true w := Tryd.isAgg33
theorem sizeT : ∀ w, (Go.sizeOf 33).run Tryd.prog w = .ok 2 w := Tryd.sizeOf33
theorem sort_any (v : Value) (base : Nat) (d : List Ent) (w : World) (h : OwnF w base v d) (hdl : d.length ≤ 1000000) :
    Calls Tryd.prog 24 #[v, .func (.func 25) #[] #[]] w fun e w' => e = .returned (.tuple #[]) ∧ OwnF w' base v (sortE d) ∧ w.grownBy w' (rowB v) := by
  have eg := enters_of Tryd.func25 (by kernel_rfl) rfl
  have none : ∀ (p : Option Addr) (cap : Nat), d = [] → v = .slice p 0 cap → Calls Tryd.prog 24 #[v, .func (.func 25) #[] #[]] w fun e w' => e = .returned (.tuple #[]) ∧ OwnF w' base v (sortE d) ∧ w.grownBy w' (rowB v) := fun p cap hd hv => by
    have hc := AnyF.slices_SortFunc_none sortT p cap (.func (.func 25) #[] #[]) w
    change Calls Tryd.prog 24 _ _ _ at hc
    rw [hv]
    refine hc.mono ?_
    rintro e w' ⟨rfl, rfl⟩
    rw [← hv]
    refine ⟨rfl, ?_, grown_refl _ _⟩
    rw [hd] at h ⊢
    rw [sortE_id Srt.nil]
    exact h
  by_cases hd : d = []
  · obtain ⟨a, cap, hv, _⟩ := h.isL
    rw [hd] at hv
    exact none a cap hd hv
  · rcases h with ⟨h0, _⟩ | ⟨g, off, cap, rfl, hr⟩
    · exact absurd h0 hd
    have hlen := hr.isL.len
    have R := hr.row
    have hsz : d.toArray.size < 4611686018427387904 := by simp; omega
    have hc := AnyQ.slices_SortFunc_total sortT 2 aggT sizeT encE encE_len encE_one cfE (by rw [ltOf_eq]; exact swoE) 25 #[] g off cap d.toArray w eg (fun _ _ _ _ x y => order_any x y _) R.hH R.hblk hsz (by rw [ltOf_eq]; exact totE)
    change Calls Tryd.prog 24 _ _ _ at hc
    rw [ltOf_eq] at hc
    rw [hr.rowB]
    have e1 : d.toArray.size = d.length := by simp
    rw [e1] at hc
    refine hc.mono ?_
    rintro e w' ⟨rfl, n, os, rfl⟩
    obtain ⟨r1, r2⟩ := hr.sorted (n := n) (os := os) (sortE_len d)
    exact ⟨rfl, .inr ⟨g, off, cap, by rw [sortE_len], r1⟩, r2⟩
theorem len64_any (x : Nat) (hx : x < 18446744073709551616) (w : World) : Calls Tryd.prog 61 #[.int .u64 x] w fun e w' => e = .returned (.int .i64 (Go.Lib.bitLen x : Nat)) ∧ w' = w := by
  have L := SlLaysF0.n15.bits (P := Tryd.prog) (ρ := sortT_ren) { sortT with }
  have hc := Any.bits_Len64 (P := Tryd.prog) { L with } (x : Int) w (by omega) (by omega)
  rw [Int.toNat_natCast] at hc
  exact hc
end Go.Proofs.YtbopobgnmkhabaaDoor

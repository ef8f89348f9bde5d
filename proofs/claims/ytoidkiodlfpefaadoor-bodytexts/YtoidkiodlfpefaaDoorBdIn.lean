/- A slice of ops that came in. -/
import Derived.Test.YtoidkiodlfpefaaDoorBdL
import Derived.Test.YtoidkiodlfpefaaDoorRecs
import Derived.OpenShut
namespace Go.Proofs.YtoidkiodlfpefaaDoor
open Go.RowKit Go.Lib Go.Deep
set_option linter.unusedVariables false

/-- Element by element. -/
theorem isG_of {α : Type} {R : RowT α} {w : World} {a : Option Addr} {cap : Nat} {d : List α} (h1 : d.length ≤ cap) (h2 : cap ≤ maxLen)
    (h : ∀ i x, d[i]? = some x → ∃ b off, a = some ⟨b, off, none⟩ ∧ b < w.heap.size ∧ ∀ j u, (R.enc x)[j]? = some u → w.cell? ⟨b, off + (i * R.k + j), none⟩ = some u) : IsG R w a cap d := by
  refine ⟨h1, h2, fun j u hu => ?_⟩
  have hj := (List.getElem?_eq_some_iff.1 hu).1
  rw [flat_len] at hj
  have hk := R.kpos
  have hi : j / R.k < d.length := by rw [Nat.div_lt_iff_lt_mul hk]; exact hj
  have hx : d[j / R.k]? = some d[j / R.k] := List.getElem?_eq_getElem hi
  obtain ⟨b, off, e, hb, hc⟩ := h _ _ hx
  have hr : j % R.k < (R.enc d[j / R.k]).length := by rw [R.len]; exact Nat.mod_lt _ hk
  have hu' : (R.enc d[j / R.k])[j % R.k]? = some ((R.enc d[j / R.k])[j % R.k]) := List.getElem?_eq_getElem hr
  have hf := flat_at d _ _ hx _ _ hu'
  have ej : j / R.k * R.k + j % R.k = j := by rw [Nat.mul_comm]; exact Nat.div_add_mod j R.k
  have hv := hc _ _ hu'
  rw [ej] at hf hv
  rw [hf] at hu
  rw [← hu]
  exact ⟨b, off, e, hb, hv⟩
section
variable {H : Type} {enc : TypeId × Value → H} {w : World} {spare : Nat → Bool} {held : Bool} {fuel : Nat} {a : Option Addr} {len cap : Nat} {x : DataW H × List MemPlace}
theorem open_ops (h : DataW.trod enc Tryd.prog w 0 spare held fuel 24 [.slice a len cap] = some x) : ∃ d : List OpR, d.length = len ∧ IsG rO w a cap d := by
  obtain ⟨Z, hZ⟩ := open_recs [.i64, .i64, .i64] Tryd.underlying24 Tryd.underlying23 (by kernel_rfl) (by kernel_rfl) (by decide) h
  refine ⟨(List.range len).map fun i => (Z i 0, Z i 1, Z i 2), by simp, ?_⟩
  have hb : len ≤ cap ∧ cap ≤ maxLen := by
    rcases open_slice Tryd.underlying24 h with ⟨h0, _⟩ | ⟨a', len', cap', m, n, D, Pl, h0, _, hl, hm, _⟩
    · simp at h0
      obtain ⟨rfl, rfl, rfl⟩ := h0
      exact ⟨Nat.le_refl _, Nat.zero_le _⟩
    · simp at h0
      obtain ⟨rfl, rfl, rfl⟩ := h0
      exact ⟨hl, hm⟩
  refine isG_of (by simpa using hb.1) hb.2 fun i y hy => ?_
  have hi : i < len := by have := (List.getElem?_eq_some_iff.1 hy).1; simpa using this
  rw [List.getElem?_map, List.getElem?_range hi, Option.map_some] at hy
  cases hy
  obtain ⟨b, off, e, hlt, hc⟩ := hZ.elem i hi
  refine ⟨b, off, e, hlt, fun j u hu => ?_⟩
  have e3 : ∀ j, off + (i * rO.k + j) = off + i * [IntKind.i64, .i64, .i64].length + j := fun j => by show off + (i * 3 + j) = off + i * 3 + j; omega
  rw [e3]
  match j, hu with
  | 0, hu => cases hu; exact (hc 0 .i64 rfl).1
  | 1, hu => cases hu; exact (hc 1 .i64 rfl).1
  | 2, hu => cases hu; exact (hc 2 .i64 rfl).1
end
end Go.Proofs.YtoidkiodlfpefaaDoor

/- A slice of events that came in. -/
import Derived.Test.YtckkbjfalfompaaDoorHiR
import Derived.Test.YtckkbjfalfompaaDoorRecs
import Derived.OpenShut
namespace Go.Proofs.YtckkbjfalfompaaDoor
open Go.RowKit Go.Lib Go.Deep
set_option linter.unusedVariables false

/-- Element by element. -/
theorem isG_of {α : Type} {R : RowT α} {w : World} {a : Option Addr} {cap : Nat} {d : List α} (h1 : d.length ≤ cap) (h2 : cap ≤ maxLen)
    (h : ∀ i x, d[i]? = some x → ∃ b off, a = some ⟨b, off, none⟩ ∧ b < w.heap.size ∧ ∀ j u, (R.enc x)[j]? = some u → w.cell? ⟨b, off + (i * R.k + j), none⟩ = some u) : IsG R w a cap d := by
  refine ⟨h1, h2, fun j u hu => ?_⟩
  have hj := (List.getElem?_eq_some_iff.1 hu).1
  rw [flat_len] at hj
  have hk := R.kpos
  have hi : j / R.k < d.length := by rw [Nat.div_lt_iff_lt_mul hk]; exact hj
  have hx : d[j / R.k]? = some d[j / R.k] := List.getElem?_eq_getElem hi
  obtain ⟨b, off, e, hb, hc⟩ := h _ _ hx
  have hr : j % R.k < (R.enc d[j / R.k]).length := by rw [R.len]; exact Nat.mod_lt _ hk
  have hu' : (R.enc d[j / R.k])[j % R.k]? = some ((R.enc d[j / R.k])[j % R.k]) := List.getElem?_eq_getElem hr
  have hf := flat_at d _ _ hx _ _ hu'
  have ej : j / R.k * R.k + j % R.k = j := by rw [Nat.mul_comm]; exact Nat.div_add_mod j R.k
  have hv := hc _ _ hu'
  rw [ej] at hf hv
  rw [hf] at hu
  rw [← hu]
  exact ⟨b, off, e, hb, hv⟩
theorem wf_i {z : Int} (h : (Lit.int .i64 z).wf = true) : -9223372036854775808 ≤ z ∧ z ≤ 9223372036854775807 := by
  simp only [Lit.wf, IntKind.min, IntKind.max, IntKind.signed, IntKind.bits, Bool.and_eq_true] at h
  obtain ⟨h1, h2⟩ := h
  simp at h1 h2
  omega
theorem wf_u {z : Int} (h : (Lit.int .u64 z).wf = true) : ((z.toNat : Nat) : Int) = z ∧ z.toNat < 18446744073709551616 := by
  simp only [Lit.wf, IntKind.min, IntKind.max, IntKind.signed, IntKind.bits, Bool.and_eq_true] at h
  obtain ⟨h1, h2⟩ := h
  simp at h1 h2
  omega
section
variable {H : Type} {enc : TypeId × Value → H} {w : World} {spare : Nat → Bool} {held : Bool} {fuel : Nat} {a : Option Addr} {len cap : Nat} {x : DataW H × List MemPlace}
theorem open_evs (h : DataW.trod enc Tryd.prog w 0 spare held fuel 24 [.slice a len cap] = some x) : ∃ d : List EvR, d.length = len ∧ IsG rE w a cap d ∧ ∀ x ∈ d, x.ok := by
  obtain ⟨Z, hZ⟩ := open_recs [.i64, .i64, .i64, .u64, .u64, .u64] Tryd.underlying24 Tryd.underlying27 (by kernel_rfl) (by kernel_rfl) (by decide) h
  have hb : len ≤ cap ∧ cap ≤ maxLen := by
    rcases open_slice Tryd.underlying24 h with ⟨h0, _⟩ | ⟨a', len', cap', m, n, D, Pl, h0, _, hl, hm, _⟩
    · simp at h0
      obtain ⟨rfl, rfl, rfl⟩ := h0
      exact ⟨Nat.le_refl _, Nat.zero_le _⟩
    · simp at h0
      obtain ⟨rfl, rfl, rfl⟩ := h0
      exact ⟨hl, hm⟩
  refine ⟨(List.range len).map fun i => ⟨Z i 0, Z i 1, Z i 2, (Z i 3).toNat, (Z i 4).toNat, (Z i 5).toNat⟩, by simp, isG_of (by simpa using hb.1) hb.2 fun i y hy => ?_, fun y hy => ?_⟩
  · have hi : i < len := by have := (List.getElem?_eq_some_iff.1 hy).1; simpa using this
    rw [List.getElem?_map, List.getElem?_range hi, Option.map_some] at hy
    cases hy
    obtain ⟨b, off, e, hlt, hc⟩ := hZ.elem i hi
    refine ⟨b, off, e, hlt, fun j u hu => ?_⟩
    have e3 : ∀ j, off + (i * rE.k + j) = off + i * [IntKind.i64, .i64, .i64, .u64, .u64, .u64].length + j := fun j => by show off + (i * 6 + j) = off + i * 6 + j; omega
    rw [e3]
    match j, hu with
    | 0, hu => cases hu; exact (hc 0 .i64 rfl).1
    | 1, hu => cases hu; exact (hc 1 .i64 rfl).1
    | 2, hu => cases hu; exact (hc 2 .i64 rfl).1
    | 3, hu => cases hu; rw [(hc 3 .u64 rfl).1]; simp only [(wf_u (hc 3 .u64 rfl).2).1]
    | 4, hu => cases hu; rw [(hc 4 .u64 rfl).1]; simp only [(wf_u (hc 4 .u64 rfl).2).1]
    | 5, hu => cases hu; rw [(hc 5 .u64 rfl).1]; simp only [(wf_u (hc 5 .u64 rfl).2).1]
  · rw [List.mem_map] at hy
    obtain ⟨i, hi, rfl⟩ := hy
    rw [List.mem_range] at hi
    obtain ⟨b, off, e, hlt, hc⟩ := hZ.elem i hi
    exact ⟨wf_i (hc 0 .i64 rfl).2, wf_i (hc 1 .i64 rfl).2, wf_i (hc 2 .i64 rfl).2, (wf_u (hc 3 .u64 rfl).2).2, (wf_u (hc 4 .u64 rfl).2).2, (wf_u (hc 5 .u64 rfl).2).2⟩
end
end Go.Proofs.YtckkbjfalfompaaDoor

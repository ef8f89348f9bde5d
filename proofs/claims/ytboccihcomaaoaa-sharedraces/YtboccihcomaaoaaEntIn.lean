/- Entries, slices of entries and slices of these that came in: what a walk is told of them, drawn from the reading. -/
import Derived.SizedLaws
import Derived.Lib.SmallJoins
import Derived.Test.YtboccihcomaaoaaEntR
import Derived.Test.YtboccihcomaaoaaRecs
namespace Go.Proofs.Ytboccihcomaaoaa
open Go.RowKit Go.Deep Go.ChangeShapes Go.WideShapes
set_option linter.unusedVariables false

section
variable {H : Type} {enc : TypeId × Value → H} {w : World} {spare : Nat → Bool} {held : Bool}

theorem open_ents {fuel : Nat} {a : Option Addr} {len cap : Nat} {x : DataW H × List MemPlace}
    (h : DataW.trod enc Try.prog w 0 spare held fuel 32 [.slice a len cap] = some x) : ∃ d : List Ent, d.length = len ∧ IsL w a cap d ∧ (len = 0 ∨ ∃ el sp, x.1 = .slice el sp ∧ el.length = len) := by
  obtain ⟨Z, hZ⟩ := open_recs [.u64, .i64] Try.underlying32 Try.underlying37 (by kernel_rfl) (by kernel_rfl) (by decide) h
  have hcap : len ≤ cap ∧ cap ≤ maxLen ∧ (len = 0 ∨ ∃ el sp, x.1 = .slice el sp ∧ el.length = len) := by
    rcases open_slice Try.underlying32 h with ⟨h0, _⟩ | ⟨a', len', cap', m, n, D, Pl, h0, hb, hl, hm, hmm, hx, _⟩
    · simp at h0
      obtain ⟨rfl, rfl, rfl⟩ := h0
      exact ⟨Nat.le_refl _, Nat.zero_le _, .inl rfl⟩
    · simp at h0
      obtain ⟨rfl, rfl, rfl⟩ := h0
      exact ⟨hl, hm, .inr ⟨_, _, by rw [hx], by simp⟩⟩
  refine ⟨(List.range len).map fun i => (Z i 0, Z i 1), by simp, ⟨by simpa using hcap.1, hcap.2.1, fun i y hy => ?_⟩, hcap.2.2⟩
  have hi : i < len := by simpa using (List.getElem?_eq_some_iff.1 hy).1
  have e : y = (Z i 0, Z i 1) := by
    have := (List.getElem?_eq_some_iff.1 hy).2
    simpa using this.symm
  subst e
  obtain ⟨b, off, h1, h2, h3⟩ := hZ.elem i hi
  exact ⟨b, off, h1, h2, (h3 0 .u64 rfl).1, (h3 1 .i64 rfl).1⟩

theorem ent_bound {ts : List TypeId} {ds : List (DataW H)} (h : (DataW.weightsEach Try.prog ts ds).all (· ≤ reachBytes) = true) {j len : Nat} {d : DataW H} (ht : ts[j]? = some 32) (hd : ds[j]? = some d)
    (hx : len = 0 ∨ ∃ el sp, d = .slice el sp ∧ el.length = len) : len ≤ 140737488355328 := by
  rcases hx with hx | ⟨el, sp, rfl, hx⟩
  · omega
  · have := sized_slice h ht hd Try.underlying32
    rw [show Try.prog.bytesOf 37 = 16 by kernel_rfl] at this
    unfold reachBytes at this
    omega

set_option maxRecDepth 100000 in
theorem open_ent {r : Reach} {b0 : Nat} {v : Value} {d : DataW H} {p : List MemPlace} (hv : Value.okWide Try.prog w r b0 37 v) (h : DataW.Trod enc Try.prog w 0 spare held 37 v d p) : ∃ x : Ent, v = .agg #[.int .u64 x.1, .int .i64 x.2] := by
  obtain ⟨v0, v1, y0, y1, n, rfl, _, _, h0, h1⟩ := Go.Joins.open_agg2 Try.underlying37 (by kernel_rfl) (by kernel_rfl) hv h
  obtain ⟨z0, e0, _⟩ := DataW.trod_int Try.underlying27 h0
  obtain ⟨z1, e1, _⟩ := DataW.trod_int Try.underlying3 h1
  simp at e0 e1
  subst e0 e1
  exact ⟨(z0, z1), rfl⟩
end
end Go.Proofs.Ytboccihcomaaoaa

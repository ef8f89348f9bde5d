/- 'awake' of layer 4. -/
import Derived.Test.YtpenjncbodcbnaaDoorArenaOps
namespace Go.Proofs.YtpenjncbodcbnaaDoor
open Go.RowKit
set_option linter.unusedVariables false

/-- The next word, while the version is small. -/
theorem packI_next (s v : Int) (v0 : 0 ≤ v) (v1 : v < 1152921504606846976) (s0 : 0 ≤ s) (s1 : s < 8) : packI s (v / 8 + 1) = v - v % 8 + 8 + s := by
  unfold packI; omega
/-- An arena that lies at S was turned: what lay below S stays. -/
theorem Arn.stay {S n : Nat} {ws : Nat → Int} {u v v' : World} (h : AAt v (S + 2) (S + 1) S n ws) (k : Kept (S + 2) (S + 1) S v v') (b : Below S u v) : Below S u v' :=
  k.below b (by have := h.mem.rlt; omega) (by omega) (by omega) (by omega)
theorem Arn.congr {ta t e : TypeId} {w : World} {a b r n : Nat} {ws us : Nat → Int} (h : Arn ta t e w a b r n ws) (hu : ∀ i, i < n → ws i = us i) : Arn ta t e w a b r n us := by
  obtain ⟨cs, h1, h2, h3, h4⟩ := h.head
  refine ⟨h.nb, h.nr, ⟨cs, h1, h2, h3, fun s hs => ?_⟩, ⟨h.mem.ne, h.mem.head, h.mem.row.congr fun i hi => by rw [hu i hi], fun i hi => by rw [← hu i hi]; exact h.mem.fits i hi, h.mem.size⟩, fun i hi => by rw [← hu i hi]; exact h.ok i hi, h.one, h.most⟩
  rw [h4 s hs, cnt_congr hu]

end Go.Proofs.YtpenjncbodcbnaaDoor

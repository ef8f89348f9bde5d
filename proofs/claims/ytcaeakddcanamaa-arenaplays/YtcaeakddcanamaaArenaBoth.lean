/- The program's arena and the document's answer alike: one lemma for each call. -/
import Derived.Test.YtcaeakddcanamaaArenaRef
import Derived.Test.YtcaeakddcanamaaArenaAwake
namespace Go.Proofs.Ytcaeakddcanamaa
open Go.RowKit
set_option linter.unusedVariables false

theorem Kept.self {a b r : Nat} {w w' : World} (h : w' = w) : Kept a b r w w' := by subst h; exact Kept.refl _ _ _ _
variable {n : Nat} {ws : Nat → Int}

theorem alloc_both (n : Nat) (ws : Nat → Int) (s : Int) (wf : (Lit.int .i64 s).wf = true) : ∃ (x f : Int) (us : Nat → Int),
    (∀ v a b r, AAt v a b r n ws → Calls Try.prog 8 #[.pointer (some ⟨a, 0, none⟩), .int .i64 s] v fun e w' => e = .returned (.tuple #[.int .i64 x, .int .i64 f]) ∧ AAt w' a b r n us ∧ Kept a b r v w') ∧
    (∀ v a r, RA v a r n ws → Calls Try.prog 16 #[.pointer (some ⟨a, 0, none⟩), .int .i64 s] v fun e w' => e = .returned (.tuple #[.int .i64 x, .int .i64 f]) ∧ RA w' a r n us ∧ Kept r r r v w') := by
  by_cases hs : canB 0 s = true
  · rcases least_or ws 0 n with h | ⟨i, h1, h2, h3⟩
    · exact ⟨0, 65, ws, fun v a b r hA => alloc_many v a b r n ws hA s wf hs h, fun v a r hA => (ralloc_many v a r n ws hA s hs h).mono fun e w' ⟨h1, h2⟩ => ⟨h1, h2 ▸ hA, Kept.self h2⟩⟩
    · exact ⟨_, _, _, fun v a b r hA => alloc_ok v a b r n ws hA s hs i h1 h2 h3, fun v a r hA => ralloc_ok v a r n ws hA s hs i h1 h2 h3⟩
  · rw [Bool.not_eq_true] at hs
    exact ⟨0, 1, ws, fun v a b r hA => alloc_bad v a b r n ws hA s wf hs, fun v a r hA => (ralloc_bad v a r n ws hA s hs).mono fun e w' ⟨h1, h2⟩ => ⟨h1, h2 ▸ hA, Kept.self h2⟩⟩

theorem turn_both (n : Nat) (ws : Nat → Int) (x o s : Int) (o0 : 0 ≤ o) (o1 : o < 18446744073709551616) : ∃ (y f : Int) (us : Nat → Int), (f = 0 → 1 ≤ x ∧ x ≤ n) ∧
    (∀ v a b r, AAt v a b r n ws → Calls Try.prog 11 #[.pointer (some ⟨a, 0, none⟩), .int .i64 x, .int .u64 o, .int .i64 s] v fun e w' => e = .returned (.tuple #[.int .u64 y, .int .i64 f]) ∧ AAt w' a b r n us ∧ Kept a b r v w') ∧
    (∀ v a r, RA v a r n ws → Calls Try.prog 19 #[.pointer (some ⟨a, 0, none⟩), .int .i64 x, .int .u64 o, .int .i64 s] v fun e w' => e = .returned (.tuple #[.int .u64 y, .int .i64 f]) ∧ RA w' a r n us ∧ Kept r r r v w') := by
  by_cases hx : x < 1 ∨ (n : Int) < x ∨ s < 1 ∨ 6 < s
  · exact ⟨0, 1, ws, fun h => absurd h (by decide), fun v a b r hA => (turn_arg v a b r n ws hA x o s hx).mono fun e w' ⟨h1, h2⟩ => ⟨h1, h2 ▸ hA, Kept.self h2⟩, fun v a r hA => (rturn_arg v a r n ws hA x o s hx).mono fun e w' ⟨h1, h2⟩ => ⟨h1, h2 ▸ hA, Kept.self h2⟩⟩
  · obtain ⟨i, rfl⟩ : ∃ i : Nat, x = (i : Int) + 1 := ⟨(x - 1).toNat, by omega⟩
    have hi : i < n := by omega
    have s1 : 1 ≤ s := by omega
    have s6 : s ≤ 6 := by omega
    by_cases hc : canB (o % 8) s = true
    · by_cases ho : ws i = o
      · exact ⟨_, 0, _, fun _ => by omega, fun v a b r hA => turn_ok v a b r n ws hA i hi o s hc ho, fun v a r hA => rturn_ok v a r n ws hA i hi o s s1 s6 hc ho⟩
      · exact ⟨0, 8, ws, fun h => absurd h (by decide), fun v a b r hA => turn_late v a b r n ws hA i hi o s o0 o1 hc ho, fun v a r hA => (rturn_late v a r n ws hA i hi o s o0 o1 s1 s6 hc ho).mono fun e w' ⟨h1, h2⟩ => ⟨h1, h2 ▸ hA, Kept.self h2⟩⟩
    · rw [Bool.not_eq_true] at hc
      exact ⟨0, 7, ws, fun h => absurd h (by decide), fun v a b r hA => turn_state v a b r n ws hA i hi o s o0 o1 s1 s6 hc, fun v a r hA => (rturn_state v a r n ws hA i hi o s o0 o1 s1 s6 hc).mono fun e w' ⟨h1, h2⟩ => ⟨h1, h2 ▸ hA, Kept.self h2⟩⟩

theorem free_both (n : Nat) (ws : Nat → Int) (x : Int) : ∃ (f : Int) (us : Nat → Int),
    (∀ v a b r, AAt v a b r n ws → Calls Try.prog 10 #[.pointer (some ⟨a, 0, none⟩), .int .i64 x] v fun e w' => e = .returned (.int .i64 f) ∧ AAt w' a b r n us ∧ Kept a b r v w') ∧
    (∀ v a r, RA v a r n ws → Calls Try.prog 17 #[.pointer (some ⟨a, 0, none⟩), .int .i64 x] v fun e w' => e = .returned (.int .i64 f) ∧ RA w' a r n us ∧ Kept r r r v w') := by
  by_cases hx : x < 1 ∨ (n : Int) < x
  · exact ⟨1, ws, fun v a b r hA => (free_arg v a b r n ws hA x hx).mono fun e w' ⟨h1, h2⟩ => ⟨h1, h2 ▸ hA, Kept.self h2⟩, fun v a r hA => (rfree_arg v a r n ws hA x hx).mono fun e w' ⟨h1, h2⟩ => ⟨h1, h2 ▸ hA, Kept.self h2⟩⟩
  · obtain ⟨i, rfl⟩ : ∃ i : Nat, x = (i : Int) + 1 := ⟨(x - 1).toNat, by omega⟩
    have hi : i < n := by omega
    by_cases ho : overB (ws i % 8) = true
    · exact ⟨0, _, fun v a b r hA => free_ok v a b r n ws hA i hi ho, fun v a r hA => rfree_ok v a r n ws hA i hi ho⟩
    · rw [Bool.not_eq_true] at ho
      exact ⟨7, ws, fun v a b r hA => free_state v a b r n ws hA i hi ho, fun v a r hA => (rfree_state v a r n ws hA i hi ho).mono fun e w' ⟨h1, h2⟩ => ⟨h1, h2 ▸ hA, Kept.self h2⟩⟩

theorem word_both (n : Nat) (ws : Nat → Int) (hf : ∀ i, i < n → 0 ≤ ws i ∧ ws i < 18446744073709551616) (x : Int) (x0 : -9223372036854775808 ≤ x) (x9 : x ≤ 9223372036854775807) : ∃ X : Int, 0 ≤ X ∧ X < 18446744073709551616 ∧
    (∀ v a b r, AAt v a b r n ws → Calls Try.prog 9 #[.pointer (some ⟨a, 0, none⟩), .int .i64 x] v fun e w' => e = .returned (.int .u64 X) ∧ AAt w' a b r n ws ∧ Kept a b r v w') ∧
    (∀ v a b r, AAt v a b r n ws → Calls Try.prog 12 #[.pointer (some ⟨a, 0, none⟩), .int .i64 x] v fun e w' => e = .returned (.int .i64 (X % 8)) ∧ AAt w' a b r n ws ∧ Kept a b r v w') ∧
    (∀ v a r, RA v a r n ws → Calls Try.prog 18 #[.pointer (some ⟨a, 0, none⟩), .int .i64 x] v fun e w' => e = .returned (.int .u64 X) ∧ w' = v) := by
  by_cases hx : x < 1 ∨ (n : Int) < x
  · exact ⟨0, by omega, by omega, fun v a b r hA => (word_out v a b r n ws hA x hx x0 x9).mono fun e w' ⟨h1, h2⟩ => ⟨h1, h2 ▸ hA, Kept.self h2⟩, fun v a b r hA => (state_out v a b r n ws hA x hx x0 x9).mono fun e w' ⟨h1, h2⟩ => ⟨h1, h2 ▸ hA, Kept.self h2⟩, fun v a r hA => rword_out v a r n ws hA x hx⟩
  · obtain ⟨i, rfl⟩ : ∃ i : Nat, x = (i : Int) + 1 := ⟨(x - 1).toNat, by omega⟩
    have hi : i < n := by omega
    exact ⟨ws i, (hf i hi).1, (hf i hi).2, fun v a b r hA => word_in v a b r n ws hA i hi, fun v a b r hA => state_in v a b r n ws hA i hi, fun v a r hA => rword_in v a r n ws hA i hi⟩

theorem count_both (n : Nat) (ws : Nat → Int) (hok : ∀ i, i < n → ws i % 8 < 7) (s : Nat) (hs : s ≤ 7) : ∃ C : Int,
    (∀ v a b r, AAt v a b r n ws → Calls Try.prog 13 #[.pointer (some ⟨a, 0, none⟩), .int .i64 s] v fun e w' => e = .returned (.int .i64 C) ∧ w' = v) ∧
    (∀ v a r, RA v a r n ws → Calls Try.prog 21 #[.pointer (some ⟨a, 0, none⟩), .int .i64 s] v fun e w' => e = .returned (.int .i64 C) ∧ w' = v) := by
  by_cases h7 : s = 7
  · subst h7
    have h0 : cnt ws ((7 : Nat) : Int) n = 0 := cnt_none fun i hi => by have := hok i hi; omega
    refine ⟨0, fun v a b r hA => count_out v a _ (.inr (by decide)), fun v a r hA => ?_⟩
    have := rcount_any v a r n ws hA ((7 : Nat) : Int)
    rw [h0] at this
    exact this
  · exact ⟨_, fun v a b r hA => count_in v a b r n ws hA s (by omega), fun v a r hA => rcount_any v a r n ws hA s⟩

/-- Both arenas hold the same words; what stood there once lies in a third row. -/
structure Both (S n : Nat) (w0 v : World) (ws R : Nat → Int) : Prop where
  code : AAt v (S + 2) (S + 1) S n ws
  ref : RA v (S + 4) (S + 3) n ws
  was : v.rowIs (S + 5) 28 (n + 1) (fun j => .int .u64 (R j))
  fits : ∀ j, 0 ≤ R j ∧ R j < 18446744073709551616
  below : Below S w0 v

variable {S : Nat} {w0 v v1 v2 : World} {us R : Nat → Int}
theorem Both.mid (h : Both S n w0 v ws R) (k : Kept (S + 2) (S + 1) S v v1) : RA v1 (S + 4) (S + 3) n ws :=
  h.ref.kept k (by omega) (by omega) (by omega) (by omega) (by omega) (by omega)
theorem Both.read (h : Both S n w0 v ws R) (k : Kept (S + 2) (S + 1) S v v1) (c : AAt v1 (S + 2) (S + 1) S n ws) : Both S n w0 v1 ws R :=
  ⟨c, h.mid k, h.was.of_block (k.block (S + 5) h.was.lt (by omega) (by omega) (by omega)), h.fits, h.code.stay k h.below⟩
theorem Both.step (h : Both S n w0 v ws R) (k : Kept (S + 2) (S + 1) S v v1) (c : AAt v1 (S + 2) (S + 1) S n us) (k2 : Kept (S + 3) (S + 3) (S + 3) v1 v2) (c2 : RA v2 (S + 4) (S + 3) n us) : Both S n w0 v2 us R := by
  have hl := h.was.lt
  have hs := k.size
  have hs2 := k2.size
  have h4 := h.ref.alt
  refine ⟨c.kept k2 (by omega) (by omega) (by omega) (by omega) (by omega) (by omega) (by omega) (by omega) (by omega), c2, (h.was.of_block (k.block (S + 5) hl (by omega) (by omega) (by omega))).of_block (k2.block (S + 5) (by omega) (by omega) (by omega) (by omega)), h.fits, k2.below (h.code.stay k h.below) (by omega) (by omega) (by omega) (by omega)⟩
theorem Both.drewN (h : Both S n w0 v ws R) (q : Nat) : Both S n w0 (v.drewN q) ws R :=
  ⟨h.code.drewN q, h.ref.of_blocks rfl rfl, h.was.of_block rfl, h.fits, below_drewN h.below q⟩
theorem Both.grew (h : Both S n w0 v ws R) (b : Below v.heap.size v v1) : Both S n w0 v1 ws R := by
  have hl := h.was.lt
  exact ⟨h.code.grew b, h.ref.of_blocks (b.block _ h.ref.alt) (b.block _ h.ref.rlt), h.was.of_block (b.block _ hl), h.fits, h.below.trans (b.mono (by omega))⟩
theorem Both.alloc (h : Both S n w0 v ws R) (o : Obj) : Both S n w0 (v.alloc o) ws R := h.grew ((Below.refl _ _).alloc (Nat.le_refl _) _)
theorem Both.store (h : Both S n w0 v ws R) (j : Nat) (x : Int) (x0 : 0 ≤ x) (x1 : x < 18446744073709551616) : Both S n w0 (v.setCell ⟨S + 5, j, none⟩ (.int .u64 x)) ws (putW R j x) :=
  ⟨h.code.of_blocks (Below.heap_setCell _ _ _ _ (by simp)) (Below.heap_setCell _ _ _ _ (by simp)) (Below.heap_setCell _ _ _ _ (by simp)), h.ref.of_blocks (Below.heap_setCell _ _ _ _ (by simp)) (Below.heap_setCell _ _ _ _ (by simp)),
    (h.was.set j (.int .u64 x)).congr fun i hi => by by_cases e : i = j <;> simp [putW, e], fun i => by have := h.fits i; by_cases e : i = j <;> simp [putW, e] <;> omega, h.below.setCell (by simp) _⟩
end Go.Proofs.Ytcaeakddcanamaa

/- The program's credits and the document's, side by side. -/
import Derived.Test.YtigaonoilbakfaaCrL
namespace Go.Proofs.Ytigaonoilbakfaa
open Go.RowKit
set_option linter.unusedVariables false
/-- Both tell the same. -/
structure Pl (w : World) (S : Nat) (v : World) (n o m : Nat) : Prop where
  code : Ls w S v n o m
  ref : RCr v (S + 3) n o m
/-- The program is ahead by one call. -/
structure Ph (w : World) (S : Nat) (v : World) (n o m o' m' : Nat) : Prop where
  code : Ls w S v n o m
  ref : RCr v (S + 3) n o' m'
variable {w v v' : World} {S n o m o' m' : Nat}
theorem Pl.drewN (h : Pl w S v n o m) (q : Nat) : Pl w S (v.drewN q) n o m := ⟨h.code.drewN q, h.ref.drewN q⟩
theorem Pl.drew (h : Pl w S v n o m) : Pl w S v.drew n o m := ⟨h.code.drewN 1, h.ref.drew⟩
theorem Pl.half (h : Pl w S v n o m) (hk : Kept (S + 1) (S + 1) S v v') (hc : Cr v' (S + 2) (S + 1) S n o' m') : Ph w S v' n o' m' o m :=
  ⟨h.code.kept hk hc, h.ref.kept hk (by omega) (by omega)⟩
theorem Pl.same (h : Pl w S v n o m) (hk : Kept (S + 1) (S + 1) S v v') (hc : Cr v' (S + 2) (S + 1) S n o m) : Pl w S v' n o m := ⟨(h.half hk hc).code, (h.half hk hc).ref⟩
theorem Ph.whole (h : Ph w S v n o m o' m') (ho : Only (S + 3) v v') (hr : RCr v' (S + 3) n o m) : Pl w S v' n o m :=
  ⟨⟨ho.below h.code.bel (by omega), by rw [ho.size]; exact h.code.sz, h.code.cr.only ho (by omega) (by omega) (by omega)⟩, hr⟩
theorem Pl.out (h : Pl w S v n o m) : Calls Try.prog 6 #[.pointer (some ⟨S + 2, 0, none⟩)] v fun e v' => e = .returned (.int .i64 o) ∧ Pl w S v' n o m :=
  (out_any v h.code.cr).mono fun e v' ⟨e1, h1, k1⟩ => ⟨e1, h.same k1 h1⟩
theorem Pl.most (h : Pl w S v n o m) : Calls Try.prog 9 #[.pointer (some ⟨S + 2, 0, none⟩)] v fun e v' => e = .returned (.int .i64 m) ∧ Pl w S v' n o m :=
  (most_any v h.code.cr).mono fun e v' ⟨e1, h1, k1⟩ => ⟨e1, h.same k1 h1⟩
theorem Pl.free (h : Pl w S v n o m) : Calls Try.prog 10 #[.pointer (some ⟨S + 2, 0, none⟩)] v fun e v' => e = .returned (.int .i64 ((n : Int) - o)) ∧ Pl w S v' n o m :=
  (free_any v h.code.cr).mono fun e v' ⟨e1, h1, k1⟩ => ⟨e1, h.same k1 h1⟩
theorem Pl.takeNo (h : Pl w S v n n m) : Calls Try.prog 7 #[.pointer (some ⟨S + 2, 0, none⟩)] v fun e v' => e = .returned (.bool false) ∧ Ph w S v' n n m n m :=
  (take_no v h.code.cr).mono fun e v' ⟨e1, h1, k1⟩ => ⟨e1, h.half k1 h1⟩
theorem Pl.take (h : Pl w S v n o m) (ho : o < n) : Calls Try.prog 7 #[.pointer (some ⟨S + 2, 0, none⟩)] v fun e v' => e = .returned (.bool true) ∧ Ph w S v' n (o + 1) (max m (o + 1)) o m :=
  (take_ok v h.code.cr ho).mono fun e v' ⟨e1, h1, k1⟩ => ⟨e1, h.half k1 h1⟩
theorem Pl.giveNo (h : Pl w S v n 0 m) : Calls Try.prog 8 #[.pointer (some ⟨S + 2, 0, none⟩)] v fun e v' => e = .returned (.int .i64 7) ∧ Ph w S v' n 0 m 0 m :=
  (give_no v h.code.cr).mono fun e v' ⟨e1, h1, k1⟩ => ⟨e1, h.half k1 h1⟩
theorem Pl.give (h : Pl w S v n (o + 1) m) : Calls Try.prog 8 #[.pointer (some ⟨S + 2, 0, none⟩)] v fun e v' => e = .returned (.int .i64 0) ∧ Ph w S v' n o m (o + 1) m :=
  (give_ok v h.code.cr).mono fun e v' ⟨e1, h1, k1⟩ => ⟨e1, h.half k1 h1⟩
theorem Ph.takeNo (h : Ph w S v n n m n m) : Calls Try.prog 12 #[.pointer (some ⟨S + 3, 0, none⟩)] v fun e v' => e = .returned (.bool false) ∧ Pl w S v' n n m :=
  (rtake_no v h.ref).mono fun e v' ⟨e1, h1, k1⟩ => ⟨e1, h.whole k1 h1⟩
theorem Ph.take (h : Ph w S v n (o + 1) (max m (o + 1)) o m) (ho : o < n) : Calls Try.prog 12 #[.pointer (some ⟨S + 3, 0, none⟩)] v fun e v' => e = .returned (.bool true) ∧ Pl w S v' n (o + 1) (max m (o + 1)) :=
  (rtake_ok v h.ref ho h.code.cr.most).mono fun e v' ⟨e1, h1, k1⟩ => ⟨e1, h.whole k1 h1⟩
theorem Ph.giveNo (h : Ph w S v n 0 m 0 m) : Calls Try.prog 13 #[.pointer (some ⟨S + 3, 0, none⟩)] v fun e v' => e = .returned (.int .i64 7) ∧ Pl w S v' n 0 m :=
  (rgive_no v h.ref).mono fun e v' ⟨e1, h1, k1⟩ => ⟨e1, h.whole k1 h1⟩
theorem Ph.give (h : Ph w S v n o m (o + 1) m) (ho : o < 64) : Calls Try.prog 13 #[.pointer (some ⟨S + 3, 0, none⟩)] v fun e v' => e = .returned (.int .i64 0) ∧ Pl w S v' n o m :=
  (rgive_ok v h.ref ho).mono fun e v' ⟨e1, h1, k1⟩ => ⟨e1, h.whole k1 h1⟩
theorem Pl.grew (h : Pl w S v n o m) (hb : Below v.heap.size v v') : Pl w S v' n o m := ⟨h.code.grew hb, ⟨(hb.block _ h.ref.clt).trans h.ref.head⟩⟩
/-- The document's, made behind the program's. -/
theorem Pl.made (h : Ls w S v n 0 0) (hs : v.heap.size = S + 3) : Pl w S (v.alloc (.cells #[.int .i64 n, .int .i64 0, .int .i64 0] 34)) n 0 0 := by
  refine ⟨h.grew (by simpa using (Below.refl v.heap.size v).alloc (Nat.le_refl _) (.cells #[.int .i64 n, .int .i64 0, .int .i64 0] 34)), ⟨?_⟩⟩
  have := heap_alloc_new v (.cells #[.int .i64 n, .int .i64 0, .int .i64 0] 34)
  rw [hs] at this
  exact this
end Go.Proofs.Ytigaonoilbakfaa

/- Credits that a law has made for itself. -/
import Derived.Test.YtigaonoilbakfaaCrf
namespace Go.Proofs.Ytigaonoilbakfaa
open Go.RowKit
set_option linter.unusedVariables false
/-- The law's credits lie in the first three new blocks; nothing older has turned. -/
structure Ls (w : World) (S : Nat) (v : World) (n o m : Nat) : Prop where
  bel : Below S w v
  sz : S + 3 ≤ v.heap.size
  cr : Cr v (S + 2) (S + 1) S n o m
variable {w v v' : World} {S n o m : Nat}
theorem Ls.new (hS : w.heap.size = S) (h : Cr v (S + 2) (S + 1) S n o m) (b : Below S w v) : Ls w S v n o m := ⟨b, by have := h.alt; omega, h⟩
theorem Ls.kept (h : Ls w S v n o m) {o' m' : Nat} (hk : Kept (S + 1) (S + 1) S v v') (hc : Cr v' (S + 2) (S + 1) S n o' m') : Ls w S v' n o' m' :=
  ⟨hk.below h.bel (by have := h.sz; omega) (by omega) (by omega) (by omega), Nat.le_trans h.sz hk.size, hc⟩
theorem Ls.grew (h : Ls w S v n o m) (hb : Below v.heap.size v v') : Ls w S v' n o m :=
  ⟨h.bel.trans (hb.mono (by have := h.sz; omega)), Nat.le_trans h.sz hb.size, h.cr.grew hb⟩
theorem Ls.drewN (h : Ls w S v n o m) (q : Nat) : Ls w S (v.drewN q) n o m := ⟨below_drewN h.bel q, h.sz, h.cr.drewN q⟩
theorem Ls.out (h : Ls w S v n o m) : Calls Try.prog 6 #[.pointer (some ⟨S + 2, 0, none⟩)] v fun e v' => e = .returned (.int .i64 o) ∧ Ls w S v' n o m :=
  (out_any v h.cr).mono fun e v' ⟨e1, h1, k1⟩ => ⟨e1, h.kept k1 h1⟩
theorem Ls.most (h : Ls w S v n o m) : Calls Try.prog 9 #[.pointer (some ⟨S + 2, 0, none⟩)] v fun e v' => e = .returned (.int .i64 m) ∧ Ls w S v' n o m :=
  (most_any v h.cr).mono fun e v' ⟨e1, h1, k1⟩ => ⟨e1, h.kept k1 h1⟩
theorem Ls.free (h : Ls w S v n o m) : Calls Try.prog 10 #[.pointer (some ⟨S + 2, 0, none⟩)] v fun e v' => e = .returned (.int .i64 ((n : Int) - o)) ∧ Ls w S v' n o m :=
  (free_any v h.cr).mono fun e v' ⟨e1, h1, k1⟩ => ⟨e1, h.kept k1 h1⟩
theorem Ls.takeNo (h : Ls w S v n n m) : Calls Try.prog 7 #[.pointer (some ⟨S + 2, 0, none⟩)] v fun e v' => e = .returned (.bool false) ∧ Ls w S v' n n m :=
  (take_no v h.cr).mono fun e v' ⟨e1, h1, k1⟩ => ⟨e1, h.kept k1 h1⟩
theorem Ls.take (h : Ls w S v n o m) (ho : o < n) : Calls Try.prog 7 #[.pointer (some ⟨S + 2, 0, none⟩)] v fun e v' => e = .returned (.bool true) ∧ Ls w S v' n (o + 1) (max m (o + 1)) :=
  (take_ok v h.cr ho).mono fun e v' ⟨e1, h1, k1⟩ => ⟨e1, h.kept k1 h1⟩
theorem Ls.giveNo (h : Ls w S v n 0 m) : Calls Try.prog 8 #[.pointer (some ⟨S + 2, 0, none⟩)] v fun e v' => e = .returned (.int .i64 7) ∧ Ls w S v' n 0 m :=
  (give_no v h.cr).mono fun e v' ⟨e1, h1, k1⟩ => ⟨e1, h.kept k1 h1⟩
theorem Ls.give (h : Ls w S v n (o + 1) m) : Calls Try.prog 8 #[.pointer (some ⟨S + 2, 0, none⟩)] v fun e v' => e = .returned (.int .i64 0) ∧ Ls w S v' n o m :=
  (give_ok v h.cr).mono fun e v' ⟨e1, h1, k1⟩ => ⟨e1, h.kept k1 h1⟩
end Go.Proofs.Ytigaonoilbakfaa

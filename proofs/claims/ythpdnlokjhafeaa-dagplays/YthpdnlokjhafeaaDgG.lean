/- A dag in the heap, told by who waits for whom alone. -/
import Derived.Test.YthpdnlokjhafeaaDgK
namespace Go.Proofs.Ythpdnlokjhafeaa
open Go.RowKit Go.Lib Go.WideMaps Go.Maps
set_option linter.unusedVariables false

abbrev Rel := Int → Int → Prop
/-- At B lies a dag of E; X its blocks; no more than N of anything. -/
def Dg (w : World) (X : Nat → Prop) (B : Nat) (E : Rel) (N : Nat) : Prop := ∃ M0 M fp f l, DgA w B M0 M fp f l N ∧ Inv E fp l ∧ ∀ k, X k ↔ ft B M0 M f k
/-- What a call of it leaves of the rest. -/
structure St (X : Nat → Prop) (w : World) (X' : Nat → Prop) (w' : World) : Prop where
  fr : Fr X w w'
  new : ∀ k, X' k → X k ∨ w.heap.size ≤ k
variable {w w' u v : World} {X X' Y Z : Nat → Prop} {B N N' : Nat} {E E' : Rel} {p i id : Int}
theorem St.refl (X : Nat → Prop) (w : World) : St X w X w := ⟨Fr.refl _ _, fun k h => .inl h⟩
theorem St.trans (h : St X w Y u) (k : St Y u Z v) : St X w Z v :=
  ⟨h.fr.trans k.fr h.new, fun j hj => by
    rcases k.new j hj with e | e
    · exact h.new j e
    · exact .inr (by have := h.fr.size; omega)⟩
theorem St.below (X : Nat → Prop) (hb : Below w.heap.size w w') : St X w X w' := ⟨Fr.below hb, fun k h => .inl h⟩
theorem St.size (h : St X w X' w') : w.heap.size ≤ w'.heap.size := h.fr.size
/-- A block that is none of its blocks stays so. -/
theorem St.out (h : St X w X' w') {k : Nat} (hk : k < w.heap.size) (hx : ¬ X k) : ¬ X' k := fun hx' => by
  rcases h.new k hx' with e | e
  · exact hx e
  · omega
theorem Dg.lt (h : Dg w X B E N) {k : Nat} (hk : X k) : k < w.heap.size := by
  obtain ⟨M0, M, fp, f, l, D, I, hX⟩ := h
  exact D.ftLt ((hX k).1 hk)
theorem Dg.fr (h : Dg w X B E N) {Y : Nat → Prop} (hf : Fr Y w w') (hx : ∀ k, X k → ¬ Y k) : Dg w' X B E N := by
  obtain ⟨M0, M, fp, f, l, D, I, hX⟩ := h
  exact ⟨M0, M, fp, f, l, D.fr hf (fun k hk => hx k ((hX k).2 hk)), I, hX⟩
theorem Dg.below (h : Dg w X B E N) (hw : Below w.heap.size w w') : Dg w' X B E N := h.fr (Fr.below (X := fun _ => False) hw) (fun _ _ => id)
theorem Dg.up (h : Dg w X B E N) (hn : N ≤ N') : Dg w X B E N' := by
  obtain ⟨M0, M, fp, f, l, D, I, hX⟩ := h
  exact ⟨M0, M, fp, f, l, D.up hn, I, hX⟩
theorem Dg.ord (h : Dg w X B E N) : ∀ p i, E p i → 1 ≤ p ∧ p < i ∧ i ≤ 9223372036854775807 := by
  obtain ⟨M0, M, fp, f, l, D, I, hX⟩ := h
  exact I.ord
theorem Dg.congr (h : Dg w X B E N) (he : ∀ p i, E' p i ↔ E p i) : Dg w X B E' N := by
  obtain rfl : E' = E := funext fun p => funext fun i => propext (he p i)
  exact h
theorem Dg.wf (h : Dg w X B E N) (he : E p i) : wfI p ∧ wfI i := by
  obtain ⟨h1, h2, h3⟩ := h.ord p i he
  exact ⟨wfI_of (by omega) (by omega), wfI_of (by omega) (by omega)⟩

theorem newG (w : World) : Calls Try.prog 8 #[] w fun e w' => ∃ B X, e = .returned (.pointer (some ⟨B, 0, none⟩)) ∧ Dg w' X B (fun _ _ => False) 0 ∧ (∀ k, X k → w.heap.size ≤ k) ∧ Below w.heap.size w w' := by
  refine (new_any w).mono ?_
  rintro e w' ⟨B, M0, M, rfl, D, F, b⟩
  exact ⟨B, _, rfl, ⟨M0, M, _, _, _, D, Inv.none, fun k => Iff.rfl⟩, F, b⟩
theorem waitsG (h : Dg w X B E N) (hN : N ≤ 1000000) (i : Int) (hi : wfI i) : Calls Try.prog 18 #[.pointer (some ⟨B, 0, none⟩), .int .i64 i] w fun e w' => ∃ v' d, e = .returned v' ∧ OwnI w' w.heap.size v' d ∧ Up d ∧ (∀ p, p ∈ d ↔ E p i) ∧ d.length ≤ N ∧ Below w.heap.size w w' := by
  obtain ⟨M0, M, fp, f, l, D, I, hX⟩ := h
  refine (waits_any D hN i hi).mono ?_
  rintro e w' ⟨v', rfl, o, b⟩
  exact ⟨v', _, rfl, o, sortI_up (I.nd _ _), fun p => by rw [sortI_mem]; exact I.ew p i, by rw [sortI_len]; exact D.len _ _, b⟩
theorem behindG (h : Dg w X B E N) (hN : N ≤ 1000000) (i : Int) (hi : wfI i) : Calls Try.prog 20 #[.pointer (some ⟨B, 0, none⟩), .int .i64 i] w fun e w' => ∃ v' d, e = .returned v' ∧ OwnI w' w.heap.size v' d ∧ Up d ∧ (∀ j, j ∈ d ↔ E i j) ∧ d.length ≤ N ∧ Below w.heap.size w w' := by
  obtain ⟨M0, M, fp, f, l, D, I, hX⟩ := h
  refine (behind_any D hN i hi).mono ?_
  rintro e w' ⟨v', rfl, o, b⟩
  exact ⟨v', _, rfl, o, sortI_up (I.nd _ _), fun p => by rw [sortI_mem]; exact I.eb i p, by rw [sortI_len]; exact D.len _ _, b⟩
theorem lenG (h : Dg w X B E N) : Calls Try.prog 12 #[.pointer (some ⟨B, 0, none⟩)] w fun e w' => w' = w ∧ ∃ n : Nat, e = .returned (.int .i64 n) ∧ n ≤ N ∧ ∃ ks : List Int, ks.Nodup ∧ ks.length = n ∧ ∀ x, x ∈ ks ↔ ∃ p, E p x := by
  obtain ⟨M0, M, fp, f, l, D, I, hX⟩ := h
  refine (len_any D).mono ?_
  rintro e w' ⟨rfl, n, rfl, hn, ks, k1, k2, k3⟩
  refine ⟨rfl, n, rfl, hn, ks, k1, k2, fun x => ?_⟩
  rw [k3]
  constructor
  · intro h
    obtain ⟨p, r, e⟩ := List.exists_cons_of_ne_nil h
    exact ⟨p, (I.ew p x).1 (by rw [e]; simp)⟩
  · rintro ⟨p, hp⟩ e
    have := (I.ew p x).2 hp
    rw [e] at this
    simp at this
theorem partG (h : Dg w X B E N) (hN : N ≤ 1000000) (he : E p i) : Calls Try.prog 27 #[.pointer (some ⟨B, 0, none⟩), .int .i64 p, .int .i64 i] w fun e w' => e = .returned (.tuple #[]) ∧ ∃ X', Dg w' X' B (Epart E p i) N ∧ St X w X' w' := by
  obtain ⟨M0, M, fp, f, l, D, I, hX⟩ := h
  refine (part_any D hN I he).mono ?_
  rintro e w' ⟨rfl, fp', f', l', D', I', F, T⟩
  exact ⟨rfl, _, ⟨M0, M, fp', f', l', D', I', fun k => Iff.rfl⟩, F.mono (fun k hk => (hX k).2 hk), fun k hk => .inl ((hX k).2 (T k hk))⟩
theorem joinG (h : Dg w X B E N) (hN : N < 1000000) (hn : ¬ E p i) (h1 : 1 ≤ p) (h2 : p < i) (h3 : i ≤ 9223372036854775807) : Calls Try.prog 26 #[.pointer (some ⟨B, 0, none⟩), .int .i64 p, .int .i64 i] w fun e w' => e = .returned (.tuple #[]) ∧ ∃ X', Dg w' X' B (Ejoin E p i) (N + 1) ∧ St X w X' w' := by
  obtain ⟨M0, M, fp, f, l, D, I, hX⟩ := h
  refine (join_any D hN p i (wfI_of (by omega) (by omega)) (wfI_of (by omega) (by omega))).mono ?_
  rintro e w' ⟨rfl, f', D', F, T⟩
  exact ⟨rfl, _, ⟨M0, M, _, f', _, D', I.join hn h1 h2 h3, fun k => Iff.rfl⟩, F.mono (fun k hk => (hX k).2 hk), fun k hk => (T k hk).imp (hX k).2 id⟩
/-- A slice that is none of its blocks. -/
def Dis (v : Value) (X : Nat → Prop) : Prop := ∀ k, v.ownBlock = some k → ¬ X k
theorem Dis.st {b : Nat} {v : Value} {d : List Int} (h : Dis v X) (o : OwnI w b v d) (s : St X w X' w') : Dis v X' := fun k hk => s.out (o.rowLt hk).2 (h k hk)
theorem OwnI.st {b : Nat} {v : Value} {d : List Int} (o : OwnI w b v d) (h : Dis v X) (s : St X w X' w') : OwnI w' b v d := o.fr s.fr h
theorem Dg.dis (h : Dg w X B E N) {w1 : World} {v : Value} {d : List Int} (o : OwnI w1 w.heap.size v d) : Dis v X := fun k hk hx => by
  have := (o.rowLt hk).1
  have := h.lt hx
  omega
end Go.Proofs.Ythpdnlokjhafeaa

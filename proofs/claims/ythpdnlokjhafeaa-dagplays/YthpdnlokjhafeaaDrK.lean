/- The document's Kill: contract. -/
import Derived.Test.YthpdnlokjhafeaaDrW
namespace Go.Proofs.Ythpdnlokjhafeaa
open Go.RowKit Go.Lib
set_option linter.unusedVariables false
variable {w : World} {Y : Nat → Prop} {F : Nat} {R : List Rw} {E : Rel} {id : Int} {J : Nat} {G : List Int}
/-- Who is dead, of the first J rows. -/
structure DI (E : Rel) (R : List Rw) (id : Int) (J : Nat) (G : List Int) : Prop where
  nd : (id :: G).Nodup
  mem : ∀ x, x ∈ G ↔ Rch E id x ∧ ∃ r ∈ R.take J, r.id = x
  len : G.length ≤ J
theorem DI.start (E : Rel) (R : List Rw) (id : Int) : DI E R id 0 [] := ⟨by simp, fun x => by simp, by simp⟩
theorem RI.rch_row (I : RI E R) {x : Int} (h : Rch E id x) : ∃ r ∈ R, r.id = x :=
  h (fun x => ∃ r ∈ R, r.id = x) (fun x hx => by obtain ⟨r, hr, e, _⟩ := (I.e _ _).1 hx; exact ⟨r, hr, e⟩) (fun x y _ hy => by obtain ⟨r, hr, e, _⟩ := (I.e _ _).1 hy; exact ⟨r, hr, e⟩)
theorem Rch.last {x : Int} (h : Rch E id x) : ∃ p, E p x ∧ (p = id ∨ Rch E id p) := by
  have : (∃ p, E p x ∧ (p = id ∨ Rch E id p)) ∧ Rch E id x :=
    h (fun x => (∃ p, E p x ∧ (p = id ∨ Rch E id p)) ∧ Rch E id x) (fun x hx => ⟨⟨id, hx, .inl rfl⟩, Rch.one hx⟩) (fun x y hx hy => ⟨⟨x, hy, .inr hx.2⟩, hx.2.step hy⟩)
  exact this.1
/-- Whether a row's pred is dead. -/
theorem DI.pred (D : DI E R id J G) (I : RI E R) (ord : ∀ p i, E p i → p < i) {r : Rw} (er : R[J]? = some r) {p : Int} (hp : p ∈ r.ps) : p ∈ id :: G ↔ p = id ∨ Rch E id p := by
  rw [List.mem_cons, D.mem]
  constructor
  · rintro (h | h)
    · exact .inl h
    · exact .inr h.1
  · rintro (h | h)
    · exact .inl h
    · refine .inr ⟨h, ?_⟩
      obtain ⟨s, hs, e⟩ := I.rch_row h
      obtain ⟨hJ, eJ⟩ := List.getElem?_eq_some_iff.1 er
      have hr : r ∈ R := by rw [← eJ]; exact List.getElem_mem hJ
      have lt : s.id < r.id := by rw [e]; exact ord _ _ ((I.waits hr p).2 hp)
      obtain ⟨k, hk, ek⟩ := List.getElem_of_mem hs
      have kJ : k < J := by
        rcases Nat.lt_or_ge k J with c | c
        · exact c
        · rcases Nat.eq_or_lt_of_le c with c | c
          · subst c; rw [← ek, ← eJ] at lt; omega
          · have := List.pairwise_iff_getElem.1 I.up J k hJ hk c
            rw [ek, eJ] at this; omega
      exact ⟨s, by rw [← ek, List.mem_take_iff_getElem]; exact ⟨k, by omega, rfl⟩, e⟩
/-- The row's own fate. -/
theorem DI.row (D : DI E R id J G) (I : RI E R) (ord : ∀ p i, E p i → p < i) {r : Rw} (er : R[J]? = some r) : (∃ p ∈ r.ps, p ∈ id :: G) ↔ Rch E id r.id := by
  obtain ⟨hJ, eJ⟩ := List.getElem?_eq_some_iff.1 er
  have hr : r ∈ R := by rw [← eJ]; exact List.getElem_mem hJ
  constructor
  · rintro ⟨p, hp, hg⟩
    have hE := (I.waits hr p).2 hp
    rcases (D.pred I ord er hp).1 hg with e | e
    · rw [e] at hE; exact Rch.one hE
    · exact e.step hE
  · intro h
    obtain ⟨p, hp, e⟩ := h.last
    have hp' := (I.waits hr p).1 hp
    exact ⟨p, hp', (D.pred I ord er hp').2 e⟩
theorem DI.notin (D : DI E R id J G) (I : RI E R) {r : Rw} (er : R[J]? = some r) : r.id ∉ G := fun h => by
  obtain ⟨_, s, hs, e⟩ := (D.mem _).1 h
  obtain ⟨hJ, eJ⟩ := List.getElem?_eq_some_iff.1 er
  obtain ⟨k, hk, ek⟩ := List.mem_take_iff_getElem.1 hs
  have := List.pairwise_iff_getElem.1 I.up k J (by omega) hJ (by omega)
  rw [ek, eJ] at this
  omega
theorem DI.next (D : DI E R id J G) (I : RI E R) (ord : ∀ p i, E p i → p < i) {r : Rw} (er : R[J]? = some r) : (Rch E id r.id → DI E R id (J + 1) (G ++ [r.id])) ∧ (¬ Rch E id r.id → DI E R id (J + 1) G) := by
  have tk : ∀ s, s ∈ R.take (J + 1) ↔ s ∈ R.take J ∨ s = r := fun s => by rw [List.take_add_one, er]; simp
  have ni := D.notin I er
  refine ⟨fun h => ⟨?_, fun x => ?_, by have := D.len; simp; omega⟩, fun h => ⟨D.nd, fun x => ?_, by have := D.len; omega⟩⟩
  · rw [← List.cons_append]
    refine List.nodup_append.2 ⟨D.nd, by simp, fun a ha b hb e => ?_⟩
    simp at hb
    subst e hb
    rcases List.mem_cons.1 ha with e | e
    · have := h.lt ord; omega
    · exact ni e
  · rw [List.mem_append, D.mem, List.mem_singleton]
    constructor
    · rintro (⟨h1, s, hs, e⟩ | e)
      · exact ⟨h1, s, (tk s).2 (.inl hs), e⟩
      · exact ⟨by rw [e]; exact h, r, (tk r).2 (.inr rfl), e.symm⟩
    · rintro ⟨h1, s, hs, e⟩
      rcases (tk s).1 hs with hs | hs
      · exact .inl ⟨h1, s, hs, e⟩
      · exact .inr (by rw [← e, hs])
  · rw [D.mem]
    constructor
    · rintro ⟨h1, s, hs, e⟩; exact ⟨h1, s, (tk s).2 (.inl hs), e⟩
    · rintro ⟨h1, s, hs, e⟩
      rcases (tk s).1 hs with hs | hs
      · exact ⟨h1, s, hs, e⟩
      · rw [← e, hs] at h1; exact absurd h1 h
theorem DI.fin (D : DI E R id J G) (I : RI E R) (hJ : R.length ≤ J) (x : Int) : x ∈ G ↔ Rch E id x := by
  rw [D.mem, List.take_of_length_le hJ]
  exact ⟨fun h => h.1, fun h => ⟨h, I.rch_row h⟩⟩
/-- What is left. -/
theorem ri_kill (I : RI E R) {G : List Int} (hG : ∀ x, x ∈ G ↔ Rch E id x) {R' : List Rw} (hR : R' = R.filter (fun r => !decide (r.id ∈ id :: G))) : RI (fun q j => E q j ∧ j ≠ id ∧ ¬ Rch E id j) R' := by
  subst hR
  have mem : ∀ r, r ∈ R.filter (fun r => !decide (r.id ∈ id :: G)) ↔ r ∈ R ∧ r.id ≠ id ∧ ¬ Rch E id r.id := fun r => by
    rw [List.mem_filter]
    simp only [Bool.not_eq_true', decide_eq_false_iff_not, List.mem_cons, hG, not_or]
  refine ⟨I.up.filter _, fun r hr => I.ps r ((mem r).1 hr).1, fun q j => ?_⟩
  rw [I.e]
  constructor
  · rintro ⟨⟨r, hr, e, hq⟩, h1, h2⟩
    subst e
    exact ⟨r, (mem r).2 ⟨hr, h1, h2⟩, rfl, hq⟩
  · rintro ⟨r, hr, e, hq⟩
    obtain ⟨h0, h1, h2⟩ := (mem r).1 hr
    subst e
    exact ⟨⟨r, h0, rfl, hq⟩, h1, h2⟩
end Go.Proofs.Ythpdnlokjhafeaa

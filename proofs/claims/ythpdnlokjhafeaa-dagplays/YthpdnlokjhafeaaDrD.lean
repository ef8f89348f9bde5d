/- The document's Done: contract. -/
import Derived.Test.YthpdnlokjhafeaaDrKw
namespace Go.Proofs.Ythpdnlokjhafeaa
open Go.RowKit Go.Lib
set_option linter.unusedVariables false
variable {w : World} {Y : Nat → Prop} {F : Nat} {R : List Rw} {E : Rel} {id : Int}
def fF (id : Int) (ps : List Int) : List Int := ps.filter (fun q => !decide (q = id))
theorem fF_mem {id : Int} {ps : List Int} (q : Int) : q ∈ fF id ps ↔ q ∈ ps ∧ q ≠ id := by
  unfold fF
  rw [List.mem_filter]
  simp
theorem fF_up {ps : List Int} (h : Up ps) : Up (fF id ps) := h.filter _
theorem fF_succ {ps : List Int} {K : Nat} (hK : K < ps.length) : fF id (ps.take (K + 1)) = fF id (ps.take K) ++ if ps.getD K 0 = id then [] else [ps.getD K 0] := by
  unfold fF
  rw [take_up hK, List.filter_append]
  congr 1
  by_cases c : ps.getD K 0 = id
  · rw [if_pos c]; simp only [List.filter_cons, List.filter_nil, decide_eq_true c]; rfl
  · rw [if_neg c]; simp only [List.filter_cons, List.filter_nil, decide_eq_false c]; rfl
def DoneIs (w : World) (Y : Nat → Prop) (F : Nat) (R : List Rw) (E : Rel) (id : Int) (e : Ending) (w' : World) : Prop :=
  ∃ v d R' Y', e = .returned v ∧ OwnI w' w.heap.size v d ∧ Up d ∧ (∀ j, j ∈ d ↔ E id j ∧ ∀ q, E q j → q = id) ∧ RD w' Y' F R' ∧ RI (fun q j => E q j ∧ q ≠ id) R' ∧ R'.length ≤ R.length ∧ Fr (fun k => k = F) w w' ∧ ∀ k, Y' k → Y k ∨ (w.heap.size ≤ k ∧ k < w'.heap.size)
/-- What the first rows leave: who is told, and the rows that stay. -/
structure NI (E : Rel) (R : List Rw) (id : Int) (J : Nat) (d : List Int) (R1 : List Rw) : Prop where
  up : Up d
  lt : ∀ x ∈ d, ∀ r ∈ R.drop J, x < r.id
  mem : ∀ x, x ∈ d ↔ ∃ r ∈ R.take J, r.id = x ∧ fF id r.ps = []
  rup : R1.Pairwise (fun r s => r.id < s.id)
  rlt : ∀ x ∈ R1, ∀ r ∈ R.drop J, x.id < r.id
  rps : ∀ x ∈ R1, ∃ r ∈ R.take J, x.id = r.id ∧ x.ps = fF id r.ps ∧ x.ps ≠ []
  rin : ∀ r ∈ R.take J, fF id r.ps ≠ [] → ∃ x ∈ R1, x.id = r.id ∧ x.ps = fF id r.ps
  len : d.length + R1.length ≤ J
theorem NI.start (E : Rel) (R : List Rw) (id : Int) : NI E R id 0 [] [] := ⟨by simp, by simp, by simp, by simp, by simp, by simp, by simp, by simp⟩
theorem NI.next {J : Nat} {d : List Int} {R1 : List Rw} (N : NI E R id J d R1) (I : RI E R) {r : Rw} (er : R[J]? = some r) :
    (fF id r.ps = [] → NI E R id (J + 1) (d ++ [r.id]) R1) ∧ (∀ v, fF id r.ps ≠ [] → NI E R id (J + 1) d (R1 ++ [⟨r.id, v, fF id r.ps⟩])) := by
  obtain ⟨hJ, eJ⟩ := List.getElem?_eq_some_iff.1 er
  have tk : ∀ s, s ∈ R.take (J + 1) ↔ s ∈ R.take J ∨ s = r := fun s => by rw [List.take_add_one, er]; simp
  have dr : R.drop J = r :: R.drop (J + 1) := by rw [List.drop_eq_getElem_cons hJ, eJ]
  have hd : ∀ s ∈ R.drop (J + 1), s ∈ R.drop J := fun s hs => by rw [dr]; simp [hs]
  have rlt : ∀ s ∈ R.drop (J + 1), r.id < s.id := fun s hs => by
    have := I.up.sublist (List.drop_sublist J R)
    rw [dr] at this
    exact (List.pairwise_cons.1 this).1 s hs
  have rin : r ∈ R.drop J := by rw [dr]; simp
  refine ⟨fun h => ⟨?_, fun x hx s hs => ?_, fun x => ?_, N.rup, fun x hx s hs => N.rlt x hx s (hd s hs), fun x hx => ?_, fun s hs hn => ?_, by have := N.len; simp; omega⟩, fun v h => ⟨N.up, fun x hx s hs => N.lt x hx s (hd s hs), fun x => ?_, ?_, fun x hx s hs => ?_, fun x hx => ?_, fun s hs hn => ?_, by have := N.len; simp; omega⟩⟩
  · exact List.pairwise_append.2 ⟨N.up, by simp, fun a ha b hb => by simp at hb; rw [hb]; exact N.lt a ha r rin⟩
  · rcases List.mem_append.1 hx with hx | hx
    · exact N.lt x hx s (hd s hs)
    · simp at hx; rw [hx]; exact rlt s hs
  · rw [List.mem_append, N.mem, List.mem_singleton]
    constructor
    · rintro (⟨s, hs, e⟩ | e)
      · exact ⟨s, (tk s).2 (.inl hs), e⟩
      · exact ⟨r, (tk r).2 (.inr rfl), e.symm, h⟩
    · rintro ⟨s, hs, e, hh⟩
      rcases (tk s).1 hs with hs | hs
      · exact .inl ⟨s, hs, e, hh⟩
      · exact .inr (by rw [← e, hs])
  · obtain ⟨s, hs, e⟩ := N.rps x hx
    exact ⟨s, (tk s).2 (.inl hs), e⟩
  · rcases (tk s).1 hs with hs | hs
    · exact N.rin s hs hn
    · rw [hs] at hn; exact absurd h hn
  · rw [N.mem]
    constructor
    · rintro ⟨s, hs, e⟩; exact ⟨s, (tk s).2 (.inl hs), e⟩
    · rintro ⟨s, hs, e, hh⟩
      rcases (tk s).1 hs with hs | hs
      · exact ⟨s, hs, e, hh⟩
      · rw [hs] at hh; exact absurd hh h
  · exact List.pairwise_append.2 ⟨N.rup, by simp, fun a ha b hb => by simp at hb; rw [hb]; exact N.rlt a ha r rin⟩
  · rcases List.mem_append.1 hx with hx | hx
    · exact N.rlt x hx s (hd s hs)
    · simp at hx; rw [hx]; exact rlt s hs
  · rcases List.mem_append.1 hx with hx | hx
    · obtain ⟨s, hs, e⟩ := N.rps x hx
      exact ⟨s, (tk s).2 (.inl hs), e⟩
    · simp at hx; rw [hx]; exact ⟨r, (tk r).2 (.inr rfl), rfl, rfl, h⟩
  · rcases (tk s).1 hs with hs | hs
    · obtain ⟨x, hx, e⟩ := N.rin s hs hn
      exact ⟨x, by simp [hx], e⟩
    · rw [hs]; exact ⟨⟨r.id, v, fF id r.ps⟩, by simp, rfl, rfl⟩
theorem NI.fin {J : Nat} {d : List Int} {R1 : List Rw} (N : NI E R id J d R1) (I : RI E R) (hJ : R.length ≤ J) : (∀ j, j ∈ d ↔ E id j ∧ ∀ q, E q j → q = id) ∧ RI (fun q j => E q j ∧ q ≠ id) R1 := by
  have tk : R.take J = R := List.take_of_length_le hJ
  have mem := N.mem
  have rps := N.rps
  have rin := N.rin
  rw [tk] at mem rps rin
  refine ⟨fun j => ?_, N.rup, fun x hx => ?_, fun q j => ?_⟩
  · rw [mem]
    constructor
    · rintro ⟨r, hr, rfl, hh⟩
      have all : ∀ q ∈ r.ps, q = id := fun q hq => Decidable.byContradiction fun ne => by
        have := (fF_mem q).2 ⟨hq, ne⟩
        rw [hh] at this
        simp at this
      obtain ⟨p, t, e⟩ := List.exists_cons_of_ne_nil (I.ps r hr).2
      have hp : p ∈ r.ps := by rw [e]; simp
      refine ⟨?_, fun q hq => all q ((I.waits hr q).1 hq)⟩
      rw [← all p hp]
      exact (I.waits hr p).2 hp
    · rintro ⟨h1, h2⟩
      obtain ⟨r, hr, e, hq⟩ := (I.e _ _).1 h1
      refine ⟨r, hr, e, List.eq_nil_iff_forall_not_mem.2 fun q hq => ?_⟩
      obtain ⟨k1, k2⟩ := (fF_mem q).1 hq
      exact k2 (h2 q (by rw [← e]; exact (I.waits hr q).2 k1))
  · obtain ⟨r, hr, e1, e2, e3⟩ := rps x hx
    exact ⟨by rw [e2]; exact fF_up (I.ps r hr).1, e3⟩
  · rw [I.e]
    constructor
    · rintro ⟨⟨r, hr, e, hq⟩, ne⟩
      have hm : q ∈ fF id r.ps := (fF_mem q).2 ⟨hq, ne⟩
      obtain ⟨x, hx, e1, e2⟩ := rin r hr (fun h => by rw [h] at hm; simp at hm)
      exact ⟨x, hx, by rw [e1]; exact e, by rw [e2]; exact hm⟩
    · rintro ⟨x, hx, e, hq⟩
      obtain ⟨r, hr, e1, e2, _⟩ := rps x hx
      rw [e2] at hq
      obtain ⟨k1, k2⟩ := (fF_mem q).1 hq
      exact ⟨⟨r, hr, by rw [← e1]; exact e, k1⟩, k2⟩
end Go.Proofs.Ythpdnlokjhafeaa

/- DagOnce: what stands between the rounds. Plain: nothing of the program. -/
import Derived.Test.YthpdnlokjhafeaaDgO
namespace Go.Proofs.Ythpdnlokjhafeaa
set_option linter.unusedVariables false

structure OnI (Wt : Nat → List Int) (n i : Nat) (st : Nat → Int) (E : Rel) : Prop where
  up : ∀ k q, q ∈ Wt k → 1 ≤ q ∧ q < k
  e : ∀ q j, E q j ↔ ∃ k : Nat, j = k ∧ 1 ≤ k ∧ k ≤ n ∧ st k = 0 ∧ q ∈ Wt k ∧ (i : Int) ≤ q
  s0 : ∀ k, 1 ≤ k → k ≤ n → st k = 0 → ∃ q ∈ Wt k, (i : Int) ≤ q
  s1 : ∀ k, i ≤ k → k ≤ n → st k = 1 → ∀ q ∈ Wt k, q < i
  s3 : ∀ k, i ≤ k → k ≤ n → st k = 0 ∨ st k = 1 → ∀ q ∈ Wt k, (q < i → st q.toNat = 3) ∧ st q.toNat ≠ 2
  rng : ∀ k, 1 ≤ k → k ≤ n → st k = 0 ∨ st k = 1 ∨ st k = 2 ∨ st k = 3
  hi : ∀ k, i ≤ k → k ≤ n → st k ≠ 3
variable {Wt : Nat → List Int} {n i : Nat} {st st' : Nat → Int} {E : Rel}
theorem OnI.start (up : ∀ k q, q ∈ Wt k → 1 ≤ q ∧ q < k) (hs : ∀ k, 1 ≤ k → k ≤ n → (st k = 0 ∧ Wt k ≠ []) ∨ (st k = 1 ∧ Wt k = [])) (he : ∀ q j, E q j ↔ ∃ k : Nat, j = k ∧ 1 ≤ k ∧ k ≤ n ∧ q ∈ Wt k) : OnI Wt n 1 st E := by
  refine ⟨up, fun q j => ?_, fun k h1 h2 h3 => ?_, fun k h1 h2 h3 q hq => ?_, fun k h1 h2 h3 q hq => ?_, fun k h1 h2 => ?_, fun k h1 h2 => ?_⟩
  · rw [he]
    constructor
    · rintro ⟨k, h1, h2, h3, h4⟩
      refine ⟨k, h1, h2, h3, ?_, h4, by have := up k q h4; omega⟩
      rcases hs k h2 h3 with ⟨h, _⟩ | ⟨_, h⟩
      · exact h
      · rw [h] at h4; simp at h4
    · rintro ⟨k, h1, h2, h3, _, h4, _⟩
      exact ⟨k, h1, h2, h3, h4⟩
  · rcases hs k h1 h2 with ⟨_, h⟩ | ⟨h, _⟩
    · obtain ⟨q, r, e⟩ := List.exists_cons_of_ne_nil h
      have hq : q ∈ Wt k := by rw [e]; simp
      exact ⟨q, hq, by have := up k q hq; omega⟩
    · omega
  · rcases hs k h1 h2 with ⟨h, _⟩ | ⟨_, h⟩
    · omega
    · rw [h] at hq; simp at hq
  · have u := up k q hq
    refine ⟨fun h => by omega, ?_⟩
    rcases hs q.toNat (by omega) (by omega) with ⟨h, _⟩ | ⟨h, _⟩ <;> omega
  · rcases hs k h1 h2 with ⟨h, _⟩ | ⟨h, _⟩
    · exact .inl h
    · exact .inr (.inl h)
  · rcases hs k h1 h2 with ⟨h, _⟩ | ⟨h, _⟩ <;> omega
theorem OnI.here (h : OnI Wt n i st E) (h1 : 1 ≤ i) (h2 : i ≤ n) : st i = 1 ∨ st i = 2 := by
  rcases h.rng i h1 h2 with c | c | c | c
  · obtain ⟨q, hq, hi⟩ := h.s0 i h1 h2 c
    have := h.up i q hq
    omega
  · exact .inl c
  · exact .inr c
  · exact absurd c (h.hi i (Nat.le_refl _) h2)
theorem OnI.skip (h : OnI Wt n i st E) (h1 : 1 ≤ i) (h2 : i ≤ n) (hs : st i = 2) : OnI Wt n (i + 1) st E := by
  have no : ∀ k, 1 ≤ k → k ≤ n → st k = 0 → ∀ q ∈ Wt k, (i : Int) ≤ q → ((i + 1 : Nat) : Int) ≤ q := fun k k1 k2 k3 q hq hi => by
    have u := h.up k q hq
    have h3 := (h.s3 k (by omega) k2 (.inl k3) q hq).2
    by_cases e : q = i
    · rw [e] at h3; simp at h3; omega
    · omega
  refine ⟨h.up, fun q j => ?_, fun k k1 k2 k3 => ?_, fun k k1 k2 k3 q hq => ?_, fun k k1 k2 k3 q hq => ?_, h.rng, fun k k1 k2 => h.hi k (by omega) k2⟩
  · rw [h.e]
    constructor
    · rintro ⟨k, e1, e2, e3, e4, e5, e6⟩; exact ⟨k, e1, e2, e3, e4, e5, no k e2 e3 e4 q e5 e6⟩
    · rintro ⟨k, e1, e2, e3, e4, e5, e6⟩; exact ⟨k, e1, e2, e3, e4, e5, by omega⟩
  · obtain ⟨q, hq, hi⟩ := h.s0 k k1 k2 k3
    exact ⟨q, hq, no k k1 k2 k3 q hq hi⟩
  · have := h.s1 k (by omega) k2 k3 q hq
    omega
  · obtain ⟨a, b⟩ := h.s3 k (by omega) k2 k3 q hq
    refine ⟨fun hlt => ?_, b⟩
    by_cases e : q = i
    · rw [e] at b; simp at b; omega
    · exact a (by omega)
/-- Who goes with i. -/
theorem OnI.rch (h : OnI Wt n i st E) {j : Int} (hr : Rch E i j) : ∃ k : Nat, j = k ∧ i < k ∧ k ≤ n ∧ st k = 0 :=
  hr (fun j => ∃ k : Nat, j = k ∧ i < k ∧ k ≤ n ∧ st k = 0)
    (fun x hx => by
      obtain ⟨k, e1, e2, e3, e4, e5, e6⟩ := (h.e _ _).1 hx
      have := h.up k _ e5
      exact ⟨k, e1, by omega, e3, e4⟩)
    (fun x y hx hy => by
      obtain ⟨k, e1, e2, e3, e4, e5, e6⟩ := (h.e _ _).1 hy
      have := h.up k _ e5
      exact ⟨k, e1, by omega, e3, e4⟩)
theorem OnI.kill (h : OnI Wt n i st E) (h1 : 1 ≤ i) (h2 : i ≤ n) (hs : st i = 1) (si : st' i = 3) (sk : ∀ k : Nat, k ≤ n → k ≠ i → Rch E i k → st' k = 2) (so : ∀ k : Nat, k ≤ n → k ≠ i → ¬ Rch E i k → st' k = st k) :
    OnI Wt n (i + 1) st' (fun q j => E q j ∧ j ≠ i ∧ ¬ Rch E i j) := by
  have z : ∀ k, k ≤ n → st' k = 0 → k ≠ i ∧ ¬ Rch E i k ∧ st k = 0 := fun k k2 k3 => by
    have ne : k ≠ i := fun e => by rw [e] at k3; omega
    by_cases c : Rch E i k
    · have := sk k k2 ne c; omega
    · exact ⟨ne, c, by rw [← so k k2 ne c]; exact k3⟩
  have o : ∀ k, k ≤ n → st' k = 1 → k ≠ i ∧ ¬ Rch E i k ∧ st k = 1 := fun k k2 k3 => by
    have ne : k ≠ i := fun e => by rw [e] at k3; omega
    by_cases c : Rch E i k
    · have := sk k k2 ne c; omega
    · exact ⟨ne, c, by rw [← so k k2 ne c]; exact k3⟩
  have no : ∀ k, 1 ≤ k → k ≤ n → st' k = 0 → ∀ q ∈ Wt k, (i : Int) ≤ q → ((i + 1 : Nat) : Int) ≤ q ∧ ¬ Rch E i q := fun k k1 k2 k3 q hq hi => by
    obtain ⟨z1, z2, z3⟩ := z k k2 k3
    have hE : E q k := (h.e q k).2 ⟨k, rfl, k1, k2, z3, hq, hi⟩
    refine ⟨?_, fun hr => z2 (hr.step hE)⟩
    by_cases e : q = i
    · rw [e] at hE; exact absurd (Rch.one hE) z2
    · omega
  refine ⟨h.up, fun q j => ?_, fun k k1 k2 k3 => ?_, fun k k1 k2 k3 q hq => ?_, fun k k1 k2 k3 q hq => ?_, fun k k1 k2 => ?_, fun k k1 k2 => ?_⟩
  · rw [h.e]
    constructor
    · rintro ⟨⟨k, e1, e2, e3, e4, e5, e6⟩, ne, nr⟩
      subst e1
      have ne' : k ≠ i := fun e => ne (by rw [e])
      have s0 : st' k = 0 := by rw [so k e3 ne' nr]; exact e4
      exact ⟨k, rfl, e2, e3, s0, e5, (no k e2 e3 s0 q e5 e6).1⟩
    · rintro ⟨k, e1, e2, e3, e4, e5, e6⟩
      obtain ⟨z1, z2, z3⟩ := z k e3 e4
      subst e1
      exact ⟨⟨k, rfl, e2, e3, z3, e5, by omega⟩, by omega, z2⟩
  · obtain ⟨z1, z2, z3⟩ := z k k2 k3
    obtain ⟨q, hq, hi⟩ := h.s0 k k1 k2 z3
    exact ⟨q, hq, (no k k1 k2 k3 q hq hi).1⟩
  · obtain ⟨z1, z2, z3⟩ := o k k2 k3
    have := h.s1 k (by omega) k2 z3 q hq
    omega
  · have u := h.up k q hq
    have qn : q.toNat ≤ n := by omega
    rcases k3 with k3 | k3
    · obtain ⟨z1, z2, z3⟩ := z k k2 k3
      obtain ⟨a, b⟩ := h.s3 k (by omega) k2 (.inl z3) q hq
      by_cases c : (i : Int) ≤ q
      · obtain ⟨c1, c2⟩ := no k (by omega) k2 k3 q hq c
        refine ⟨fun hlt => by omega, ?_⟩
        rw [so q.toNat qn (by omega) (by rw [Int.toNat_of_nonneg (by omega)]; exact c2)]
        exact b
      · have e : st' q.toNat = st q.toNat := so q.toNat qn (by omega) (fun hr => by
          obtain ⟨k', e1, e2, _⟩ := h.rch hr
          omega)
        rw [e]
        exact ⟨fun _ => a (by omega), b⟩
    · obtain ⟨z1, z2, z3⟩ := o k k2 k3
      have lt := h.s1 k (by omega) k2 z3 q hq
      obtain ⟨a, b⟩ := h.s3 k (by omega) k2 (.inr z3) q hq
      have e : st' q.toNat = st q.toNat := so q.toNat qn (by omega) (fun hr => by
          obtain ⟨k', e1, e2, _⟩ := h.rch hr
          omega)
      rw [e]
      exact ⟨fun _ => a lt, b⟩
  · by_cases c : k = i
    · rw [c]; exact .inr (.inr (.inr si))
    · by_cases c2 : Rch E i k
      · exact .inr (.inr (.inl (sk k k2 c c2)))
      · rw [so k k2 c c2]; exact h.rng k k1 k2
  · by_cases c2 : Rch E i k
    · rw [sk k k2 (by omega) c2]; omega
    · rw [so k k2 (by omega) c2]; exact h.hi k (by omega) k2
/-- Who is told at i. -/
def Told (E : Rel) (i : Nat) (j : Int) : Prop := E i j ∧ ∀ q, E q j → q = i
theorem OnI.told (h : OnI Wt n i st E) {j : Int} (ht : Told E i j) : ∃ k : Nat, j = k ∧ i < k ∧ k ≤ n ∧ st k = 0 ∧ (i : Int) ∈ Wt k ∧ ∀ q ∈ Wt k, q = i ∨ (q < i ∧ st q.toNat = 3) := by
  obtain ⟨hE, hall⟩ := ht
  obtain ⟨k, rfl, e2, e3, e4, e5, e6⟩ := (h.e _ _).1 hE
  have u := h.up k _ e5
  refine ⟨k, rfl, by omega, e3, e4, e5, fun q hq => ?_⟩
  by_cases c : (i : Int) ≤ q
  · exact .inl (hall q ((h.e q k).2 ⟨k, rfl, e2, e3, e4, hq, c⟩))
  · exact .inr ⟨by omega, (h.s3 k (by omega) e3 (.inl e4) q hq).1 (by omega)⟩
theorem OnI.done (h : OnI Wt n i st E) (h1 : 1 ≤ i) (h2 : i ≤ n) (hs : st i = 1) (si : st' i = 3) (sk : ∀ k : Nat, k ≤ n → k ≠ i → Told E i k → st' k = 1) (so : ∀ k : Nat, k ≤ n → k ≠ i → ¬ Told E i k → st' k = st k) :
    OnI Wt n (i + 1) st' (fun q j => E q j ∧ q ≠ i) := by
  have z : ∀ k, k ≤ n → st' k = 0 → k ≠ i ∧ ¬ Told E i k ∧ st k = 0 := fun k k2 k3 => by
    have ne : k ≠ i := fun e => by rw [e] at k3; omega
    by_cases c : Told E i k
    · have := sk k k2 ne c; omega
    · exact ⟨ne, c, by rw [← so k k2 ne c]; exact k3⟩
  have lo : ∀ q : Int, 1 ≤ q → q < i → st' q.toNat = st q.toNat := fun q q1 q2 => so q.toNat (by omega) (by omega) (fun ht => by
    obtain ⟨k', e1, e2, _⟩ := h.told ht
    omega)
  refine ⟨h.up, fun q j => ?_, fun k k1 k2 k3 => ?_, fun k k1 k2 k3 q hq => ?_, fun k k1 k2 k3 q hq => ?_, fun k k1 k2 => ?_, fun k k1 k2 => ?_⟩
  · rw [h.e]
    constructor
    · rintro ⟨⟨k, e1, e2, e3, e4, e5, e6⟩, ne⟩
      have u := h.up k q e5
      refine ⟨k, e1, e2, e3, ?_, e5, by omega⟩
      rw [so k e3 (by omega) (fun ht => ne (ht.2 q ((h.e q k).2 ⟨k, rfl, e2, e3, e4, e5, e6⟩)))]
      exact e4
    · rintro ⟨k, e1, e2, e3, e4, e5, e6⟩
      obtain ⟨z1, z2, z3⟩ := z k e3 e4
      exact ⟨⟨k, e1, e2, e3, z3, e5, by omega⟩, by omega⟩
  · obtain ⟨z1, z2, z3⟩ := z k k2 k3
    apply Classical.byContradiction
    intro hno
    obtain ⟨q, hq, hi⟩ := h.s0 k k1 k2 z3
    have only : ∀ q' ∈ Wt k, (i : Int) ≤ q' → q' = i := fun q' hq' hi' => Decidable.byContradiction fun ne => hno ⟨q', hq', by omega⟩
    refine z2 ⟨?_, fun q' hE => ?_⟩
    · exact (h.e _ _).2 ⟨k, rfl, k1, k2, z3, by rw [← only q hq hi]; exact hq, Int.le_refl _⟩
    · obtain ⟨k', e1, e2, e3, e4, e5, e6⟩ := (h.e _ _).1 hE
      obtain rfl : k' = k := by omega
      exact only q' e5 e6
  · by_cases c : Told E i k
    · obtain ⟨k', e1, e2, e3, e4, e5, e6⟩ := h.told c
      obtain rfl : k' = k := by omega
      rcases e6 q hq with e | e
      · omega
      · omega
    · rw [so k k2 (by omega) c] at k3
      have := h.s1 k (by omega) k2 k3 q hq
      omega
  · have u := h.up k q hq
    have s3 : st k = 0 ∨ st k = 1 := by
      by_cases c : Told E i k
      · obtain ⟨k', e1, e2, e3, e4, _⟩ := h.told c
        obtain rfl : k' = k := by omega
        exact .inl e4
      · rw [so k k2 (by omega) c] at k3; exact k3
    obtain ⟨a, b⟩ := h.s3 k (by omega) k2 s3 q hq
    by_cases c : q < i
    · rw [lo q u.1 c]
      exact ⟨fun _ => a c, b⟩
    · by_cases e : q = i
      · rw [e]; simp [si]
      · refine ⟨fun hh => by omega, ?_⟩
        by_cases c2 : Told E i q.toNat
        · rw [sk q.toNat (by omega) (by omega) c2]; omega
        · rw [so q.toNat (by omega) (by omega) c2]; exact b
  · by_cases c : k = i
    · rw [c]; exact .inr (.inr (.inr si))
    · by_cases c2 : Told E i k
      · exact .inr (.inl (sk k k2 c c2))
      · rw [so k k2 c c2]; exact h.rng k k1 k2
  · by_cases c2 : Told E i k
    · rw [sk k k2 (by omega) c2]; omega
    · rw [so k k2 (by omega) c2]; exact h.hi k (by omega) k2
theorem OnI.fin (h : OnI Wt n (n + 1) st E) (q j : Int) : ¬ E q j := fun hE => by
  obtain ⟨k, e1, e2, e3, e4, e5, e6⟩ := (h.e _ _).1 hE
  have := h.up k q e5
  omega
end Go.Proofs.Ythpdnlokjhafeaa

/- A map literal's region, whatever the order in which its entries are put: the new map has just the literal's keys. A plain law over every program. -/
import Derived.Maps.OwnSet
import Derived.Maps.AppendAt
import Derived.Orders
namespace Go.Proofs.YtpenjncbodcbnaaDoor
open Go.Maps (Keyed)

section
variable {P : Program} {ops : Array Oper} {Q : Exit → Act → World → Prop} {H : Type}

/-- J: the places of the insertions; from m on: what waits for all of them. -/
def litOk (ops : Array Oper) (J : List Nat) (m : Nat) : Bool :=
  decide (m ≤ ops.size) && (J.all fun j => decide (j < m) && match ops[j]? with
    | some o => o.guard.isNone && o.dst.isNone && o.after.toList.all (fun e => decide (e.on < m) && !J.contains e.on)
    | none => false) &&
  (List.range ops.size).all fun j => decide (j < m) || match ops[j]? with
    | some o => J.all fun r => o.after.toList.any fun e => Region.binds .any e && (e.on == r || decide (m ≤ e.on))
    | none => false

theorem has_put_iff {D : DataW H} (hD : Maps.IsMap D) {k : Lit} (hk : WideAt.IsKeyLit k) (d : DataW H) (kl : Lit) :
    Maps.has (D.put k d) kl = true ↔ Maps.has D kl = true ∨ k = kl := by
  by_cases h : kl = k
  · subst h
    simp [Maps.has_put_same hD hk d]
  · rw [Maps.has_put_other h d]
    constructor
    · exact Or.inl
    · rintro (h1 | h1)
      · exact h1
      · exact absurd h1.symm h

theorem getD_false {l : Array Bool} {j : Nat} (h : l.getD j false = true) : l.getD j true = true ∧ j < l.size := by
  by_cases hj : j < l.size
  · simp [hj] at h ⊢
    exact h
  · simp [hj] at h

theorem listed_eq {L M : Array Bool} (hs : L.size = M.size) (h : ∀ j, L.getD j true = false ↔ M.getD j true = false) : L = M := by
  refine Array.ext hs fun i h1 h2 => ?_
  have := h i
  simp [h1, h2] at this
  cases hL : L[i] <;> cases hM : M[i] <;> simp [hL, hM] at this ⊢

theorem wpAny_fill {t K E : TypeId} (law : Keyed P K) (ht : P.underlying t = some (.map K E)) {R : Value → Option (DataW H × List MemPlace)} {B : Nat} {a : Act} {J : List Nat} {m : Nat} (hok : litOk ops J m = true)
    (key : Nat → Lit)
    (hop : ∀ j ∈ J, ∃ o x kx vx d ps, ops[j]? = some o ∧ o.op = Op.insert t x kx vx ∧ a.eval x = .map (some B) ∧ keyOf P K (a.eval kx) = some (key j) ∧ R (a.eval vx) = some (d, ps))
    (fuelEnd : Nat) :
    ∀ (n : Nat) (rem : List Nat) (listed : Array Bool) (w : World) (c : Nat) (D : DataW H), rem.length = n → (∀ j ∈ rem, j ∈ J) → rem.Nodup → listed.size = ops.size →
      (∀ j, listed.getD j true = false ↔ (j ∈ rem ∨ (m ≤ j ∧ j < ops.size))) → w.ownsMap P K R B c D → c + n < maxLen →
      (∀ (L : Array Bool) (w' : World) (D' : DataW H), L.size = ops.size → (∀ j, L.getD j true = false ↔ (m ≤ j ∧ j < ops.size)) → w'.ownsMap P K R B (c + n) D' →
        (∀ kl, Maps.has D' kl = true ↔ Maps.has D kl = true ∨ ∃ j ∈ rem, key j = kl) → w.grownBy w' (some B) → wpAny P .any ops Q fuelEnd L a w') →
      wpAny P .any ops Q (fuelEnd + n) listed a w := by
  simp only [litOk, Bool.and_eq_true, decide_eq_true_eq, List.all_eq_true, List.mem_range, Bool.or_eq_true] at hok
  obtain ⟨⟨hm, hJ⟩, hend⟩ := hok
  intro n
  induction n with
  | zero =>
    intro rem listed w c D hn hsub hnd hsz hl hown hc hfin
    have hr : rem = [] := List.length_eq_zero_iff.1 hn
    subst hr
    exact hfin listed w D hsz (fun j => by rw [hl j]; simp) hown (fun kl => by simp) (World.grownBy.refl _ _)
  | succ n ih =>
    intro rem listed w c D hn hsub hnd hsz hl hown hc hfin
    have inRem : ∀ i ∈ Region.ready .any ops listed, i ∈ rem := by
      intro i hi
      obtain ⟨h0, o, ho, hall⟩ := mem_ready.1 hi
      rcases (hl i).1 h0 with h | ⟨h1, h2⟩
      · exact h
      · exfalso
        have h3 := hend i h2
        rcases h3 with h3 | h3
        · omega
        · rw [ho] at h3
          obtain ⟨r, hr⟩ : ∃ r, r ∈ rem := by
            cases rem with
            | nil => simp at hn
            | cons r _ => exact ⟨r, List.mem_cons_self⟩
          simp only [List.all_eq_true] at h3
          have h4 := h3 r (hsub r hr)
          simp only [List.any_eq_true, Bool.and_eq_true, Bool.or_eq_true, beq_iff_eq, decide_eq_true_eq] at h4
          obtain ⟨e, he, hb, h5⟩ := h4
          have h6 := getD_false (hall e (Array.mem_toList_iff.1 he) hb)
          have h7 : listed.getD e.on true = false := (hl e.on).2 (by
            rcases h5 with h5 | h5
            · rw [h5]; exact Or.inl hr
            · exact Or.inr ⟨h5, by rw [← hsz]; exact h6.2⟩)
          rw [h7] at h6
          cases h6.1
    refine ⟨fun hnil => ?_, fun i hi => ?_⟩
    · exfalso
      obtain ⟨r, hr⟩ : ∃ r, r ∈ rem := by
        cases rem with
        | nil => simp at hn
        | cons r _ => exact ⟨r, List.mem_cons_self⟩
      obtain ⟨hrm, hro⟩ := hJ r (hsub r hr)
      obtain ⟨o, x, kx, vx, d, ps, ho, _⟩ := hop r (hsub r hr)
      rw [ho] at hro
      simp only [Bool.and_eq_true, List.all_eq_true, decide_eq_true_eq, Bool.not_eq_true', ← Bool.not_eq_true, List.contains_iff_mem] at hro
      have : r ∈ Region.ready .any ops listed := mem_ready.2 ⟨(hl r).2 (Or.inl hr), o, ho, fun e he _ => by
        obtain ⟨h1, h2⟩ := hro.2 e (Array.mem_toList_iff.2 he)
        have h3 : ¬ listed.getD e.on true = false := fun hh => by
          rcases (hl e.on).1 hh with h | h
          · exact h2 (hsub _ h)
          · omega
        have h4 : e.on < listed.size := by rw [hsz]; omega
        simp [h4] at h3 ⊢
        exact h3⟩
      rw [hnil] at this
      cases this
    · have hir := inRem i hi
      obtain ⟨o, x, kx, vx, d, ps, ho, hoi, hx, hk, hv⟩ := hop i (hsub i hir)
      obtain ⟨hrm, hro⟩ := hJ i (hsub i hir)
      rw [ho] at hro
      simp only [Bool.and_eq_true, Option.isNone_iff_eq_none] at hro
      obtain ⟨⟨hg, hd⟩, _⟩ := hro
      obtain ⟨w1, hrun, hown1, hturn⟩ := hown.store law ht (by omega) hk hv
      unfold wpOp
      simp only [ho]
      rw [if_pos (by simp [Region.wanted, hg])]
      refine Or.inl ?_
      unfold Oper.wp
      simp [execOp, hoi, hx, hrun, Result.andThen]
      rw [Oper.upon_skip, hd]
      show wpAny P .any ops Q (fuelEnd + n) (listed.setIfInBounds i true) a w1
      have hlen : (rem.erase i).length = n := by rw [List.length_erase_of_mem hir, hn]; rfl
      refine ih (rem.erase i) _ w1 (c + 1) (D.put (key i) d) hlen (fun j hj => hsub j (List.mem_of_mem_erase hj)) (hnd.erase i) (by simp [hsz]) ?_ hown1 (by omega) ?_
      · intro j
        by_cases hji : i = j
        · subst hji
          have hlt : i < listed.size := by rw [hsz]; omega
          simp [hlt, hnd.mem_erase_iff]
          omega
        · rw [getD_set_ne true hji, hl j, hnd.mem_erase_iff]
          constructor
          · rintro (h | h)
            · exact Or.inl ⟨fun e => hji e.symm, h⟩
            · exact Or.inr h
          · rintro (h | h)
            · exact Or.inl h.2
            · exact Or.inr h
      · intro L w' D' hL1 hL2 hown' hhas hgr
        refine hfin L w' D' hL1 hL2 (by rw [show c + (n + 1) = c + 1 + n by omega]; exact hown') (fun kl => ?_) (hturn.grown.trans hgr)
        rw [hhas kl, has_put_iff hown.isMap (law.key hk) d kl]
        constructor
        · rintro ((h | h) | ⟨j, hj, h⟩)
          · exact Or.inl h
          · exact Or.inr ⟨i, hir, h⟩
          · exact Or.inr ⟨j, List.mem_of_mem_erase hj, h⟩
        · rintro (h | ⟨j, hj, h⟩)
          · exact Or.inl (Or.inl h)
          · by_cases hji : j = i
            · subst hji; exact Or.inl (Or.inr h)
            · exact Or.inr ⟨j, (hnd.mem_erase_iff).2 ⟨hji, hj⟩, h⟩
end
end Go.Proofs.YtpenjncbodcbnaaDoor

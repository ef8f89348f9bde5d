/- What a wheel's lists have of a set of timers; what its calls do to that. Plain: nothing of the program. -/
import Derived.Test.YtbopobgnmkhabaaDoorWhG
namespace Go.Proofs.YtbopobgnmkhabaaDoor
open Go.Lib Go.Sort
set_option linter.unusedVariables false

theorem perm_of_mem {a b : List Ent} (ha : a.Nodup) (hb : b.Nodup) (h : ∀ x, x ∈ a ↔ x ∈ b) : a.Perm b := by
  rw [List.perm_iff_count]
  intro x
  have h1 := List.nodup_iff_count.1 ha x
  have h2 := List.nodup_iff_count.1 hb x
  have h3 : 0 < a.count x ↔ 0 < b.count x := by rw [List.count_pos_iff, List.count_pos_iff]; exact h x
  omega
theorem nodup_of_ids {T : List Ent} (h : (T.map Prod.snd).Nodup) : T.Nodup := List.Pairwise.of_map Prod.snd (fun a b h e => h (by rw [e])) h
theorem ids_inj {T : List Ent} (h : (T.map Prod.snd).Nodup) {x y : Ent} (hx : x ∈ T) (hy : y ∈ T) (e : x.2 = y.2) : x = y := by
  obtain ⟨i, hi, rfl⟩ := List.getElem_of_mem hx
  obtain ⟨j, hj, rfl⟩ := List.getElem_of_mem hy
  have hp := List.pairwise_iff_getElem.1 h
  rcases Nat.lt_trichotomy i j with c | c | c
  · have := hp i j (by simpa using hi) (by simpa using hj) c
    simp at this
    exact absurd e this
  · subst c; rfl
  · have := hp j i (by simpa using hj) (by simpa using hi) c
    simp at this
    exact absurd e.symm this
theorem smal_low {d : List Ent} (hs : Srt d) (t : Ent) : (∀ i (hi : i < d.length), i < smal d t → ltE d[i] t = true) ∧ (∀ i (hi : i < d.length), smal d t ≤ i → ltE d[i] t = false) := by
  have key : ∀ i (hi : i < d.length), ltE d[i] t = true → i < smal d t := fun i hi h => by
    have h1 : smal (d.take (i + 1)) t = (d.take (i + 1)).length := smal_all fun x hx => by
      obtain ⟨j, hj, rfl⟩ := List.getElem_of_mem hx
      rw [List.length_take] at hj
      rw [List.getElem_take]
      rcases Nat.lt_or_ge j i with c | c
      · have h3 := hs.get (i := j) (j := i) c hi
        rw [ltE_iff] at h ⊢
        rw [ltE_not] at h3
        omega
      · have : j = i := by omega
        subst this; exact h
    rw [smal_split d t (i + 1), h1]
    simp
    omega
  have key2 : ∀ i (hi : i < d.length), ltE d[i] t = false → smal d t ≤ i := fun i hi h => by
    have h1 : smal (d.drop i) t = 0 := smal_none fun x hx => by
      obtain ⟨j, hj, rfl⟩ := List.getElem_of_mem hx
      rw [List.length_drop] at hj
      rw [List.getElem_drop]
      exact swoE.ntrans _ _ _ (hs.le (show i ≤ i + j by omega) (by omega)) h
    rw [smal_split d t i, h1]
    have := smal_le (d.take i) t
    simp at this
    omega
  refine ⟨fun i hi h => ?_, fun i hi h => ?_⟩
  · cases e : ltE d[i] t with
    | true => rfl
    | false => have := key2 i hi e; omega
  · cases e : ltE d[i] t with
    | false => rfl
    | true => have := key i hi e; omega
theorem insK_insL {d : List Ent} (hs : Srt d) {t : Ent} (ht : t ∉ d) : insK d t = insL d t := by
  obtain ⟨h1, h2⟩ := smal_low hs t
  refine insL_eq d t _ (smal_le d t) (fun i hi h => swoE.asymmA (h1 i h hi)) (fun h => ?_)
  cases e : ltE t d[smal d t] with
  | true => rfl
  | false => exact absurd (totE _ _ e (h2 _ h (Nat.le_refl _))) (fun e' => ht (by rw [e']; exact List.getElem_mem _))
theorem insL_mem {d : List Ent} {t x : Ent} : x ∈ insL d t ↔ x = t ∨ x ∈ d := by rw [(insL_perm d t).mem_iff]; simp
theorem Srt.erase {d : List Ent} (h : Srt d) (t : Ent) : Srt (d.erase t) := List.Pairwise.sublist List.erase_sublist h
theorem Srt.filt {d : List Ent} (h : Srt d) (p : Ent → Bool) : Srt (d.filter p) := List.Pairwise.sublist List.filter_sublist h

/-- The lists of a wheel have just what is in S. -/
structure WhL (now : Nat) (u : Nat → Nat) (c : Nat → Nat → List Ent) (far : List Ent) (S : Ent → Prop) : Prop where
  rng : ∀ x, S x → ∃ D : Nat, x.1 = (D : Int) ∧ D < B64
  slotM : ∀ l s, l < 4 → s < 64 → ∀ x, x ∈ c l s ↔ S x ∧ plc now x.1.toNat = (l, s)
  slotN : ∀ l s, l < 4 → s < 64 → (c l s).Nodup
  farM : ∀ x, x ∈ far ↔ S x ∧ 4 ≤ (plc now x.1.toNat).1
  farS : Srt far
  farN : far.Nodup
  used : ∀ l s, l < 4 → s < 64 → (u l).testBit s = !(c l s).isEmpty
variable {now : Nat} {u : Nat → Nat} {c : Nat → Nat → List Ent} {far : List Ent} {S S' : Ent → Prop} {u' : Nat → Nat} {c' : Nat → Nat → List Ent} {far' : List Ent} {t : Ent} {D : Nat}
theorem WhL.congr (h : WhL now u c far S) (e : ∀ x, S x ↔ S' x) : WhL now u c far S' := by
  have : S = S' := funext fun x => propext (e x)
  rw [← this]; exact h
theorem isEmpty_iff' {d : List Ent} : d.isEmpty = true ↔ d = [] := List.isEmpty_iff
theorem WhL.put (h : WhL now u c far S) (hP : PutP now D t u c far u' c' far') (htD : t.1 = (D : Int)) (hD : D < B64) (ht : ¬ S t) : WhL now u' c' far' (fun x => S x ∨ x = t) := by
  have eD : t.1.toNat = D := by omega
  have tp : plc now t.1.toNat = plc now D := by rw [eD]
  have rng : ∀ x, S x ∨ x = t → ∃ D : Nat, x.1 = (D : Int) ∧ D < B64 := fun x hx => by
    rcases hx with hx | rfl
    · exact h.rng x hx
    · exact ⟨D, htD, hD⟩
  obtain ⟨L, hL⟩ : ∃ L, (plc now D).1 = L := ⟨_, rfl⟩
  obtain ⟨Z, hZ⟩ : ∃ Z, (plc now D).2 = Z := ⟨_, rfl⟩
  have hp : plc now D = (L, Z) := Prod.ext hL hZ
  have hZ64 : Z < 64 := by rw [← hZ]; exact slt_lt' now D
  rcases hP with ⟨hl, rfl, rfl, rfl⟩ | ⟨hl, rfl, rfl, rfl⟩
  · rw [hL] at hl
    rw [hL, hZ]
    refine ⟨rng, fun l s hl' hs' x => ?_, fun l s hl' hs' => ?_, fun x => ?_, h.farS, h.farN, fun l s hl' hs' => ?_⟩
    · by_cases ce : l = L ∧ s = Z
      · obtain ⟨rfl, rfl⟩ := ce
        rw [cset_same, List.mem_append, h.slotM l s hl' hs', List.mem_singleton]
        constructor
        · rintro (⟨h1, h2⟩ | rfl)
          · exact ⟨.inl h1, h2⟩
          · exact ⟨.inr rfl, by rw [tp, hp]⟩
        · rintro ⟨h1 | rfl, h2⟩
          · exact .inl ⟨h1, h2⟩
          · exact .inr rfl
      · rw [cset_ne _ _ ce, h.slotM l s hl' hs']
        constructor
        · rintro ⟨h1, h2⟩; exact ⟨.inl h1, h2⟩
        · rintro ⟨h1 | rfl, h2⟩
          · exact ⟨h1, h2⟩
          · rw [tp, hp] at h2
            injection h2 with e1 e2
            exact absurd ⟨e1.symm, e2.symm⟩ ce
    · by_cases ce : l = L ∧ s = Z
      · obtain ⟨rfl, rfl⟩ := ce
        rw [cset_same, List.nodup_append]
        refine ⟨h.slotN l s hl' hs', by simp, fun a ha b hb e => ?_⟩
        simp at hb
        rw [e, hb] at ha
        exact ht ((h.slotM l s hl' hs' t).1 ha).1
      · rw [cset_ne _ _ ce]; exact h.slotN l s hl' hs'
    · rw [h.farM]
      constructor
      · rintro ⟨h1, h2⟩; exact ⟨.inl h1, h2⟩
      · rintro ⟨h1 | rfl, h2⟩
        · exact ⟨h1, h2⟩
        · rw [tp, hp] at h2
          exact absurd h2 (by show ¬ 4 ≤ L; omega)
    · by_cases ce : l = L
      · subst ce
        rw [lset_same, or_bit, h.used l s hl' hs']
        by_cases cs : s = Z
        · subst cs
          rw [cset_same]
          simp
        · rw [cset_ne _ _ (fun x => cs x.2)]
          simp [Ne.symm cs]
      · rw [lset_ne _ _ ce, cset_ne _ _ (fun x => ce x.1)]; exact h.used l s hl' hs'
  · rw [hL] at hl
    have tf : t ∉ far := fun hx => ht ((h.farM t).1 hx).1
    rw [insK_insL h.farS tf]
    refine ⟨rng, fun l s hl' hs' x => ?_, h.slotN, fun x => ?_, insL_srt _ _ h.farS, ?_, h.used⟩
    · rw [h.slotM l s hl' hs']
      constructor
      · rintro ⟨h1, h2⟩; exact ⟨.inl h1, h2⟩
      · rintro ⟨h1 | rfl, h2⟩
        · exact ⟨h1, h2⟩
        · rw [tp, hp] at h2
          injection h2 with e1 e2
          omega
    · rw [insL_mem, h.farM]
      constructor
      · rintro (rfl | ⟨h1, h2⟩)
        · exact ⟨.inr rfl, by rw [tp, hp]; exact hl⟩
        · exact ⟨.inl h1, h2⟩
      · rintro ⟨h1 | rfl, h2⟩
        · exact .inr ⟨h1, h2⟩
        · exact .inl rfl
    · rw [(insL_perm far t).nodup_iff]
      exact List.nodup_cons.2 ⟨tf, h.farN⟩
theorem WhL.at (h : WhL now u c far S) (htD : t.1 = (D : Int)) (ht : S t) : ((plc now D).1 < 4 → (c (plc now D).1 (plc now D).2).Nodup ∧ t ∈ c (plc now D).1 (plc now D).2) ∧ (4 ≤ (plc now D).1 → far.Nodup ∧ t ∈ far) := by
  have eD : t.1.toNat = D := by omega
  refine ⟨fun hl => ⟨h.slotN _ _ hl (slt_lt' now D), (h.slotM _ _ hl (slt_lt' now D) t).2 ⟨ht, by rw [eD]⟩⟩, fun hl => ⟨h.farN, (h.farM t).2 ⟨ht, by rw [eD]; exact hl⟩⟩⟩
theorem WhL.drop (h : WhL now u c far S) (hP : DropP now D t u c far u' c' far') (htD : t.1 = (D : Int)) (ht : S t) : WhL now u' c' far' (fun x => S x ∧ x ≠ t) := by
  have eD : t.1.toNat = D := by omega
  have tp : plc now t.1.toNat = plc now D := by rw [eD]
  obtain ⟨L, hL⟩ : ∃ L, (plc now D).1 = L := ⟨_, rfl⟩
  obtain ⟨Z, hZ⟩ : ∃ Z, (plc now D).2 = Z := ⟨_, rfl⟩
  have hp : plc now D = (L, Z) := Prod.ext hL hZ
  have hZ64 : Z < 64 := by rw [← hZ]; exact slt_lt' now D
  have rng : ∀ x, S x ∧ x ≠ t → ∃ D : Nat, x.1 = (D : Int) ∧ D < B64 := fun x hx => h.rng x hx.1
  rcases hP with ⟨hl, rfl, rfl, rfl⟩ | ⟨hl, rfl, rfl, rfl⟩
  · rw [hL] at hl
    rw [hL, hZ]
    refine ⟨rng, fun l s hl' hs' x => ?_, fun l s hl' hs' => ?_, fun x => ?_, h.farS, h.farN, fun l s hl' hs' => ?_⟩
    · by_cases ce : l = L ∧ s = Z
      · obtain ⟨rfl, rfl⟩ := ce
        rw [cset_same, (h.slotN l s hl' hs').mem_erase_iff, h.slotM l s hl' hs']
        constructor
        · rintro ⟨h1, h2, h3⟩; exact ⟨⟨h2, h1⟩, h3⟩
        · rintro ⟨⟨h2, h1⟩, h3⟩; exact ⟨h1, h2, h3⟩
      · rw [cset_ne _ _ ce, h.slotM l s hl' hs']
        constructor
        · rintro ⟨h1, h2⟩
          refine ⟨⟨h1, fun e => ce ?_⟩, h2⟩
          rw [e, tp, hp] at h2
          injection h2 with e1 e2
          exact ⟨e1.symm, e2.symm⟩
        · rintro ⟨⟨h1, _⟩, h2⟩; exact ⟨h1, h2⟩
    · by_cases ce : l = L ∧ s = Z
      · obtain ⟨rfl, rfl⟩ := ce
        rw [cset_same]; exact (h.slotN l s hl' hs').erase t
      · rw [cset_ne _ _ ce]; exact h.slotN l s hl' hs'
    · rw [h.farM]
      constructor
      · rintro ⟨h1, h2⟩
        refine ⟨⟨h1, fun e => ?_⟩, h2⟩
        rw [e, tp, hp] at h2
        exact absurd h2 (by show ¬ 4 ≤ L; omega)
      · rintro ⟨⟨h1, _⟩, h2⟩; exact ⟨h1, h2⟩
    · by_cases ce : l = L
      · subst ce
        rw [lset_same]
        unfold dropU
        have h2s : 2 ^ Z < B64 := show 2 ^ Z < 2 ^ 64 from Nat.pow_lt_pow_right (by omega) hZ64
        by_cases cs : s = Z
        · subst cs
          rw [cset_same]
          by_cases ee : (c l s).erase t = []
          · rw [if_pos ee, clr_bit _ _ _ h2s hs', Nat.testBit_two_pow_self, ee]
            simp
          · rw [if_neg ee, h.used l s hl' hs']
            have : c l s ≠ [] := fun e => ee (by rw [e]; rfl)
            cases hc : c l s with
            | nil => exact absurd hc this
            | cons a b =>
              cases hd : (a :: b).erase t with
              | nil => rw [hc] at ee; exact absurd hd ee
              | cons _ _ => rfl
        · rw [cset_ne _ _ (fun x => cs x.2)]
          by_cases ee : (c l Z).erase t = []
          · rw [if_pos ee, clr_bit _ _ _ h2s hs', Nat.testBit_two_pow, h.used l s hl' hs']
            simp [Ne.symm cs]
          · rw [if_neg ee]; exact h.used l s hl' hs'
      · rw [lset_ne _ _ ce, cset_ne _ _ (fun x => ce x.1)]; exact h.used l s hl' hs'
  · rw [hL] at hl
    refine ⟨rng, fun l s hl' hs' x => ?_, h.slotN, fun x => ?_, h.farS.erase t, h.farN.erase t, h.used⟩
    · rw [h.slotM l s hl' hs']
      constructor
      · rintro ⟨h1, h2⟩
        refine ⟨⟨h1, fun e => ?_⟩, h2⟩
        rw [e, tp, hp] at h2
        injection h2 with e1 e2
        omega
      · rintro ⟨⟨h1, _⟩, h2⟩; exact ⟨h1, h2⟩
    · rw [h.farN.mem_erase_iff, h.farM]
      constructor
      · rintro ⟨h1, h2, h3⟩; exact ⟨⟨h2, h1⟩, h3⟩
      · rintro ⟨⟨h2, h1⟩, h3⟩; exact ⟨h1, h2, h3⟩
/-- What time comes to. -/
def taken (now thn : Nat) (x : Ent) : Prop := ((plc now x.1.toNat).1 < 4 ∧ pass now thn (plc now x.1.toNat).1 (plc now x.1.toNat).2 = true) ∨ (4 ≤ (plc now x.1.toNat).1 ∧ x.1.toNat ≤ thn ||| 16777215)
theorem not_taken {now thn : Nat} {x : Ent} (hn : now ≤ thn) (ht : thn < B64) (hx : x.1.toNat < B64) (h : ¬ taken now thn x) : thn < x.1.toNat ∧ (((plc now x.1.toNat).1 < 4 ∧ plc thn x.1.toNat = plc now x.1.toNat) ∨ (4 ≤ (plc now x.1.toNat).1 ∧ 4 ≤ (plc thn x.1.toNat).1)) := by
  by_cases c4 : (plc now x.1.toNat).1 < 4
  · have hp : pass now thn (plc now x.1.toNat).1 (plc now x.1.toNat).2 = false := by
      cases e : pass now thn (plc now x.1.toNat).1 (plc now x.1.toNat).2 with
      | false => rfl
      | true => exact absurd (.inl ⟨c4, e⟩) h
    obtain ⟨h1, h2⟩ := plc_stay hn ht hx hp
    exact ⟨h1, .inl ⟨c4, h2⟩⟩
  · have hf : thn ||| 16777215 < x.1.toNat := by
      rcases Nat.lt_or_ge (thn ||| 16777215) x.1.toNat with e | e
      · exact e
      · exact absurd (.inr ⟨by omega, e⟩) h
    exact ⟨far_stay hn ht hx hf, .inr ⟨by omega, (span_far ht hx).1 hf⟩⟩
/-- The lists behind time has come to thn. -/
def cT (now thn : Nat) (u : Nat → Nat) (c : Nat → Nat → List Ent) (l s : Nat) : List Ent := if (u l &&& msk now thn l).testBit s then [] else c l s
theorem WhL.bit (h : WhL now u c far S) (thn : Nat) {l s : Nat} (hl : l < 4) (hs : s < 64) : (u l &&& msk now thn l).testBit s = (!(c l s).isEmpty && pass now thn l s) := by
  rw [Nat.testBit_and, h.used l s hl hs, msk_bit now thn l s hs]
theorem WhL.reach (h : WhL now u c far S) {thn k : Nat} (hn : now ≤ thn) (ht : thn < B64) (hk : ∀ x, x ∈ far.drop k ↔ x ∈ far ∧ thn ||| 16777215 < x.1.toNat) :
    WhL thn (fun l => clr (u l) (msk now thn l)) (cT now thn u c) (far.drop k) (fun x => S x ∧ ¬ taken now thn x) := by
  have toN : ∀ x, S x → x.1.toNat < B64 := fun x hx => by obtain ⟨D, h1, h2⟩ := h.rng x hx; omega
  refine ⟨fun x hx => h.rng x hx.1, fun l s hl hs x => ?_, fun l s hl hs => ?_, fun x => ?_, h.farS.drop k, List.Pairwise.sublist (List.drop_sublist k far) h.farN, fun l s hl hs => ?_⟩
  · unfold cT
    rw [h.bit thn hl hs]
    constructor
    · intro hx
      by_cases cb : (!(c l s).isEmpty && pass now thn l s) = true
      · rw [if_pos cb] at hx; cases hx
      · rw [if_neg cb] at hx
        obtain ⟨h1, h2⟩ := (h.slotM l s hl hs x).1 hx
        have hne : (c l s).isEmpty = false := by
          cases e : c l s with
          | nil => rw [e] at hx; cases hx
          | cons _ _ => rfl
        rw [hne] at cb
        have hnt : ¬ taken now thn x := by
          rintro (⟨q1, q2⟩ | ⟨q1, q2⟩)
          · rw [h2] at q2; exact cb (by simpa using q2)
          · rw [h2] at q1; exact absurd q1 (by show ¬ 4 ≤ l; omega)
        obtain ⟨_, h3 | h3⟩ := not_taken hn ht (toN x h1) hnt
        · exact ⟨⟨h1, hnt⟩, by rw [h3.2, h2]⟩
        · rw [h2] at h3; exact absurd h3.1 (by show ¬ 4 ≤ l; omega)
    · rintro ⟨⟨h1, hnt⟩, h2⟩
      obtain ⟨_, h3 | h3⟩ := not_taken hn ht (toN x h1) hnt
      · rw [h3.2] at h2
        have hb : ¬ (!(c l s).isEmpty && pass now thn l s) = true := fun cb => by
          simp only [Bool.and_eq_true] at cb
          exact hnt (.inl ⟨by rw [h2]; exact hl, by rw [h2]; exact cb.2⟩)
        rw [if_neg hb]
        exact (h.slotM l s hl hs x).2 ⟨h1, h2⟩
      · rw [h2] at h3; exact absurd h3.2 (by show ¬ 4 ≤ l; omega)
  · unfold cT
    split
    · simp
    · exact h.slotN l s hl hs
  · rw [hk, h.farM]
    constructor
    · rintro ⟨⟨h1, h2⟩, h3⟩
      refine ⟨⟨h1, ?_⟩, (span_far ht (toN x h1)).1 h3⟩
      rintro (⟨q1, _⟩ | ⟨_, q2⟩)
      · omega
      · omega
    · rintro ⟨⟨h1, hnt⟩, h2⟩
      obtain ⟨_, h3 | h3⟩ := not_taken hn ht (toN x h1) hnt
      · rw [h3.2] at h2; omega
      · exact ⟨⟨h1, h3.1⟩, (span_far ht (toN x h1)).2 h2⟩
  · show (clr (u l) (msk now thn l)).testBit s = _
    rw [clr_bit _ _ _ (msk_lt now thn l) hs, h.used l s hl hs, msk_bit now thn l s hs]
    unfold cT
    rw [h.bit thn hl hs]
    cases hc : c l s with
    | nil => simp
    | cons a b => cases hp : pass now thn l s <;> simp
/-- What is met on the way. -/
def metL (now thn : Nat) (u : Nat → Nat) (c : Nat → Nat → List Ent) : Nat → List Ent
  | 0 => []
  | l + 1 => metL now thn u c l ++ takeL (c l) (u l &&& msk now thn l) 64
theorem metL_mem (h : WhL now u c far S) (thn : Nat) : ∀ p, p ≤ 4 → ∀ x, x ∈ metL now thn u c p ↔ S x ∧ (plc now x.1.toNat).1 < p ∧ pass now thn (plc now x.1.toNat).1 (plc now x.1.toNat).2 = true
  | 0, _, x => by simp [metL]
  | l + 1, hp, x => by
    rw [metL, List.mem_append, metL_mem h thn l (by omega) x, takeL_mem]
    constructor
    · rintro (⟨h1, h2, h3⟩ | ⟨s, hs, hb, hx⟩)
      · exact ⟨h1, by omega, h3⟩
      · obtain ⟨q1, q2⟩ := (h.slotM l s (by omega) hs x).1 hx
        rw [h.bit thn (by omega) hs, Bool.and_eq_true] at hb
        exact ⟨q1, by rw [q2]; show l < l + 1; omega, by rw [q2]; exact hb.2⟩
    · rintro ⟨h1, h2, h3⟩
      by_cases e : (plc now x.1.toNat).1 = l
      · right
        have hx : x ∈ c l (plc now x.1.toNat).2 := (h.slotM l _ (by omega) (slt_lt' _ _) x).2 ⟨h1, by rw [← e]⟩
        refine ⟨_, slt_lt' _ _, ?_, hx⟩
        rw [h.bit thn (by omega) (slt_lt' _ _), Bool.and_eq_true]
        refine ⟨?_, by rw [← e]; exact h3⟩
        cases hc : c l (plc now x.1.toNat).2 with
        | nil => rw [hc] at hx; cases hx
        | cons _ _ => rfl
      · exact .inl ⟨h1, by omega, h3⟩
theorem takeL_nodup (h : WhL now u c far S) {l m : Nat} (hl : l < 4) (hm : m ≤ 64) (mk : Nat) : (takeL (c l) mk m).Nodup := by
  unfold takeL
  refine List.pairwise_flatMap.2 ⟨fun s hs => ?_, ?_⟩
  · split
    · exact h.slotN l s hl (by have := List.mem_range.1 hs; omega)
    · simp
  · refine List.Pairwise.imp_of_mem ?_ List.pairwise_lt_range
    intro a b ha hb hab x hx y hy e
    subst e
    have ha' := List.mem_range.1 ha
    have hb' := List.mem_range.1 hb
    split at hx
    · split at hy
      · have e1 := ((h.slotM l a hl (by omega) x).1 hx).2
        have e2 := ((h.slotM l b hl (by omega) x).1 hy).2
        rw [e1] at e2
        injection e2 with e3 e4
        omega
      · cases hy
    · cases hx
theorem metL_nodup (h : WhL now u c far S) (thn : Nat) : ∀ p, p ≤ 4 → (metL now thn u c p).Nodup
  | 0, _ => by simp [metL]
  | l + 1, hp => by
    rw [metL, List.nodup_append]
    refine ⟨metL_nodup h thn l (by omega), takeL_nodup h (by omega) (Nat.le_refl _) _, fun a ha b hb e => ?_⟩
    subst e
    have h1 := ((metL_mem h thn l (by omega) a).1 ha).2.1
    obtain ⟨s, hs, _, hx⟩ := (takeL_mem _ _ _ _).1 hb
    have h2 := ((h.slotM l s (by omega) hs a).1 hx).2
    rw [h2] at h1
    exact absurd h1 (by show ¬ l < l; omega)
/-- All that is met. -/
theorem met_all (h : WhL now u c far S) {thn k : Nat} (hk1 : ∀ x, x ∈ far.take k ↔ x ∈ far ∧ x.1.toNat ≤ thn ||| 16777215) : (metL now thn u c 4 ++ far.take k).Nodup ∧ ∀ x, x ∈ metL now thn u c 4 ++ far.take k ↔ S x ∧ taken now thn x := by
  refine ⟨?_, fun x => ?_⟩
  · rw [List.nodup_append]
    refine ⟨metL_nodup h thn 4 (Nat.le_refl _), List.Pairwise.sublist (List.take_sublist k far) h.farN, fun a ha b hb e => ?_⟩
    subst e
    have h1 := ((metL_mem h thn 4 (Nat.le_refl _) a).1 ha).2.1
    have h2 := ((h.farM a).1 ((hk1 a).1 hb).1).2
    omega
  · rw [List.mem_append, metL_mem h thn 4 (Nat.le_refl _) x, hk1, h.farM]
    unfold taken
    constructor
    · rintro (⟨h1, h2, h3⟩ | ⟨⟨h1, h2⟩, h3⟩)
      · exact ⟨h1, .inl ⟨h2, h3⟩⟩
      · exact ⟨h1, .inr ⟨h2, h3⟩⟩
    · rintro ⟨h1, ⟨h2, h3⟩ | ⟨h2, h3⟩⟩
      · exact .inl ⟨h1, h2, h3⟩
      · exact .inr ⟨⟨h1, h2⟩, h3⟩
/-- A list in order, cut where it goes past a tick. -/
theorem far_cut {d : List Ent} (hs : Srt d) (hr : ∀ x ∈ d, ∃ D : Nat, x.1 = (D : Int)) {E k : Nat} (hk : k ≤ d.length) (h1 : ∀ i (hi : i < d.length), i < k → d[i].1 ≤ (E : Int)) (h2 : ∀ h : k < d.length, (E : Int) < d[k].1) :
    (∀ x, x ∈ d.take k ↔ x ∈ d ∧ x.1.toNat ≤ E) ∧ ∀ x, x ∈ d.drop k ↔ x ∈ d ∧ E < x.1.toNat := by
  have a1 : ∀ x ∈ d.take k, x.1.toNat ≤ E := fun x hx => by
    obtain ⟨j, hj, rfl⟩ := List.getElem_of_mem hx
    rw [List.length_take] at hj
    rw [List.getElem_take]
    have := h1 j (by omega) (by omega)
    omega
  have a2 : ∀ x ∈ d.drop k, E < x.1.toNat := fun x hx => by
    obtain ⟨j, hj, rfl⟩ := List.getElem_of_mem hx
    rw [List.length_drop] at hj
    rw [List.getElem_drop]
    have h3 := h2 (by omega)
    have h4 := hs.le (show k ≤ k + j by omega) (by omega)
    rw [ltE_not] at h4
    omega
  have a3 : ∀ x, x ∈ d ↔ x ∈ d.take k ∨ x ∈ d.drop k := fun x => by
    conv => lhs; rw [← List.take_append_drop k d]
    rw [List.mem_append]
  refine ⟨fun x => ⟨fun hx => ⟨(a3 x).2 (.inl hx), a1 x hx⟩, fun ⟨hx, h⟩ => ?_⟩, fun x => ⟨fun hx => ⟨(a3 x).2 (.inr hx), a2 x hx⟩, fun ⟨hx, h⟩ => ?_⟩⟩
  · rcases (a3 x).1 hx with hx | hx
    · exact hx
    · have := a2 x hx; omega
  · rcases (a3 x).1 hx with hx | hx
    · have := a1 x hx; omega
    · exact hx
end Go.Proofs.YtbopobgnmkhabaaDoor

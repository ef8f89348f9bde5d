/- Who waits for whom, as lists and places: what joining and parting a pair does. Plain: nothing of the program but a pair's value. -/
import Derived.Test.YthpdnlokjhafeaaDgM
namespace Go.Proofs.Ythpdnlokjhafeaa
open Go.RowKit Go.Lib
set_option linter.unusedVariables false

def lset (l : Bool → Int → List Int) (s : Bool) (i : Int) (d : List Int) : Bool → Int → List Int := fun a b => if a = s ∧ b = i then d else l a b
theorem lset_same (l : Bool → Int → List Int) (s : Bool) (i : Int) (d : List Int) : lset l s i d s i = d := if_pos ⟨rfl, rfl⟩
theorem lset_ne (l : Bool → Int → List Int) {s a : Bool} {i b : Int} (d : List Int) (h : ¬ (a = s ∧ b = i)) : lset l s i d a b = l a b := if_neg h
theorem lset_tf (l : Bool → Int → List Int) {i b : Int} (d : List Int) : lset l true i d false b = l false b := lset_ne l d (fun h => by cases h.1)
theorem lset_ft (l : Bool → Int → List Int) {i b : Int} (d : List Int) : lset l false i d true b = l true b := lset_ne l d (fun h => by cases h.1)

/-- The last one. -/
def lastI (L : List Int) : Int := L.getD (L.length - 1) 0
/-- The last one comes into the place of one that leaves. -/
def rm (L : List Int) (a : Nat) : List Int := (L.set a (lastI L)).take (L.length - 1)
theorem lastI_at {L : List Int} (h : L ≠ []) : L[L.length - 1]? = some (lastI L) := by
  have : 0 < L.length := List.length_pos_iff.2 h
  unfold lastI
  rw [List.getD, List.getElem?_eq_getElem (by omega)]
  rfl
theorem nodup_at {L : List Int} (h : L.Nodup) {i j : Nat} {x : Int} (hi : L[i]? = some x) (hj : L[j]? = some x) : i = j := by
  obtain ⟨h1, e1⟩ := List.getElem?_eq_some_iff.1 hi
  obtain ⟨h2, e2⟩ := List.getElem?_eq_some_iff.1 hj
  have q := List.pairwise_iff_getElem.1 h
  rcases Nat.lt_trichotomy i j with c | c | c
  · exact absurd (e1.trans e2.symm) (q i j h1 h2 c)
  · exact c
  · exact absurd (e2.trans e1.symm) (q j i h2 h1 c)
theorem nodup_of {L : List Int} (h : ∀ (i j : Nat) (x : Int), L[i]? = some x → L[j]? = some x → i = j) : L.Nodup := by
  refine List.pairwise_iff_getElem.2 fun i j hi hj hij e => ?_
  have := h i j L[i] (List.getElem?_eq_getElem hi) (by rw [e]; exact List.getElem?_eq_getElem hj)
  omega
theorem nodup_le {α : Type} [DecidableEq α] : ∀ (ks ks' : List α), ks.Nodup → (∀ x ∈ ks, x ∈ ks') → ks.length ≤ ks'.length
  | [], _, _, _ => Nat.zero_le _
  | x :: r, ks', h, hs => by
    obtain ⟨h1, h2⟩ := List.nodup_cons.1 h
    have hx := hs x (by simp)
    have := nodup_le r (ks'.erase x) h2 (fun y hy => (List.mem_erase_of_ne (fun e => h1 (by rw [← e]; exact hy))).2 (hs y (by simp [hy])))
    rw [List.length_erase_of_mem hx] at this
    have : 0 < ks'.length := List.length_pos_of_mem hx
    simp
    omega
theorem rm_len (L : List Int) (a : Nat) : (rm L a).length = L.length - 1 := by simp [rm]
theorem rm_at {L : List Int} {a : Nat} (ha : a < L.length) (c : Nat) (y : Int) : (rm L a)[c]? = some y ↔ (c = a ∧ a ≠ L.length - 1 ∧ y = lastI L) ∨ (c ≠ a ∧ c ≠ L.length - 1 ∧ L[c]? = some y) := by
  unfold rm
  rw [List.getElem?_take, List.getElem?_set]
  by_cases h1 : c < L.length - 1
  · rw [if_pos h1]
    by_cases h2 : a = c
    · subst h2
      rw [if_pos rfl, if_pos ha]
      constructor
      · intro h; injection h with h; exact .inl ⟨rfl, by omega, h.symm⟩
      · rintro (⟨_, _, h⟩ | ⟨h, _⟩)
        · rw [h]
        · exact absurd rfl h
    · rw [if_neg h2]
      constructor
      · intro h; exact .inr ⟨fun e => h2 e.symm, by omega, h⟩
      · rintro (⟨h, _⟩ | ⟨_, _, h⟩)
        · exact absurd h.symm h2
        · exact h
  · rw [if_neg h1]
    constructor
    · intro h; cases h
    · rintro (⟨h, h', _⟩ | ⟨_, h', h⟩)
      · omega
      · have := (List.getElem?_eq_some_iff.1 h).1; omega
theorem rm_nodup {L : List Int} (h : L.Nodup) {a : Nat} (ha : a < L.length) : (rm L a).Nodup := by
  have hl := lastI_at (L := L) (fun e => by rw [e] at ha; simp at ha)
  refine nodup_of fun i j x hi hj => ?_
  rcases (rm_at ha i x).1 hi with ⟨e1, e2, e3⟩ | ⟨e1, e2, e3⟩ <;> rcases (rm_at ha j x).1 hj with ⟨f1, f2, f3⟩ | ⟨f1, f2, f3⟩
  · omega
  · rw [e3] at f3; exact absurd (nodup_at h f3 hl) f2
  · rw [f3] at e3; exact absurd (nodup_at h e3 hl) e2
  · exact nodup_at h e3 f3
theorem rm_mem {L : List Int} (h : L.Nodup) {a : Nat} {x : Int} (ha : L[a]? = some x) (y : Int) : y ∈ rm L a ↔ y ∈ L ∧ y ≠ x := by
  have hal := (List.getElem?_eq_some_iff.1 ha).1
  have hl := lastI_at (L := L) (fun e => by rw [e] at hal; simp at hal)
  rw [List.mem_iff_getElem?, List.mem_iff_getElem?]
  constructor
  · rintro ⟨c, hc⟩
    rcases (rm_at hal c y).1 hc with ⟨e1, e2, e3⟩ | ⟨e1, e2, e3⟩
    · rw [e3]
      exact ⟨⟨_, hl⟩, fun e => e2 (nodup_at h ha (by rw [← e]; exact hl))⟩
    · exact ⟨⟨c, e3⟩, fun e => e1 (nodup_at h e3 (by rw [e]; exact ha))⟩
  · rintro ⟨⟨c, hc⟩, hne⟩
    have hca : c ≠ a := fun e => hne (by rw [e, ha] at hc; injection hc with hc; exact hc.symm)
    by_cases c1 : c = L.length - 1
    · refine ⟨a, (rm_at hal a y).2 (.inl ⟨rfl, by omega, ?_⟩)⟩
      rw [c1, hl] at hc
      injection hc with hc
      exact hc.symm
    · exact ⟨c, (rm_at hal c y).2 (.inr ⟨hca, c1, hc⟩)⟩

/-- The lists and places of who waits for whom. -/
structure Inv (E : Int → Int → Prop) (fp : Int × Int → Option Value) (l : Bool → Int → List Int) : Prop where
  eb : ∀ p i, i ∈ l true p ↔ E p i
  ew : ∀ p i, p ∈ l false i ↔ E p i
  nd : ∀ s i, (l s i).Nodup
  fp : ∀ p i, E p i → ∃ a b : Nat, fp (p, i) = some (prV (a, b)) ∧ (l true p)[a]? = some i ∧ (l false i)[b]? = some p
  ord : ∀ p i, E p i → 1 ≤ p ∧ p < i ∧ i ≤ 9223372036854775807
/-- A pair more, a pair less. -/
def Ejoin (E : Int → Int → Prop) (p i : Int) : Int → Int → Prop := fun q j => E q j ∨ (q = p ∧ j = i)
def Epart (E : Int → Int → Prop) (p i : Int) : Int → Int → Prop := fun q j => E q j ∧ ¬ (q = p ∧ j = i)

variable {E : Int → Int → Prop} {fp : Int × Int → Option Value} {l : Bool → Int → List Int} {p i : Int}
theorem Inv.none : Inv (fun _ _ => False) (fun _ => none) (fun _ _ => []) := ⟨fun _ _ => by simp, fun _ _ => by simp, fun _ _ => List.nodup_nil, fun _ _ h => h.elim, fun _ _ h => h.elim⟩
theorem Inv.wf (h : Inv E fp l) (he : E p i) : wfI p ∧ wfI i := by
  obtain ⟨h1, h2, h3⟩ := h.ord p i he
  exact ⟨wfI_of (by omega) (by omega), wfI_of (by omega) (by omega)⟩
theorem at_append {L : List Int} {c : Nat} {x y : Int} (h : L[c]? = some y) : (L ++ [x])[c]? = some y := by
  rw [List.getElem?_append_left (List.getElem?_eq_some_iff.1 h).1]; exact h
theorem Inv.join (h : Inv E fp l) (hn : ¬ E p i) (h1 : 1 ≤ p) (h2 : p < i) (h3 : i ≤ 9223372036854775807) :
    Inv (Ejoin E p i) (fput fp (p, i) (prV ((l true p).length, (l false i).length))) (lset (lset l true p (l true p ++ [i])) false i (l false i ++ [p])) := by
  have tr : ∀ q, lset (lset l true p (l true p ++ [i])) false i (l false i ++ [p]) true q = if q = p then l true p ++ [i] else l true q := fun q => by
    rw [lset_ft]
    unfold lset
    simp
  have fl : ∀ j, lset (lset l true p (l true p ++ [i])) false i (l false i ++ [p]) false j = if j = i then l false i ++ [p] else l false j := fun j => by
    unfold lset
    simp
  refine ⟨fun q j => ?_, fun q j => ?_, fun s j => ?_, fun q j hq => ?_, fun q j hq => ?_⟩
  · rw [tr]
    unfold Ejoin
    by_cases c : q = p
    · subst c
      rw [if_pos rfl, List.mem_append, h.eb]
      simp
    · rw [if_neg c, h.eb]
      simp [c]
  · rw [fl]
    unfold Ejoin
    by_cases c : j = i
    · subst c
      rw [if_pos rfl, List.mem_append, h.ew]
      simp
    · rw [if_neg c, h.ew]
      simp [c]
  · cases s with
    | true =>
      rw [tr]
      split
      · refine List.nodup_append.2 ⟨h.nd _ _, by simp, fun a ha b hb e => ?_⟩
        simp at hb
        subst e hb
        exact hn ((h.eb _ _).1 ha)
      · exact h.nd _ _
    | false =>
      rw [fl]
      split
      · refine List.nodup_append.2 ⟨h.nd _ _, by simp, fun a ha b hb e => ?_⟩
        simp at hb
        subst e hb
        exact hn ((h.ew _ _).1 ha)
      · exact h.nd _ _
  · rw [tr, fl]
    unfold fput
    by_cases c : (q, j) = (p, i)
    · injection c with c1 c2
      subst c1 c2
      refine ⟨_, _, if_pos rfl, ?_, ?_⟩ <;> simp
    · rw [if_neg c]
      rcases hq with hq | ⟨rfl, rfl⟩
      · obtain ⟨a, b, g1, g2, g3⟩ := h.fp q j hq
        refine ⟨a, b, g1, ?_, ?_⟩
        · split
          · rename_i e; subst e; exact at_append g2
          · exact g2
        · split
          · rename_i e; subst e; exact at_append g3
          · exact g3
      · exact absurd rfl c
  · rcases hq with hq | ⟨rfl, rfl⟩
    · exact h.ord q j hq
    · exact ⟨h1, h2, h3⟩
/-- What parting a pair does: the places of those that moved. -/
theorem Inv.moved (h : Inv E fp l) {a b : Nat} (he : E p i) (ha : (l true p)[a]? = some i) (hb : (l false i)[b]? = some p) :
    (a ≠ (l true p).length - 1 → ∃ b1 : Nat, lastI (l true p) ≠ i ∧ E p (lastI (l true p)) ∧ fp (p, lastI (l true p)) = some (prV (((l true p).length - 1 : Nat), b1)) ∧ (l false (lastI (l true p)))[b1]? = some p) ∧
    (b ≠ (l false i).length - 1 → ∃ a2 : Nat, lastI (l false i) ≠ p ∧ E (lastI (l false i)) i ∧ fp (lastI (l false i), i) = some (prV (a2, ((l false i).length - 1 : Nat))) ∧ (l true (lastI (l false i)))[a2]? = some i) := by
  have na : l true p ≠ [] := fun e => by rw [e] at ha; simp at ha
  have nb : l false i ≠ [] := fun e => by rw [e] at hb; simp at hb
  have la := lastI_at na
  have lb := lastI_at nb
  refine ⟨fun hne => ?_, fun hne => ?_⟩
  · have e1 : E p (lastI (l true p)) := (h.eb _ _).1 (List.mem_of_getElem? la)
    obtain ⟨x, b1, g1, g2, g3⟩ := h.fp _ _ e1
    have := nodup_at (h.nd _ _) g2 la
    subst this
    exact ⟨b1, fun e => hne (nodup_at (h.nd _ _) ha (by rw [← e]; exact la)), e1, g1, g3⟩
  · have e1 : E (lastI (l false i)) i := (h.ew _ _).1 (List.mem_of_getElem? lb)
    obtain ⟨a2, x, g1, g2, g3⟩ := h.fp _ _ e1
    have := nodup_at (h.nd _ _) g3 lb
    subst this
    exact ⟨a2, fun e => hne (nodup_at (h.nd _ _) hb (by rw [← e]; exact lb)), e1, g1, g2⟩
theorem Inv.part (h : Inv E fp l) {a b : Nat} (he : E p i) (ha : (l true p)[a]? = some i) (hb : (l false i)[b]? = some p) {f1 f2 : Int × Int → Option Value}
    (h1 : (a = (l true p).length - 1 ∧ f1 = fdel fp (p, i)) ∨ (a ≠ (l true p).length - 1 ∧ ∃ b1 : Nat, (l false (lastI (l true p)))[b1]? = some p ∧ f1 = fput (fdel fp (p, i)) (p, lastI (l true p)) (prV (a, b1))))
    (h2 : (b = (l false i).length - 1 ∧ f2 = f1) ∨ (b ≠ (l false i).length - 1 ∧ ∃ a2 : Nat, (l true (lastI (l false i)))[a2]? = some i ∧ f2 = fput f1 (lastI (l false i), i) (prV (a2, b)))) :
    Inv (Epart E p i) f2 (lset (lset l true p (rm (l true p) a)) false i (rm (l false i) b)) := by
  have al := (List.getElem?_eq_some_iff.1 ha).1
  have bl := (List.getElem?_eq_some_iff.1 hb).1
  have na : l true p ≠ [] := fun e => by rw [e] at ha; simp at ha
  have nb : l false i ≠ [] := fun e => by rw [e] at hb; simp at hb
  have la := lastI_at na
  have lb := lastI_at nb
  have tr : ∀ q, lset (lset l true p (rm (l true p) a)) false i (rm (l false i) b) true q = if q = p then rm (l true p) a else l true q := fun q => by
    rw [lset_ft]
    unfold lset
    simp
  have fl : ∀ j, lset (lset l true p (rm (l true p) a)) false i (rm (l false i) b) false j = if j = i then rm (l false i) b else l false j := fun j => by
    unfold lset
    simp
  refine ⟨fun q j => ?_, fun q j => ?_, fun s j => ?_, fun q j hq => ?_, fun q j hq => h.ord q j hq.1⟩
  · rw [tr]
    unfold Epart
    by_cases c : q = p
    · subst c
      rw [if_pos rfl, rm_mem (h.nd _ _) ha, h.eb]
      simp
    · rw [if_neg c, h.eb]
      simp [c]
  · rw [fl]
    unfold Epart
    by_cases c : j = i
    · subst c
      rw [if_pos rfl, rm_mem (h.nd _ _) hb, h.ew]
      simp
    · rw [if_neg c, h.ew]
      simp [c]
  · cases s with
    | true => rw [tr]; split; exact rm_nodup (h.nd _ _) al; exact h.nd _ _
    | false => rw [fl]; split; exact rm_nodup (h.nd _ _) bl; exact h.nd _ _
  · obtain ⟨hE, hne⟩ := hq
    obtain ⟨a', b', g1, g2, g3⟩ := h.fp q j hE
    -- where q's list has j now
    have pa : (if q = p then rm (l true p) a else l true q)[if q = p ∧ j = lastI (l true p) ∧ a ≠ (l true p).length - 1 then a else a']? = some j := by
      by_cases c : q = p
      · subst c
        have hji : j ≠ i := fun e => hne ⟨rfl, e⟩
        have aa : a' ≠ a := fun e => hji (by rw [e, ha] at g2; injection g2 with g2; exact g2.symm)
        rw [if_pos rfl, rm_at al]
        by_cases c2 : j = lastI (l true q) ∧ a ≠ (l true q).length - 1
        · rw [if_pos ⟨rfl, c2⟩]; exact .inl ⟨rfl, c2.2, c2.1⟩
        · rw [if_neg (fun x => c2 x.2)]
          refine .inr ⟨aa, fun e => ?_, g2⟩
          rw [e, la] at g2
          injection g2 with g2
          exact c2 ⟨g2.symm, fun e2 => aa (by omega)⟩
      · rw [if_neg c, if_neg (fun x => c x.1)]; exact g2
    have pb : (if j = i then rm (l false i) b else l false j)[if j = i ∧ q = lastI (l false i) ∧ b ≠ (l false i).length - 1 then b else b']? = some q := by
      by_cases c : j = i
      · subst c
        have hqp : q ≠ p := fun e => hne ⟨e, rfl⟩
        have bb : b' ≠ b := fun e => hqp (by rw [e, hb] at g3; injection g3 with g3; exact g3.symm)
        rw [if_pos rfl, rm_at bl]
        by_cases c2 : q = lastI (l false j) ∧ b ≠ (l false j).length - 1
        · rw [if_pos ⟨rfl, c2⟩]; exact .inl ⟨rfl, c2.2, c2.1⟩
        · rw [if_neg (fun x => c2 x.2)]
          refine .inr ⟨bb, fun e => ?_, g3⟩
          rw [e, lb] at g3
          injection g3 with g3
          exact c2 ⟨g3.symm, fun e2 => bb (by omega)⟩
      · rw [if_neg c, if_neg (fun x => c x.1)]; exact g3
    rw [tr, fl]
    have hd : fdel fp (p, i) (q, j) = some (prV (a', b')) := by
      unfold fdel
      rw [if_neg (fun e => by injection e with e1 e2; exact hne ⟨e1, e2⟩)]
      exact g1
    have hf1 : f1 (q, j) = some (prV ((if q = p ∧ j = lastI (l true p) ∧ a ≠ (l true p).length - 1 then a else a' : Nat), b')) := by
      rcases h1 with ⟨e1, rfl⟩ | ⟨e1, b1, e2, rfl⟩
      · rw [if_neg (fun x => x.2.2 e1)]; exact hd
      · unfold fput
        by_cases c : (q, j) = (p, lastI (l true p))
        · rw [if_pos c]
          injection c with c1 c2
          subst c1
          rw [if_pos ⟨rfl, c2, e1⟩]
          have : b1 = b' := nodup_at (h.nd _ _) e2 (by rw [← c2]; exact g3)
          rw [this]
        · rw [if_neg c, if_neg (fun x => c (by rw [x.1, ← x.2.1]))]; exact hd
    obtain ⟨A, hA⟩ : ∃ A : Nat, (if q = p ∧ j = lastI (l true p) ∧ a ≠ (l true p).length - 1 then a else a') = A := ⟨_, rfl⟩
    rw [hA] at pa hf1
    refine ⟨A, _, ?_, pa, pb⟩
    rcases h2 with ⟨e1, rfl⟩ | ⟨e1, a2, e2, rfl⟩
    · rw [if_neg (fun x => x.2.2 e1)]; exact hf1
    · unfold fput
      by_cases c : (q, j) = (lastI (l false i), i)
      · rw [if_pos c]
        injection c with c1 c2
        subst c2
        rw [if_pos ⟨rfl, c1, e1⟩]
        have : a2 = a' := nodup_at (h.nd _ _) e2 (by rw [← c1]; exact g2)
        subst this
        have hqp : q ≠ p := fun e => hne ⟨e, rfl⟩
        rw [if_neg (fun x => hqp x.1)] at hA
        rw [hA]
      · rw [if_neg c, if_neg (fun x => c (by rw [x.1, ← x.2.1]))]; exact hf1
end Go.Proofs.Ythpdnlokjhafeaa

/- Lists of entries: sorting, merging, putting in, counting, dropping. Plain: nothing of the program. -/
import Derived.Test.YtbopobgnmkhabaaDoorEntM
namespace Go.Proofs.YtbopobgnmkhabaaDoor
open Go.Sort
set_option linter.unusedVariables false

/-- In order. -/
def Srt (d : List Ent) : Prop := d.Pairwise (fun x y => ltE y x = false)
theorem Srt.uniq {c d : List Ent} (hc : Srt c) (hd : Srt d) (hp : c.Perm d) : c = d :=
  List.Perm.eq_of_pairwise (le := fun x y => ltE y x = false) (fun a b _ _ h1 h2 => totE a b h2 h1) hc hd hp
theorem Srt.nil : Srt [] := List.Pairwise.nil
theorem Srt.take {d : List Ent} (h : Srt d) (k : Nat) : Srt (d.take k) := List.Pairwise.sublist (List.take_sublist k d) h
theorem Srt.drop {d : List Ent} (h : Srt d) (k : Nat) : Srt (d.drop k) := List.Pairwise.sublist (List.drop_sublist k d) h
theorem Srt.get {d : List Ent} (h : Srt d) {i j : Nat} (hij : i < j) (hj : j < d.length) : ltE d[j] d[i] = false := List.pairwise_iff_getElem.1 h i j (by omega) hj hij
theorem Srt.le {d : List Ent} (h : Srt d) {i j : Nat} (hij : i ≤ j) (hj : j < d.length) : ltE d[j] d[i] = false := by
  by_cases e : i = j
  · subst e; exact swoE.irrefl _
  · exact h.get (by omega) hj
/-- The list in order. -/
def sortE (d : List Ent) : List Ent := d.mergeSort (fun x y => !ltE y x)
theorem sortE_perm (d : List Ent) : (sortE d).Perm d := List.mergeSort_perm _ _
theorem sortE_len (d : List Ent) : (sortE d).length = d.length := (sortE_perm d).length_eq
theorem sortE_srt (d : List Ent) : Srt (sortE d) := by
  have h := List.pairwise_mergeSort (le := fun x y => !ltE y x) (fun a b c h1 h2 => by
      simp only [Bool.not_eq_true'] at h1 h2 ⊢
      exact swoE.ntrans c b a h2 h1) (fun a b => by
      cases h : ltE b a with
      | false => simp
      | true => simp [swoE.asymmA h]) d
  exact h.imp (fun h => by simpa using h)
theorem sortE_of {c d : List Ent} (h : Srt c) (p : c.Perm d) : c = sortE d := h.uniq (sortE_srt d) (p.trans (sortE_perm d).symm)
theorem sortE_id {d : List Ent} (h : Srt d) : sortE d = d := (sortE_of h (List.Perm.refl _)).symm

/-- None is less than the one ahead of it. -/
def srtB : List Ent → Bool
  | x :: y :: r => !ltE y x && srtB (y :: r)
  | _ => true
theorem srtB_iff : ∀ d, srtB d = true ↔ Srt d
  | [] => by simp [srtB, Srt]
  | [x] => by simp [srtB, Srt]
  | x :: y :: r => by
    have ih := srtB_iff (y :: r)
    simp only [srtB, Bool.and_eq_true, Bool.not_eq_true', ih]
    unfold Srt
    rw [List.pairwise_cons (a := x)]
    constructor
    · rintro ⟨h1, h2⟩
      refine ⟨fun z hz => ?_, h2⟩
      rcases List.mem_cons.1 hz with rfl | hz
      · exact h1
      · exact swoE.ntrans _ _ _ ((List.pairwise_cons.1 h2).1 z hz) h1
    · rintro ⟨h1, h2⟩
      exact ⟨h1 y (by simp), h2⟩
theorem srtB_true {d : List Ent} (h : ∀ i (hi : i + 1 < d.length), ltE d[i + 1] (d[i]'(by omega)) = false) : srtB d = true := by
  induction d with
  | nil => rfl
  | cons x d ih =>
    cases d with
    | nil => rfl
    | cons y r =>
      simp only [srtB, Bool.and_eq_true, Bool.not_eq_true']
      exact ⟨h 0 (by simp), ih fun i hi => h (i + 1) (by simpa using hi)⟩
theorem srtB_false {d : List Ent} (i : Nat) (hi : i + 1 < d.length) (h : ltE d[i + 1] (d[i]'(by omega)) = true) : srtB d = false := by
  cases e : srtB d with
  | false => rfl
  | true => rw [((srtB_iff d).1 e).get (Nat.lt_succ_self i) hi] at h; cases h

/-- With e behind all that are not greater. -/
def insL : List Ent → Ent → List Ent
  | [], e => [e]
  | x :: r, e => if ltE e x then e :: x :: r else x :: insL r e
theorem insL_perm : ∀ (d : List Ent) (e : Ent), (insL d e).Perm (e :: d)
  | [], e => List.Perm.refl _
  | x :: r, e => by
    unfold insL
    split
    · exact List.Perm.refl _
    · exact ((insL_perm r e).cons x).trans (List.Perm.swap e x r)
theorem insL_len (d : List Ent) (e : Ent) : (insL d e).length = d.length + 1 := (insL_perm d e).length_eq
theorem insL_srt : ∀ (d : List Ent) (e : Ent), Srt d → Srt (insL d e)
  | [], e, _ => by simp [insL, Srt]
  | x :: r, e, h => by
    obtain ⟨h1, h2⟩ := List.pairwise_cons.1 h
    unfold insL
    split
    · next c =>
      refine List.pairwise_cons.2 ⟨fun z hz => ?_, h⟩
      rcases List.mem_cons.1 hz with rfl | hz
      · exact swoE.asymmA c
      · exact swoE.ntrans _ _ _ (h1 z hz) (swoE.asymmA c)
    · next c =>
      refine List.pairwise_cons.2 ⟨fun z hz => ?_, insL_srt r e h2⟩
      rcases List.mem_cons.1 ((insL_perm r e).mem_iff.1 hz) with rfl | hz
      · simpa using c
      · exact h1 z hz
theorem insL_eq : ∀ (d : List Ent) (e : Ent) (k : Nat), k ≤ d.length → (∀ i (hi : i < k) (h : i < d.length), ltE e d[i] = false) → (∀ h : k < d.length, ltE e d[k] = true) → d.take k ++ e :: d.drop k = insL d e
  | [], e, k, hk, _, _ => by simp [insL]
  | x :: r, e, 0, hk, h1, h2 => by
    have := h2 (by simp)
    simp at this
    simp [insL, this]
  | x :: r, e, k + 1, hk, h1, h2 => by
    have h0 := h1 0 (by omega) (by simp)
    simp at h0
    have ih := insL_eq r e k (by simpa using hk) (fun i hi h => h1 (i + 1) (by omega) (by simpa using h)) (fun h => h2 (by simpa using h))
    simp [insL, h0, ih]
/-- The place from the end on, in a list that is in order. -/
theorem insL_end {d : List Ent} (hs : Srt d) (e : Ent) (k : Nat) (hk : k ≤ d.length) (h1 : k = 0 ∨ ∃ h : k - 1 < d.length, ltE e d[k - 1] = false) (h2 : ∀ i (h : i < d.length), k ≤ i → ltE e d[i] = true) : d.take k ++ e :: d.drop k = insL d e := by
  refine insL_eq d e k hk (fun i hi h => ?_) (fun h => h2 k h (Nat.le_refl _))
  rcases h1 with rfl | ⟨h', h1⟩
  · omega
  · exact swoE.ntrans _ _ _ h1 (hs.le (show i ≤ k - 1 by omega) h')
/-- One behind the other put into what is there. -/
theorem ins_fold (d acc : List Ent) (h : Srt acc) : d.foldl insL acc = sortE (acc ++ d) := by
  induction d generalizing acc with
  | nil => rw [List.foldl_nil, List.append_nil]; exact sortE_of h (List.Perm.refl _)
  | cons x d ih =>
    rw [List.foldl_cons, ih _ (insL_srt acc x h)]
    exact sortE_of (sortE_srt _) ((sortE_perm _).trans (((insL_perm acc x).append_right d).trans (List.perm_middle.symm)))

/-- Two lists merged, the first one's ahead where they are the same. -/
def mergeL : List Ent → List Ent → List Ent
  | [], b => b
  | x :: a, [] => x :: a
  | x :: a, y :: b => if ltE y x then y :: mergeL (x :: a) b else x :: mergeL a (y :: b)
theorem mergeL_nil (a : List Ent) : mergeL a [] = a := by cases a <;> simp [mergeL]
theorem mergeL_perm : ∀ (a b : List Ent), (mergeL a b).Perm (a ++ b)
  | [], b => by simp [mergeL]
  | x :: a, [] => by simp [mergeL]
  | x :: a, y :: b => by
    unfold mergeL
    split
    · exact ((mergeL_perm (x :: a) b).cons y).trans (List.perm_middle.symm)
    · exact (mergeL_perm a (y :: b)).cons x
theorem mergeL_len (a b : List Ent) : (mergeL a b).length = a.length + b.length := by rw [(mergeL_perm a b).length_eq, List.length_append]
theorem mergeL_srt : ∀ (a b : List Ent), Srt a → Srt b → Srt (mergeL a b)
  | [], b, _, hb => by simpa [mergeL] using hb
  | x :: a, [], ha, _ => by simpa [mergeL] using ha
  | x :: a, y :: b, ha, hb => by
    obtain ⟨a1, a2⟩ := List.pairwise_cons.1 ha
    obtain ⟨b1, b2⟩ := List.pairwise_cons.1 hb
    unfold mergeL
    split
    · next c =>
      refine List.pairwise_cons.2 ⟨fun z hz => ?_, mergeL_srt (x :: a) b ha b2⟩
      rcases List.mem_append.1 ((mergeL_perm _ _).mem_iff.1 hz) with hz | hz
      · rcases List.mem_cons.1 hz with rfl | hz
        · exact swoE.asymmA c
        · exact swoE.ntrans _ _ _ (a1 z hz) (swoE.asymmA c)
      · exact b1 z hz
    · next c =>
      have c' : ltE y x = false := by simpa using c
      refine List.pairwise_cons.2 ⟨fun z hz => ?_, mergeL_srt a (y :: b) a2 hb⟩
      rcases List.mem_append.1 ((mergeL_perm _ _).mem_iff.1 hz) with hz | hz
      · exact a1 z hz
      · rcases List.mem_cons.1 hz with rfl | hz
        · exact c'
        · exact swoE.ntrans _ _ _ (b1 z hz) c'
theorem mergeL_sort {a b : List Ent} (ha : Srt a) (hb : Srt b) : mergeL a b = sortE (a ++ b) := sortE_of (mergeL_srt a b ha hb) (mergeL_perm a b)

/-- How many are less. -/
def smal (d : List Ent) (e : Ent) : Nat := d.countP (fun x => ltE x e)
theorem smal_nil (e : Ent) : smal [] e = 0 := rfl
theorem smal_le (d : List Ent) (e : Ent) : smal d e ≤ d.length := List.countP_le_length
theorem smal_perm {c d : List Ent} (h : c.Perm d) (e : Ent) : smal c e = smal d e := h.countP_eq _
theorem smal_snoc (d : List Ent) (x e : Ent) : smal (d ++ [x]) e = smal d e + if ltE x e then 1 else 0 := by
  unfold smal
  rw [List.countP_append]
  simp [List.countP_cons]
theorem smal_take (d : List Ent) (e : Ent) (k : Nat) (h : k < d.length) : smal (d.take (k + 1)) e = smal (d.take k) e + if ltE d[k] e then 1 else 0 := by
  rw [List.take_succ_eq_append_getElem h, smal_snoc]
theorem smal_all {d : List Ent} {e : Ent} (h : ∀ x ∈ d, ltE x e = true) : smal d e = d.length := by
  unfold smal
  rw [List.countP_eq_length]
  exact h
theorem smal_none {d : List Ent} {e : Ent} (h : ∀ x ∈ d, ltE x e = false) : smal d e = 0 := by
  unfold smal
  rw [List.countP_eq_zero]
  intro x hx
  rw [h x hx]
  simp
theorem smal_split (d : List Ent) (e : Ent) (k : Nat) : smal d e = smal (d.take k) e + smal (d.drop k) e := by
  conv => lhs; rw [← List.take_append_drop k d]
  unfold smal
  exact List.countP_append
/-- In a list in order those are its first ones. -/
theorem smal_place {d : List Ent} (hs : Srt d) (e : Ent) (i : Nat) (hi : i ≤ d.length) (h1 : i = 0 ∨ ∃ h : i - 1 < d.length, ltE d[i - 1] e = true) (h2 : i = d.length ∨ ∃ h : i < d.length, ltE d[i] e = false) : smal d e = i := by
  rw [smal_split d e i, smal_all (d := d.take i), smal_none (d := d.drop i)]
  · simp; omega
  · intro x hx
    obtain ⟨j, hj, rfl⟩ := List.getElem_of_mem hx
    rw [List.length_drop] at hj
    rw [List.getElem_drop]
    rcases h2 with h2 | ⟨h, h2⟩
    · omega
    · exact swoE.ntrans _ _ _ (hs.le (show i ≤ i + j by omega) (by omega)) h2
  · intro x hx
    obtain ⟨j, hj, rfl⟩ := List.getElem_of_mem hx
    rw [List.length_take] at hj
    rw [List.getElem_take]
    rcases h1 with h1 | ⟨h, h1⟩
    · omega
    · cases c : ltE d[j] e with
      | true => rfl
      | false =>
        have := swoE.ntrans _ _ _ (hs.le (show j ≤ i - 1 by omega) h) c
        rw [this] at h1; cases h1
/-- Each stands where as many are less as stand ahead of it, or the same. -/
theorem smal_rank {s : List Ent} (hs : Srt s) (i : Nat) (hi : i < s.length) : smal s s[i] ≤ i ∧ (∀ h : smal s s[i] < i, s[smal s s[i]]'(by omega) = s[i] ∧ s[i - 1]'(by omega) = s[i]) := by
  have up : smal (s.drop i) s[i] = 0 := smal_none fun x hx => by
    obtain ⟨j, hj, rfl⟩ := List.getElem_of_mem hx
    rw [List.length_drop] at hj
    rw [List.getElem_drop]
    exact hs.le (by omega) (by omega)
  have le : smal s s[i] ≤ i := by
    rw [smal_split s s[i] i, up]
    have := smal_le (s.take i) s[i]
    simp at this ⊢
    omega
  refine ⟨le, fun h => ?_⟩
  obtain ⟨n, hn⟩ : ∃ n, smal s s[i] = n := ⟨_, rfl⟩
  have hn' : n < i := by omega
  have key : ltE (s[n]'(by omega)) s[i] = false := by
    cases c : ltE (s[n]'(by omega)) s[i] with
    | false => rfl
    | true =>
      have : smal (s.take (n + 1)) s[i] = n + 1 := by
        rw [smal_all]
        · simp; omega
        · intro x hx
          obtain ⟨j, hj, rfl⟩ := List.getElem_of_mem hx
          rw [List.length_take] at hj
          rw [List.getElem_take]
          cases c2 : ltE s[j] s[i] with
          | true => rfl
          | false =>
            have := swoE.ntrans _ _ _ (hs.le (show j ≤ n by omega) (by omega)) c2
            rw [this] at c; cases c
      have := smal_split s s[i] (n + 1)
      omega
  have e1 : s[n]'(by omega) = s[i] := totE _ _ key (hs.get hn' hi)
  refine ⟨?_, ?_⟩
  · simp only [hn]; exact e1
  · refine totE _ _ ?_ (hs.get (by omega) hi)
    have := hs.le (show n ≤ i - 1 by omega) (by omega)
    rw [e1] at this
    exact this

/-- Without the first of that ID. -/
def dropL : List Ent → Int → List Ent
  | [], _ => []
  | x :: r, id => if x.2 = id then r else x :: dropL r id
/-- Has it one of that ID? -/
def hasL : List Ent → Int → Bool
  | [], _ => false
  | x :: r, id => decide (x.2 = id) || hasL r id
theorem hasL_false {d : List Ent} {id : Int} : hasL d id = false ↔ ∀ x ∈ d, x.2 ≠ id := by
  induction d with
  | nil => simp [hasL]
  | cons x r ih => simp [hasL, ih]
theorem hasL_none {d : List Ent} {id : Int} (h : ∀ i (hi : i < d.length), d[i].2 ≠ id) : hasL d id = false :=
  hasL_false.2 fun x hx => by obtain ⟨j, hj, rfl⟩ := List.getElem_of_mem hx; exact h j hj
theorem hasL_at {d : List Ent} {id : Int} (i : Nat) (hi : i < d.length) (h : d[i].2 = id) : hasL d id = true := by
  cases c : hasL d id with
  | true => rfl
  | false => exact absurd h (hasL_false.1 c _ (List.getElem_mem hi))
theorem dropL_none {d : List Ent} {id : Int} (h : hasL d id = false) : dropL d id = d := by
  induction d with
  | nil => rfl
  | cons x r ih =>
    simp [hasL] at h
    simp [dropL, h.1, ih h.2]
theorem dropL_at : ∀ (d : List Ent) (id : Int) (k : Nat) (hk : k < d.length), d[k].2 = id → (∀ i (hi : i < k), (d[i]'(by omega)).2 ≠ id) → d.take k ++ d.drop (k + 1) = dropL d id
  | [], id, k, hk, _, _ => by simp at hk
  | x :: r, id, 0, hk, h1, _ => by simp at h1; simp [dropL, h1]
  | x :: r, id, k + 1, hk, h1, h2 => by
    have h0 := h2 0 (by omega)
    simp at h0
    have ih := dropL_at r id k (by simpa using hk) (by simpa using h1) (fun i hi => by simpa using h2 (i + 1) (by omega))
    simp [dropL, h0, ih]
/-- What was put in is dropped again. -/
theorem drop_ins {d : List Ent} {e : Ent} (h : hasL d e.2 = false) : dropL (insL d e) e.2 = d ∧ hasL (insL d e) e.2 = true := by
  induction d with
  | nil => simp [insL, dropL, hasL]
  | cons x r ih =>
    simp [hasL] at h
    obtain ⟨i1, i2⟩ := ih h.2
    unfold insL
    split
    · simp [dropL, hasL]
    · simp [dropL, hasL, h.1, i1, i2]
theorem hasL_perm {c d : List Ent} (h : c.Perm d) (id : Int) : hasL c id = hasL d id := by
  cases e : hasL d id with
  | false => exact hasL_false.2 fun x hx => hasL_false.1 e x (h.mem_iff.1 hx)
  | true =>
    cases e2 : hasL c id with
    | true => rfl
    | false =>
      have : hasL d id = false := hasL_false.2 fun x hx => hasL_false.1 e2 x (h.mem_iff.2 hx)
      rw [e] at this; cases this
/-- Where no other has its ID, it stands behind those that are less. -/
theorem ins_at {d : List Ent} (hs : Srt d) {e : Ent} (h : hasL d e.2 = false) : ∃ hk : smal d e < (insL d e).length, (insL d e)[smal d e] = e := by
  have : (insL d e)[smal d e]? = some e := by
    induction d with
    | nil => rfl
    | cons x r ih =>
      obtain ⟨s1, s2⟩ := List.pairwise_cons.1 hs
      simp [hasL] at h
      unfold insL
      cases c : ltE e x with
      | true =>
        have : smal (x :: r) e = 0 := smal_none fun z hz => by
          rcases List.mem_cons.1 hz with rfl | hz
          · exact swoE.asymmA c
          · exact swoE.ntrans _ _ _ (s1 z hz) (swoE.asymmA c)
        rw [this]; rfl
      | false =>
        have lt : ltE x e = true := by
          cases c2 : ltE x e with
          | true => rfl
          | false => exact absurd (congrArg Prod.snd (totE _ _ c2 c)) h.1
        have : smal (x :: r) e = smal r e + 1 := by unfold smal; rw [List.countP_cons]; simp [lt]
        rw [this]
        simpa using ih s2 h.2
  obtain ⟨h1, h2⟩ := List.getElem?_eq_some_iff.1 this
  exact ⟨h1, h2⟩

/-- The least first one of lists, and where: the first of those. -/
def least1 (st : Option (Nat × Ent)) (k : Nat) (d : List Ent) : Option (Nat × Ent) :=
  match st, d with
  | none, x :: _ => some (k, x)
  | some (j, y), x :: _ => if ltE x y then some (k, x) else some (j, y)
  | st, [] => st
def leastL (ls : List (List Ent)) : Nat → Option (Nat × Ent)
  | 0 => none
  | k + 1 => least1 (leastL ls k) k (ls.getD k [])
end Go.Proofs.YtbopobgnmkhabaaDoor

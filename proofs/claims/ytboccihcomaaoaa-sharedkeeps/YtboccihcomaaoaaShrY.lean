/- An array of bools in the heap; what is put and not taken; what was seen. -/
import Derived.Test.YtboccihcomaaoaaShrK
namespace Go.Proofs.Ytboccihcomaaoaa
open Go.RowKit Go.Lib Go.Sort
set_option linter.unusedVariables false

def setG {α : Type} (f : Nat → α) (t : Nat) (x : α) : Nat → α := fun i => if i = t then x else f i
theorem setG_same {α : Type} (f : Nat → α) (t : Nat) (x : α) : setG f t x t = x := by unfold setG; rw [if_pos rfl]
theorem setG_ne {α : Type} (f : Nat → α) {t i : Nat} (x : α) (h : i ≠ t) : setG f t x i = f i := by unfold setG; rw [if_neg h]
/-- An array of n bools. -/
def ArrB (T : TypeId) (w : World) (G n : Nat) (g : Nat → Bool) : Prop := ∃ cs : Array Value, w.heap[G]? = some (.cells cs T (0, 0)) ∧ cs.size = n ∧ ∀ t, t < n → cs[t]? = some (.bool (g t))
theorem ArrB.kept {T : TypeId} {w w' : World} {G n : Nat} {g : Nat → Bool} (h : ArrB T w G n g) (hw : w'.heap[G]? = w.heap[G]?) : ArrB T w' G n g := by
  obtain ⟨cs, h1, h2⟩ := h
  exact ⟨cs, hw.trans h1, h2⟩
theorem ArrB.lt {T : TypeId} {w : World} {G n : Nat} {g : Nat → Bool} (h : ArrB T w G n g) : G < w.heap.size := by
  obtain ⟨cs, h1, h2⟩ := h
  exact lt_of_block h1
theorem ArrB.cell {T : TypeId} {w : World} {G n : Nat} {g : Nat → Bool} (h : ArrB T w G n g) {t : Nat} (ht : t < n) : w.cell? ⟨G, t, none⟩ = some (.bool (g t)) ∧ w.frozen? ⟨G, t, none⟩ = false := by
  obtain ⟨cs, h1, h2, h3⟩ := h
  exact ⟨by rw [cell_of_row _ _ _ _ _ _ h1]; exact h3 t ht, by simp [World.frozen?, h1]⟩
theorem ArrB.set {T : TypeId} {w : World} {G n : Nat} {g : Nat → Bool} (h : ArrB T w G n g) {t : Nat} (ht : t < n) (b : Bool) : ArrB T (w.setCell ⟨G, t, none⟩ (.bool b)) G n (setG g t b) := by
  obtain ⟨cs, h1, h2, h3⟩ := h
  refine ⟨cs.setIfInBounds t (.bool b), ?_, by simpa using h2, fun i hi => ?_⟩
  · rw [setCell_eq_setRow w G t cs _ (0, 0) _ h1]; exact setRow_heap w G cs _ _ (0, 0) h1
  · by_cases e : i = t
    · subst e
      rw [setG_same, Array.getElem?_setIfInBounds, if_pos rfl, if_pos (by omega)]
    · rw [setG_ne g b e, Array.getElem?_setIfInBounds, if_neg (by omega)]
      exact h3 i hi
theorem Shr.grown {w w' : World} {B v G : Nat} {ls : List (List Ent)} (h : Shr w B v ls) (hg : w.grownBy w' (some G)) (hG : G ≠ B) (hrow : ∀ a n cap, Bls w (B + 1) a n cap ls → Bls w' (B + 1) a n cap ls) : Shr w' B v ls := by
  obtain ⟨a, n, cap, h1, h2⟩ := h
  exact ⟨a, n, cap, (hg.block B (lt_of_block h1) (fun e => by injection e with e; exact hG e.symm)).trans h1, hrow a n cap h2⟩
theorem Shr.set {Q : TypeId} {w : World} {B v G o : Nat} {cs : Array Value} {ls : List (List Ent)} (h : Shr w B v ls) (hG : w.heap[G]? = some (.cells cs Q (0, 0))) (h0 : 69 ≠ Q) (h1 : 34 ≠ Q) (h2 : 37 ≠ Q) (u : Value) : Shr (w.setCell ⟨G, o, none⟩ u) B v ls := by
  obtain ⟨a, n, cap, hB, bs, b1, b2, b3⟩ := h
  have kp : Kept (fun X => X = Q) w (w.setCell ⟨G, o, none⟩ u) := Kept.set (S := fun X => X = Q) hG rfl u
  exact ⟨a, n, cap, (kp.block B _ _ _ hB h0).trans hB, bs, b1, b2, b3.kept kp h1 h2⟩

/-- A key, and its number. -/
def keyK (zs : List Int) (i : Nat) : Ent := (zs.getD i 0, (i : Int) + 1)
theorem hasL_append (c d : List Ent) (id : Int) : hasL (c ++ d) id = (hasL c id || hasL d id) := by
  induction c with
  | nil => simp [hasL]
  | cons x c ih => simp [hasL, ih, Bool.or_assoc]
theorem hasL_out (d : List Ent) (id j : Int) : hasL (outL id d) j = (hasL d j && !decide (j = id)) := by
  induction d with
  | nil => simp [hasL, outL]
  | cons x d ih =>
    unfold outL at ih ⊢
    rw [List.filter_cons]
    by_cases c : x.2 = id
    · simp only [c, decide_true, Bool.not_true, Bool.false_eq_true, if_false, ih, hasL]
      by_cases e : j = id
      · simp [e]
      · have : ¬ id = j := fun h => e h.symm
        simp [e, this]
    · simp only [c, decide_false, Bool.not_false, if_true, hasL, ih]
      by_cases e : j = id
      · have : ¬ x.2 = j := fun h => c (h.trans e)
        simp [e, c]
      · simp [e]
theorem outL_has {d : List Ent} (hn : (d.map Prod.snd).Nodup) {id : Int} (h : hasL d id = true) : (outL id d).length + 1 = d.length := by
  induction d with
  | nil => simp [hasL] at h
  | cons x d ih =>
    rw [List.map_cons, List.nodup_cons] at hn
    unfold outL at ih ⊢
    rw [List.filter_cons]
    by_cases c : x.2 = id
    · simp only [c, decide_true, Bool.not_true, Bool.false_eq_true, if_false]
      rw [List.filter_eq_self.2]
      · rfl
      · intro y hy
        simp only [Bool.not_eq_true', decide_eq_false_iff_not]
        intro e
        exact hn.1 (List.mem_map.2 ⟨y, hy, by rw [e, c]⟩)
    · simp only [c, decide_false, Bool.not_false, if_true, List.length_cons]
      have hh : hasL d id = true := by simpa [hasL, c] using h
      have := ih hn.2 hh
      omega
theorem outL_hasnt {d : List Ent} {id : Int} (h : hasL d id = false) : outL id d = d := by
  unfold outL
  rw [List.filter_eq_self]
  intro x hx
  have := hasL_false.1 h x hx
  simp [this]
/-- What is there, of the first i keys. -/
structure Put (zs : List Int) (i left : Nat) (th : Nat → Bool) (ls : List (List Ent)) : Prop where
  nod : (ls.flatten.map Prod.snd).Nodup
  mem : ∀ x ∈ ls.flatten, ∃ j, j < i ∧ x = keyK zs j
  has : ∀ k : Nat, 1 ≤ k → k ≤ 30 → th k = hasL ls.flatten (k : Int)
  len : ls.flatten.length = left
  few : left ≤ i
  cnt : ls.length ≤ i
  srt : ∀ d ∈ ls, Srt d
theorem Put.none (zs : List Int) : Put zs 0 0 (fun _ => false) [] := ⟨by simp, fun x hx => by simp at hx, fun k _ _ => rfl, rfl, Nat.le_refl _, Nat.le_refl _, fun d hd => by simp at hd⟩
theorem Put.add {zs : List Int} {i left : Nat} {th : Nat → Bool} {ls : List (List Ent)} (h : Put zs i left th ls) (hi : i < 30) : Put zs (i + 1) (left + 1) (setG th (i + 1) true) (addS ls [keyK zs i]) := by
  have p := addS_perm ls [keyK zs i]
  refine ⟨?_, fun x hx => ?_, fun k h1 h2 => ?_, ?_, by have := h.few; omega, ?_, addS_srt _ h.srt⟩
  · refine (p.map Prod.snd).nodup_iff.2 ?_
    rw [List.map_append, List.nodup_append]
    refine ⟨h.nod, by simp, fun a ha b hb => ?_⟩
    simp at hb
    subst hb
    obtain ⟨x, hx, rfl⟩ := List.mem_map.1 ha
    obtain ⟨j, hj, rfl⟩ := h.mem x hx
    simp only [keyK]
    omega
  · rcases List.mem_append.1 (p.mem_iff.1 hx) with hx | hx
    · obtain ⟨j, hj, e⟩ := h.mem x hx
      exact ⟨j, by omega, e⟩
    · simp at hx
      exact ⟨i, by omega, hx⟩
  · rw [hasL_perm p, hasL_append]
    by_cases e : k = i + 1
    · subst e
      rw [setG_same]
      simp [hasL, keyK]
    · rw [setG_ne th _ e, h.has k h1 h2]
      have : ¬ ((i : Int) + 1 = (k : Int)) := by omega
      simp [hasL, keyK, this]
  · rw [addS_len, h.len]; rfl
  · have := addS_count ls [keyK zs i]; have := h.cnt; omega
theorem Put.drop {zs : List Int} {i left : Nat} {th : Nat → Bool} {ls : List (List Ent)} (h : Put zs i left th ls) {k : Nat} (h1 : 1 ≤ k) (h2 : k ≤ 30) :
    (th k = false → Put zs i left th (dropS ls k)) ∧ (th k = true → 0 < left ∧ Put zs i (left - 1) (setG th k false) (dropS ls k)) := by
  have p := dropS_perm (id := (k : Int)) h.nod
  have nod : ((dropS ls k).flatten.map Prod.snd).Nodup := (p.map Prod.snd).nodup_iff.2 (h.nod.sublist ((List.filter_sublist).map _))
  have mem : ∀ x ∈ (dropS ls k).flatten, ∃ j, j < i ∧ x = keyK zs j := fun x hx => h.mem x (List.mem_filter.1 (p.mem_iff.1 hx)).1
  have cnt : (dropS ls k).length ≤ i := Nat.le_trans (dropS_count _ _) h.cnt
  have srt := dropS_srt (k : Int) h.srt
  have hk := h.has k h1 h2
  refine ⟨fun e => ?_, fun e => ?_⟩
  · rw [e] at hk
    have e2 := outL_hasnt hk.symm
    rw [e2] at p
    exact ⟨nod, mem, fun j j1 j2 => by rw [h.has j j1 j2, hasL_perm p], by rw [p.length_eq]; exact h.len, h.few, cnt, srt⟩
  · rw [e] at hk
    have e2 := outL_has h.nod hk.symm
    rw [h.len] at e2
    refine ⟨by omega, nod, mem, fun j j1 j2 => ?_, by rw [p.length_eq]; omega, by have := h.few; omega, cnt, srt⟩
    rw [hasL_perm p, hasL_out]
    by_cases c : j = k
    · subst c
      rw [setG_same]
      simp
    · rw [setG_ne th _ c, h.has j j1 j2]
      have : ¬ (j : Int) = (k : Int) := by omega
      simp [this]

/-- What was seen, and a list of it. -/
structure Seen (w : World) (base R v : Nat) (a : Option Addr) (n c : Nat) (ls : List (List Ent)) (r : Option Addr) (m t : Nat) : Prop where
  box : w.heap[R]? = some (.cells #[.int .u64 v, .slice a n c] 30 (0, 0))
  low : base ≤ R
  row : Bls w base a n c ls
  own : OwnE w base (.slice r m t) ls.flatten
theorem Seen.below {w w' : World} {base R v : Nat} {a : Option Addr} {n c : Nat} {ls : List (List Ent)} {r : Option Addr} {m t : Nat} (h : Seen w base R v a n c ls r m t) (hw : Below w.heap.size w w') : Seen w' base R v a n c ls r m t :=
  ⟨(hw.block R (lt_of_block h.box)).trans h.box, h.low, h.row.below hw, h.own.below hw⟩
theorem Seen.grown {w w' : World} {base R v B : Nat} {a : Option Addr} {n c : Nat} {ls : List (List Ent)} {r : Option Addr} {m t : Nat} (h : Seen w base R v a n c ls r m t) (hg : w.grownBy w' (some B)) (hB : B < base) : Seen w' base R v a n c ls r m t :=
  ⟨(hg.block R (lt_of_block h.box) (fun e => by injection e with e; have := h.low; omega)).trans h.box, h.low, h.row.grown hg hB, World.ownsRow.kept h.own hg (.inr fun e => by have := World.ownsRow.lt h.own B e; omega)⟩
/-- What holds at the head of the loop of SharedKeeps, and inside. -/
structure KeepI (T : TypeId) (w0 : World) (S : Nat) (zs : List Int) (i left v : Nat) (th : Nat → Bool) (ls : List (List Ent)) (wr : World) : Prop where
  put : Put zs i left th ls
  shr : Shr wr S v ls
  arr : ArrB T wr (S + 1) 31 th
  low : Below S w0 wr
theorem KeepI.on {T : TypeId} {w0 : World} {S : Nat} {zs : List Int} {i left v : Nat} {th : Nat → Bool} {ls : List (List Ent)} {wr w' : World} (h : KeepI T w0 S zs i left v th ls wr) (hw : Below wr.heap.size wr w') : KeepI T w0 S zs i left v th ls w' :=
  ⟨h.put, h.shr.below hw, h.arr.kept (hw.block _ h.arr.lt), h.low.trans (hw.mono (by have := h.shr.lt; omega))⟩
end Go.Proofs.Ytboccihcomaaoaa

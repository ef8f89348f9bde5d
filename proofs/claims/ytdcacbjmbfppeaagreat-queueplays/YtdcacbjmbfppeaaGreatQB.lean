/- queue: what there is, seen as lists (plain). -/
import Derived.Test.YtdcacbjmbfppeaaGreatQ7
import Derived.Test.YtdcacbjmbfppeaaGreatQ9
namespace Go.Proofs.YtdcacbjmbfppeaaGreat
open Go.RowKit Go.Lib Go.Sort
set_option linter.unusedVariables false

/-- Slots, own lists and the shared one, as lists in order. -/
structure View (T : Nat) (s : QSt) (sl ow : Nat → List Ent) (sh : List Ent) : Prop where
  sl : ∀ i, i < T → slotL (s.g i) = sl i
  ow : ∀ i, i < T → sortE (s.ls i).flatten = ow i
  sh : sortE s.hs.flatten = sh
theorem lset_lset {α : Type} (f : Nat → α) (t : Nat) (x y : α) : lset (lset f t x) t y = lset f t y := by
  funext i
  by_cases e : i = t
  · subst e; rw [lset_same, lset_same]
  · rw [lset_ne _ _ e, lset_ne _ _ e, lset_ne _ _ e]
theorem slotL_full {p : Pl} (h : p.f = true) : slotL p = [p.e] := by unfold slotL; rw [if_pos h]
theorem slotL_empty {p : Pl} (h : p.f = false) : slotL p = [] := by unfold slotL; rw [if_neg (by rw [h]; simp)]
theorem slotL_of {p : Pl} {e : Ent} (h : slotL p = [e]) : p.f = true ∧ p.e = e := by
  unfold slotL at h
  split at h
  · rename_i hf; simp at h; exact ⟨hf, h⟩
  · cases h
theorem slotL_nil {p : Pl} (h : slotL p = []) : p.f = false := by
  unfold slotL at h
  split at h
  · cases h
  · rename_i hf; simpa using hf
theorem View.new (T : Nat) : View T newQ (fun _ => []) (fun _ => []) [] := ⟨fun _ _ => rfl, fun _ _ => sortE_nil, sortE_nil⟩
variable {T K : Nat} {s : QSt} {sl ow : Nat → List Ent} {sh : List Ent}
theorem View.len (h : View T s sl ow sh) {t : Nat} (ht : t < T) : (s.ls t).flatten.length = (ow t).length := by rw [← h.ow t ht, sortE_len]
theorem View.hlen (h : View T s sl ow sh) : s.hs.flatten.length = sh.length := by rw [← h.sh, sortE_len]
theorem View.osrt (h : View T s sl ow sh) {t : Nat} (ht : t < T) : Srt (ow t) := by rw [← h.ow t ht]; exact sortE_srt _
theorem View.ssrt (h : View T s sl ow sh) : Srt sh := by rw [← h.sh]; exact sortE_srt _
theorem View.f (h : View T s sl ow sh) {t : Nat} (ht : t < T) : (s.g t).f = !(sl t).isEmpty := by
  rw [← h.sl t ht]
  unfold slotL
  cases (s.g t).f <;> rfl
theorem settle_none {t : Nat} (hf : (s.g t).f = false) : settleQ K s t = s := by unfold settleQ; rw [if_neg (by rw [hf]; simp)]
theorem View.settle_no (h : View T s sl ow sh) {t : Nat} (ht : t < T) (hs : sl t = []) : settleQ K s t = s := settle_none (slotL_nil (by rw [h.sl t ht, hs]))
theorem View.settle_fit (h : View T s sl ow sh) {t : Nat} (ht : t < T) {e : Ent} (hs : sl t = [e]) (hl : (ow t).length + 1 ≤ K) : View T (settleQ K s t) (lset sl t []) (lset ow t (sortE (ow t ++ [e]))) sh := by
  obtain ⟨hf, he⟩ := slotL_of (by rw [h.sl t ht, hs] : slotL (s.g t) = [e])
  have e1 : settleQ K s t = ⟨slSet s.g t ⟨(0, 0), (s.g t).v + 1, false⟩, lset s.ls t (putL (s.ls t) (s.g t).e), s.v, s.hs⟩ := by
    unfold settleQ
    rw [if_pos hf, if_neg (by rw [putL_len, h.len ht]; omega)]
  rw [e1]
  refine ⟨fun i hi => ?_, fun i hi => ?_, h.sh⟩
  · show slotL (slSet s.g t _ i) = _
    by_cases c : i = t
    · subst c; rw [slSet_same, lset_same]; rfl
    · rw [slSet_ne _ _ c, lset_ne _ _ c]; exact h.sl i hi
  · show sortE (lset s.ls t _ i).flatten = _
    by_cases c : i = t
    · subst c
      rw [lset_same, lset_same, he]
      refine sortE_congr ?_
      refine (putL_perm _ _).trans (List.Perm.append_right _ ?_)
      rw [← h.ow i hi]; exact (sortE_perm _).symm
    · rw [lset_ne _ _ c, lset_ne _ _ c]; exact h.ow i hi
theorem View.settle_spill (h : View T s sl ow sh) {t : Nat} (ht : t < T) {e : Ent} (hs : sl t = [e]) (hl : K < (ow t).length + 1) : View T (settleQ K s t) (lset sl t []) (lset ow t []) (sortE (sh ++ (ow t ++ [e]))) := by
  obtain ⟨hf, he⟩ := slotL_of (by rw [h.sl t ht, hs] : slotL (s.g t) = [e])
  have e1 : settleQ K s t = ⟨slSet s.g t ⟨(0, 0), (s.g t).v + 1, false⟩, lset s.ls t [], s.v + 1, addS s.hs (sortE (putL (s.ls t) (s.g t).e).flatten)⟩ := by
    unfold settleQ
    rw [if_pos hf, if_pos (by rw [putL_len, h.len ht]; omega)]
  rw [e1]
  refine ⟨fun i hi => ?_, fun i hi => ?_, ?_⟩
  · show slotL (slSet s.g t _ i) = _
    by_cases c : i = t
    · subst c; rw [slSet_same, lset_same]; rfl
    · rw [slSet_ne _ _ c, lset_ne _ _ c]; exact h.sl i hi
  · show sortE (lset s.ls t [] i).flatten = _
    by_cases c : i = t
    · subst c; rw [lset_same, lset_same]; exact sortE_nil
    · rw [lset_ne _ _ c, lset_ne _ _ c]; exact h.ow i hi
  · refine sortE_congr ?_
    refine (addS_perm _ _).trans ?_
    refine List.Perm.append ?_ ?_
    · rw [← h.sh]; exact (sortE_perm _).symm
    · rw [he]
      refine (sortE_perm _).trans ((putL_perm _ _).trans (List.Perm.append_right _ ?_))
      rw [← h.ow t ht]; exact (sortE_perm _).symm
theorem View.put {t : Nat} (h : View T (settleQ K s t) sl ow sh) (e : Ent) : View T (putQ K s t e) (lset sl t [e]) ow sh := by
  refine ⟨fun i hi => ?_, h.ow, h.sh⟩
  show slotL (slSet (settleQ K s t).g t _ i) = _
  by_cases c : i = t
  · subst c; rw [slSet_same, lset_same]; rfl
  · rw [slSet_ne _ _ c, lset_ne _ _ c]; exact h.sl i hi
theorem View.spot (h : View T s sl ow sh) (j : Nat) : spotL s T j = if j < T then sl j else if j < 2 * T then ow (j - T) else sh := by
  unfold spotL
  by_cases c1 : j < T
  · rw [if_pos c1, if_pos c1]; exact h.sl j c1
  · rw [if_neg c1, if_neg c1]
    by_cases c2 : j < 2 * T
    · rw [if_pos c2, if_pos c2]; exact h.ow _ (by omega)
    · rw [if_neg c2, if_neg c2]; exact h.sh
theorem slAll_flat (g : Nat → Pl) : ∀ k, slAll g k = (List.range k).flatMap (fun i => slotL (g i))
  | 0 => rfl
  | k + 1 => by
    rw [List.range_succ, List.flatMap_append, ← slAll_flat g k]
    show slAll g k ++ (if (g k).f then [(g k).e] else []) = _
    simp [slotL]
theorem flatMap_congr' {f g : Nat → List Ent} {k : Nat} (h : ∀ i, i < k → f i = g i) : (List.range k).flatMap f = (List.range k).flatMap g := by
  induction k with
  | zero => rfl
  | succ k ih => rw [List.range_succ, List.flatMap_append, List.flatMap_append, ih (fun i hi => h i (by omega))]; simp [h k (by omega)]
theorem View.slots (h : View T s sl ow sh) : slAll s.g T = (List.range T).flatMap sl := by
  rw [slAll_flat]
  exact flatMap_congr' h.sl
theorem ownN_flat (s : QSt) : ∀ k, ownN s k = ((List.range k).flatMap (fun i => sortE (s.ls i).flatten)).length
  | 0 => rfl
  | k + 1 => by
    rw [List.range_succ, List.flatMap_append, List.length_append, ← ownN_flat s k]
    show ownN s k + _ = _
    simp [sortE_len]
theorem View.lenQ (h : View T s sl ow sh) : lenQ s T = ((List.range T).flatMap sl).length + sh.length + ((List.range T).flatMap ow).length := by
  unfold Go.Proofs.YtdcacbjmbfppeaaGreat.lenQ
  rw [h.slots, h.hlen, ownN_flat, flatMap_congr' h.ow]
theorem flatN_nil (k : Nat) : (List.range k).flatMap (fun _ => ([] : List Ent)) = [] := by simp
theorem flat_one1 {T t : Nat} (ht : t < T) (l : List Ent) : (List.range T).flatMap (lset (fun _ => []) t l) = l := by
  induction T with
  | zero => omega
  | succ T ih =>
    rw [List.range_succ, List.flatMap_append]
    by_cases c : t = T
    · subst c
      rw [flatMap_congr' (g := fun _ => []) (fun i hi => lset_ne _ _ (by omega)), flatN_nil]
      simp [lset_same]
    · rw [ih (by omega)]
      simp [lset_ne (fun _ => ([] : List Ent)) l (show T ≠ t by omega)]
/-- The lists, by places. -/
theorem View.lists (h : View T s sl ow sh) : listsQ s T = (List.range T).map sl ++ (List.range T).map ow ++ [sh] := by
  apply List.ext_getElem?
  intro j
  by_cases c : j < 2 * T + 1
  · rw [listsQ_at s T c, h.spot j]
    by_cases c1 : j < T
    · rw [if_pos c1, List.append_assoc, List.getElem?_append_left (by simpa using c1)]
      simp [c1]
    · rw [if_neg c1]
      by_cases c2 : j < 2 * T
      · rw [if_pos c2, List.append_assoc, List.getElem?_append_right (by simp; omega), List.getElem?_append_left (by simp; omega)]
        have e : j - T < T := by omega
        simp [e]
      · rw [if_neg c2, List.getElem?_append_right (by simp; omega)]
        simp
        rw [show j - (T + T) = 0 by omega]
        rfl
  · rw [List.getElem?_eq_none (by rw [listsQ_len]; omega), List.getElem?_eq_none (by simp; omega)]
end Go.Proofs.YtdcacbjmbfppeaaGreat

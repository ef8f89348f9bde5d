/- QueuePlays: the document's queue and the program's, side by side (plain). -/
import Derived.Test.YtdcacbjmbfppeaaGreatQR3
import Derived.Test.YtdcacbjmbfppeaaGreatQNp
namespace Go.Proofs.YtdcacbjmbfppeaaGreat
open Go.RowKit Go.Lib Go.Sort
set_option linter.unusedVariables false

/-- What the document's queue has. -/
structure RSt where
  g : Nat → RS
  ow : Nat → List Ent
  sh : List Ent
def RSt.sl (r : RSt) (i : Nat) : List Ent := rsL (r.g i)
abbrev noS : RS := (false, ((0 : Int), (0 : Int)))
def rSettle (K : Nat) (r : RSt) (t : Nat) : RSt :=
  if (r.g t).1 then
    if K < (insL (r.ow t) (r.g t).2).length then ⟨lset r.g t noS, lset r.ow t [], sortE (r.sh ++ insL (r.ow t) (r.g t).2)⟩
    else ⟨lset r.g t noS, lset r.ow t (insL (r.ow t) (r.g t).2), r.sh⟩
  else r
def rPut (K : Nat) (r : RSt) (t : Nat) (e : Ent) : RSt := { rSettle K r t with g := lset (rSettle K r t).g t (true, e) }
/-- The two stand alike. -/
def Twin (T : Nat) (s : QSt) (r : RSt) : Prop := View T s r.sl r.ow r.sh
variable {T K : Nat} {s : QSt} {r : RSt}
theorem insL_sort {d : List Ent} (h : Srt d) (e : Ent) : insL d e = sortE (d ++ [e]) := by
  have h1 := sortE_id (insL_srt d e h)
  rw [← h1]
  exact sortE_congr ((insL_perm d e).trans (List.perm_append_comm (l₁ := [e]) (l₂ := d)))
theorem lset_sl (g : Nat → RS) (t : Nat) (x : RS) : (fun i => rsL (lset g t x i)) = lset (fun i => rsL (g i)) t (rsL x) := by
  funext i
  by_cases c : i = t
  · subst c; rw [lset_same, lset_same]
  · rw [lset_ne _ _ c, lset_ne _ _ c]
theorem twin_settle (h : Twin T s r) {t : Nat} (ht : t < T) : Twin T (settleQ K s t) (rSettle K r t) := by
  unfold rSettle
  have sl0 : r.sl t = rsL (r.g t) := rfl
  cases c : (r.g t).1 with
  | false =>
    rw [if_neg (by simp)]
    have : r.sl t = [] := by rw [sl0]; unfold rsL; rw [c]; rfl
    unfold Twin
    rw [View.settle_no (K := K) h ht this]
    exact h
  | true =>
    rw [if_pos rfl]
    have e1 : r.sl t = [(r.g t).2] := by rw [sl0]; unfold rsL; rw [c]; rfl
    have il := insL_sort (h.osrt ht) (r.g t).2
    by_cases d : K < (insL (r.ow t) (r.g t).2).length
    · rw [if_pos d]
      rw [insL_len] at d
      have v := View.settle_spill (K := K) h ht e1 d
      have e2 : sortE (r.sh ++ (r.ow t ++ [(r.g t).2])) = sortE (r.sh ++ insL (r.ow t) (r.g t).2) := sortE_congr (List.Perm.append_left _ ((List.perm_append_comm (l₁ := r.ow t) (l₂ := [(r.g t).2])).trans (insL_perm _ _).symm))
      rw [e2] at v
      unfold Twin RSt.sl
      simp only
      rw [lset_sl]
      exact v
    · rw [if_neg d]
      rw [insL_len] at d
      have v := View.settle_fit (K := K) h ht e1 (by omega)
      rw [← il] at v
      unfold Twin RSt.sl
      simp only
      rw [lset_sl]
      exact v
theorem twin_put (h : Twin T s r) {t : Nat} (ht : t < T) (e : Ent) : Twin T (putQ K s t e) (rPut K r t e) := by
  have v := View.put (twin_settle (K := K) h ht) e
  unfold Twin rPut RSt.sl
  simp only
  rw [lset_sl]
  exact v
theorem rs_hit (x : RS) (id : Int) : (x.1 && x.2.2 == id) = hasL (rsL x) id := by
  obtain ⟨f, k, d⟩ := x
  unfold rsL
  cases f with
  | false => rfl
  | true =>
    rw [if_pos rfl, Bool.true_and, Bool.eq_iff_iff, beq_iff_eq, hasL_mem]
    unfold ids
    simp
    exact ⟨fun h => h.symm, fun h => h.symm⟩
theorem find_split (p : Nat → Bool) (T : Nat) {a b : Nat → Bool} {c : Bool} (h1 : ∀ i, i < T → p i = a i) (h2 : ∀ i, i < T → p (T + i) = b i) (h3 : p (2 * T) = c) :
    (List.range (2 * T + 1)).find? p = match (List.range T).find? a with
      | some i => some i
      | none => match (List.range T).find? b with
        | some i => some (T + i)
        | none => if c then some (2 * T) else none := by
  cases ha : (List.range T).find? a with
  | some i =>
    rw [List.find?_range_eq_some] at ha
    obtain ⟨q1, q2, q3⟩ := ha
    have hi := List.mem_range.1 q2
    exact find_range (by omega) (by rw [h1 i hi]; exact q1) (fun j hj => by rw [h1 j (by omega)]; have := q3 j hj; simpa using this)
  | none =>
    rw [List.find?_eq_none] at ha
    have na : ∀ i, i < T → p i = false := fun i hi => by rw [h1 i hi]; have := ha i (List.mem_range.2 hi); simpa using this
    cases hb : (List.range T).find? b with
    | some i =>
      rw [List.find?_range_eq_some] at hb
      obtain ⟨q1, q2, q3⟩ := hb
      have hi := List.mem_range.1 q2
      refine find_range (by omega) (by rw [h2 i hi]; exact q1) (fun j hj => ?_)
      by_cases c1 : j < T
      · exact na j c1
      · have := q3 (j - T) (by omega)
        have e := h2 (j - T) (by omega)
        rw [show T + (j - T) = j by omega] at e
        rw [e]; simpa using this
    | none =>
      rw [List.find?_eq_none] at hb
      have nb : ∀ j, j < 2 * T → p j = false := fun j hj => by
        by_cases c1 : j < T
        · exact na j c1
        · have e := h2 (j - T) (by omega)
          rw [show T + (j - T) = j by omega] at e
          rw [e]; have := hb (j - T) (List.mem_range.2 (by omega)); simpa using this
      cases c with
      | true =>
        show _ = some (2 * T)
        exact find_range (by omega) h3 (fun j hj => nb j hj)
      | false =>
        show _ = none
        exact find_range_none fun j hj => by
          by_cases c1 : j < 2 * T
          · exact nb j c1
          · rw [show j = 2 * T by omega]; exact h3
theorem Twin.spot0 (h : Twin T s r) {i : Nat} (hi : i < T) : spotL s T i = rsL (r.g i) := by rw [View.spot h, if_pos hi]; rfl
theorem Twin.spot1 (h : Twin T s r) {i : Nat} (hi : i < T) : spotL s T (T + i) = r.ow i := by rw [View.spot h, if_neg (by omega), if_pos (by omega), show T + i - T = i by omega]
theorem Twin.spot2 (h : Twin T s r) : spotL s T (2 * T) = r.sh := by rw [View.spot h, if_neg (by omega), if_neg (by omega)]
theorem twin_where (h : Twin T s r) (id : Int) : whereQ s T id = rWhere r.g r.ow r.sh T id := by
  have f := find_split (fun j => hasL (spotL s T j) id) T (a := fun i => (r.g i).1 && (r.g i).2.2 == id) (b := fun i => hasL (r.ow i) id) (c := hasL r.sh id) (fun i hi => by rw [h.spot0 hi, rs_hit]) (fun i hi => by rw [h.spot1 hi]) (by rw [h.spot2])
  unfold whereQ firstHas rWhere
  rw [f]
  cases ha : (List.range T).find? (fun i => (r.g i).1 && (r.g i).2.2 == id) with
  | some i =>
    rw [List.find?_range_eq_some] at ha
    have hi := List.mem_range.1 ha.2.1
    show spotAt T i = _
    unfold spotAt
    rw [if_pos hi]
  | none =>
    cases hb : (List.range T).find? (fun i => hasL (r.ow i) id) with
    | some i =>
      rw [List.find?_range_eq_some] at hb
      have hi := List.mem_range.1 hb.2.1
      show spotAt T (T + i) = _
      unfold spotAt
      rw [if_neg (by omega), if_pos (by omega), show T + i - T = i by omega]
    | none =>
      cases hc : hasL r.sh id with
      | true =>
        show spotAt T (2 * T) = _
        unfold spotAt
        rw [if_neg (by omega), if_neg (by omega)]; rfl
      | false => rfl
/-- What All has. -/
theorem rsAll_flat (g : Nat → RS) : ∀ k, rsAll g k = (List.range k).flatMap (fun i => rsL (g i))
  | 0 => rfl
  | k + 1 => by
    rw [List.range_succ, List.flatMap_append, ← rsAll_flat g k]
    show rsAll g k ++ rsL (g k) = _
    simp
theorem rAllK_sort (r : RSt) (T : Nat) : ∀ k, rAllK r.g r.ow r.sh T k = sortE (rsAll r.g T ++ r.sh ++ (List.range k).flatMap r.ow)
  | 0 => by simp [rAllK]
  | k + 1 => by
    show sortE (rAllK r.g r.ow r.sh T k ++ r.ow k) = _
    rw [rAllK_sort r T k]
    refine sortE_congr ?_
    rw [List.range_succ, List.flatMap_append, ← List.append_assoc]
    simp only [List.flatMap_cons, List.flatMap_nil, List.append_nil]
    exact List.Perm.append_right _ (sortE_perm _)
theorem twin_all (h : Twin T s r) : sortE (listsQ s T).flatten = rAllK r.g r.ow r.sh T T := by
  rw [View.flatten h, rAllK_sort]
  refine sortE_congr ?_
  unfold allV
  rw [rsAll_flat, List.append_assoc]
  exact List.Perm.append_left _ List.perm_append_comm
theorem twin_slots (h : Twin T s r) : slAll s.g T = rsAll r.g T := by rw [View.slots h, rsAll_flat]; rfl
theorem twin_least (h : Twin T s r) : (unl (leastQ s T), unb (leastQ s T)) = headO (rAllK r.g r.ow r.sh T T) := by
  rw [← twin_all h, View.flatten h]
  rcases View.least h with ⟨e1, e2⟩ | ⟨j, x, e1, e2⟩
  · rw [e1, e2, sortE_nil]; rfl
  · obtain ⟨t, e3⟩ := e2.sort
    rw [e1, e3]; rfl
end Go.Proofs.YtdcacbjmbfppeaaGreat

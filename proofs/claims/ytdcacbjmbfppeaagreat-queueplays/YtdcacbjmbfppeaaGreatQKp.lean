/- QueueKeeps: what is put and not taken (plain). -/
import Derived.Test.YtdcacbjmbfppeaaGreatQL
namespace Go.Proofs.YtdcacbjmbfppeaaGreat
open Go.RowKit Go.Lib Go.Sort
set_option linter.unusedVariables false

variable {T K : Nat} {s : QSt} {sl ow : Nat → List Ent} {sh : List Ent}
theorem flat_lset (f : Nat → List Ent) (l : List Ent) {t : Nat} : ∀ {k : Nat}, t < k → ((List.range k).flatMap (lset f t l)).Perm (l ++ (List.range k).flatMap (lset f t []))
  | 0, h => by omega
  | k + 1, h => by
    rw [List.range_succ, List.flatMap_append, List.flatMap_append]
    by_cases c : t = k
    · subst c
      rw [flatMap_congr' (f := lset f t l) (g := f) (fun i hi => lset_ne _ _ (by omega)), flatMap_congr' (f := lset f t []) (g := f) (fun i hi => lset_ne _ _ (by omega))]
      simp only [List.flatMap_cons, List.flatMap_nil, List.append_nil, lset_same]
      exact List.perm_append_comm
    · have ih := flat_lset f l (k := k) (t := t) (by omega)
      simp only [List.flatMap_cons, List.flatMap_nil, List.append_nil, lset_ne f _ (show k ≠ t from fun e => c e.symm)]
      rw [← List.append_assoc]
      exact List.Perm.append_right _ ih
theorem lset_self (f : Nat → List Ent) (t : Nat) : lset f t (f t) = f := by
  funext i
  by_cases e : i = t
  · subst e; rw [lset_same]
  · rw [lset_ne _ _ e]
theorem flatV_at (f : Nat → List Ent) {t k : Nat} (h : t < k) : ((List.range k).flatMap f).Perm (f t ++ (List.range k).flatMap (lset f t [])) := by
  have := flat_lset f (f t) h
  rw [lset_self] at this
  exact this
/-- To settle moves entries only. -/
theorem View.settle (h : View T s sl ow sh) {t : Nat} (ht : t < T) : ∃ sl' ow' sh', View T (settleQ K s t) sl' ow' sh' ∧ sl' t = [] ∧ (allV T sl' ow' sh').Perm (allV T sl ow sh) := by
  by_cases c : sl t = []
  · exact ⟨sl, ow, sh, by rw [h.settle_no ht c]; exact h, c, List.Perm.refl _⟩
  · obtain ⟨e, he⟩ : ∃ e, sl t = [e] := by
      have := h.sl t ht
      unfold slotL at this
      split at this
      · exact ⟨_, this.symm⟩
      · exact absurd this.symm c
    have p1 := flatV_at sl ht
    rw [he] at p1
    have p2 := flatV_at ow ht
    by_cases hl : (ow t).length + 1 ≤ K
    · refine ⟨_, _, _, h.settle_fit (K := K) ht he hl, lset_same _ _ _, ?_⟩
      have p3 := flat_lset ow (sortE (ow t ++ [e])) ht
      unfold allV
      have q : (sortE (ow t ++ [e])).Perm (e :: ow t) := (sortE_perm _).trans List.perm_append_comm
      refine List.Perm.trans (List.Perm.append_left _ (List.Perm.append_right _ (p3.trans (List.Perm.append_right _ q)))) ?_
      refine List.Perm.trans ?_ (List.Perm.append p1.symm (List.Perm.append_right _ p2.symm))
      simp only [List.cons_append, List.append_assoc, List.nil_append]
      exact List.perm_middle
    · refine ⟨_, _, _, h.settle_spill (K := K) ht he (by omega), lset_same _ _ _, ?_⟩
      unfold allV
      have q : (sortE (sh ++ (ow t ++ [e]))).Perm (e :: (ow t ++ sh)) := (sortE_perm _).trans (by
        rw [← List.append_assoc]
        exact (List.perm_append_comm).trans (List.Perm.cons e (show (sh ++ ow t).Perm (ow t ++ sh) from List.perm_append_comm)))
      refine List.Perm.trans (List.Perm.append_left _ (List.Perm.append_left _ q)) ?_
      refine List.Perm.trans ?_ (List.Perm.append p1.symm (List.Perm.append_right _ p2.symm))
      simp only [List.cons_append, List.append_assoc, List.nil_append]
      refine List.Perm.trans (List.Perm.append_left _ List.perm_middle) ?_
      refine List.perm_middle.trans (List.Perm.cons _ (List.Perm.append_left _ ?_))
      rw [← List.append_assoc, ← List.append_assoc]
      exact List.Perm.append_right _ List.perm_append_comm
theorem View.putAny (h : View T s sl ow sh) {t : Nat} (ht : t < T) (e : Ent) : ∃ sl' ow' sh', View T (putQ K s t e) sl' ow' sh' ∧ (allV T sl' ow' sh').Perm (e :: allV T sl ow sh) := by
  obtain ⟨sl', ow', sh', v, e0, p⟩ := h.settle (K := K) ht
  refine ⟨_, _, _, v.put e, ?_⟩
  refine List.Perm.trans ?_ (List.Perm.cons e p)
  unfold allV
  have p1 := flat_lset sl' [e] ht
  have p2 := flatV_at sl' ht
  rw [e0, List.nil_append] at p2
  rw [← List.cons_append]
  refine List.Perm.append_right _ ?_
  exact p1.trans (List.Perm.cons e p2.symm)
theorem flat_out {f : Nat → List Ent} {k i : Nat} {id : Int} (h : (ids ((List.range k).flatMap f)).Nodup) (hi : i < k) (h1 : id ∈ ids (f i)) : (List.range k).flatMap (lset f i (outL id (f i))) = outL id ((List.range k).flatMap f) := by
  rw [outL_flat]
  refine flatMap_congr' fun j hj => ?_
  by_cases c : j = i
  · subst c; rw [lset_same]
  · rw [lset_ne _ _ c, outL_no (hasL_no.2 (flat_apart' h hi hj (fun e => c e.symm) h1))]
theorem ids_app (c d : List Ent) : ids (c ++ d) = ids c ++ ids d := List.map_append
theorem flat_no {f : Nat → List Ent} {k : Nat} {id : Int} (h : id ∉ ids ((List.range k).flatMap f)) : ∀ i, i < k → hasL (f i) id = false := fun i hi => hasL_no.2 fun hm => h (flat_has.2 ⟨i, hi, hm⟩)
/-- To take one takes it, and no other. -/
theorem View.takeAny (h : View T s sl ow sh) (hn : (ids (allV T sl ow sh)).Nodup) (id : Int) : (firstHit s T id).isSome = hasL (allV T sl ow sh) id ∧ ∃ sl' ow' sh', View T (takeQ s T id) sl' ow' sh' ∧ allV T sl' ow' sh' = outL id (allV T sl ow sh) := by
  have hn' := hn
  unfold allV at hn'
  rw [ids_app, ids_app] at hn'
  obtain ⟨n1, n23, d1⟩ := List.nodup_append.1 hn'
  obtain ⟨n2, n3, d2⟩ := List.nodup_append.1 n23
  have av : allV T sl ow sh = (List.range T).flatMap sl ++ ((List.range T).flatMap ow ++ sh) := rfl
  by_cases c1 : id ∈ ids ((List.range T).flatMap sl)
  · obtain ⟨i, hi, hm⟩ := flat_has.1 c1
    obtain ⟨f, v⟩ := h.take_slot hi (hasL_mem.2 hm) (fun k hk => hasL_no.2 (flat_apart' n1 hi (by omega) (by omega) hm))
    have o2 : id ∉ ids ((List.range T).flatMap ow ++ sh) := by
      rw [ids_app]; exact fun hx => d1 id c1 id hx rfl
    refine ⟨by rw [f, hasL_mem.2 (by rw [av, ids_app]; exact List.mem_append_left _ c1)]; rfl, _, _, _, v, ?_⟩
    have e1 : outL id (sl i) = [] := by
      have := h.sl i hi
      unfold slotL at this
      split at this
      · rw [← this] at hm ⊢
        simp [ids] at hm
        simp [outL, hm]
      · rw [← this] at hm; simp [ids] at hm
    have := flat_out n1 hi hm
    rw [e1] at this
    unfold allV
    rw [this, outL_app, outL_no (hasL_no.2 o2)]
  · by_cases c2 : id ∈ ids ((List.range T).flatMap ow)
    · obtain ⟨t, ht, hm⟩ := flat_has.1 c2
      obtain ⟨f, v⟩ := h.take_own ht (flat_no c1) (hasL_mem.2 hm) (fun k hk => hasL_no.2 (flat_apart' n2 ht (by omega) (by omega) hm)) (flat_sub n2 ht)
      have o3 : id ∉ ids sh := fun hx => d2 id c2 id hx rfl
      refine ⟨by rw [f, hasL_mem.2 (by rw [av, ids_app, ids_app]; exact List.mem_append_right _ (List.mem_append_left _ c2))]; rfl, _, _, _, v, ?_⟩
      unfold allV
      rw [flat_out n2 ht hm, outL_app, outL_app, outL_no (hasL_no.2 c1), outL_no (hasL_no.2 o3)]
    · by_cases c3 : id ∈ ids sh
      · obtain ⟨f, v⟩ := h.take_shared (flat_no c1) (flat_no c2) (hasL_mem.2 c3) n3
        refine ⟨by rw [f, hasL_mem.2 (by rw [av, ids_app, ids_app]; exact List.mem_append_right _ (List.mem_append_right _ c3))]; rfl, _, _, _, v, ?_⟩
        unfold allV
        rw [outL_app, outL_app, outL_no (hasL_no.2 c1), outL_no (hasL_no.2 c2)]
      · obtain ⟨f, e⟩ := h.take_none (flat_no c1) (flat_no c2) (hasL_no.2 c3)
        have no : id ∉ ids (allV T sl ow sh) := by
          rw [av, ids_app, ids_app]
          intro hx
          rcases List.mem_append.1 hx with hx | hx
          · exact c1 hx
          · rcases List.mem_append.1 hx with hx | hx
            · exact c2 hx
            · exact c3 hx
        exact ⟨by rw [f, hasL_no.2 no]; rfl, sl, ow, sh, by rw [e]; exact h, (outL_no (hasL_no.2 no)).symm⟩
theorem View.lenAll (h : View T s sl ow sh) : Go.Proofs.YtdcacbjmbfppeaaGreat.lenQ s T = (allV T sl ow sh).length := by
  rw [h.lenQ]
  unfold allV
  rw [List.length_append, List.length_append]
  omega

def setN (f : Nat → Bool) (t : Nat) (x : Bool) : Nat → Bool := fun i => if i = t then x else f i
/-- What is there behind i rounds: n entries, of the IDs that 'th' names. -/
structure KpL (i n : Nat) (th : Nat → Bool) (all : List Ent) : Prop where
  nd : (ids all).Nodup
  has : ∀ id : Int, id ∈ ids all ↔ ∃ k : Nat, 1 ≤ k ∧ k ≤ i ∧ id = (k : Int) ∧ th k = true
  up : ∀ k, i < k → th k = false
  len : all.length = n
  le : n ≤ i
def KpI (T K i n : Nat) (th : Nat → Bool) (s : QSt) : Prop := ∃ sl ow sh, View T s sl ow sh ∧ QOk K T i s ∧ KpL i n th (allV T sl ow sh)
theorem KpL.perm {i n : Nat} {th : Nat → Bool} {c d : List Ent} (h : KpL i n th c) (p : d.Perm c) : KpL i n th d := by
  have q : (ids d).Perm (ids c) := p.map _
  exact ⟨q.nodup_iff.2 h.nd, fun id => by rw [q.mem_iff]; exact h.has id, h.up, by rw [p.length_eq]; exact h.len, h.le⟩
theorem KpL.mono {i n : Nat} {th : Nat → Bool} {all : List Ent} (h : KpL i n th all) : KpL (i + 1) n th all := by
  refine ⟨h.nd, fun id => ⟨fun hx => ?_, ?_⟩, fun k hk => h.up k (by omega), h.len, by have := h.le; omega⟩
  · obtain ⟨k, k1, k2, k3, k4⟩ := (h.has id).1 hx
    exact ⟨k, k1, by omega, k3, k4⟩
  · rintro ⟨k, k1, k2, k3, k4⟩
    refine (h.has id).2 ⟨k, k1, ?_, k3, k4⟩
    by_cases c : k ≤ i
    · exact c
    · rw [h.up k (by omega)] at k4; cases k4
theorem KpL.put {i n : Nat} {th : Nat → Bool} {all : List Ent} (h : KpL i n th all) (z : Int) : KpL (i + 1) (n + 1) (setN th (i + 1) true) ((z, (i : Int) + 1) :: all) := by
  have no : ((i : Int) + 1) ∉ ids all := fun hx => by
    obtain ⟨k, k1, k2, k3, k4⟩ := (h.has _).1 hx
    omega
  refine ⟨List.nodup_cons.2 ⟨no, h.nd⟩, fun id => ?_, fun k hk => ?_, by rw [List.length_cons, h.len], by have := h.le; omega⟩
  · show id ∈ ((i : Int) + 1) :: ids all ↔ _
    rw [List.mem_cons]
    constructor
    · rintro (e | hx)
      · exact ⟨i + 1, by omega, by omega, by rw [e]; rfl, by unfold setN; rw [if_pos rfl]⟩
      · obtain ⟨k, k1, k2, k3, k4⟩ := (h.has id).1 hx
        exact ⟨k, k1, by omega, k3, by unfold setN; rw [if_neg (by omega)]; exact k4⟩
    · rintro ⟨k, k1, k2, k3, k4⟩
      by_cases c : k = i + 1
      · subst c; exact .inl k3
      · unfold setN at k4
        rw [if_neg c] at k4
        exact .inr ((h.has id).2 ⟨k, k1, by omega, k3, k4⟩)
  · unfold setN
    rw [if_neg (by omega)]
    exact h.up k (by omega)
theorem outL_less {d : List Ent} (hn : (ids d).Nodup) {id : Int} (h : id ∈ ids d) : (outL id d).length + 1 = d.length := by
  induction d with
  | nil => simp [ids] at h
  | cons x d ih =>
    have hc := List.nodup_cons.1 (show (x.2 :: ids d).Nodup from hn)
    by_cases c : x.2 = id
    · subst c
      have : outL x.2 (x :: d) = outL x.2 d := by unfold outL; rw [List.filter_cons_of_neg (by simp)]
      rw [this, outL_no (hasL_no.2 hc.1)]; rfl
    · have : outL id (x :: d) = x :: outL id d := by unfold outL; rw [List.filter_cons_of_pos (by simp [c])]
      rw [this, List.length_cons, List.length_cons]
      have := ih hc.2 (by
        rcases List.mem_cons.1 (show id ∈ x.2 :: ids d from h) with e | e
        · exact absurd e.symm c
        · exact e)
      omega
theorem ids_out (d : List Ent) (id j : Int) : j ∈ ids (outL id d) ↔ j ∈ ids d ∧ j ≠ id := by
  unfold ids outL
  rw [List.mem_map, List.mem_map]
  constructor
  · rintro ⟨x, hx, rfl⟩
    rw [List.mem_filter] at hx
    exact ⟨⟨x, hx.1, rfl⟩, by simpa using hx.2⟩
  · rintro ⟨⟨x, hx, rfl⟩, hne⟩
    exact ⟨x, List.mem_filter.2 ⟨hx, by simpa using hne⟩, rfl⟩
theorem KpL.hasL {i n : Nat} {th : Nat → Bool} {all : List Ent} (h : KpL i n th all) (j : Nat) : Go.Proofs.YtdcacbjmbfppeaaGreat.hasL all (j : Int) = (decide (1 ≤ j) && th j) := by
  cases c : Go.Proofs.YtdcacbjmbfppeaaGreat.hasL all (j : Int) with
  | true =>
    obtain ⟨k, k1, k2, k3, k4⟩ := (h.has _).1 (hasL_mem.1 c)
    have : j = k := by omega
    subst this
    rw [k4, decide_eq_true k1]; rfl
  | false =>
    cases hb : (decide (1 ≤ j) && th j) with
    | false => rfl
    | true =>
      simp only [Bool.and_eq_true, decide_eq_true_eq] at hb
      by_cases hj : j ≤ i
      · exact absurd ((h.has _).2 ⟨j, hb.1, hj, rfl, hb.2⟩) (hasL_no.1 c)
      · rw [h.up j (by omega)] at hb; exact absurd hb.2 (by simp)
theorem KpL.take {i n : Nat} {th : Nat → Bool} {all : List Ent} (h : KpL i n th all) (j : Nat) (j1 : 1 ≤ j) (hj : th j = true) : 0 < n ∧ KpL i (n - 1) (setN th j false) (outL (j : Int) all) := by
  have ji : j ≤ i := by
    by_cases c : j ≤ i
    · exact c
    · rw [h.up j (by omega)] at hj; cases hj
  have hm := (h.has j).2 ⟨j, j1, ji, rfl, hj⟩
  have l := outL_less h.nd hm
  rw [h.len] at l
  refine ⟨by omega, ?_, fun id => ?_, fun k hk => ?_, by omega, by have := h.le; omega⟩
  · unfold ids outL
    exact List.Pairwise.sublist (List.Sublist.map _ List.filter_sublist) h.nd
  · rw [ids_out]
    constructor
    · rintro ⟨h1, h2⟩
      obtain ⟨k, k1, k2, k3, k4⟩ := (h.has id).1 h1
      exact ⟨k, k1, k2, k3, by unfold setN; rw [if_neg (by omega)]; exact k4⟩
    · rintro ⟨k, k1, k2, k3, k4⟩
      unfold setN at k4
      by_cases c : k = j
      · rw [if_pos c] at k4; cases k4
      · rw [if_neg c] at k4
        exact ⟨(h.has id).2 ⟨k, k1, k2, k3, k4⟩, by omega⟩
  · unfold setN
    split
    · rfl
    · exact h.up k hk
theorem kp_new (T K : Nat) : KpI T K 0 0 (fun _ => false) newQ := by
  refine ⟨_, _, _, View.new T, newQ_ok K T, ?_⟩
  have e : allV T (fun _ => []) (fun _ => []) [] = [] := by unfold allV; rw [flatN_nil]; rfl
  rw [e]
  exact ⟨List.nodup_nil, fun id => ⟨fun h => by simp [ids] at h, fun ⟨k, _, _, _, h⟩ => by cases h⟩, fun _ _ => rfl, rfl, Nat.le_refl _⟩
theorem kp_put {i n t : Nat} {th : Nat → Bool} (h : KpI T K i n th s) (ht : t < T) (hK : K ≤ 16) (z : Int) : KpI T K (i + 1) (n + 1) (setN th (i + 1) true) (putQ K s t (z, (i : Int) + 1)) := by
  obtain ⟨sl, ow, sh, v, ok, l⟩ := h
  obtain ⟨sl', ow', sh', v', p⟩ := v.putAny (K := K) ht (z, (i : Int) + 1)
  exact ⟨sl', ow', sh', v', put_ok ok ht hK _, (l.put z).perm p⟩
theorem kp_settle {i n t : Nat} {th : Nat → Bool} (h : KpI T K i n th s) (ht : t < T) (hK : K ≤ 16) : KpI T K (i + 1) n th (settleQ K s t) := by
  obtain ⟨sl, ow, sh, v, ok, l⟩ := h
  obtain ⟨sl', ow', sh', v', _, p⟩ := v.settle (K := K) ht
  exact ⟨sl', ow', sh', v', settle_ok ok ht hK, (l.perm p).mono⟩
theorem kp_take {i n : Nat} {th : Nat → Bool} (h : KpI T K i n th s) (j : Nat) : (firstHit s T (j : Int)).isSome = (decide (1 ≤ j) && th j) ∧ ((decide (1 ≤ j) && th j) = true → 0 < n ∧ KpI T K (i + 1) (n - 1) (setN th j false) (takeQ s T (j : Int))) ∧ ((decide (1 ≤ j) && th j) = false → KpI T K (i + 1) n th (takeQ s T (j : Int))) := by
  obtain ⟨sl, ow, sh, v, ok, l⟩ := h
  obtain ⟨f, sl', ow', sh', v', e⟩ := v.takeAny l.nd (j : Int)
  rw [l.hasL j] at f
  refine ⟨f, fun hb => ?_, fun hb => ?_⟩
  · simp only [Bool.and_eq_true, decide_eq_true_eq] at hb
    obtain ⟨h1, h2⟩ := l.take j hb.1 hb.2
    exact ⟨h1, sl', ow', sh', v', take_ok ok _, by rw [e]; exact h2.mono⟩
  · refine ⟨sl', ow', sh', v', take_ok ok _, ?_⟩
    rw [e, outL_no (by rw [l.hasL j]; exact hb)]
    exact l.mono
/-- What All tells. -/
structure KpA (i n : Nat) (th : Nat → Bool) (A : List Ent) : Prop where
  len : A.length = n
  srt : Srt A
  mem : ∀ j (h : j < A.length), ∃ k : Nat, 1 ≤ k ∧ k ≤ i ∧ A[j].2 = (k : Int) ∧ th k = true
  nd : ∀ j (h : j < A.length) (h1 : j - 1 < A.length), 0 < j → A[j].2 ≠ A[j - 1].2
theorem kp_all {i n : Nat} {th : Nat → Bool} (h : KpI T K i n th s) : (listsQ s T).flatten.length = n ∧ lenQ s T = n ∧ n ≤ i ∧ KpA i n th (sortE (listsQ s T).flatten) := by
  obtain ⟨sl, ow, sh, v, ok, l⟩ := h
  have l2 := l.perm (sortE_perm (allV T sl ow sh))
  rw [v.flatten]
  refine ⟨l.len, by rw [v.lenAll]; exact l.len, l.le, l2.len, sortE_srt _, fun j hj => ?_, fun j hj hj1 h0 e => ?_⟩
  · obtain ⟨k, k1, k2, k3, k4⟩ := (l2.has _).1 (List.mem_map_of_mem (f := Prod.snd) (List.getElem_mem hj))
    exact ⟨k, k1, k2, k3, k4⟩
  · have := List.pairwise_iff_getElem.1 l2.nd (j - 1) j (by simp only [ids, List.length_map]; exact hj1) (by simp only [ids, List.length_map]; exact hj) (by omega)
    simp only [ids, List.getElem_map] at this
    exact this e.symm
end Go.Proofs.YtdcacbjmbfppeaaGreat

/- QueueStrict: what stands there (plain). -/
import Derived.Test.YtdcacbjmbfppeaaQueueDrawsWalk
import Derived.Test.YtdcacbjmbfppeaaQT
import Derived.Test.YtdcacbjmbfppeaaRowAt
namespace Go.Proofs.Ytdcacbjmbfppeaa
open Go.RowKit Go.Lib Go.Sort
set_option linter.unusedVariables false

/-- The entries that are put. -/
def stE (zs : List Int) (i : Nat) : Ent := (zs.getD i 0, (i : Int) + 1)
def stL (zs : List Int) (i : Nat) : List Ent := (List.range i).map (stE zs)
theorem stL_succ (zs : List Int) (i : Nat) : stL zs (i + 1) = stL zs i ++ [stE zs i] := by simp [stL, List.range_succ]
theorem stL_len (zs : List Int) (i : Nat) : (stL zs i).length = i := by simp [stL]
theorem stL_ids (zs : List Int) (n : Nat) : (ids (stL zs n)).Nodup := by
  unfold ids stL
  rw [List.map_map]
  refine List.pairwise_map.2 ?_
  refine List.Pairwise.imp_of_mem ?_ List.nodup_range
  intro a b _ _ hab h
  simp [stE] at h
  omega
/-- The list in order. -/
def stD (zs : List Int) (n : Nat) : List Ent := sortE (stL zs n)
theorem stD_len (zs : List Int) (n : Nat) : (stD zs n).length = n := by unfold stD; rw [sortE_len, stL_len]
theorem stD_ids (zs : List Int) (n : Nat) : (ids (stD zs n)).Nodup := ((sortE_perm (stL zs n)).map Prod.snd).nodup_iff.2 (stL_ids zs n)
def StI (zs : List Int) (i : Nat) (s : QSt) : Prop := View 1 s (fun _ => []) (fun _ => []) (stD zs i) ∧ QOk 0 1 (2 * i) s
theorem st_put {zs : List Int} {i : Nat} {s : QSt} (h : StI zs i s) : QOk 0 1 (2 * i + 1) (putQ 0 s 0 (stE zs i)) ∧ ((putQ 0 s 0 (stE zs i)).g 0).f = true ∧ StI zs (i + 1) (settleQ 0 (putQ 0 s 0 (stE zs i)) 0) := by
  obtain ⟨v, ok⟩ := h
  have ok1 := put_ok ok (show 0 < 1 by omega) (by omega) (stE zs i)
  have e0 := v.settle_no (K := 0) (t := 0) (by omega) rfl
  have v1 : View 1 (settleQ 0 s 0) (fun _ => []) (fun _ => []) (stD zs i) := by rw [e0]; exact v
  have v2 := v1.put (stE zs i)
  refine ⟨ok1, by rw [v2.f (by omega), lset_same]; rfl, ?_, (settle_ok ok1 (show 0 < 1 by omega) (by omega)).mono (by omega)⟩
  have v3 := v2.settle_spill (K := 0) (t := 0) (by omega) (e := stE zs i) (lset_same _ _ _) (by simp)
  rw [lset_lset, lset_nil] at v3
  have e : sortE (stD zs i ++ ([] ++ [stE zs i])) = stD zs (i + 1) := by
    unfold stD
    rw [stL_succ]
    refine sortE_congr ?_
    exact List.Perm.append_right _ (sortE_perm _)
  rw [e] at v3
  exact v3
/-- Behind i Takes. -/
def StJ (zs : List Int) (n i : Nat) (s : QSt) : Prop := View 1 s (fun _ => []) (fun _ => []) ((stD zs n).drop i) ∧ QOk 0 1 (2 * n + 2 * i) s
theorem st_relax {zs : List Int} {n i : Nat} {s : QSt} (h : StJ zs n i s) (dr : Nat) (hi : i < (stD zs n).length) : relaxQ s 1 0 0 dr = ((stD zs n)[i], true) := by
  have v := h.1
  have hl : s.hs.flatten.length = (stD zs n).length - i := by rw [v.hlen, List.length_drop]
  have e1 : own1 s 0 = [] := by unfold own1; rw [v.ow 0 (by omega)]; rfl
  have dn : drawN ((0 : Nat) : Int) s.hs.flatten.length = 1 := by unfold drawN; rw [hl]; simp; omega
  have e2 : candL s 0 dr = [(stD zs n)[i]] := by
    unfold candL
    rw [dn, v.sh, Nat.mod_one, List.getElem?_drop, Nat.add_zero, List.getElem?_eq_getElem hi]
    show (if s.hs.flatten.length = 0 then [] else _) = _
    rw [if_neg (by rw [hl]; omega)]
  have e3 : nearQ s 0 0 dr = some (1, (stD zs n)[i]) := by unfold nearQ; rw [e1, e2]; rfl
  unfold relaxQ
  rw [e3]
  rfl
theorem st_end {zs : List Int} {n : Nat} {s : QSt} (h : StJ zs n n s) (dr : Nat) : relaxQ s 1 0 0 dr = ((0, 0), false) := by
  have v := h.1
  have sh0 : (stD zs n).drop n = [] := List.drop_eq_nil_of_le (by rw [stD_len]; exact Nat.le_refl _)
  rw [sh0] at v
  have hl : s.hs.flatten.length = 0 := v.hlen
  have e1 : own1 s 0 = [] := by unfold own1; rw [v.ow 0 (by omega)]; rfl
  have e2 : candL s 0 dr = [] := by
    unfold candL
    rw [v.sh]
    rfl
  have e3 : nearQ s 0 0 dr = none := by unfold nearQ; rw [e1, e2]; rfl
  have e4 : furtherL s 1 0 = [] := by
    have : furtherI s 1 0 = none := find_range_none fun i hi => by
      have : i = 0 := by omega
      subst this
      have := v.len (t := 0) (by omega)
      exact decide_eq_false (by show ¬ 0 < (s.ls 0).flatten.length; rw [this]; simp)
    unfold furtherL
    rw [this]
    show sortE (slAll s.g 1) = []
    rw [v.slots, flatN_nil]; exact sortE_nil
  unfold relaxQ
  rw [e3, e4]
  rfl
theorem st_take {zs : List Int} {n i : Nat} {s : QSt} (h : StJ zs n i s) (hi : i < (stD zs n).length) : (firstHit s 1 (stD zs n)[i].2).isSome = true ∧ QOk 0 1 (2 * n + 2 * i + 1) (takeQ s 1 (stD zs n)[i].2) ∧ (firstHit (takeQ s 1 (stD zs n)[i].2) 1 (stD zs n)[i].2).isSome = false ∧ StJ zs n (i + 1) (takeQ (takeQ s 1 (stD zs n)[i].2) 1 (stD zs n)[i].2) := by
  obtain ⟨v, ok⟩ := h
  have nd : (ids ((stD zs n).drop i)).Nodup := by
    have := stD_ids zs n
    unfold ids at this ⊢
    rw [List.map_drop]
    exact List.Pairwise.sublist (List.drop_sublist i _) this
  have ec : (stD zs n).drop i = (stD zs n)[i] :: (stD zs n).drop (i + 1) := List.drop_eq_getElem_cons hi
  obtain ⟨f1, v1⟩ := v.take_shared (id := (stD zs n)[i].2) (fun _ _ => rfl) (fun _ _ => rfl) (hasL_mem.2 (by rw [ec]; exact List.mem_map_of_mem (f := Prod.snd) List.mem_cons_self)) nd
  have nd2 := nd
  rw [ec] at nd2
  have hno : hasL ((stD zs n).drop (i + 1)) (stD zs n)[i].2 = false := hasL_no.2 (by
    have := (List.nodup_cons.1 nd2).1
    exact this)
  have eo : outL (stD zs n)[i].2 ((stD zs n).drop i) = (stD zs n).drop (i + 1) := by
    rw [ec]
    have : outL (stD zs n)[i].2 ((stD zs n)[i] :: (stD zs n).drop (i + 1)) = outL (stD zs n)[i].2 ((stD zs n).drop (i + 1)) := by
      unfold outL
      rw [List.filter_cons_of_neg (by simp)]
    rw [this, outL_no hno]
  rw [eo] at v1
  have ok1 := take_ok ok (stD zs n)[i].2
  obtain ⟨f2, e2⟩ := v1.take_none (id := (stD zs n)[i].2) (fun _ _ => rfl) (fun _ _ => rfl) hno
  exact ⟨by rw [f1]; rfl, ok1, by rw [f2]; rfl, by rw [e2]; exact v1, by rw [e2]; exact ok1.mono (by omega)⟩
theorem st_less {zs : List Int} {n i : Nat} (hi : i + 1 < (stD zs n).length) : ltE ((stD zs n)[i]'(by omega)) (stD zs n)[i + 1] = true := by
  cases e : ltE ((stD zs n)[i]'(by omega)) (stD zs n)[i + 1] with
  | true => rfl
  | false =>
    have h1 : ltE (stD zs n)[i + 1] ((stD zs n)[i]'(by omega)) = false := (sortE_srt (stL zs n)).get (show i < i + 1 by omega) hi
    have := totE _ _ h1 e
    have nd := stD_ids zs n
    have h2 := List.pairwise_iff_getElem.1 nd i (i + 1) (by simp [ids]; omega) (by simpa [ids] using hi) (by omega)
    simp only [ids, List.getElem_map] at h2
    exact absurd (congrArg Prod.snd this.symm) h2
theorem st_new (zs : List Int) : StI zs 0 newQ := ⟨by
  have e : stD zs 0 = [] := sortE_nil
  rw [e]; exact View.new 1, newQ_ok 0 1⟩
theorem st_j {zs : List Int} {n : Nat} {s : QSt} (h : StI zs n s) : StJ zs n 0 s := ⟨by rw [List.drop_zero]; exact h.1, h.2⟩
/-- What is left has no ID that was taken, and none is 0. -/
theorem st_rest {zs : List Int} {n i : Nat} (hi : i < (stD zs n).length) : ∀ x ∈ (stD zs n).drop (i + 1), x.2 ≠ (stD zs n)[i].2 := by
  intro x hx e
  obtain ⟨j, hj, rfl⟩ := List.mem_iff_getElem.1 hx
  rw [List.getElem_drop] at e
  have nd := stD_ids zs n
  have h2 := List.pairwise_iff_getElem.1 nd i (i + 1 + j) (by simpa [ids] using hi) (by simp [ids]; simp at hj; omega) (by omega)
  simp only [ids, List.getElem_map] at h2
  exact h2 e.symm
theorem st_pos {zs : List Int} {n : Nat} : ∀ x ∈ stD zs n, x.2 ≠ 0 := by
  intro x hx e
  have := (sortE_perm (stL zs n)).mem_iff.1 hx
  unfold stL at this
  obtain ⟨i, _, rfl⟩ := List.mem_map.1 this
  simp [stE] at e
  omega
theorem st_rest' {zs : List Int} {n i : Nat} {l1 l2 : Int} (h : (i = 0 ∧ l2 = 0) ∨ ∃ h : i - 1 < (stD zs n).length, (stD zs n)[i - 1] = (l1, l2)) (h0 : 0 < i ∨ l2 = 0) : ∀ x ∈ (stD zs n).drop (i + 1), x.2 ≠ l2 := by
  intro x hx
  rcases h with ⟨_, h⟩ | ⟨h, e⟩
  · rw [h]; exact st_pos x (List.mem_of_mem_drop hx)
  · rcases h0 with h0 | h0
    · have := st_rest h x (by
        rw [show i - 1 + 1 = i by omega]
        rw [show i + 1 = 1 + i by omega, ← List.drop_drop] at hx
        exact hx |> fun hx => by
          rw [List.drop_drop, show 1 + i = i + 1 by omega, ← List.drop_drop] at hx
          exact List.mem_of_mem_drop hx)
      rw [e] at this
      exact this
    · rw [h0]; exact st_pos x (List.mem_of_mem_drop hx)
end Go.Proofs.Ytdcacbjmbfppeaa

/- QueuePlays: Take and Relaxed, side by side (plain). -/
import Derived.Test.YtdcacbjmbfppeaaGreatQPp
namespace Go.Proofs.YtdcacbjmbfppeaaGreat
open Go.RowKit Go.Lib Go.Sort
set_option linter.unusedVariables false

def rTake (r : RSt) (T : Nat) (id : Int) : RSt :=
  match (List.range T).find? (fun i => (r.g i).1 && (r.g i).2.2 == id) with
  | some i => { r with g := lset r.g i noS }
  | none => match (List.range T).find? (fun i => hasL (r.ow i) id) with
    | some i => { r with ow := lset r.ow i (outL id (r.ow i)) }
    | none => if hasL r.sh id then { r with sh := outL id r.sh } else r
variable {T K : Nat} {s : QSt} {r : RSt}
theorem find_no {p : Nat → Bool} {n : Nat} (h : (List.range n).find? p = none) {i : Nat} (hi : i < n) : p i = false := by
  rw [List.find?_eq_none] at h
  have := h i (List.mem_range.2 hi)
  simpa using this
theorem find_yes {p : Nat → Bool} {n i : Nat} (h : (List.range n).find? p = some i) : i < n ∧ p i = true ∧ ∀ j, j < i → p j = false := by
  rw [List.find?_range_eq_some] at h
  exact ⟨List.mem_range.1 h.2.1, h.1, fun j hj => by have := h.2.2 j hj; simpa using this⟩
theorem twin_take (h : Twin T s r) (hn : (ids (allV T r.sl r.ow r.sh)).Nodup) (id : Int) : (firstHit s T id).isSome = decide ((rWhere r.g r.ow r.sh T id).1 ≠ 0) ∧ Twin T (takeQ s T id) (rTake r T id) := by
  have hn' := hn
  unfold allV at hn'
  rw [ids_app, ids_app] at hn'
  obtain ⟨n1, n23, _⟩ := List.nodup_append.1 hn'
  obtain ⟨n2, n3, _⟩ := List.nodup_append.1 n23
  unfold rWhere rTake
  cases ha : (List.range T).find? (fun i => (r.g i).1 && (r.g i).2.2 == id) with
  | some i =>
    obtain ⟨hi, q1, q2⟩ := find_yes ha
    obtain ⟨f, v⟩ := View.take_slot h (id := id) hi (by show hasL (rsL (r.g i)) id = true; rw [← rs_hit]; exact q1) (fun k hk => by show hasL (rsL (r.g k)) id = false; rw [← rs_hit]; exact q2 k hk)
    refine ⟨by rw [f]; rfl, ?_⟩
    unfold Twin RSt.sl
    simp only
    rw [lset_sl]
    exact v
  | none =>
    have s0 : ∀ i, i < T → hasL (r.sl i) id = false := fun i hi => by show hasL (rsL (r.g i)) id = false; rw [← rs_hit]; exact find_no ha hi
    cases hb : (List.range T).find? (fun i => hasL (r.ow i) id) with
    | some i =>
      obtain ⟨hi, q1, q2⟩ := find_yes hb
      obtain ⟨f, v⟩ := View.take_own h hi s0 q1 q2 (flat_sub n2 hi)
      exact ⟨by rw [f]; rfl, v⟩
    | none =>
      have o0 : ∀ i, i < T → hasL (r.ow i) id = false := fun i hi => find_no hb hi
      cases hc : hasL r.sh id with
      | true =>
        obtain ⟨f, v⟩ := View.take_shared h s0 o0 hc n3
        exact ⟨by rw [f]; rfl, v⟩
      | false =>
        obtain ⟨f, e⟩ := View.take_none h s0 o0 hc
        exact ⟨by rw [f]; rfl, by show Twin T (takeQ s T id) r; rw [e]; exact h⟩
/-- What the document's queue finds further off. -/
def rFar (r : RSt) (T t : Nat) : Ent × Bool :=
  match (List.range (T - 1)).find? (fun i => decide (0 < (r.ow ((t + 1 + i) % T)).length)) with
  | some i => headO (r.ow ((t + 1 + i) % T))
  | none => headO (sortE (rsAll r.g T))
def rDraw (r : RSt) (K dr : Nat) : Ent := r.sh.getD (dr % min (K + 1) r.sh.length) (0, 0)
def rRelax (r : RSt) (T K t dr : Nat) : Ent × Bool :=
  if 0 < min (K + 1) r.sh.length then
    if 0 < (r.ow t).length then (if ltE (headO (r.ow t)).1 (rDraw r K dr) then (headO (r.ow t)).1 else rDraw r K dr, true) else (rDraw r K dr, true)
  else if 0 < (r.ow t).length then ((headO (r.ow t)).1, true)
  else rFar r T t
theorem twin_cand (h : Twin T s r) (dr : Nat) : candL s K dr = if 0 < min (K + 1) r.sh.length then [rDraw r K dr] else [] := by
  have hl : s.hs.flatten.length = r.sh.length := View.hlen h
  have dn : drawN ((K : Nat) : Int) s.hs.flatten.length = min (K + 1) r.sh.length := by unfold drawN; rw [hl, Int.toNat_natCast]; omega
  by_cases c : r.sh.length = 0
  · rw [if_neg (by omega)]
    have e : r.sh = [] := List.eq_nil_of_length_eq_zero c
    unfold candL
    rw [h.sh, e]; rfl
  · rw [if_pos (by omega)]
    have lt := Nat.mod_lt dr (show 0 < min (K + 1) r.sh.length by omega)
    have hi : dr % min (K + 1) r.sh.length < r.sh.length := by omega
    unfold candL rDraw
    rw [dn, h.sh, List.getElem?_eq_getElem hi]
    show (if s.hs.flatten.length = 0 then [] else _) = _
    rw [if_neg (by omega), List.getD_eq_getElem?_getD, List.getElem?_eq_getElem hi]; rfl
theorem twin_far (h : Twin T s r) {t : Nat} (ht : t < T) (h0 : r.ow t = []) : headO (furtherL s T t) = rFar r T t := by
  have pe : ∀ i, decide (0 < (s.ls ((t + 1 + i) % T)).flatten.length) = decide (0 < (r.ow ((t + 1 + i) % T)).length) := fun i => by rw [View.len h (Nat.mod_lt _ (by omega))]
  unfold rFar furtherL furtherI
  obtain ⟨n, rfl⟩ : ∃ n, T = n + 1 := ⟨T - 1, by omega⟩
  have last : decide (0 < (r.ow ((t + 1 + n) % (n + 1))).length) = false := by
    rw [show t + 1 + n = (n + 1) + t by omega, Nat.add_mod_left, Nat.mod_eq_of_lt ht, h0]; rfl
  rw [show n + 1 - 1 = n by omega]
  cases ha : (List.range n).find? (fun i => decide (0 < (r.ow ((t + 1 + i) % (n + 1))).length)) with
  | some i =>
    obtain ⟨hi, q1, q2⟩ := find_yes ha
    have e : (List.range (n + 1)).find? (fun i => decide (0 < (s.ls ((t + 1 + i) % (n + 1))).flatten.length)) = some i := find_range (by omega) (by show decide _ = true; rw [pe]; exact q1) (fun j hj => by show decide _ = false; rw [pe]; exact q2 j hj)
    rw [e]
    show headO (sortE (s.ls ((t + 1 + i) % (n + 1))).flatten) = _
    rw [h.ow _ (Nat.mod_lt _ (by omega))]
  | none =>
    have e : (List.range (n + 1)).find? (fun i => decide (0 < (s.ls ((t + 1 + i) % (n + 1))).flatten.length)) = none := find_range_none fun j hj => by
      show decide _ = false
      rw [pe]
      by_cases c : j < n
      · exact find_no ha c
      · rw [show j = n by omega]; exact last
    rw [e]
    show headO (sortE (slAll s.g (n + 1))) = _
    rw [twin_slots h]
theorem twin_relax (h : Twin T s r) {t : Nat} (ht : t < T) (dr : Nat) : relaxQ s T K t dr = rRelax r T K t dr := by
  have o1 : own1 s t = (r.ow t).take 1 := by unfold own1; rw [h.ow t ht]
  have cc := twin_cand (K := K) h dr
  unfold relaxQ nearQ rRelax
  rw [o1, cc]
  cases hw : r.ow t with
  | nil =>
    have f := twin_far h ht hw
    by_cases c : 0 < min (K + 1) r.sh.length
    · simp only [if_pos c]
      rw [if_neg (show ¬ 0 < ([] : List Ent).length by simp)]; rfl
    · simp only [if_neg c]
      rw [if_neg (show ¬ 0 < ([] : List Ent).length by simp)]
      show headO (furtherL s T t) = _
      exact f
  | cons y d =>
    by_cases c : 0 < min (K + 1) r.sh.length
    · simp only [if_pos c]
      rw [if_pos (show 0 < (y :: d).length by simp)]
      show (if unb (if ltE (rDraw r K dr) y then some (1, rDraw r K dr) else some (0, y)) then (unl (if ltE (rDraw r K dr) y then some (1, rDraw r K dr) else some (0, y)), true) else _) = (if ltE y (rDraw r K dr) then y else rDraw r K dr, true)
      cases e1 : ltE (rDraw r K dr) y with
      | true =>
        have e2 : ltE y (rDraw r K dr) = false := by
          rw [ltE_iff] at e1
          rw [ltE_not]
          omega
        rw [e2]; rfl
      | false =>
        cases e2 : ltE y (rDraw r K dr) with
        | true => rfl
        | false =>
          have := totE _ _ e1 e2
          rw [this]; rfl
    · simp only [if_neg c]
      rw [if_pos (show 0 < (y :: d).length by simp)]; rfl
end Go.Proofs.YtdcacbjmbfppeaaGreat

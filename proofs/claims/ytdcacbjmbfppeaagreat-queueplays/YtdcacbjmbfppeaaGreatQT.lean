/- queue: what Take does to what there is, seen as lists (plain). -/
import Derived.Test.YtdcacbjmbfppeaaGreatQB
namespace Go.Proofs.YtdcacbjmbfppeaaGreat
open Go.RowKit Go.Lib Go.Sort
set_option linter.unusedVariables false

/-- All that there is. -/
def allV (T : Nat) (sl ow : Nat → List Ent) (sh : List Ent) : List Ent := (List.range T).flatMap sl ++ ((List.range T).flatMap ow ++ sh)
def ids (d : List Ent) : List Int := d.map Prod.snd
theorem hasL_mem {d : List Ent} {id : Int} : hasL d id = true ↔ id ∈ ids d := by
  unfold ids
  constructor
  · intro h
    have : ¬ (hasL d id = false) := by rw [h]; simp
    rw [hasL_false] at this
    have : ∃ x ∈ d, x.2 = id := Classical.byContradiction fun hn => this fun x hx e => hn ⟨x, hx, e⟩
    obtain ⟨x, hx, rfl⟩ := this
    exact List.mem_map.2 ⟨x, hx, rfl⟩
  · intro h
    obtain ⟨x, hx, rfl⟩ := List.mem_map.1 h
    cases e : hasL d x.2 with
    | true => rfl
    | false => exact absurd rfl (hasL_false.1 e x hx)
theorem hasL_no {d : List Ent} {id : Int} : hasL d id = false ↔ id ∉ ids d := by
  rw [← hasL_mem]; cases hasL d id <;> simp
theorem outL_no {d : List Ent} {id : Int} (h : hasL d id = false) : outL id d = d := by
  unfold outL
  rw [List.filter_eq_self]
  intro x hx
  simp [hasL_false.1 h x hx]
theorem outL_app (id : Int) (c d : List Ent) : outL id (c ++ d) = outL id c ++ outL id d := List.filter_append ..
theorem outL_flat (id : Int) (f : Nat → List Ent) : ∀ k, outL id ((List.range k).flatMap f) = (List.range k).flatMap (fun i => outL id (f i))
  | 0 => rfl
  | k + 1 => by rw [List.range_succ, List.flatMap_append, List.flatMap_append, outL_app, outL_flat id f k]; simp
theorem outL_perm {c d : List Ent} (id : Int) (h : c.Perm d) : (outL id c).Perm (outL id d) := h.filter _
theorem outL_sort {d : List Ent} (id : Int) (h : Srt d) : sortE (outL id d) = outL id d := sortE_id (h.filter _)
theorem ids_flat (f : Nat → List Ent) (k : Nat) : ids ((List.range k).flatMap f) = (List.range k).flatMap (fun i => ids (f i)) := by unfold ids; rw [List.map_flatMap]
theorem flat_has {f : Nat → List Ent} {k : Nat} {id : Int} : id ∈ ids ((List.range k).flatMap f) ↔ ∃ i, i < k ∧ id ∈ ids (f i) := by
  rw [ids_flat, List.mem_flatMap]
  simp [List.mem_range]
theorem flat_apart {f : Nat → List Ent} {k : Nat} (h : (ids ((List.range k).flatMap f)).Nodup) {i j : Nat} (hi : i < k) (hj : j < k) (hij : i < j) {id : Int} (h1 : id ∈ ids (f i)) (h2 : id ∈ ids (f j)) : False := by
  rw [ids_flat] at h
  unfold List.Nodup at h
  rw [List.pairwise_flatMap] at h
  have := List.pairwise_iff_getElem.1 h.2 i j (by simpa using hi) (by simpa using hj) hij
  simp only [List.getElem_range] at this
  exact this id h1 id h2 rfl
theorem flat_apart' {f : Nat → List Ent} {k : Nat} (h : (ids ((List.range k).flatMap f)).Nodup) {i j : Nat} (hi : i < k) (hj : j < k) (hij : i ≠ j) {id : Int} (h1 : id ∈ ids (f i)) : id ∉ ids (f j) := fun h2 => by
  by_cases c : i < j
  · exact flat_apart h hi hj c h1 h2
  · exact flat_apart h hj hi (by omega) h2 h1
theorem flat_sub {f : Nat → List Ent} {k : Nat} (h : (ids ((List.range k).flatMap f)).Nodup) {i : Nat} (hi : i < k) : (ids (f i)).Nodup := by
  rw [ids_flat] at h
  unfold List.Nodup at h
  rw [List.pairwise_flatMap] at h
  exact h.1 i (List.mem_range.2 hi)
theorem slHit_has (p : Pl) (id : Int) : slHit p id = hasL (slotL p) id := by
  unfold slHit slotL
  cases p.f with
  | false => rfl
  | true =>
    rw [if_pos rfl, Bool.true_and, Bool.eq_iff_iff, beq_iff_eq, hasL_mem]
    unfold ids
    simp
    exact ⟨fun h => h.symm, fun h => h.symm⟩
variable {T K : Nat} {s : QSt} {sl ow : Nat → List Ent} {sh : List Ent}
theorem View.own_has (h : View T s sl ow sh) {t : Nat} (ht : t < T) (id : Int) : hasL (s.ls t).flatten id = hasL (ow t) id := by rw [← h.ow t ht]; exact (hasL_perm (sortE_perm _) id).symm
theorem View.sh_has (h : View T s sl ow sh) (id : Int) : hasL s.hs.flatten id = hasL sh id := by rw [← h.sh]; exact (hasL_perm (sortE_perm _) id).symm
theorem View.slot_hit (h : View T s sl ow sh) {i : Nat} (hi : i < T) (id : Int) : slHit (s.g i) id = hasL (sl i) id := by rw [slHit_has, h.sl i hi]
theorem View.no_slot (h : View T s sl ow sh) {id : Int} (hn : ∀ i, i < T → hasL (sl i) id = false) : slFirst s.g T id = none := find_range_none fun i hi => by rw [h.slot_hit hi]; exact hn i hi
theorem View.nodup_own (h : View T s sl ow sh) {t : Nat} (ht : t < T) (hn : (ids (ow t)).Nodup) : (((s.ls t).flatten).map Prod.snd).Nodup := by
  have : (ids (ow t)).Perm ((s.ls t).flatten.map Prod.snd) := by unfold ids; rw [← h.ow t ht]; exact (sortE_perm _).map _
  exact this.nodup_iff.1 hn
theorem View.nodup_sh (h : View T s sl ow sh) (hn : (ids sh).Nodup) : ((s.hs.flatten).map Prod.snd).Nodup := by
  have : (ids sh).Perm (s.hs.flatten.map Prod.snd) := by unfold ids; rw [← h.sh]; exact (sortE_perm _).map _
  exact this.nodup_iff.1 hn
/-- One that is nowhere. -/
theorem View.take_none (h : View T s sl ow sh) {id : Int} (h1 : ∀ i, i < T → hasL (sl i) id = false) (h2 : ∀ i, i < T → hasL (ow i) id = false) (h3 : hasL sh id = false) : firstHit s T id = none ∧ takeQ s T id = s := by
  have e : firstHit s T id = none := find_range_none fun j hj => by
    unfold hitQ
    by_cases c1 : j < T
    · rw [if_pos c1, h.no_slot h1]; rfl
    · rw [if_neg c1]
      by_cases c2 : j < 2 * T
      · rw [if_pos c2, h.own_has (by omega)]; exact h2 _ (by omega)
      · rw [if_neg c2, h.sh_has]; exact h3
  exact ⟨e, by unfold takeQ; rw [e]⟩
/-- One in a slot. -/
theorem View.take_slot (h : View T s sl ow sh) {id : Int} {i : Nat} (hi : i < T) (h1 : hasL (sl i) id = true) (h2 : ∀ k, k < i → hasL (sl k) id = false) : firstHit s T id = some 0 ∧ View T (takeQ s T id) (lset sl i []) ow sh := by
  have f : slFirst s.g T id = some i := find_range hi (by rw [h.slot_hit hi]; exact h1) (fun k hk => by rw [h.slot_hit (by omega)]; exact h2 k hk)
  have e : firstHit s T id = some 0 := find_range (by omega) (by unfold hitQ; rw [if_pos (by omega), f]; rfl) (fun k hk => absurd hk (by omega))
  refine ⟨e, ?_⟩
  have e2 : takeQ s T id = { s with g := slSet s.g i ⟨(0, 0), (s.g i).v + 1, false⟩ } := by
    unfold takeQ
    rw [e]
    show dropQ s T id 0 = _
    unfold dropQ
    rw [if_pos (by omega)]
    unfold slDropQ
    rw [f]
  rw [e2]
  refine ⟨fun k hk => ?_, h.ow, h.sh⟩
  show slotL (slSet s.g i _ k) = _
  by_cases c : k = i
  · subst c; rw [slSet_same, lset_same]; rfl
  · rw [slSet_ne _ _ c, lset_ne _ _ c]; exact h.sl k hk
/-- One in an own list. -/
theorem View.take_own (h : View T s sl ow sh) {id : Int} {t : Nat} (ht : t < T) (h1 : ∀ i, i < T → hasL (sl i) id = false) (h2 : hasL (ow t) id = true) (h3 : ∀ k, k < t → hasL (ow k) id = false) (hn : (ids (ow t)).Nodup) : firstHit s T id = some (T + t) ∧ View T (takeQ s T id) sl (lset ow t (outL id (ow t))) sh := by
  have e : firstHit s T id = some (T + t) := find_range (by omega)
    (by unfold hitQ; rw [if_neg (by omega), if_pos (by omega), show T + t - T = t by omega, h.own_has ht]; exact h2)
    (fun k hk => by
      unfold hitQ
      by_cases c1 : k < T
      · rw [if_pos c1, h.no_slot h1]; rfl
      · rw [if_neg c1, if_pos (by omega), h.own_has (by omega)]; exact h3 _ (by omega))
  refine ⟨e, ?_⟩
  have e2 : takeQ s T id = { s with ls := lset s.ls t (dropLs (s.ls t) id) } := by
    unfold takeQ
    rw [e]
    show dropQ s T id (T + t) = _
    unfold dropQ
    rw [if_neg (by omega), if_pos (by omega), show T + t - T = t by omega]
  rw [e2]
  refine ⟨h.sl, fun k hk => ?_, h.sh⟩
  show sortE (lset s.ls t _ k).flatten = _
  by_cases c : k = t
  · subst c
    rw [lset_same, lset_same, ← outL_sort id (h.osrt ht)]
    refine sortE_congr ((dropLs_perm (h.nodup_own ht hn)).trans ?_)
    rw [← h.ow k hk]
    exact outL_perm id (sortE_perm _).symm
  · rw [lset_ne _ _ c, lset_ne _ _ c]; exact h.ow k hk
/-- One in the shared list. -/
theorem View.take_shared (h : View T s sl ow sh) {id : Int} (h1 : ∀ i, i < T → hasL (sl i) id = false) (h2 : ∀ k, k < T → hasL (ow k) id = false) (h3 : hasL sh id = true) (hn : (ids sh).Nodup) : firstHit s T id = some (2 * T) ∧ View T (takeQ s T id) sl ow (outL id sh) := by
  have e : firstHit s T id = some (2 * T) := find_range (by omega)
    (by unfold hitQ; rw [if_neg (by omega), if_neg (by omega), h.sh_has]; exact h3)
    (fun k hk => by
      unfold hitQ
      by_cases c1 : k < T
      · rw [if_pos c1, h.no_slot h1]; rfl
      · rw [if_neg c1, if_pos (by omega), h.own_has (by omega)]; exact h2 _ (by omega))
  refine ⟨e, ?_⟩
  have e2 : takeQ s T id = { s with v := if hasL s.hs.flatten id then s.v + 1 else s.v, hs := dropS s.hs id } := by
    unfold takeQ
    rw [e]
    show dropQ s T id (2 * T) = _
    unfold dropQ
    rw [if_neg (by omega), if_neg (by omega)]
  rw [e2]
  refine ⟨h.sl, h.ow, ?_⟩
  show sortE (dropS s.hs id).flatten = _
  rw [← outL_sort id h.ssrt]
  refine sortE_congr ((dropS_perm (h.nodup_sh hn)).trans ?_)
  rw [← h.sh]
  exact outL_perm id (sortE_perm _).symm
theorem take_ok {N : Nat} (ok : QOk K T N s) (id : Int) : QOk K T (N + 1) (takeQ s T id) := by
  unfold takeQ
  cases e : firstHit s T id with
  | none => exact ok.mono (by omega)
  | some j =>
    show QOk K T (N + 1) (dropQ s T id j)
    unfold dropQ
    by_cases c1 : j < T
    · rw [if_pos c1]
      refine ⟨fun i hi => ?_, ok.fall, ok.len, by have := ok.sv; show s.v ≤ _; omega, by have := ok.hlen; show s.hs.length ≤ _; omega, by have := ok.hsum; show s.hs.flatten.length ≤ _; omega, ok.hsrt⟩
      show (slDropQ s.g T id i).v ≤ _
      unfold slDropQ
      have hv := ok.ver i hi
      cases slFirst s.g T id with
      | none => show (s.g i).v ≤ _; omega
      | some k =>
        show (slSet s.g k _ i).v ≤ _
        by_cases c : i = k
        · subst c; rw [slSet_same]; show (s.g i).v + 1 ≤ _; omega
        · rw [slSet_ne _ _ c]; omega
    · rw [if_neg c1]
      by_cases c2 : j < 2 * T
      · rw [if_pos c2]
        refine ⟨fun i hi => by have := ok.ver i hi; show (s.g i).v ≤ _; omega, fun i hi => ?_, fun i hi => ?_, by have := ok.sv; show s.v ≤ _; omega, by have := ok.hlen; show s.hs.length ≤ _; omega, by have := ok.hsum; show s.hs.flatten.length ≤ _; omega, ok.hsrt⟩
        · show Fall (lset s.ls (j - T) _ i)
          by_cases c : i = j - T
          · subst c; rw [lset_same]; exact dropLs_fall (ok.fall _ hi) id
          · rw [lset_ne _ _ c]; exact ok.fall i hi
        · show (lset s.ls (j - T) _ i).flatten.length ≤ K
          by_cases c : i = j - T
          · subst c; rw [lset_same]; exact Nat.le_trans (dropLs_len id) (ok.len _ hi)
          · rw [lset_ne _ _ c]; exact ok.len i hi
      · rw [if_neg c2]
        refine ⟨fun i hi => by have := ok.ver i hi; show (s.g i).v ≤ _; omega, ok.fall, ok.len, ?_, ?_, ?_, dropS_srt id ok.hsrt⟩
        · show (if hasL s.hs.flatten id then s.v + 1 else s.v) ≤ _
          have := ok.sv
          split <;> omega
        · show (dropS s.hs id).length ≤ _
          have := dropS_count s.hs id
          have := ok.hlen
          omega
        · show (dropS s.hs id).flatten.length ≤ _
          have := dropS_len s.hs id
          have := ok.hsum
          omega
end Go.Proofs.YtdcacbjmbfppeaaGreat

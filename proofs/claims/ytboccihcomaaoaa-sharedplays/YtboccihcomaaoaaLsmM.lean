/- Rows of blocks of falling levels: what laying one in, and taking an ID out, does. Plain: nothing of the program. -/
import Derived.Test.YtboccihcomaaoaaBlkM
namespace Go.Proofs.Ytboccihcomaaoaa
open Go.Sort
set_option linter.unusedVariables false

theorem snocInd {α : Type} {p : List α → Prop} (nil : p []) (snoc : ∀ l x, p l → p (l ++ [x])) (l : List α) : p l := by
  have h : ∀ r : List α, p r.reverse := by
    intro r
    induction r with
    | nil => exact nil
    | cons x r ih => rw [List.reverse_cons]; exact snoc _ x ih
  have := h l.reverse
  rwa [List.reverse_reverse] at this

/-- A block's level. -/
def lv (d : List Ent) : Nat := lvl d.length
theorem lvl_mono {a b : Nat} (h : a ≤ b) : lvl a ≤ lvl b := by
  by_cases c : lvl b < lvl a
  · have h1 := lvl_least c
    have h2 := lvl_room b
    omega
  · omega
theorem lv_two {x b : List Ent} (hx : 0 < x.length) (hb : 0 < b.length) (h : lv x = lv b) : lv (sortE (x ++ b)) = lv b + 1 := by
  unfold lv at *
  rw [sortE_len, List.length_append, lvl_two hx hb h, h]
theorem lv_sort_comm (x b : List Ent) : sortE (x ++ b) = sortE (b ++ x) := sortE_congr List.perm_append_comm

/-- A block laid in, looked at from the smallest on. -/
def layR : List (List Ent) → List Ent → List (List Ent)
  | [], b => [b]
  | x :: r, b => if lv b < lv x then b :: x :: r else if lv x = lv b then layR r (sortE (x ++ b)) else x :: layR r b
def layL (ls : List (List Ent)) (b : List Ent) : List (List Ent) := (layR ls.reverse b).reverse
theorem layL_nil (b : List Ent) : layL [] b = [b] := rfl
theorem layL_snoc (ls : List (List Ent)) (x b : List Ent) : layL (ls ++ [x]) b = if lv b < lv x then ls ++ [x, b] else if lv x = lv b then layL ls (sortE (x ++ b)) else layL ls b ++ [x] := by
  unfold layL
  rw [List.reverse_append, List.reverse_singleton, List.singleton_append]
  rw [layR]
  split
  · simp
  · split
    · rfl
    · simp
theorem layL_gt {ls : List (List Ent)} {x b : List Ent} (h : lv b < lv x) : layL (ls ++ [x]) b = ls ++ [x] ++ [b] := by rw [layL_snoc, if_pos h]; simp
theorem layL_eq {ls : List (List Ent)} {x b : List Ent} (h : lv x = lv b) : layL (ls ++ [x]) b = layL ls (sortE (x ++ b)) := by rw [layL_snoc, if_neg (by omega), if_pos h]
theorem layL_lt {ls : List (List Ent)} {x b : List Ent} (h : lv x < lv b) : layL (ls ++ [x]) b = layL ls b ++ [x] := by rw [layL_snoc, if_neg (by omega), if_neg (by omega)]
/-- What is smaller stays behind. -/
theorem layL_app {ls suf : List (List Ent)} {b : List Ent} (h : ∀ d ∈ suf, lv d < lv b) : layL (ls ++ suf) b = layL ls b ++ suf := by
  induction suf using snocInd with
  | nil => simp
  | snoc s x ih =>
    rw [← List.append_assoc, layL_lt (h x (by simp)), ih (fun d hd => h d (by simp [hd]))]
    simp
theorem layL_end {ls : List (List Ent)} {b : List Ent} (h : ∀ d ∈ ls, lv b < lv d) : layL ls b = ls ++ [b] := by
  rcases List.eq_nil_or_concat ls with rfl | ⟨l, x, rfl⟩
  · rfl
  · rw [List.concat_eq_append] at h ⊢
    exact layL_gt (h x (by simp))

/-- Falling levels, no block empty, each in order. -/
structure Fall (ls : List (List Ent)) : Prop where
  fall : ls.Pairwise (fun x y => lv y < lv x)
  pos : ∀ d ∈ ls, 0 < d.length
  srt : ∀ d ∈ ls, Srt d
theorem Fall.nil : Fall [] := ⟨List.Pairwise.nil, fun d h => by simp at h, fun d h => by simp at h⟩
theorem Fall.sub {ls ks : List (List Ent)} (h : Fall ls) (hs : ks.Sublist ls) : Fall ks := ⟨h.fall.sublist hs, fun d hd => h.pos d (hs.subset hd), fun d hd => h.srt d (hs.subset hd)⟩
theorem layL_mem {ls : List (List Ent)} {b : List Ent} : ∀ d ∈ layL ls b, d ∈ ls ∨ lv b ≤ lv d := by
  induction ls using snocInd generalizing b with
  | nil => intro d hd; simp [layL_nil] at hd; subst hd; exact .inr (Nat.le_refl _)
  | snoc l x ih =>
    intro d hd
    rw [layL_snoc] at hd
    split at hd
    · simp at hd
      rcases hd with h | h | h
      · exact .inl (by simp [h])
      · exact .inl (by simp [h])
      · subst h; exact .inr (Nat.le_refl _)
    · split at hd
      · rcases ih d hd with h | h
        · exact .inl (by simp [h])
        · refine .inr (Nat.le_trans ?_ h)
          unfold lv
          rw [sortE_len, List.length_append]
          exact lvl_mono (by omega)
      · rcases List.mem_append.1 hd with h | h
        · rcases ih d h with h | h
          · exact .inl (by simp [h])
          · exact .inr h
        · exact .inl (by simp at h; simp [h])
theorem layL_fall {ls : List (List Ent)} {b : List Ent} (h : Fall ls) (hb : 0 < b.length) (hs : Srt b) : Fall (layL ls b) := by
  induction ls using snocInd generalizing b with
  | nil => exact ⟨by simp [layL_nil], fun d hd => by simp [layL_nil] at hd; subst hd; exact hb, fun d hd => by simp [layL_nil] at hd; subst hd; exact hs⟩
  | snoc l x ih =>
    have hl : Fall l := h.sub (List.sublist_append_left _ _)
    have hx : 0 < x.length := h.pos x (by simp)
    have hf := List.pairwise_append.1 h.fall
    rw [layL_snoc]
    split
    · next c =>
      refine ⟨?_, fun d hd => ?_, fun d hd => ?_⟩
      · rw [show l ++ [x, b] = (l ++ [x]) ++ [b] by simp]
        refine List.pairwise_append.2 ⟨h.fall, by simp, fun y hy z hz => ?_⟩
        simp at hz
        subst hz
        rcases List.mem_append.1 hy with hy | hy
        · have := hf.2.2 y hy x (by simp); omega
        · simp at hy; subst hy; exact c
      · simp at hd
        rcases hd with hd | hd | hd
        · exact h.pos d (by simp [hd])
        · subst hd; exact hx
        · subst hd; exact hb
      · simp at hd
        rcases hd with hd | hd | hd
        · exact h.srt d (by simp [hd])
        · subst hd; exact h.srt d (by simp)
        · subst hd; exact hs
    · split
      · exact ih hl (by rw [sortE_len, List.length_append]; omega) (sortE_srt _)
      · next c1 c2 =>
        have g := ih hl hb hs
        refine ⟨List.pairwise_append.2 ⟨g.fall, by simp, fun y hy z hz => ?_⟩, fun d hd => ?_, fun d hd => ?_⟩
        · simp at hz
          subst hz
          rcases layL_mem y hy with hy | hy
          · exact hf.2.2 y hy z (by simp)
          · omega
        · rcases List.mem_append.1 hd with hd | hd
          · exact g.pos d hd
          · simp at hd; subst hd; exact hx
        · rcases List.mem_append.1 hd with hd | hd
          · exact g.srt d hd
          · simp at hd; subst hd; exact h.srt d (by simp)
theorem layL_perm (ls : List (List Ent)) (b : List Ent) : (layL ls b).flatten.Perm (ls.flatten ++ b) := by
  induction ls using snocInd generalizing b with
  | nil => simp [layL_nil]
  | snoc l x ih =>
    rw [layL_snoc]
    split
    · simp
    · split
      · refine (ih _).trans ?_
        simp only [List.flatten_append, List.flatten_cons, List.flatten_nil, List.append_nil, List.append_assoc]
        exact List.Perm.append_left _ (sortE_perm _)
      · simp only [List.flatten_append, List.flatten_cons, List.flatten_nil, List.append_nil, List.append_assoc]
        refine ((ih b).append_right x).trans ?_
        rw [List.append_assoc]
        exact List.Perm.append_left _ List.perm_append_comm
theorem flat_count : ∀ {ls : List (List Ent)}, (∀ d ∈ ls, 0 < d.length) → ls.length ≤ ls.flatten.length
  | [], _ => by simp
  | d :: ls, h => by
    have h1 := h d (by simp)
    have h2 := flat_count (ls := ls) (fun x hx => h x (by simp [hx]))
    simp only [List.flatten_cons, List.length_append, List.length_cons]
    omega
theorem Fall.count {ls : List (List Ent)} (h : Fall ls) : ls.length ≤ ls.flatten.length := flat_count h.pos

/-- One entry put in. -/
def putL (ls : List (List Ent)) (e : Ent) : List (List Ent) := layL ls [e]
theorem putL_fall {ls : List (List Ent)} (h : Fall ls) (e : Ent) : Fall (putL ls e) := layL_fall h (by simp) (by simp [Srt])
theorem putL_perm (ls : List (List Ent)) (e : Ent) : (putL ls e).flatten.Perm (ls.flatten ++ [e]) := layL_perm ls [e]

/-- Without all of that ID. -/
def outL (id : Int) (d : List Ent) : List Ent := d.filter (fun x => !decide (x.2 = id))
theorem outL_len (id : Int) (d : List Ent) : (outL id d).length ≤ d.length := List.length_filter_le _ _
/-- The first block that has it, shrunk and laid anew. -/
def dropB (ls : List (List Ent)) (id : Int) (k : Nat) : List (List Ent) :=
  if (outL id (ls[k]?.getD [])).length = 0 then ls.eraseIdx k else layL (ls.eraseIdx k) (outL id (ls[k]?.getD []))
/-- Which block is the first that has it: as many as there are, if none. -/
def firstB : List (List Ent) → Int → Nat
  | [], _ => 0
  | d :: r, id => if hasL d id then 0 else firstB r id + 1
theorem firstB_le : ∀ (ls : List (List Ent)) (id : Int), firstB ls id ≤ ls.length
  | [], _ => Nat.le_refl _
  | d :: r, id => by have := firstB_le r id; unfold firstB; split <;> simp <;> omega
theorem firstB_none {ls : List (List Ent)} {id : Int} (h : ∀ d ∈ ls, hasL d id = false) : firstB ls id = ls.length := by
  induction ls with
  | nil => rfl
  | cons d r ih => unfold firstB; rw [if_neg (by rw [h d (by simp)]; simp), ih fun x hx => h x (by simp [hx])]; rfl
theorem firstB_at : ∀ {ls : List (List Ent)} {id : Int} {k : Nat} (hk : k < ls.length), hasL ls[k] id = true → (∀ i (hi : i < k), hasL (ls[i]'(by omega)) id = false) → firstB ls id = k
  | d :: r, id, 0, hk, h1, h2 => by simp at h1; unfold firstB; rw [if_pos h1]
  | d :: r, id, k + 1, hk, h1, h2 => by
    have h0 := h2 0 (by omega)
    simp at h0
    have := firstB_at (ls := r) (id := id) (k := k) (by simpa using hk) (by simpa using h1) (fun i hi => by simpa using h2 (i + 1) (by omega))
    unfold firstB
    rw [if_neg (by rw [h0]; simp), this]
theorem dropB_fall {ls : List (List Ent)} (h : Fall ls) (id : Int) (k : Nat) : Fall (dropB ls id k) := by
  unfold dropB
  have he := h.sub (List.eraseIdx_sublist ls k)
  split
  · exact he
  · next c =>
    refine layL_fall he (by omega) ?_
    unfold outL
    by_cases hk : k < ls.length
    · rw [List.getElem?_eq_getElem hk, Option.getD_some]
      exact (h.srt _ (List.getElem_mem hk)).filter _
    · rw [List.getElem?_eq_none (by omega), Option.getD_none]; exact Srt.nil
theorem flat_split {ls : List (List Ent)} {k : Nat} (hk : k < ls.length) : ls.flatten.Perm ((ls.eraseIdx k).flatten ++ ls[k]) := by
  conv => lhs; rw [← List.take_append_drop k ls, List.drop_eq_getElem_cons hk]
  rw [List.eraseIdx_eq_take_drop_succ]
  simp only [List.flatten_append, List.flatten_cons, List.append_assoc]
  exact List.Perm.append_left _ List.perm_append_comm
theorem dropB_perm {ls : List (List Ent)} (id : Int) {k : Nat} (hk : k < ls.length) : (dropB ls id k).flatten.Perm ((ls.eraseIdx k).flatten ++ outL id ls[k]) := by
  unfold dropB
  rw [List.getElem?_eq_getElem hk, Option.getD_some]
  split
  · next c => rw [List.length_eq_zero_iff.1 c, List.append_nil]
  · exact layL_perm _ _
theorem dropB_len {ls : List (List Ent)} (id : Int) {k : Nat} (hk : k < ls.length) : (dropB ls id k).flatten.length ≤ ls.flatten.length := by
  rw [(dropB_perm id hk).length_eq, (flat_split hk).length_eq, List.length_append, List.length_append]
  have := outL_len id ls[k]
  omega
/-- Where no two are of one ID, all of that ID are gone. -/
theorem dropB_out {ls : List (List Ent)} {id : Int} {k : Nat} (hk : k < ls.length) (hd : (ls.flatten.map Prod.snd).Nodup) (hh : hasL ls[k] id = true) : (dropB ls id k).flatten.Perm (outL id ls.flatten) := by
  refine (dropB_perm id hk).trans ?_
  have p := flat_split hk
  have hd2 : (((ls.eraseIdx k).flatten ++ ls[k]).map Prod.snd).Nodup := (p.map Prod.snd).nodup_iff.1 hd
  refine List.Perm.trans ?_ (p.filter _).symm
  unfold outL
  rw [List.filter_append]
  refine List.Perm.append_right _ ?_
  rw [List.filter_eq_self.2]
  intro x hx
  simp only [Bool.not_eq_true', decide_eq_false_iff_not]
  intro e
  rw [List.map_append] at hd2
  have := (List.nodup_append.1 hd2).2.2 x.2 (List.mem_map.2 ⟨x, hx, rfl⟩)
  have c : ∃ y ∈ ls[k], y.2 = id := by
    by_cases c : ∃ y ∈ ls[k], y.2 = id
    · exact c
    · have : hasL ls[k] id = false := hasL_false.2 fun y hy e => c ⟨y, hy, e⟩
      rw [hh] at this; cases this
  obtain ⟨y, hy, ey⟩ := c
  exact this y.2 (List.mem_map.2 ⟨y, hy, rfl⟩) (by rw [e, ey])
theorem firstB_has {ls : List (List Ent)} {id : Int} : (firstB ls id < ls.length) ↔ hasL ls.flatten id = true := by
  induction ls with
  | nil => simp [firstB, hasL]
  | cons d r ih =>
    have ha : hasL (d :: r).flatten id = (hasL d id || hasL r.flatten id) := by
      rw [List.flatten_cons]
      induction d with
      | nil => simp [hasL]
      | cons x d ih => simp [hasL, ih, Bool.or_assoc]
    rw [ha]
    unfold firstB
    cases c : hasL d id with
    | true => simp
    | false => simpa using ih
theorem firstB_hasL : ∀ {ls : List (List Ent)} {id : Int} (hk : firstB ls id < ls.length), hasL ls[firstB ls id] id = true
  | [], _, hk => by simp at hk
  | d :: r, id, hk => by
    cases c : hasL d id with
    | true => simp [firstB, c]
    | false =>
      have e : firstB (d :: r) id = firstB r id + 1 := by rw [firstB, if_neg (by rw [c]; simp)]
      have := firstB_hasL (ls := r) (id := id) (by rw [e] at hk; simpa using hk)
      simp [e, this]
end Go.Proofs.Ytboccihcomaaoaa

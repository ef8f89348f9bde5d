/- Rows of blocks that all have: what laying one in, and taking an ID out, does. Plain: nothing of the program. -/
import Derived.Test.YtboccihcomaaoaaLsmM
namespace Go.Proofs.Ytboccihcomaaoaa
open Go.Sort
set_option linter.unusedVariables false

/-- A block of this level. -/
def ofLv (m : Nat) (x : List Ent) : Bool := decide (lv x = m)
/-- A block of a lesser level. -/
def belowLv (m : Nat) (x : List Ent) : Bool := decide (lv x < m)
/-- A block put ahead of the first of a lesser level. -/
def putIn (ls : List (List Ent)) (b : List Ent) : List (List Ent) := ls.take (ls.findIdx (belowLv (lv b))) ++ b :: ls.drop (ls.findIdx (belowLv (lv b)))
def laidF : Nat → List (List Ent) → List Ent → List (List Ent)
  | 0, ls, b => putIn ls b
  | n + 1, ls, b => if ls.findIdx (ofLv (lv b)) < ls.length then laidF n (ls.eraseIdx (ls.findIdx (ofLv (lv b)))) (sortE (ls[ls.findIdx (ofLv (lv b))]?.getD [] ++ b)) else putIn ls b
/-- A block brought in. -/
def laidS (ls : List (List Ent)) (b : List Ent) : List (List Ent) := laidF ls.length ls b
theorem laidS_step {ls : List (List Ent)} {b : List Ent} {k : Nat} (hk : k < ls.length) (e : ls.findIdx (ofLv (lv b)) = k) : laidS ls b = laidS (ls.eraseIdx k) (sortE (ls[k] ++ b)) := by
  unfold laidS
  obtain ⟨n, hn⟩ : ∃ n, ls.length = n + 1 := ⟨ls.length - 1, by omega⟩
  have h2 : (ls.eraseIdx k).length = n := by rw [List.length_eraseIdx, if_pos hk]; omega
  rw [h2, hn, laidF, e, if_pos (by omega), List.getElem?_eq_getElem hk, Option.getD_some]
theorem laidS_end {ls : List (List Ent)} {b : List Ent} (e : ls.findIdx (ofLv (lv b)) = ls.length) : laidS ls b = putIn ls b := by
  unfold laidS
  cases hn : ls.length with
  | zero => rfl
  | succ n => rw [laidF, e, if_neg (by omega)]
theorem putIn_perm (ls : List (List Ent)) (b : List Ent) : (putIn ls b).Perm (b :: ls) := by
  unfold putIn
  generalize ls.findIdx _ = k
  refine List.perm_middle.trans ?_
  rw [List.take_append_drop]
theorem putIn_mem {ls : List (List Ent)} {b d : List Ent} : d ∈ putIn ls b ↔ d = b ∨ d ∈ ls := by
  rw [(putIn_perm ls b).mem_iff]; simp
theorem laid_ind {P : List (List Ent) → List Ent → Prop} (step : ∀ ls b k (hk : k < ls.length), ls.findIdx (ofLv (lv b)) = k → P (ls.eraseIdx k) (sortE (ls[k] ++ b)) → P ls b) (done : ∀ ls b, ls.findIdx (ofLv (lv b)) = ls.length → P ls b) : ∀ ls b, P ls b := by
  have h : ∀ n ls b, ls.length = n → P ls b := by
    intro n
    induction n with
    | zero => intro ls b hn; exact done ls b (by have := List.findIdx_le_length (xs := ls) (p := ofLv (lv b)); omega)
    | succ n ih =>
      intro ls b hn
      by_cases c : ls.findIdx (ofLv (lv b)) < ls.length
      · exact step ls b _ c rfl (ih _ _ (by rw [List.length_eraseIdx, if_pos c]; omega))
      · exact done ls b (by have := List.findIdx_le_length (xs := ls) (p := ofLv (lv b)); omega)
  exact fun ls b => h _ ls b rfl
theorem laidS_perm : ∀ (ls : List (List Ent)) (b : List Ent), (laidS ls b).flatten.Perm (ls.flatten ++ b) := by
  refine laid_ind (fun ls b k hk e ih => ?_) (fun ls b e => ?_)
  · rw [laidS_step hk e]
    refine ih.trans ?_
    refine (List.Perm.append_left _ (sortE_perm _)).trans ?_
    rw [← List.append_assoc]
    exact (flat_split hk).symm.append_right b
  · rw [laidS_end e]
    refine (putIn_perm ls b).flatten.trans ?_
    rw [List.flatten_cons]
    exact List.perm_append_comm
theorem laidS_len (ls : List (List Ent)) (b : List Ent) : (laidS ls b).flatten.length = ls.flatten.length + b.length := by rw [(laidS_perm ls b).length_eq, List.length_append]
theorem laidS_count : ∀ (ls : List (List Ent)) (b : List Ent), (laidS ls b).length ≤ ls.length + 1 := by
  refine laid_ind (fun ls b k hk e ih => ?_) (fun ls b e => ?_)
  · rw [laidS_step hk e]
    rw [List.length_eraseIdx, if_pos hk] at ih
    omega
  · rw [laidS_end e, (putIn_perm ls b).length_eq]
    simp
theorem laidS_srt : ∀ (ls : List (List Ent)) (b : List Ent), (∀ d ∈ ls, Srt d) → Srt b → ∀ d ∈ laidS ls b, Srt d := by
  refine laid_ind (fun ls b k hk e ih h1 h2 => ?_) (fun ls b e h1 h2 => ?_)
  · rw [laidS_step hk e]
    exact ih (fun d hd => h1 d (List.mem_of_mem_eraseIdx hd)) (sortE_srt _)
  · rw [laidS_end e]
    intro d hd
    rcases putIn_mem.1 hd with rfl | h
    · exact h2
    · exact h1 d h
theorem putIn_fall {ls : List (List Ent)} {b : List Ent} (h : Fall ls) (hb : 0 < b.length) (hs : Srt b) (e : ls.findIdx (ofLv (lv b)) = ls.length) : Fall (putIn ls b) := by
  have ne : ∀ d ∈ ls, lv d ≠ lv b := by
    intro d hd hc
    have : ls.findIdx (ofLv (lv b)) < ls.length := List.findIdx_lt_length_of_exists ⟨d, hd, by simp [ofLv, hc]⟩
    omega
  refine ⟨?_, fun d hd => ?_, fun d hd => ?_⟩
  · unfold putIn
    obtain ⟨k, hk⟩ : ∃ k, ls.findIdx (belowLv (lv b)) = k := ⟨_, rfl⟩
    rw [hk]
    have hf := h.fall
    conv at hf => rw [← List.take_append_drop k ls]
    obtain ⟨f1, f2, f3⟩ := List.pairwise_append.1 hf
    have up : ∀ d ∈ ls.take k, lv b < lv d := by
      intro d hd
      obtain ⟨i, hi, rfl⟩ := List.getElem_of_mem hd
      rw [List.length_take] at hi
      rw [List.getElem_take]
      have h1 := List.not_of_lt_findIdx (xs := ls) (p := belowLv (lv b)) (i := i) (by omega)
      have h2 := ne ls[i] (List.getElem_mem _)
      simp [belowLv] at h1
      omega
    have dn : ∀ d ∈ ls.drop k, lv d < lv b := by
      intro d hd
      by_cases c : k < ls.length
      · have h1 := List.findIdx_getElem (xs := ls) (p := belowLv (lv b)) (w := by rw [hk]; exact c)
        simp only [hk] at h1
        simp [belowLv] at h1
        rw [List.drop_eq_getElem_cons c] at hd f2
        rcases List.mem_cons.1 hd with rfl | hd
        · exact h1
        · have := (List.pairwise_cons.1 f2).1 d hd; omega
      · rw [List.drop_eq_nil_of_le (by omega)] at hd; simp at hd
    refine List.pairwise_append.2 ⟨f1, List.pairwise_cons.2 ⟨dn, f2⟩, fun x hx y hy => ?_⟩
    rcases List.mem_cons.1 hy with rfl | hy
    · exact up x hx
    · exact f3 x hx y hy
  · rcases putIn_mem.1 hd with rfl | hd
    · exact hb
    · exact h.pos d hd
  · rcases putIn_mem.1 hd with rfl | hd
    · exact hs
    · exact h.srt d hd
theorem laidS_fall : ∀ (ls : List (List Ent)) (b : List Ent), Fall ls → 0 < b.length → Srt b → Fall (laidS ls b) := by
  refine laid_ind (fun ls b k hk e ih h1 h2 h3 => ?_) (fun ls b e h1 h2 h3 => ?_)
  · rw [laidS_step hk e]
    exact ih (h1.sub (List.eraseIdx_sublist ls k)) (by rw [sortE_len, List.length_append]; omega) (sortE_srt _)
  · rw [laidS_end e]
    exact putIn_fall h1 h2 h3 e
theorem laidS_pos : ∀ (ls : List (List Ent)) (b : List Ent), (∀ d ∈ ls, 0 < d.length) → 0 < b.length → ∀ d ∈ laidS ls b, 0 < d.length := by
  refine laid_ind (fun ls b k hk e ih h1 h2 => ?_) (fun ls b e h1 h2 => ?_)
  · rw [laidS_step hk e]
    exact ih (fun d hd => h1 d (List.mem_of_mem_eraseIdx hd)) (by rw [sortE_len, List.length_append]; omega)
  · rw [laidS_end e]
    intro d hd
    rcases putIn_mem.1 hd with rfl | h
    · exact h2
    · exact h1 d h

/-- All of a list brought in; none is no change. -/
def addS (ls : List (List Ent)) (l : List Ent) : List (List Ent) := if l.length = 0 then ls else laidS ls (sortE l)
theorem addS_perm (ls : List (List Ent)) (l : List Ent) : (addS ls l).flatten.Perm (ls.flatten ++ l) := by
  unfold addS
  split
  · next c => rw [List.length_eq_zero_iff.1 c, List.append_nil]
  · exact (laidS_perm _ _).trans (List.Perm.append_left _ (sortE_perm _))
theorem addS_len (ls : List (List Ent)) (l : List Ent) : (addS ls l).flatten.length = ls.flatten.length + l.length := by rw [(addS_perm ls l).length_eq, List.length_append]
theorem addS_srt {ls : List (List Ent)} (l : List Ent) (h : ∀ d ∈ ls, Srt d) : ∀ d ∈ addS ls l, Srt d := by
  unfold addS
  split
  · exact h
  · exact laidS_srt _ _ h (sortE_srt _)
theorem addS_fall {ls : List (List Ent)} (l : List Ent) (h : Fall ls) : Fall (addS ls l) := by
  unfold addS
  split
  · exact h
  · exact laidS_fall _ _ h (by rw [sortE_len]; omega) (sortE_srt _)
theorem addS_count (ls : List (List Ent)) (l : List Ent) : (addS ls l).length ≤ ls.length + 1 := by
  unfold addS
  split
  · omega
  · exact laidS_count _ _

theorem firstB_findIdx (id : Int) : ∀ (ls : List (List Ent)), firstB ls id = ls.findIdx (fun d => hasL d id)
  | [] => rfl
  | d :: r => by
    rw [firstB, List.findIdx_cons, firstB_findIdx id r]
    cases hasL d id <;> rfl
/-- The first block that has it, shrunk where it stands; an empty one is gone. -/
def cutB (ls : List (List Ent)) (id : Int) (k : Nat) : List (List Ent) :=
  if (outL id (ls[k]?.getD [])).length = 0 then ls.eraseIdx k else ls.set k (outL id (ls[k]?.getD []))
def dropS (ls : List (List Ent)) (id : Int) : List (List Ent) := if firstB ls id < ls.length then cutB ls id (firstB ls id) else ls
theorem set_split {ls : List (List Ent)} {k : Nat} (hk : k < ls.length) (d : List Ent) : (ls.set k d).flatten.Perm ((ls.eraseIdx k).flatten ++ d) := by
  rw [List.set_eq_take_append_cons_drop, if_pos hk, List.eraseIdx_eq_take_drop_succ]
  simp only [List.flatten_append, List.flatten_cons, List.append_assoc]
  exact List.Perm.append_left _ List.perm_append_comm
theorem cutB_perm {ls : List (List Ent)} (id : Int) {k : Nat} (hk : k < ls.length) : (cutB ls id k).flatten.Perm ((ls.eraseIdx k).flatten ++ outL id ls[k]) := by
  unfold cutB
  rw [List.getElem?_eq_getElem hk, Option.getD_some]
  split
  · next c => rw [List.length_eq_zero_iff.1 c, List.append_nil]
  · exact set_split hk _
theorem cutB_len {ls : List (List Ent)} (id : Int) {k : Nat} (hk : k < ls.length) : (cutB ls id k).flatten.length ≤ ls.flatten.length := by
  rw [(cutB_perm id hk).length_eq, (flat_split hk).length_eq, List.length_append, List.length_append]
  have := outL_len id ls[k]
  omega
theorem dropS_len (ls : List (List Ent)) (id : Int) : (dropS ls id).flatten.length ≤ ls.flatten.length := by
  unfold dropS
  split
  · exact cutB_len id ‹_›
  · exact Nat.le_refl _
theorem dropS_count (ls : List (List Ent)) (id : Int) : (dropS ls id).length ≤ ls.length := by
  unfold dropS cutB
  split
  · split
    · rw [List.length_eraseIdx]; split <;> omega
    · rw [List.length_set]; exact Nat.le_refl _
  · exact Nat.le_refl _
theorem dropS_srt {ls : List (List Ent)} (id : Int) (h : ∀ d ∈ ls, Srt d) : ∀ d ∈ dropS ls id, Srt d := by
  unfold dropS
  split
  · next hk =>
    unfold cutB
    rw [List.getElem?_eq_getElem hk, Option.getD_some]
    split
    · exact fun d hd => h d (List.mem_of_mem_eraseIdx hd)
    · intro d hd
      rcases List.mem_or_eq_of_mem_set hd with hd | rfl
      · exact h d hd
      · exact (h _ (List.getElem_mem hk)).filter _
  · exact h
/-- Where no two are of one ID, all of that ID are gone. -/
theorem cutB_out {ls : List (List Ent)} {id : Int} {k : Nat} (hk : k < ls.length) (hd : (ls.flatten.map Prod.snd).Nodup) (hh : hasL ls[k] id = true) : (cutB ls id k).flatten.Perm (outL id ls.flatten) :=
  (cutB_perm id hk).trans ((dropB_perm id hk).symm.trans (dropB_out hk hd hh))
theorem dropS_perm {ls : List (List Ent)} {id : Int} (hd : (ls.flatten.map Prod.snd).Nodup) : (dropS ls id).flatten.Perm (outL id ls.flatten) := by
  unfold dropS
  split
  · next c => exact cutB_out c hd (firstB_hasL c)
  · next c =>
    have : hasL ls.flatten id = false := by
      cases e : hasL ls.flatten id with
      | false => rfl
      | true => exact absurd (firstB_has.2 e) c
    unfold outL
    rw [List.filter_eq_self.2]
    intro x hx
    have := hasL_false.1 this x hx
    simp [this]
end Go.Proofs.Ytboccihcomaaoaa

/- The document's own list: laying in, and settling, come to the same. Plain: nothing of the program. -/
import Derived.Test.YtchephglapnloaaLsmX
namespace Go.Proofs.Ytchephglapnloaa
open Go.Sort
set_option linter.unusedVariables false

/-- Where the document lays a block: behind those of a greater level. -/
structure LayAt (ls : List (List Ent)) (d : List Ent) (k : Nat) : Prop where
  le : k ≤ ls.length
  gt : ∀ i (hi : i < ls.length), i < k → lv d < lv ls[i]
  no : ∀ h : k < ls.length, ¬ lv d < lv ls[k]
def laid (ls : List (List Ent)) (d : List Ent) (k : Nat) : List (List Ent) := ls.take k ++ d :: ls.drop k
theorem LayAt.eq {P Q : List (List Ent)} {d : List Ent} {k : Nat} (h : LayAt (P ++ Q) d k) (hP : ∀ x ∈ P, lv d < lv x) (hQ : ∀ x ∈ Q, ¬ lv d < lv x) : k = P.length := by
  have h1 := h.le
  rw [List.length_append] at h1
  by_cases c1 : k < P.length
  · have := h.no (by simp; omega)
    rw [List.getElem_append_left c1] at this
    exact absurd (hP _ (List.getElem_mem c1)) this
  · by_cases c2 : P.length < k
    · have hl : P.length < (P ++ Q).length := by simp; omega
      have := h.gt P.length hl c2
      rw [List.getElem_append_right (Nat.le_refl _)] at this
      exact absurd this (hQ _ (List.getElem_mem _))
    · omega
theorem laid_mid (P Q : List (List Ent)) (d : List Ent) : laid (P ++ Q) d P.length = P ++ d :: Q := by
  unfold laid
  rw [List.take_left', List.drop_left'] <;> rfl

/-- One pair of one level at most; what comes of it in the end. -/
def Sett (ls T : List (List Ent)) : Prop := (Fall ls ∧ ls = T) ∨ ∃ pre x y suf, ls = pre ++ x :: y :: suf ∧ lv x = lv y ∧ Fall (pre ++ x :: suf) ∧ 0 < y.length ∧ layL pre (sortE (x ++ y)) ++ suf = T
theorem fall_mid {pre suf : List (List Ent)} {x m : List Ent} (h : Fall (pre ++ x :: suf)) (hp : ∀ z ∈ pre, lv m < lv z) (hx : lv x ≤ lv m) (hm : 0 < m.length) (hs : Srt m) : Fall (pre ++ m :: suf) := by
  have hf := List.pairwise_append.1 h.fall
  have hf2 := List.pairwise_cons.1 hf.2.1
  refine ⟨List.pairwise_append.2 ⟨hf.1, List.pairwise_cons.2 ⟨fun z hz => ?_, hf2.2⟩, fun a ha b hb => ?_⟩, fun d hd => ?_, fun d hd => ?_⟩
  · have := hf2.1 z hz; omega
  · rcases List.mem_cons.1 hb with rfl | hb
    · exact hp a ha
    · exact hf.2.2 a ha b (by simp [hb])
  · simp at hd
    rcases hd with hd | hd | hd
    · exact h.pos d (by simp [hd])
    · subst hd; exact hm
    · exact h.pos d (by simp [hd])
  · simp at hd
    rcases hd with hd | hd | hd
    · exact h.srt d (by simp [hd])
    · subst hd; exact hs
    · exact h.srt d (by simp [hd])
theorem sett_step {pre suf T : List (List Ent)} {x y : List Ent} {k : Nat} (hl : lv x = lv y) (h : Fall (pre ++ x :: suf)) (hy : 0 < y.length) (hT : layL pre (sortE (x ++ y)) ++ suf = T) (hk : LayAt (pre ++ suf) (sortE (x ++ y)) k) : Sett (laid (pre ++ suf) (sortE (x ++ y)) k) T := by
  have hf := List.pairwise_append.1 h.fall
  have hf2 := List.pairwise_cons.1 hf.2.1
  have hx : 0 < x.length := h.pos x (by simp)
  obtain ⟨m, hm⟩ : ∃ m, sortE (x ++ y) = m := ⟨_, rfl⟩
  have lm : lv m = lv y + 1 := by rw [← hm]; exact lv_two hx hy hl
  have pm : 0 < m.length := by rw [← hm, sortE_len, List.length_append]; omega
  have sm : Srt m := by rw [← hm]; exact sortE_srt _
  rw [hm] at hT hk ⊢
  have hsuf : ∀ z ∈ suf, ¬ lv m < lv z := fun z hz => by have := hf2.1 z hz; omega
  by_cases c : ∀ z ∈ pre, lv m < lv z
  · obtain rfl := hk.eq c hsuf
    rw [laid_mid]
    left
    refine ⟨fall_mid h c (by omega) pm sm, ?_⟩
    rw [← hT, layL_end c]
    simp
  · rcases List.eq_nil_or_concat pre with rfl | ⟨p, z, rfl⟩
    · exact absurd (fun z hz => by simp at hz) c
    · rw [List.concat_eq_append] at *
      have hz1 : lv x < lv z := hf.2.2 z (by simp) x (by simp)
      have hp := List.pairwise_append.1 hf.1
      have hz : lv z = lv m := by
        by_cases e : lv z = lv m
        · exact e
        · refine absurd (fun a ha => ?_) c
          rcases List.mem_append.1 ha with ha | ha
          · have := hp.2.2 a ha z (by simp); omega
          · simp at ha; subst ha; omega
      have hgt : ∀ a ∈ p, lv m < lv a := fun a ha => by have := hp.2.2 a ha z (by simp); omega
      have hq : ∀ a ∈ z :: suf, ¬ lv m < lv a := fun a ha => by
        rcases List.mem_cons.1 ha with rfl | ha
        · omega
        · exact hsuf a ha
      rw [show p ++ [z] ++ suf = p ++ (z :: suf) by simp] at hk ⊢
      obtain rfl := hk.eq hgt hq
      rw [laid_mid]
      right
      have h' : Fall (p ++ x :: suf) := h.sub (by
        rw [show p ++ [z] ++ x :: suf = p ++ (z :: x :: suf) by simp]
        exact List.Sublist.append_left (List.sublist_cons_self _ _) p)
      refine ⟨p, m, z, suf, rfl, hz.symm, fall_mid h' hgt (by omega) pm sm, h.pos z (by simp), ?_⟩
      rw [← hT, layL_eq hz, lv_sort_comm z m]
theorem sett_put {ls : List (List Ent)} (h : Fall ls) (e : Ent) : Sett (ls ++ [[e]]) (putL ls e) := by
  have l0 : lv [e] = 0 := lvl_zero (by simp)
  unfold putL
  rcases List.eq_nil_or_concat ls with rfl | ⟨p, z, rfl⟩
  · exact .inl ⟨putL_fall Fall.nil e, rfl⟩
  · rw [List.concat_eq_append] at *
    by_cases c : lv z = lv [e]
    · right
      exact ⟨p, z, [e], [], by simp, c, h, by simp, by rw [layL_eq c]; simp⟩
    · left
      have hg : lv [e] < lv z := by omega
      refine ⟨?_, by rw [layL_gt hg]⟩
      rw [← layL_gt hg]
      exact layL_fall h (by simp) (by simp [Srt])
theorem sett_lay {ks : List (List Ent)} {b : List Ent} {k : Nat} (h : Fall ks) (hb : 0 < b.length) (hs : Srt b) (hk : LayAt ks b k) : Sett (laid ks b k) (layL ks b) := by
  have hP : ∀ x ∈ ks.take k, lv b < lv x := fun x hx => by
    obtain ⟨i, hi, rfl⟩ := List.getElem_of_mem hx
    rw [List.length_take] at hi
    rw [List.getElem_take]
    exact hk.gt i (by omega) (by omega)
  have hle := hk.le
  have hno := hk.no
  have e0 : ks = ks.take k ++ ks.drop k := (List.take_append_drop k ks).symm
  obtain ⟨P, hPe⟩ : ∃ P, ks.take k = P := ⟨_, rfl⟩
  have hf := h.fall
  unfold laid
  cases hQ : ks.drop k with
  | nil =>
    rw [hQ, List.append_nil] at e0
    rw [hPe] at e0 hP ⊢
    rw [e0] at h ⊢
    left
    rw [layL_end hP]
    refine ⟨?_, rfl⟩
    rw [← layL_end hP]
    exact layL_fall h hb hs
  | cons z Q =>
    have hkl : k < ks.length := by
      have := congrArg List.length hQ
      rw [List.length_drop] at this
      simp at this
      omega
    have hz : ks[k] = z := by
      rw [List.drop_eq_getElem_cons hkl] at hQ
      injection hQ
    have hzl := hno hkl
    rw [hz] at hzl
    rw [hQ] at e0
    rw [hPe] at e0 hP ⊢
    rw [e0] at h ⊢
    have hf := List.pairwise_append.1 h.fall
    have hf2 := List.pairwise_cons.1 hf.2.1
    by_cases c : lv z = lv b
    · right
      have h' : Fall (P ++ b :: Q) := fall_mid h hP (by omega) hb hs
      refine ⟨P, b, z, Q, rfl, c.symm, h', h.pos z (by simp), ?_⟩
      rw [show P ++ z :: Q = (P ++ [z]) ++ Q by simp, layL_app (fun d hd => by have := hf2.1 d hd; omega), layL_eq c, lv_sort_comm z b]
    · left
      have hlt : ∀ d ∈ z :: Q, lv d < lv b := fun d hd => by
        rcases List.mem_cons.1 hd with rfl | hd
        · omega
        · have := hf2.1 d hd; omega
      have e : layL (P ++ z :: Q) b = P ++ b :: z :: Q := by rw [layL_app hlt, layL_end hP]; simp
      refine ⟨?_, e.symm⟩
      rw [← e]
      exact layL_fall h hb hs
theorem laid_len {ls : List (List Ent)} {d : List Ent} {k : Nat} (h : k ≤ ls.length) : (laid ls d k).length = ls.length + 1 := by
  unfold laid
  simp
  omega
theorem laid_flat {ls : List (List Ent)} {d : List Ent} {k : Nat} : (laid ls d k).flatten.length = ls.flatten.length + d.length := by
  unfold laid
  have := congrArg (fun l => List.length (List.flatten l)) (List.take_append_drop k ls)
  simp only [List.flatten_append, List.length_append, List.flatten_cons] at this ⊢
  omega
end Go.Proofs.Ytchephglapnloaa

/- wheel: Advance: what one round of its loop does. -/
import Derived.Test.YtbopobgnmkhabaaDoorWhV
namespace Go.Proofs.YtbopobgnmkhabaaDoor
open Go.RowKit Go.Lib Go.Sort Go.WideMaps Go.Maps
set_option linter.unusedVariables false

def dueL (thn : Nat) (d : List Ent) : List Ent := d.filter (fun x => decide (x.1 ≤ (thn : Int)))
def restL (thn : Nat) (d : List Ent) : List Ent := d.filter (fun x => decide ((thn : Int) < x.1))
theorem mem_due {thn : Nat} {d : List Ent} {x : Ent} : x ∈ dueL thn d ↔ x ∈ d ∧ x.1 ≤ (thn : Int) := by unfold dueL; simp
theorem mem_rest {thn : Nat} {d : List Ent} {x : Ent} : x ∈ restL thn d ↔ x ∈ d ∧ (thn : Int) < x.1 := by unfold restL; simp
/-- What holds ahead of a round. -/
structure AdvI (w : World) (B M base now thn : Nat) (T met : List Ent) (F : Nat → Prop) (mv : Value) (j : Nat) (dv : Value) (hd : Nat → Value) (u : Nat → Nat) (c : Nat → Nat → List Ent) (far : List Ent) (f : Int → Option Int) (n : Nat) (W : World) : Prop where
  wa : WhA W B M base hd thn u c far f n
  wl : WhL thn u c far (fun x => (x ∈ T ∧ ¬ taken now thn x) ∨ (x ∈ met.take j ∧ (thn : Int) < x.1))
  mp : ∀ i v, f i = some v ↔ (v, i) ∈ T ∧ ¬ ((v, i) ∈ met.take j ∧ v ≤ (thn : Int))
  cnt : n + (dueL thn (met.take j)).length = T.length
  due : OwnF W w.heap.size dv (dueL thn (met.take j))
  met : OwnF W w.heap.size mv met
  fr : Fr F w W
  ft : ∀ k, foot B M hd k → F k ∨ w.heap.size ≤ k
  rm : ∀ k, rowB mv = some k → w.heap.size ≤ k ∧ ¬ foot B M hd k
  rd : ∀ k, rowB dv = some k → w.heap.size ≤ k ∧ ¬ foot B M hd k ∧ rowB mv ≠ some k
variable {w : World} {B M base now thn : Nat} {T met : List Ent} {F : Nat → Prop} {mv : Value} {j : Nat} {dv : Value} {hd : Nat → Value} {u : Nat → Nat} {c : Nat → Nat → List Ent} {far : List Ent} {f : Int → Option Int} {n : Nat} {W W' : World}
theorem AdvI.below (h : AdvI w B M base now thn T met F mv j dv hd u c far f n W) (hw : Below W.heap.size W W') : AdvI w B M base now thn T met F mv j dv hd u c far f n W' :=
  ⟨h.wa.fr (Fr.below (X := fun _ => False) hw) (fun _ _ => id), h.wl, h.mp, h.cnt, h.due.below hw, h.met.below hw, h.fr.trans (Fr.below (X := fun _ => False) hw) (fun k hk => hk.elim), h.ft, h.rm, h.rd⟩
theorem take_mem {met : List Ent} (hn : met.Nodup) {j : Nat} (hj : j < met.length) (x : Ent) : x ∈ met.take (j + 1) ↔ x ∈ met.take j ∨ x = met[j] := by
  rw [List.take_succ_eq_append_getElem hj, List.mem_append, List.mem_singleton]
theorem not_take {met : List Ent} (hn : met.Nodup) {j : Nat} (hj : j < met.length) : met[j] ∉ met.take j := fun hx => by
  obtain ⟨i, hi, e⟩ := List.getElem_of_mem hx
  rw [List.length_take] at hi
  rw [List.getElem_take] at e
  exact List.pairwise_iff_getElem.1 hn i j (by omega) hj (by omega) e
/-- One that is not due yet goes back. -/
theorem AdvI.put (h : AdvI w B M base now thn T met F mv j dv hd u c far f n W) (hn : met.Nodup) (hm : ∀ x, x ∈ met ↔ x ∈ T ∧ taken now thn x) (hj : j < met.length) {D : Nat} (hD : met[j].1 = (D : Int)) (hDb : D < B64) (hlt : thn < D)
    (hP : WGo W B M base hd thn f n (PutP thn D met[j] u c far) W') : ∃ hd' u' c' far', AdvI w B M base now thn T met F mv (j + 1) dv hd' u' c' far' f n W' := by
  obtain ⟨hd', u', c', far', q1, q2, q3, q4⟩ := hP
  have hx := (hm _).1 (List.getElem_mem hj)
  have nS : ¬ ((met[j] ∈ T ∧ ¬ taken now thn met[j]) ∨ (met[j] ∈ met.take j ∧ (thn : Int) < met[j].1)) := by
    rintro (⟨_, h2⟩ | ⟨h1, _⟩)
    · exact h2 hx.2
    · exact not_take hn hj h1
  have hdl : dueL thn (met.take (j + 1)) = dueL thn (met.take j) := by
    rw [List.take_succ_eq_append_getElem hj]
    unfold dueL
    rw [List.filter_append]
    have : ¬ met[j].1 ≤ (thn : Int) := by omega
    simp [this]
  have hs : w.heap.size ≤ W.heap.size := h.fr.size
  refine ⟨hd', u', c', far', q1, (h.wl.put q2 hD hDb nS).congr (fun x => ?_), fun i v => ?_, by rw [hdl]; exact h.cnt, ?_, ?_, h.fr.trans q3 h.ft, fun k hk => ?_, fun k hk => ⟨(h.rm k hk).1, fun hf => ?_⟩, fun k hk => ⟨(h.rd k hk).1, fun hf => ?_, (h.rd k hk).2.2⟩⟩
  · rw [take_mem hn hj]
    constructor
    · rintro ((h1 | h1) | rfl)
      · exact .inl h1
      · exact .inr ⟨.inl h1.1, h1.2⟩
      · exact .inr ⟨.inr rfl, by omega⟩
    · rintro (h1 | ⟨h1 | h1, h2⟩)
      · exact .inl (.inl h1)
      · exact .inl (.inr ⟨h1, h2⟩)
      · exact .inr h1
  · rw [h.mp, take_mem hn hj]
    constructor
    · rintro ⟨h1, h2⟩
      refine ⟨h1, ?_⟩
      rintro ⟨h3 | h3, h4⟩
      · exact h2 ⟨h3, h4⟩
      · have : v = (D : Int) := by rw [← hD, ← h3]
        omega
    · rintro ⟨h1, h2⟩
      exact ⟨h1, fun h3 => h2 ⟨.inl h3.1, h3.2⟩⟩
  · rw [hdl]
    exact h.due.fr q3 (fun k hk => (h.rd k hk).2.1)
  · exact h.met.fr q3 (fun k hk => (h.rm k hk).2)
  · rcases q4 k hk with x | x
    · exact h.ft k x
    · right; omega
  · rcases q4 k hf with x | x
    · exact (h.rm k hk).2 x
    · have := (h.met.rowLt hk).2; omega
  · rcases q4 k hf with x | x
    · exact (h.rd k hk).2.1 x
    · have := (h.due.rowLt hk).2; omega
/-- One that is due is told. -/
theorem AdvI.tell (h : AdvI w B M base now thn T met F mv j dv hd u c far f n W) (hn : met.Nodup) (hm : ∀ x, x ∈ met ↔ x ∈ T ∧ taken now thn x) (hids : (T.map Prod.snd).Nodup) (hj : j < met.length) (hle : met[j].1 ≤ (thn : Int)) {W1 W2 W3 : World} {m : Nat} {dv' : Value} (hnm : n = m + 1)
    (hmap : DuM W1 M (fdel f met[j].2) m) (hg : W.grownBy W1 (some M)) (hb : Below W1.heap.size W1 W2) (ho : OwnF W3 w.heap.size dv' (dueL thn (met.take j) ++ [met[j]])) (hg3 : W2.grownBy W3 (rowB dv)) (hr : ∀ k, rowB dv' = some k → rowB dv = some k ∨ W2.heap.size ≤ k) :
    AdvI w B M base now thn T met F mv (j + 1) dv' hd u c far (fdel f met[j].2) m W3 := by
  have hx := (hm _).1 (List.getElem_mem hj)
  have fM : Fr (fun k => k = M) W W1 := (Fr.of_grown hg).mono (fun i hi => by injection hi with hi; exact hi.symm)
  have wa1 := h.wa.mapSet hmap hg
  have wa2 : WhA W2 B M base hd thn u c far (fdel f met[j].2) m := wa1.fr (Fr.below (X := fun _ => False) hb) (fun _ _ => id)
  have f3 : Fr (fun k => rowB dv = some k) W2 W3 := Fr.of_grown hg3
  have f12 : Fr (fun k => k = M) W W2 := fM.trans (Fr.below (X := fun _ => False) hb) (fun k hk => hk.elim)
  have hs : w.heap.size ≤ W.heap.size := h.fr.size
  have hs2 : W.heap.size ≤ W2.heap.size := f12.size
  have hdl : dueL thn (met.take (j + 1)) = dueL thn (met.take j) ++ [met[j]] := by
    rw [List.take_succ_eq_append_getElem hj]
    unfold dueL
    rw [List.filter_append]
    simp [hle]
  refine ⟨wa2.fr f3 (fun k hk hx => (h.rd k hx).2.1 hk), h.wl.congr (fun x => ?_), fun i v => ?_, by rw [hdl, List.length_append]; have := h.cnt; simp; omega, by rw [hdl]; exact ho, ?_, (h.fr.trans f12 (fun k hk => by rw [hk]; exact h.ft M (.inr (.inl rfl)))).trans f3 (fun k hk => .inr (h.rd k hk).1), h.ft, h.rm, fun k hk => ?_⟩
  · rw [take_mem hn hj]
    constructor
    · rintro (h1 | h1)
      · exact .inl h1
      · exact .inr ⟨.inl h1.1, h1.2⟩
    · rintro (h1 | ⟨h1 | h1, h2⟩)
      · exact .inl h1
      · exact .inr ⟨h1, h2⟩
      · rw [h1] at h2; omega
  · unfold fdel
    by_cases e : i = met[j].2
    · rw [if_pos e]
      constructor
      · intro h1; cases h1
      · rintro ⟨h1, h2⟩
        have h3 := ids_inj hids h1 hx.1 e
        exact absurd ⟨(take_mem hn hj _).2 (.inr h3), by rw [show v = met[j].1 by rw [← h3]]; exact hle⟩ h2
    · rw [if_neg e, h.mp, take_mem hn hj]
      constructor
      · rintro ⟨h1, h2⟩
        refine ⟨h1, ?_⟩
        rintro ⟨h3 | h3, h4⟩
        · exact h2 ⟨h3, h4⟩
        · exact e (by rw [← h3])
      · rintro ⟨h1, h2⟩
        exact ⟨h1, fun h3 => h2 ⟨.inl h3.1, h3.2⟩⟩
  · have m2 : OwnF W2 w.heap.size mv met := h.met.fr f12 (fun k hk e => (h.rm k hk).2 (by rw [e]; exact .inr (.inl rfl)))
    exact m2.fr f3 (fun k hk hx => (h.rd k hx).2.2 hk)
  · rcases hr k hk with x | x
    · exact h.rd k x
    · refine ⟨by omega, fun hf => ?_, fun hf => ?_⟩
      · have := (wa2.footLt hf).2; omega
      · have := (h.met.rowLt hf).2; omega
theorem AdvI.start {w : World} {k : Nat} {T : List Ent} {mv : Value} {hd0 hd : Nat → Value} {u : Nat → Nat} {c : Nat → Nat → List Ent} {far : List Ent} {f : Int → Option Int} {u1 : Nat → Nat} {c1 : Nat → Nat → List Ent} {far1 : List Ent}
    (wa : WhA W B M base hd thn u1 c1 far1 f T.length) (wl : WhL thn u1 c1 far1 (fun x => x ∈ T ∧ ¬ taken now thn x)) (hm : ∀ i v, f i = some v ↔ (v, i) ∈ T) (ho : OwnF W w.heap.size mv met) (hf : Fr (fun k => k = B) w W) (h0 : WhA w B M base hd0 now u c far f T.length) (hft : ∀ k, foot B M hd k → foot B M hd0 k) (hr : ∀ k, rowB mv = some k → w.heap.size ≤ k) (hF : ∀ k, F k ↔ foot B M hd0 k) :
    AdvI w B M base now thn T met F mv 0 (.slice none 0 0) hd u1 c1 far1 f T.length W := by
  have ff : ∀ k, foot B M hd k → F k := fun k hk => (hF k).2 (hft k hk)
  refine ⟨wa, wl.congr (fun x => ?_), fun i v => ?_, by simp [dueL], by simp [dueL]; exact OwnF.nil _ _, ho, hf.mono (fun k hk => by rw [hk]; exact (hF B).2 (.inl rfl)), fun k hk => .inl (ff k hk), fun k hk => ⟨hr k hk, fun h => ?_⟩, fun k hk => by cases hk⟩
  · simp
  · rw [hm]; simp
  · have := (h0.footLt (hft k h)).2
    have := hr k hk
    omega
/-- Behind the last one. -/
theorem AdvI.done (h : AdvI w B M base now thn T met F mv met.length dv hd u c far f n W) (hn : met.Nodup) (hm : ∀ x, x ∈ met ↔ x ∈ T ∧ taken now thn x) (hT : TOk T) (hrng : ∀ x ∈ T, ∃ D : Nat, x.1 = (D : Int) ∧ D < B64) (hnt : now ≤ thn) :
    sortE (dueL thn met) = dueL thn T ∧ (∀ W', W.grownBy W' (rowB dv) → WIs w F B base thn (restL thn T) W') := by
  have hlate : ∀ x, x ∈ T → ¬ taken now thn x → (thn : Int) < x.1 := fun x hx ht => by
    obtain ⟨D, h1, h2⟩ := hrng x hx
    have := (not_taken hnt h.wa.nb (by omega) ht).1
    omega
  have e1 : met.take met.length = met := List.take_length
  have hTn := nodup_of_ids hT.ids
  have p1 : (dueL thn met).Perm (dueL thn T) := perm_of_mem (hn.filter _) (hTn.filter _) (fun x => by
    rw [mem_due, mem_due, hm]
    constructor
    · rintro ⟨⟨h1, _⟩, h2⟩; exact ⟨h1, h2⟩
    · rintro ⟨h1, h2⟩
      refine ⟨⟨h1, Classical.byContradiction fun ht => ?_⟩, h2⟩
      have := hlate x h1 ht
      omega)
  refine ⟨((sortE_of (hT.srt.filt _) p1.symm).symm), fun W' hg => ?_⟩
  have hf : Fr (fun k => rowB dv = some k) W W' := Fr.of_grown hg
  have wl := h.wl
  have mp := h.mp
  have cnt := h.cnt
  rw [e1] at wl mp cnt
  have hlen : n = (restL thn T).length := by
    have h1 : (restL thn T).length + (dueL thn T).length = T.length := by
      unfold restL dueL
      rw [← List.countP_eq_length_filter, ← List.countP_eq_length_filter]
      have := List.length_eq_countP_add_countP (fun x : Ent => decide ((thn : Int) < x.1)) (l := T)
      rw [this]
      congr 1
      apply List.countP_congr
      intro x _
      simp
    rw [p1.length_eq] at cnt
    omega
  refine ⟨foot B M hd, ⟨M, hd, u, c, far, f, ?_, wl.congr (fun x => ?_), fun i v => ?_, ⟨hT.srt.filt _, List.Pairwise.sublist (List.filter_sublist.map Prod.snd) hT.ids, fun x hx => hT.wf x (mem_rest.1 hx).1, Nat.le_trans (List.length_filter_le _ _) hT.len⟩, fun k => Iff.rfl⟩, h.fr.trans hf (fun k hk => .inr (h.rd k hk).1), h.ft⟩
  · rw [← hlen]; exact h.wa.fr hf (fun k hk hx => (h.rd k hx).2.1 hk)
  · rw [mem_rest]
    constructor
    · rintro (⟨h1, h2⟩ | ⟨h1, h2⟩)
      · exact ⟨h1, hlate x h1 h2⟩
      · exact ⟨((hm x).1 h1).1, h2⟩
    · rintro ⟨h1, h2⟩
      by_cases ht : taken now thn x
      · exact .inr ⟨(hm x).2 ⟨h1, ht⟩, h2⟩
      · exact .inl ⟨h1, ht⟩
  · rw [mp, mem_rest]
    constructor
    · rintro ⟨h1, h2⟩
      refine ⟨h1, Classical.byContradiction fun h3 => h2 ⟨?_, by show v ≤ _; have : ¬ (thn : Int) < v := h3; omega⟩⟩
      exact (hm _).2 ⟨h1, Classical.byContradiction fun ht => h3 (hlate _ h1 ht)⟩
    · rintro ⟨h1, h2⟩
      refine ⟨h1, fun h3 => ?_⟩
      have h4 : (thn : Int) < v := h2
      have := h3.2
      omega
end Go.Proofs.YtbopobgnmkhabaaDoor

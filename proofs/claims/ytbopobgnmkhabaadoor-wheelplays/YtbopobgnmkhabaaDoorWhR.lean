/- A wheel that has the timers T: New, Now, Len, Due, Add, Cancel. -/
import Derived.Test.YtbopobgnmkhabaaDoorWhQ
namespace Go.Proofs.YtbopobgnmkhabaaDoor
open Go.RowKit Go.Lib Go.Sort Go.WideMaps Go.Maps
set_option linter.unusedVariables false

/-- Timers that may be: in order, no ID twice. -/
structure TOk (T : List Ent) : Prop where
  srt : Srt T
  ids : (T.map Prod.snd).Nodup
  wf : ∀ x ∈ T, wfI x.2
  len : T.length ≤ 1000
/-- At B lies a wheel: it is now, it has the timers T; F: its blocks. -/
def Whl (w : World) (F : Nat → Prop) (B base now : Nat) (T : List Ent) : Prop :=
  ∃ M hd u c far f, WhA w B M base hd now u c far f T.length ∧ WhL now u c far (fun x => x ∈ T) ∧ (∀ i v, f i = some v ↔ (v, i) ∈ T) ∧ TOk T ∧ ∀ k, F k ↔ foot B M hd k
/-- What a call of it leaves. -/
def WIs (w : World) (F : Nat → Prop) (B base now : Nat) (T : List Ent) (w' : World) : Prop := ∃ F', Whl w' F' B base now T ∧ Fr F w w' ∧ ∀ k, F' k → F k ∨ w.heap.size ≤ k
variable {w w' : World} {F : Nat → Prop} {B base now : Nat} {T : List Ent}
theorem Whl.low (h : Whl w F B base now T) : ∀ k, F k → base ≤ k ∧ k < w.heap.size := fun k hk => by
  obtain ⟨M, hd, u, c, far, f, h1, h2, h3, h4, h5⟩ := h
  exact h1.footLt ((h5 k).1 hk)
theorem Whl.hasB (h : Whl w F B base now T) : F B := by
  obtain ⟨M, hd, u, c, far, f, h1, h2, h3, h4, h5⟩ := h
  exact (h5 B).2 (.inl rfl)
theorem Whl.blt (h : Whl w F B base now T) : base ≤ B ∧ B < w.heap.size := h.low B h.hasB
theorem Whl.fr (h : Whl w F B base now T) {X : Nat → Prop} (hf : Fr X w w') (hx : ∀ k, F k → ¬ X k) : Whl w' F B base now T := by
  obtain ⟨M, hd, u, c, far, f, h1, h2, h3, h4, h5⟩ := h
  exact ⟨M, hd, u, c, far, f, h1.fr hf (fun k hk => hx k ((h5 k).2 hk)), h2, h3, h4, h5⟩
theorem Whl.below (h : Whl w F B base now T) (hw : Below w.heap.size w w') : Whl w' F B base now T := h.fr (Fr.below (X := fun _ => False) hw) (fun _ _ => id)
theorem Whl.ok (h : Whl w F B base now T) : TOk T := by
  obtain ⟨M, hd, u, c, far, f, h1, h2, h3, h4, h5⟩ := h
  exact h4
theorem Whl.rng (h : Whl w F B base now T) : now < B64 ∧ ∀ x ∈ T, ∃ D : Nat, x.1 = (D : Int) ∧ D < B64 := by
  obtain ⟨M, hd, u, c, far, f, h1, h2, h3, h4, h5⟩ := h
  exact ⟨h1.nb, h2.rng⟩
theorem WIs.same (h : Whl w F B base now T) : WIs w F B base now T w := ⟨F, h, Fr.refl _ _, fun k hk => .inl hk⟩
theorem WIs.below (h : Whl w F B base now T) (hw : Below w.heap.size w w') : WIs w F B base now T w' := ⟨F, h.below hw, Fr.below hw, fun k hk => .inl hk⟩
theorem WIs.then (h : WIs w F B base now T w') {w'' : World} (hw : Below w'.heap.size w' w'') : WIs w F B base now T w'' := by
  obtain ⟨F', h1, h2, h3⟩ := h
  exact ⟨F', h1.below hw, h2.trans (Fr.below (X := fun _ => False) hw) (fun j hj => hj.elim), h3⟩
theorem len_le {d : List Ent} (hd : d.Nodup) (hs : ∀ x ∈ d, x ∈ T) (hT : T.length ≤ 1000) : d.length ≤ 1000 := Nat.le_trans (List.Nodup.length_le_of_subset hd hs) hT
/-- The timer of an ID. -/
def dueOf : List Ent → Int → Option Int
  | [], _ => none
  | x :: T, i => if x.2 = i then some x.1 else dueOf T i
theorem dueOf_some : ∀ {T : List Ent} {i v : Int}, dueOf T i = some v → (v, i) ∈ T
  | [], i, v, h => by cases h
  | x :: T, i, v, h => by
    unfold dueOf at h
    split at h
    · next e => injection h with h; subst h; subst e; exact List.mem_cons_self
    · exact List.mem_cons_of_mem _ (dueOf_some h)
theorem dueOf_none : ∀ {T : List Ent} {i : Int}, dueOf T i = none → ∀ v, (v, i) ∉ T
  | [], i, h, v => by simp
  | x :: T, i, h, v => by
    unfold dueOf at h
    split at h
    · cases h
    · next e =>
      intro hx
      rcases List.mem_cons.1 hx with hx | hx
      · exact e (by rw [← hx])
      · exact dueOf_none h v hx
theorem dueOf_mem {T : List Ent} (h : (T.map Prod.snd).Nodup) {i v : Int} (hx : (v, i) ∈ T) : dueOf T i = some v := by
  cases e : dueOf T i with
  | none => exact absurd hx (dueOf_none e v)
  | some v' =>
    have := ids_inj h hx (dueOf_some e) rfl
    injection this with h1 _
    rw [h1]
theorem map_dueOf {f : Int → Option Int} (hm : ∀ i v, f i = some v ↔ (v, i) ∈ T) (h : (T.map Prod.snd).Nodup) (i : Int) : f i = dueOf T i := by
  cases e : dueOf T i with
  | none =>
    cases e2 : f i with
    | none => rfl
    | some v => exact absurd ((hm i v).1 e2) (dueOf_none e v)
  | some v => exact (hm i v).2 (dueOf_some e)

/- New. -/
def isNil : Option Value → Bool
  | some (.slice none 0 0) => true
  | _ => false
def isZero : Option Value → Bool
  | some (.int .u64 0) => true
  | _ => false
theorem isNil_eq {v : Option Value} (h : isNil v = true) : v = some (.slice none 0 0) := by
  unfold isNil at h
  split at h
  · rfl
  · cases h
theorem isZero_eq {v : Option Value} (h : isZero v = true) : v = some (.int .u64 0) := by
  unfold isZero at h
  split at h
  · rfl
  · cases h
theorem zc_size : Tryd.zeroCells61.size = 263 := by kernel_rfl
theorem zc_used : (List.range 4).all (fun l => isZero Tryd.zeroCells61[2 + l * 65]?) = true := by kernel_rfl
theorem zc_slot : (List.range 4).all (fun l => (List.range 64).all (fun s => isNil Tryd.zeroCells61[2 + l * 65 + 1 + s]?)) = true := by kernel_rfl
theorem zc_far : isNil Tryd.zeroCells61[262]? = true := by kernel_rfl
set_option maxRecDepth 100000 in
set_option maxHeartbeats 1000000 in
theorem new_any (now : Nat) (hn : now < B64) (w : World) :
    Calls Tryd.prog 9 #[.int .u64 now] w fun e w' => e = .returned (.pointer (some ⟨w.heap.size + 1, 0, none⟩)) ∧ Below w.heap.size w w' ∧ ∃ F, Whl w' F (w.heap.size + 1) w.heap.size now [] ∧ ∀ k, F k → w.heap.size ≤ k := by
  have hmm := @run_makeMap Tryd.prog
  obtain ⟨S, hS⟩ : ∃ S, w.heap.size = S := ⟨_, rfl⟩
  obtain ⟨cs, hcs⟩ : ∃ cs, (Tryd.zeroCells61.setIfInBounds 0 (.int .u64 now)).setIfInBounds 1 (.map (some S)) = cs := ⟨_, rfl⟩
  obtain ⟨w2, hw2⟩ : ∃ w2, (w.alloc (.map #[] 0)).alloc (.cells cs 61) = w2 := ⟨_, rfl⟩
  have b1 : Below w.heap.size w (w.alloc (.map #[] 0)) := (Below.refl _ _).alloc (Nat.le_refl _) _
  have b2 : Below w.heap.size w w2 := by rw [← hw2]; exact b1.alloc b1.size _
  have hsz : cs.size = 263 := by rw [← hcs, Array.size_setIfInBounds, Array.size_setIfInBounds]; exact zc_size
  have cell : ∀ k, 2 ≤ k → cs[k]? = Tryd.zeroCells61[k]? := fun k hk => by
    rw [← hcs, Array.getElem?_setIfInBounds, if_neg (by omega), Array.getElem?_setIfInBounds, if_neg (by omega)]
  have c0 : cs[0]? = some (.int .u64 now) := by
    rw [← hcs, Array.getElem?_setIfInBounds, if_neg (by omega), Array.getElem?_setIfInBounds, if_pos rfl, if_pos (by rw [zc_size]; omega)]
  have c1 : cs[1]? = some (.map (some S)) := by
    rw [← hcs, Array.getElem?_setIfInBounds, if_pos rfl, if_pos (by rw [Array.size_setIfInBounds, zc_size]; omega)]
  have cu : ∀ l, l < 4 → cs[2 + l * 65]? = some (.int .u64 0) := fun l hl => by
    rw [cell _ (by omega)]; exact isZero_eq (List.all_eq_true.1 zc_used l (List.mem_range.2 hl))
  have cl : ∀ l s, l < 4 → s < 64 → cs[2 + l * 65 + 1 + s]? = some (.slice none 0 0) := fun l s hl hs => by
    rw [cell _ (by omega)]; exact isNil_eq (List.all_eq_true.1 (List.all_eq_true.1 zc_slot l (List.mem_range.2 hl)) s (List.mem_range.2 hs))
  have cf : cs[262]? = some (.slice none 0 0) := by rw [cell _ (by omega)]; exact isNil_eq zc_far
  have hB : w2.heap[S + 1]? = some (.cells cs 61 (0, 0)) := by
    rw [← hw2, ← hS]; have := heap_alloc_new (w.alloc (.map #[] 0)) (.cells cs 61); simpa using this
  have hM : w2.heap[S]? = (w.alloc (.map #[] 0)).heap[S]? := by rw [← hw2]; exact heap_alloc_old _ _ (by rw [← hS]; simp)
  have dm : DuM w2 S (fun _ => none) 0 := by
    have := DuM.made w
    rw [hS] at this
    exact this.of_block hM
  have wa : WhA w2 (S + 1) S S (fun k => (cs[k]?).getD undef) now (fun _ => 0) (fun _ _ => []) [] (fun _ => none) 0 := by
    have rb : ∀ i, i < 263 → rowB ((cs[i]?).getD undef) = none := fun i hi => by
      rcases cellCase i hi with rfl | rfl | ⟨l, hl, rfl⟩ | ⟨l, s, hl, hs, rfl⟩ | rfl
      · rw [c0]; rfl
      · rw [c1]; rfl
      · rw [cu l hl]; rfl
      · rw [cl l s hl hs]; rfl
      · rw [cf]; rfl
    refine ⟨⟨cs, hB, hsz, fun k hk => (by show cs[k]? = some ((cs[k]?).getD undef); rw [Array.getElem?_eq_getElem (by omega)]; rfl)⟩, by rw [c0]; rfl, by rw [c1]; rfl, fun l hl => (by rw [cu l hl]; rfl), fun l s hl hs => (by rw [cl l s hl hs]; exact OwnF.nil _ _), by rw [cf]; exact OwnF.nil _ _, dm, fun i j hi hj _ k hk => (by rw [rb i hi] at hk; cases hk), fun l hl => (by decide), hn, by omega, Nat.le_refl _⟩
  have wl : WhL now (fun _ => 0) (fun _ _ => []) [] (fun x => x ∈ ([] : List Ent)) :=
    ⟨fun x hx => (by cases hx), fun l s _ _ x => (by simp), fun _ _ _ _ => (by simp), fun x => (by simp), Srt.nil, by simp, fun l s _ _ => (by simp)⟩
  have FIN : Aside (Below w.heap.size w w2 ∧ ∃ F, Whl w2 F (S + 1) S now [] ∧ ∀ k, F k → S ≤ k) :=
    ⟨b2, foot (S + 1) S (fun k => (cs[k]?).getD undef), ⟨S, _, _, _, _, _, wa, wl, fun i v => (by simp), ⟨Srt.nil, by simp, fun x hx => (by cases hx), by simp⟩, fun k => Iff.rfl⟩, fun k hk => (wa.footLt hk).1⟩
  have HW2 : Hid _ := hw2
  have HCS : Hid _ := hcs
  clear b1 b2 hsz cell c0 c1 cu cl cf hB hM dm wa wl hw2 hcs hn
  rw [hS]
  go_enter Tryd.func9, Tryd.ntmps9
  go_wp2
  rw [HCS.out, HW2.out]
  go_ret
  refine ⟨rfl, by rw [← hS]; exact FIN.out.1, FIN.out.2⟩

/- Now, Len, Due. -/
set_option maxHeartbeats 400000 in
theorem now_any (h : Whl w F B base now T) : Calls Tryd.prog 13 #[.pointer (some ⟨B, 0, none⟩)] w fun e w' => e = .returned (.int .u64 now) ∧ w' = w := by
  obtain ⟨M, hd, u, c, far, f, h1, h2, h3, h4, h5⟩ := h
  have c0 := h1.head.cell (k := 0) (by omega)
  rw [h1.h0] at c0
  clear h1 h2 h3 h4 h5
  go_enter Tryd.func13, Tryd.ntmps13
  go_wp2
  go_ret
  exact ⟨rfl, rfl⟩
set_option maxHeartbeats 400000 in
theorem wlen_any (h : Whl w F B base now T) : Calls Tryd.prog 12 #[.pointer (some ⟨B, 0, none⟩)] w fun e w' => e = .returned (.int .i64 (T.length : Nat)) ∧ w' = w := by
  obtain ⟨M, hd, u, c, far, f, h1, h2, h3, h4, h5⟩ := h
  have c1 := h1.head.cell (k := 1) (by omega)
  rw [h1.h1] at c1
  have hl := fun ty => h1.map.len ty
  clear h1 h2 h3 h4 h5
  go_enter Tryd.func12, Tryd.ntmps12
  go_wp2
  go_ret
  exact ⟨rfl, rfl⟩
def dueV (T : List Ent) (i : Int) : Value := .tuple #[.int .u64 ((dueOf T i).getD 0), .bool (dueOf T i).isSome]
set_option maxHeartbeats 400000 in
theorem due_any (h : Whl w F B base now T) {i : Int} (wi : wfI i) : Calls Tryd.prog 21 #[.pointer (some ⟨B, 0, none⟩), .int .i64 i] w fun e w' => e = .returned (dueV T i) ∧ w' = w := by
  obtain ⟨M, hd, u, c, far, f, h1, h2, h3, h4, h5⟩ := h
  have c1 := h1.head.cell (k := 1) (by omega)
  rw [h1.h1] at c1
  have hf := map_dueOf h3 h4.ids i
  have hl : (Instr.lookup 55 (.map (some M)) (.int .i64 i) true).run Tryd.prog w = .ok (.tuple #[.int .u64 ((dueOf T i).getD 0), .bool (dueOf T i).isSome]) w := by
    cases e : dueOf T i with
    | none => rw [e] at hf; exact h1.map.look_no wi hf
    | some v => rw [e] at hf; exact h1.map.look wi hf
  unfold dueV
  obtain ⟨X, hX⟩ : ∃ X, (dueOf T i).getD 0 = X := ⟨_, rfl⟩
  obtain ⟨Y, hY⟩ : ∃ Y, (dueOf T i).isSome = Y := ⟨_, rfl⟩
  rw [hX, hY] at hl ⊢
  clear h1 h2 h3 h4 h5 hf hX hY
  go_enter Tryd.func21, Tryd.ntmps21
  go_wp2
  refine bodyPost_ret (v := .tuple #[.int .u64 X, .bool Y]) (by simp [results, Tryd.results21, go_sem]) rfl ⟨rfl, rfl⟩
end Go.Proofs.YtbopobgnmkhabaaDoor

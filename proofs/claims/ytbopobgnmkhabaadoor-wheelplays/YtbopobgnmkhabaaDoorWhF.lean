/- A wheel in the heap: its head, its map, its slots and its far list; what a turn of one of them leaves of the whole. -/
import Derived.Test.YtbopobgnmkhabaaDoorWhE
import Derived.Maps.OwnSet
import Derived.Maps.Keyed
import Derived.Maps.AppendAt
namespace Go.Proofs.YtbopobgnmkhabaaDoor
open Go.RowKit Go.Lib Go.Sort Go.WideMaps Go.Maps
set_option linter.unusedVariables false

/- The map of due ticks. -/
theorem keyedI : Keyed Tryd.prog 3 := int_keyed Tryd.underlying3
abbrev wfI (a : Int) : Prop := (Lit.int .i64 a).wf = true
theorem key_int {a : Int} (wa : wfI a) : keyOf Tryd.prog 3 (.int .i64 a) = some (.int .i64 a) := keyOf_int_mk Tryd.underlying3 wa
def heldR (v : Value) : Option (DataW Value × List MemPlace) := some (.held v, [])
theorem zeroU (w : World) : (zeroValue 25).run Tryd.prog w = .ok (.int .u64 0) w := by kernel_rfl
/-- At M lies a map of n entries: what it leads to. -/
def DuM (w : World) (M : Nat) (f : Int → Option Int) (n : Nat) : Prop :=
  ∃ D : DataW Value, w.ownsMap Tryd.prog 3 heldR M n D ∧ Maps.size D = n ∧ ∀ i, wfI i → Maps.has D (.int .i64 i) = (f i).isSome ∧ ∀ v, f i = some v → ∀ z, D.atKey (.int .i64 i) z = .held (.int .u64 v)
theorem own_tight {w : World} {M n : Nat} {D : DataW Value} (h : w.ownsMap Tryd.prog 3 heldR M n D) : w.ownsMap Tryd.prog 3 heldR M (Maps.size D) D := by
  obtain ⟨es, cl, h1, h2, h3, rfl⟩ := h
  exact ⟨es, cl, h1, h2, by simp [Maps.size, length_sorted], rfl⟩
theorem DuM.lt {w : World} {M n : Nat} {f : Int → Option Int} (h : DuM w M f n) : M < w.heap.size := by
  obtain ⟨D, h1, _⟩ := h
  exact h1.lt
theorem DuM.isMap {w : World} {M n : Nat} {f : Int → Option Int} (h : DuM w M f n) : ∃ es c, w.heap[M]? = some (.map es c) := by
  obtain ⟨D, ⟨es, c, hb, _⟩, _⟩ := h
  exact ⟨es, c, hb⟩
theorem DuM.of_block {w w' : World} {M n : Nat} {f : Int → Option Int} (h : DuM w M f n) (e : w'.heap[M]? = w.heap[M]?) : DuM w' M f n := by
  obtain ⟨D, ⟨es, c, hb, r⟩, h3⟩ := h
  exact ⟨D, ⟨es, c, e.trans hb, r⟩, h3⟩
theorem DuM.made (w : World) : DuM (w.alloc (.map #[] 0)) w.heap.size (fun _ => none) 0 :=
  ⟨.map [], World.ownsMap_made w _ _ _, rfl, fun i _ => ⟨rfl, fun v hv => by cases hv⟩⟩
theorem DuM.look {w : World} {M n : Nat} {f : Int → Option Int} (h : DuM w M f n) {i : Int} (wi : wfI i) {v : Int} (hv : f i = some v) :
    (Instr.lookup 55 (.map (some M)) (.int .i64 i) true).run Tryd.prog w = .ok (.tuple #[.int .u64 v, .bool true]) w := by
  obtain ⟨D, h1, h2, h3⟩ := h
  obtain ⟨v', ps, hr, hv'⟩ := h1.look_ok keyedI Tryd.underlying55 (zeroU w) (zd := .held (.int .u64 0)) (zp := []) rfl (key_int wi)
  rw [((h3 i wi).2 v hv) _] at hv'
  rw [(h3 i wi).1, hv] at hr
  unfold heldR at hv'
  simp only [Option.some.injEq, Prod.mk.injEq, DataW.held.injEq] at hv'
  rw [← hv'.1]
  exact hr
theorem DuM.look_no {w : World} {M n : Nat} {f : Int → Option Int} (h : DuM w M f n) {i : Int} (wi : wfI i) (hv : f i = none) :
    (Instr.lookup 55 (.map (some M)) (.int .i64 i) true).run Tryd.prog w = .ok (.tuple #[.int .u64 0, .bool false]) w := by
  obtain ⟨D, h1, h2, h3⟩ := h
  obtain ⟨v', ps, hr, hv'⟩ := h1.look_ok keyedI Tryd.underlying55 (zeroU w) (zd := .held (.int .u64 0)) (zp := []) rfl (key_int wi)
  have hh := (h3 i wi).1
  rw [hv] at hh
  rw [Maps.atKey_of_not_has hh] at hv'
  rw [hh] at hr
  unfold heldR at hv'
  simp only [Option.some.injEq, Prod.mk.injEq, DataW.held.injEq] at hv'
  rw [← hv'.1]
  exact hr
theorem DuM.len {w : World} {M n : Nat} {f : Int → Option Int} (h : DuM w M f n) (ty : TypeId) : (Builtin.len_ #[55] ty #[.map (some M)]).run Tryd.prog w = .ok (.int .i64 n) w := by
  obtain ⟨D, h1, h2, h3⟩ := h
  rw [← h2]
  exact h1.len Tryd.underlying55 ty
def fput (f : Int → Option Int) (i : Int) (v : Int) : Int → Option Int := fun a => if a = i then some v else f a
def fdel (f : Int → Option Int) (i : Int) : Int → Option Int := fun a => if a = i then none else f a
theorem int_ne {a b : Int} (h : a ≠ b) : (Lit.int .i64 a) ≠ .int .i64 b := fun e => h (by injection e)
theorem DuM.store {w : World} {M n : Nat} {f : Int → Option Int} (h : DuM w M f n) (hn : n ≤ 100000) {i : Int} (wi : wfI i) (hi : f i = none) (v : Int) :
    ∃ w', (Instr.mapUpdate 55 (.map (some M)) (.int .i64 i) (.int .u64 v)).run Tryd.prog w = .ok () w' ∧ DuM w' M (fput f i v) (n + 1) ∧ w.grownBy w' (some M) := by
  obtain ⟨D, h1, h2, h3⟩ := h
  obtain ⟨w', hr, ho, hm⟩ := h1.store keyedI Tryd.underlying55 (by unfold maxLen; omega) (key_int wi) (val := .int .u64 v) (d := .held (.int .u64 v)) (ps := []) rfl
  have hk := keyedI.key (key_int wi)
  have hsz : Maps.size (D.put (.int .i64 i) (.held (.int .u64 v))) = n + 1 := by
    rw [Maps.size_put (h1.tidy keyedI), (h3 i wi).1, hi, h2]; rfl
  refine ⟨w', hr, ⟨_, by have := own_tight ho; rw [hsz] at this; exact this, hsz, fun a wa => ?_⟩, hm.grown⟩
  by_cases e : a = i
  · subst e
    refine ⟨by rw [Maps.has_put_same h1.isMap hk]; simp [fput], fun u hu z => ?_⟩
    rw [Maps.atKey_put_same h1.isMap hk]
    simp [fput] at hu
    rw [hu]
  · rw [Maps.has_put_other (int_ne e)]
    have : fput f i v a = f a := by unfold fput; rw [if_neg e]
    rw [this]
    refine ⟨(h3 a wa).1, fun u hu z => ?_⟩
    rw [Maps.atKey_put_other (int_ne e)]
    exact (h3 a wa).2 u hu z
theorem DuM.drop {w : World} {M n : Nat} {f : Int → Option Int} (h : DuM w M f (n + 1)) {i : Int} (wi : wfI i) {v : Int} (hi : f i = some v) (ty : TypeId) :
    ∃ w', (Builtin.delete_ #[55, 3] ty #[.map (some M), .int .i64 i]).run Tryd.prog w = .ok (.tuple #[]) w' ∧ DuM w' M (fdel f i) n ∧ w.grownBy w' (some M) := by
  obtain ⟨D, h1, h2, h3⟩ := h
  obtain ⟨w', hr, ho, hm⟩ := h1.drop keyedI Tryd.underlying55 (key_int wi) ty
  have hsz : Maps.size (D.del (.int .i64 i)) = n := by
    have := Maps.size_del (k := .int .i64 i) (h1.tidy keyedI)
    rw [(h3 i wi).1, hi] at this
    simp at this
    omega
  refine ⟨w', hr, ⟨_, by have := own_tight ho; rw [hsz] at this; exact this, hsz, fun a wa => ?_⟩, hm.grown⟩
  by_cases e : a = i
  · subst e
    exact ⟨by rw [Maps.has_del_same]; simp [fdel], fun u hu z => by simp [fdel] at hu⟩
  · rw [Maps.has_del_other (int_ne e)]
    have : fdel f i a = f a := by unfold fdel; rw [if_neg e]
    rw [this]
    refine ⟨(h3 a wa).1, fun u hu z => ?_⟩
    rw [Maps.atKey_del_other (int_ne e)]
    exact (h3 a wa).2 u hu z

/- The whole. -/
def lset {α : Type} (f : Nat → α) (t : Nat) (x : α) : Nat → α := fun i => if i = t then x else f i
theorem lset_same {α : Type} (f : Nat → α) (t : Nat) (x : α) : lset f t x t = x := if_pos rfl
theorem lset_ne {α : Type} (f : Nat → α) {t i : Nat} (x : α) (h : i ≠ t) : lset f t x i = f i := if_neg h
def cset (c : Nat → Nat → List Ent) (l s : Nat) (d : List Ent) : Nat → Nat → List Ent := fun a b => if a = l ∧ b = s then d else c a b
theorem cset_same (c : Nat → Nat → List Ent) (l s : Nat) (d : List Ent) : cset c l s d l s = d := if_pos ⟨rfl, rfl⟩
theorem cset_ne (c : Nat → Nat → List Ent) {l s a b : Nat} (d : List Ent) (h : ¬ (a = l ∧ b = s)) : cset c l s d a b = c a b := if_neg h
structure WhA (w : World) (B M base : Nat) (hd : Nat → Value) (now : Nat) (u : Nat → Nat) (c : Nat → Nat → List Ent) (far : List Ent) (f : Int → Option Int) (n : Nat) : Prop where
  head : Hd w B hd
  h0 : hd 0 = .int .u64 now
  h1 : hd 1 = .map (some M)
  hu : ∀ l, l < 4 → hd (2 + l * 65) = .int .u64 (u l)
  slot : ∀ l s, l < 4 → s < 64 → OwnF w base (hd (2 + l * 65 + 1 + s)) (c l s)
  far : OwnF w base (hd 262) far
  map : DuM w M f n
  inj : ∀ i j, i < 263 → j < 263 → i ≠ j → ∀ k, rowB (hd i) = some k → rowB (hd j) ≠ some k
  ub : ∀ l, l < 4 → u l < B64
  nb : now < B64
  lowB : base ≤ B
  lowM : base ≤ M
/-- Its blocks. -/
def foot (B M : Nat) (hd : Nat → Value) (k : Nat) : Prop := k = B ∨ k = M ∨ ∃ i, i < 263 ∧ rowB (hd i) = some k
variable {w w' : World} {B M base now n : Nat} {hd : Nat → Value} {u : Nat → Nat} {c : Nat → Nat → List Ent} {far : List Ent} {f : Int → Option Int}
/-- Every cell of the head is a number, the map, or a list. -/
theorem cellCase (i : Nat) (hi : i < 263) : i = 0 ∨ i = 1 ∨ (∃ l, l < 4 ∧ i = 2 + l * 65) ∨ (∃ l s, l < 4 ∧ s < 64 ∧ i = 2 + l * 65 + 1 + s) ∨ i = 262 := by
  by_cases h0 : i = 0; · exact .inl h0
  by_cases h1 : i = 1; · exact .inr (.inl h1)
  by_cases h2 : i = 262; · exact .inr (.inr (.inr (.inr h2)))
  by_cases h3 : (i - 2) % 65 = 0
  · exact .inr (.inr (.inl ⟨(i - 2) / 65, by omega, by omega⟩))
  · exact .inr (.inr (.inr (.inl ⟨(i - 2) / 65, (i - 2) % 65 - 1, by omega, by omega, by omega⟩)))
theorem WhA.own (h : WhA w B M base hd now u c far f n) {i : Nat} (hi : i < 263) {k : Nat} (hk : rowB (hd i) = some k) : ∃ d, OwnF w base (hd i) d := by
  rcases cellCase i hi with rfl | rfl | ⟨l, hl, rfl⟩ | ⟨l, s, hl, hs, rfl⟩ | rfl
  · rw [h.h0] at hk; cases hk
  · rw [h.h1] at hk; cases hk
  · rw [h.hu l hl] at hk; cases hk
  · exact ⟨_, h.slot l s hl hs⟩
  · exact ⟨_, h.far⟩
theorem WhA.rowLt (h : WhA w B M base hd now u c far f n) {i : Nat} (hi : i < 263) {k : Nat} (hk : rowB (hd i) = some k) : base ≤ k ∧ k < w.heap.size ∧ k ≠ B ∧ k ≠ M := by
  obtain ⟨d, o⟩ := h.own hi hk
  refine ⟨(o.rowLt hk).1, (o.rowLt hk).2, fun e => Hd.ne h.head o (by rw [hk, e]), fun e => ?_⟩
  obtain ⟨cs, h1⟩ := o.rowT hk
  obtain ⟨es, cl, h2⟩ := h.map.isMap
  rw [← e, h1] at h2
  cases h2
theorem WhA.BM (h : WhA w B M base hd now u c far f n) : M ≠ B := fun e => by
  obtain ⟨cs, h1⟩ := h.head.typ
  obtain ⟨es, cl, h2⟩ := h.map.isMap
  rw [e, h1] at h2
  cases h2
theorem WhA.footLt (h : WhA w B M base hd now u c far f n) {k : Nat} (hk : foot B M hd k) : base ≤ k ∧ k < w.heap.size := by
  rcases hk with rfl | rfl | ⟨i, hi, hk⟩
  · exact ⟨h.lowB, h.head.lt⟩
  · exact ⟨h.lowM, h.map.lt⟩
  · exact ⟨(h.rowLt hi hk).1, (h.rowLt hi hk).2.1⟩
/-- What is none of its blocks may turn. -/
theorem WhA.fr (h : WhA w B M base hd now u c far f n) {X : Nat → Prop} (hf : Fr X w w') (hx : ∀ k, foot B M hd k → ¬ X k) : WhA w' B M base hd now u c far f n :=
  ⟨h.head.fr hf (hx B (.inl rfl)), h.h0, h.h1, h.hu, fun l s hl hs => (h.slot l s hl hs).fr hf (fun k hk => hx k (.inr (.inr ⟨_, by omega, hk⟩))), h.far.fr hf (fun k hk => hx k (.inr (.inr ⟨_, by omega, hk⟩))), h.map.of_block (hf.block M h.map.lt (hx M (.inr (.inl rfl)))), h.inj, h.ub, h.nb, h.lowB, h.lowM⟩
/-- A slot has turned. -/
theorem WhA.slotSet (h : WhA w B M base hd now u c far f n) {l s u' : Nat} (hl : l < 4) (hs : s < 64) {v' : Value} {d' : List Ent} (h' : Hd w' B (hset (hset hd (2 + l * 65 + 1 + s) v') (2 + l * 65) (.int .u64 (u' : Int)))) (o' : OwnF w' base v' d') (hf : Fr (fun k => k = B ∨ rowB (hd (2 + l * 65 + 1 + s)) = some k) w w') (hr : ∀ k, rowB v' = some k → rowB (hd (2 + l * 65 + 1 + s)) = some k ∨ w.heap.size ≤ k) (hu' : u' < B64) :
    WhA w' B M base (hset (hset hd (2 + l * 65 + 1 + s) v') (2 + l * 65) (.int .u64 (u' : Int))) now (lset u l u') (cset c l s d') far f n := by
  have e : ∀ i, i ≠ 2 + l * 65 + 1 + s → i ≠ 2 + l * 65 → hset (hset hd (2 + l * 65 + 1 + s) v') (2 + l * 65) (.int .u64 (u' : Int)) i = hd i := fun i h1 h2 => by rw [hset_ne _ _ h2, hset_ne _ _ h1]
  have e1 : hset (hset hd (2 + l * 65 + 1 + s) v') (2 + l * 65) (.int .u64 (u' : Int)) (2 + l * 65) = .int .u64 (u' : Int) := hset_same _ _ _
  have e2 : hset (hset hd (2 + l * 65 + 1 + s) v') (2 + l * 65) (.int .u64 (u' : Int)) (2 + l * 65 + 1 + s) = v' := by rw [hset_ne _ _ (by omega), hset_same]
  have oth : ∀ i d, i < 263 → i ≠ 2 + l * 65 + 1 + s → OwnF w base (hd i) d → OwnF w' base (hd i) d := fun i d hi hne o => o.fr hf (fun k hk hx => by
    rcases hx with hx | hx
    · exact Hd.ne h.head o (by rw [hk, hx])
    · exact h.inj _ _ hi (by omega) hne k hk hx)
  refine ⟨h', by rw [e 0 (by omega) (by omega)]; exact h.h0, by rw [e 1 (by omega) (by omega)]; exact h.h1, fun a ha => ?_, fun a b ha hb => ?_, ?_, h.map.of_block (hf.block M h.map.lt (fun hx => ?_)), fun i j hi hj hij k hk => ?_, fun a ha => ?_, h.nb, h.lowB, h.lowM⟩
  · by_cases ca : a = l
    · subst ca; rw [e1, lset_same]
    · rw [e _ (by omega) (by omega), lset_ne _ _ ca]; exact h.hu a ha
  · by_cases ca : a = l ∧ b = s
    · obtain ⟨rfl, rfl⟩ := ca
      rw [e2, cset_same]; exact o'
    · rw [cset_ne _ _ ca, e _ (by omega) (by omega)]
      exact oth _ _ (by omega) (by omega) (h.slot a b ha hb)
  · rw [e 262 (by omega) (by omega)]
    exact oth _ _ (by omega) (by omega) h.far
  · rcases hx with hx | hx
    · exact h.BM hx
    · exact (h.rowLt (by omega) hx).2.2.2 rfl
  · have old : ∀ j, j < 263 → j ≠ 2 + l * 65 + 1 + s → j ≠ 2 + l * 65 → ∀ k, rowB v' = some k → rowB (hd j) ≠ some k := fun j hj h1 h2 k hk hk2 => by
      rcases hr k hk with hk | hk
      · exact h.inj _ _ hj (by omega) h1 k hk2 hk
      · have := (h.rowLt hj hk2).2.1; omega
    by_cases c1 : i = 2 + l * 65
    · subst c1; rw [e1] at hk; cases hk
    · by_cases c2 : j = 2 + l * 65
      · subst c2; rw [e1]; exact fun x => by cases x
      · by_cases c3 : i = 2 + l * 65 + 1 + s
        · subst c3
          rw [e2] at hk
          rw [e j (fun x => hij x.symm) c2]
          exact old j hj (fun x => hij x.symm) c2 k hk
        · rw [e i c3 c1] at hk
          by_cases c4 : j = 2 + l * 65 + 1 + s
          · subst c4
            rw [e2]
            exact fun hv => old i hi c3 c1 k hv hk
          · rw [e j c4 c2]; exact h.inj i j hi hj hij k hk
  · by_cases ca : a = l
    · subst ca; rw [lset_same]; exact hu'
    · rw [lset_ne _ _ ca]; exact h.ub a ha
/-- .. its blocks then. -/
theorem foot_slot {l s u' : Nat} (hl : l < 4) (hs : s < 64) {v' : Value} (hr : ∀ k, rowB v' = some k → rowB (hd (2 + l * 65 + 1 + s)) = some k ∨ w.heap.size ≤ k) : ∀ k, foot B M (hset (hset hd (2 + l * 65 + 1 + s) v') (2 + l * 65) (.int .u64 (u' : Int))) k → foot B M hd k ∨ w.heap.size ≤ k := by
  intro k hk
  rcases hk with hk | hk | ⟨i, hi, hk⟩
  · exact .inl (.inl hk)
  · exact .inl (.inr (.inl hk))
  · by_cases c1 : i = 2 + l * 65
    · subst c1; rw [hset_same] at hk; cases hk
    · rw [hset_ne _ _ c1] at hk
      by_cases c3 : i = 2 + l * 65 + 1 + s
      · subst c3; rw [hset_same] at hk
        rcases hr k hk with hk | hk
        · exact .inl (.inr (.inr ⟨_, hi, hk⟩))
        · exact .inr hk
      · rw [hset_ne _ _ c3] at hk
        exact .inl (.inr (.inr ⟨i, hi, hk⟩))
/-- The far list has turned. -/
theorem WhA.farSet (h : WhA w B M base hd now u c far f n) {v' : Value} {d' : List Ent} (h' : Hd w' B (hset hd 262 v')) (o' : OwnF w' base v' d') (hf : Fr (fun k => k = B ∨ rowB (hd 262) = some k) w w') (hr : ∀ k, rowB v' = some k → rowB (hd 262) = some k ∨ w.heap.size ≤ k) :
    WhA w' B M base (hset hd 262 v') now u c d' f n := by
  have oth : ∀ i d, i < 263 → i ≠ 262 → OwnF w base (hd i) d → OwnF w' base (hd i) d := fun i d hi hne o => o.fr hf (fun k hk hx => by
    rcases hx with hx | hx
    · exact Hd.ne h.head o (by rw [hk, hx])
    · exact h.inj _ _ hi (by omega) hne k hk hx)
  refine ⟨h', by rw [hset_ne _ _ (by omega)]; exact h.h0, by rw [hset_ne _ _ (by omega)]; exact h.h1, fun a ha => by rw [hset_ne _ _ (by omega)]; exact h.hu a ha, fun a b ha hb => ?_, by rw [hset_same]; exact o', h.map.of_block (hf.block M h.map.lt (fun hx => ?_)), fun i j hi hj hij k hk => ?_, h.ub, h.nb, h.lowB, h.lowM⟩
  · rw [hset_ne _ _ (by omega)]; exact oth _ _ (by omega) (by omega) (h.slot a b ha hb)
  · rcases hx with hx | hx
    · exact h.BM hx
    · exact (h.rowLt (by omega) hx).2.2.2 rfl
  · have old : ∀ j, j < 263 → j ≠ 262 → ∀ k, rowB v' = some k → rowB (hd j) ≠ some k := fun j hj h1 k hk hk2 => by
      rcases hr k hk with hk | hk
      · exact h.inj _ _ hj (by omega) h1 k hk2 hk
      · have := (h.rowLt hj hk2).2.1; omega
    by_cases c3 : i = 262
    · subst c3
      rw [hset_same] at hk
      rw [hset_ne _ _ (fun x => hij x.symm)]
      exact old j hj (fun x => hij x.symm) k hk
    · rw [hset_ne _ _ c3] at hk
      by_cases c4 : j = 262
      · subst c4
        rw [hset_same]
        exact fun hv => old i hi c3 k hv hk
      · rw [hset_ne _ _ c4]; exact h.inj i j hi hj hij k hk
theorem foot_far {v' : Value} (hr : ∀ k, rowB v' = some k → rowB (hd 262) = some k ∨ w.heap.size ≤ k) : ∀ k, foot B M (hset hd 262 v') k → foot B M hd k ∨ w.heap.size ≤ k := by
  intro k hk
  rcases hk with hk | hk | ⟨i, hi, hk⟩
  · exact .inl (.inl hk)
  · exact .inl (.inr (.inl hk))
  · by_cases c3 : i = 262
    · subst c3; rw [hset_same] at hk
      rcases hr k hk with hk | hk
      · exact .inl (.inr (.inr ⟨_, hi, hk⟩))
      · exact .inr hk
    · rw [hset_ne _ _ c3] at hk
      exact .inl (.inr (.inr ⟨i, hi, hk⟩))
/-- The map has turned. -/
theorem WhA.mapSet (h : WhA w B M base hd now u c far f n) {g : Int → Option Int} {m : Nat} (hm : DuM w' M g m) (hg : w.grownBy w' (some M)) : WhA w' B M base hd now u c far g m := by
  have hf : Fr (fun k => k = M) w w' := (Fr.of_grown hg).mono (fun j hj => by injection hj with hj; exact hj.symm)
  exact ⟨h.head.fr hf (fun e => h.BM e.symm), h.h0, h.h1, h.hu, fun l s hl hs => (h.slot l s hl hs).fr hf (fun k hk => (h.rowLt (by omega) hk).2.2.2), h.far.fr hf (fun k hk => (h.rowLt (by omega) hk).2.2.2), hm, h.inj, h.ub, h.nb, h.lowB, h.lowM⟩
end Go.Proofs.YtbopobgnmkhabaaDoor

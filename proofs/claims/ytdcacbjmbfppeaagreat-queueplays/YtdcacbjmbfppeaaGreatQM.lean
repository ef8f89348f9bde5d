/- queue: slots, own lists, the shared one and the table of places, in the heap; what a call of one of them leaves of the whole. -/
import Derived.Test.YtdcacbjmbfppeaaGreatJM
import Derived.Test.YtdcacbjmbfppeaaGreatJP
import Derived.Test.YtdcacbjmbfppeaaGreatJQ
import Derived.Maps.OwnSet
import Derived.Maps.AppendAt
import Derived.WideKeyPair
import Derived.DeepKeys4
import Derived.Outline
namespace Go.Proofs.YtdcacbjmbfppeaaGreat
open Go.RowKit Go.Lib Go.Sort Go.WideMaps Go.Maps
set_option linter.unusedVariables false

/-- The blocks of a queue: its head, the slots' head and row, the row of own lists, their heads, the shared one, the table, what its functions captured. -/
structure QAd where
  B : Nat
  SB : Nat
  SR : Nat
  OR : Nat
  oc : Nat
  L : Nat → Nat
  HB : Nat
  M : Nat
  QC : Nat
  TC : Nat → Nat

/-- What a queue has: slots, the own lists' blocks, the shared one's version and blocks. -/
structure QSt where
  g : Nat → Pl
  ls : Nat → List (List Ent)
  v : Nat
  hs : List (List Ent)

/- The table. -/
theorem laidOut : laidOutB Tryz.prog = true := by kernel_rfl
theorem rowSpot : (81 : TypeId) < Tryz.prog.types.size := of_decide_eq_true (by kernel_rfl)
theorem wideSpot : (match Tryz.prog.underlying 81 with | some (.array _ _) | some (.struct _) => true | _ => false) = true := by kernel_rfl
set_option maxRecDepth 100000 in
theorem lawSpot : Keyed Tryz.prog 81 := Keyed.of_law (deep_law_laid laidOut (m := 2) (by omega) rowSpot (by kernel_rfl) wideSpot)
theorem cellsSpot : Tryz.prog.cellsOf 81 = 2 := by kernel_rfl
theorem arrSpot : ArrKey Tryz.prog 81 3 2 := ⟨Tryz.underlying81, by kernel_rfl, by kernel_rfl, cellsSpot⟩
abbrev spotKey (a b : Int) : Lit := .string (keyBytes [.int .i64 a, .int .i64 b])
abbrev wfI (a : Int) : Prop := (Lit.int .i64 a).wf = true
theorem key_spot {a b : Int} (wa : wfI a) (wb : wfI b) : keyOf Tryz.prog 81 (.agg #[.int .i64 a, .int .i64 b]) = some (spotKey a b) :=
  keyOf_pair arrSpot Tryz.underlying3 ⟨_, rfl⟩ wa wb
theorem undTab : Tryz.prog.underlying 57 = some (.map 81 84) := Tryz.underlying57
theorem spot_inj {x y a b : Int} (wx : wfI x) (wy : wfI y) (wa : wfI a) (wb : wfI b) (h : spotKey x y = spotKey a b) : x = a ∧ y = b := by
  have h1 := key_spot wx wy
  rw [h] at h1
  have h2 := lawSpot.inj h1 (key_spot wa wb)
  simpa using h2
def heldR (v : Value) : Option (DataW Value × List MemPlace) := some (.held v, [])
def zPart : Value := .agg #[.nilFunc, .nilFunc]
theorem zeroPart (w : World) : (zeroValue 84).run Tryz.prog w = .ok zPart w := by kernel_rfl

/-- At M lies a table: what it leads to. -/
def Tab (w : World) (M : Nat) (f : Int → Int → Option Value) : Prop :=
  ∃ (n : Nat) (D : DataW Value), n ≤ 100 ∧ w.ownsMap Tryz.prog 81 heldR M n D ∧
    ∀ p t, wfI p → wfI t → Maps.has D (spotKey p t) = (f p t).isSome ∧ ∀ v, f p t = some v → ∀ z, D.atKey (spotKey p t) z = .held v
theorem Tab.lt {w : World} {M : Nat} {f : Int → Int → Option Value} (h : Tab w M f) : M < w.heap.size := by
  obtain ⟨n, D, _, h2, _⟩ := h
  exact h2.lt
theorem Tab.isMap {w : World} {M : Nat} {f : Int → Int → Option Value} (h : Tab w M f) : ∃ es c, w.heap[M]? = some (.map es c) := by
  obtain ⟨n, D, _, ⟨es, c, hb, _⟩, _⟩ := h
  exact ⟨es, c, hb⟩
theorem Tab.of_block {w w' : World} {M : Nat} {f : Int → Int → Option Value} (h : Tab w M f) (e : w'.heap[M]? = w.heap[M]?) : Tab w' M f := by
  obtain ⟨n, D, h1, ⟨es, c, hb, r⟩, h3⟩ := h
  exact ⟨n, D, h1, ⟨es, c, e.trans hb, r⟩, h3⟩
theorem Tab.look {w : World} {M : Nat} {f : Int → Int → Option Value} (h : Tab w M f) {p t : Int} (wp : wfI p) (wt : wfI t) {v : Value} (hv : f p t = some v) :
    (Instr.lookup 57 (.map (some M)) (.agg #[.int .i64 p, .int .i64 t]) false).run Tryz.prog w = .ok v w := by
  obtain ⟨n, D, h1, h2, h3⟩ := h
  obtain ⟨v', ps, hr, hv'⟩ := h2.lookup lawSpot undTab (zeroPart w) (zd := .held zPart) (zp := []) rfl (key_spot wp wt)
  rw [((h3 p t wp wt).2 v hv) _] at hv'
  unfold heldR at hv'
  simp only [Option.some.injEq, Prod.mk.injEq, DataW.held.injEq] at hv'
  rw [← hv'.1]
  exact hr
theorem Tab.look_ok {w : World} {M : Nat} {f : Int → Int → Option Value} (h : Tab w M f) {p t : Int} (wp : wfI p) (wt : wfI t) {v : Value} (hv : f p t = some v) :
    (Instr.lookup 57 (.map (some M)) (.agg #[.int .i64 p, .int .i64 t]) true).run Tryz.prog w = .ok (.tuple #[v, .bool true]) w := by
  obtain ⟨n, D, h1, h2, h3⟩ := h
  obtain ⟨v', ps, hr, hv'⟩ := h2.look_ok lawSpot undTab (zeroPart w) (zd := .held zPart) (zp := []) rfl (key_spot wp wt)
  rw [((h3 p t wp wt).2 v hv) _] at hv'
  rw [(h3 p t wp wt).1, hv] at hr
  unfold heldR at hv'
  simp only [Option.some.injEq, Prod.mk.injEq, DataW.held.injEq] at hv'
  rw [← hv'.1]
  exact hr
theorem Tab.look_no {w : World} {M : Nat} {f : Int → Int → Option Value} (h : Tab w M f) {p t : Int} (wp : wfI p) (wt : wfI t) (hv : f p t = none) :
    (Instr.lookup 57 (.map (some M)) (.agg #[.int .i64 p, .int .i64 t]) true).run Tryz.prog w = .ok (.tuple #[zPart, .bool false]) w := by
  obtain ⟨n, D, h1, h2, h3⟩ := h
  obtain ⟨v', ps, hr, hv'⟩ := h2.look_ok lawSpot undTab (zeroPart w) (zd := .held zPart) (zp := []) rfl (key_spot wp wt)
  have hh := (h3 p t wp wt).1
  rw [hv] at hh
  rw [Maps.atKey_of_not_has hh] at hv'
  rw [hh] at hr
  unfold heldR at hv'
  simp only [Option.some.injEq, Prod.mk.injEq, DataW.held.injEq] at hv'
  rw [← hv'.1]
  exact hr
def fput (f : Int → Int → Option Value) (p t : Int) (v : Value) : Int → Int → Option Value := fun a b => if a = p ∧ b = t then some v else f a b
theorem Tab.made (w : World) : Tab (w.alloc (.map #[] 0)) w.heap.size (fun _ _ => none) :=
  ⟨0, .map [], by omega, World.ownsMap_made w _ _ _, fun p t _ _ => ⟨rfl, fun v hv => by cases hv⟩⟩
/-- The bound that a table keeps: how often it was stored into. -/
def TabN (w : World) (M n : Nat) (f : Int → Int → Option Value) : Prop :=
  ∃ (D : DataW Value), w.ownsMap Tryz.prog 81 heldR M n D ∧
    ∀ p t, wfI p → wfI t → Maps.has D (spotKey p t) = (f p t).isSome ∧ ∀ v, f p t = some v → ∀ z, D.atKey (spotKey p t) z = .held v
theorem TabN.tab {w : World} {M n : Nat} {f : Int → Int → Option Value} (h : TabN w M n f) (hn : n ≤ 100) : Tab w M f := by
  obtain ⟨D, h1, h2⟩ := h
  exact ⟨n, D, hn, h1, h2⟩
theorem TabN.made (w : World) : TabN (w.alloc (.map #[] 0)) w.heap.size 0 (fun _ _ => none) :=
  ⟨.map [], World.ownsMap_made w _ _ _, fun p t _ _ => ⟨rfl, fun v hv => by cases hv⟩⟩
theorem TabN.kept {w w' : World} {M n : Nat} {f : Int → Int → Option Value} (h : TabN w M n f) (e : w'.heap[M]? = w.heap[M]?) : TabN w' M n f := by
  obtain ⟨D, ⟨es, c, hb, r⟩, h2⟩ := h
  exact ⟨D, ⟨es, c, e.trans hb, r⟩, h2⟩
theorem TabN.lt {w : World} {M n : Nat} {f : Int → Int → Option Value} (h : TabN w M n f) : M < w.heap.size := by
  obtain ⟨D, h2, _⟩ := h
  exact h2.lt
theorem TabN.congr {w : World} {M n : Nat} {f g : Int → Int → Option Value} (h : TabN w M n f) (e : ∀ p t, f p t = g p t) : TabN w M n g := by
  have : f = g := funext fun p => funext fun t => e p t
  rw [← this]; exact h
theorem TabN.store {w : World} {M n : Nat} {f : Int → Int → Option Value} (h : TabN w M n f) (hn : n ≤ 100) {p t : Int} (wp : wfI p) (wt : wfI t) (v : Value) :
    ∃ w', (Instr.mapUpdate 57 (.map (some M)) (.agg #[.int .i64 p, .int .i64 t]) v).run Tryz.prog w = .ok () w' ∧ TabN w' M (n + 1) (fput f p t v) ∧ w.grownBy w' (some M) := by
  obtain ⟨D, h1, h2⟩ := h
  obtain ⟨w', hr, ho, hm⟩ := h1.store lawSpot undTab (by unfold maxLen; omega) (key_spot wp wt) (val := v) (d := .held v) (ps := []) rfl
  refine ⟨w', hr, ⟨_, ho, fun a b wa wb => ?_⟩, hm.grown⟩
  have hk := lawSpot.key (key_spot wp wt)
  by_cases e : a = p ∧ b = t
  · obtain ⟨rfl, rfl⟩ := e
    refine ⟨by rw [Maps.has_put_same h1.isMap hk]; simp [fput], fun u hu z => ?_⟩
    rw [Maps.atKey_put_same h1.isMap hk]
    simp [fput] at hu
    rw [hu]
  · have hne : spotKey a b ≠ spotKey p t := fun he => e (spot_inj wa wb wp wt he)
    rw [Maps.has_put_other hne]
    have : fput f p t v a b = f a b := by unfold fput; rw [if_neg e]
    rw [this]
    refine ⟨(h2 a b wa wb).1, fun u hu z => ?_⟩
    rw [Maps.atKey_put_other hne]
    exact (h2 a b wa wb).2 u hu z

abbrev ptr (b : Nat) : Value := .pointer (some ⟨b, 0, none⟩)
def pShared (A : QAd) : Value := .agg #[.func (.func 59) #[ptr A.HB] #[], .func (.func 60) #[ptr A.HB] #[]]
def pSlot (A : QAd) (t : Nat) : Value := .agg #[.func (.func 61) #[] #[ptr A.QC, ptr (A.TC t)], .func (.func 63) #[ptr A.SB] #[]]
def pOwn (A : QAd) (t : Nat) : Value := .agg #[.func (.func 64) #[ptr (A.L t)] #[], .func (.func 65) #[ptr (A.L t)] #[]]
/-- What the table of a queue of T threads leads to. -/
def tabF (A : QAd) (T : Nat) (p t : Int) : Option Value :=
  if p = 3 ∧ t = 0 then some (pShared A)
  else if p = 1 ∧ 0 ≤ t ∧ t < T then some (pSlot A t.toNat)
  else if p = 2 ∧ 0 ≤ t ∧ t < T then some (pOwn A t.toNat)
  else none
theorem tabF_shared (A : QAd) (T : Nat) : tabF A T 3 0 = some (pShared A) := by simp [tabF]
theorem tabF_slot (A : QAd) {T i : Nat} (h : i < T) : tabF A T 1 (i : Int) = some (pSlot A i) := by
  unfold tabF
  rw [if_neg (by omega), if_pos (by omega)]; simp
theorem tabF_own (A : QAd) {T i : Nat} (h : i < T) : tabF A T 2 (i : Int) = some (pOwn A i) := by
  unfold tabF
  rw [if_neg (by omega), if_neg (by omega), if_pos (by omega)]; simp
theorem tabF_no (A : QAd) {T : Nat} {t : Int} (h : t < 0 ∨ (T : Int) ≤ t) : tabF A T 2 t = none := by
  unfold tabF
  rw [if_neg (by omega), if_neg (by omega), if_neg (by omega)]

/- Frames. -/
/-- Nothing but blocks of X has turned. -/
def Fr (X : Nat → Prop) (w w' : World) : Prop := w.heap.size ≤ w'.heap.size ∧ ∀ k, k < w.heap.size → ¬ X k → w'.heap[k]? = w.heap[k]?
theorem Fr.below {X : Nat → Prop} {w w' : World} (h : Below w.heap.size w w') : Fr X w w' := ⟨h.size, fun k hk _ => h.block k hk⟩
theorem Fr.grown {R : Nat} {w w' : World} (h : w.grownBy w' (some R)) : Fr (fun k => k = R) w w' := ⟨h.size, fun k hk hx => h.block k hk (fun e => by injection e with e; exact hx e)⟩
theorem ne_type {w : World} {k k' : Nat} {cs cs' : Array Value} {T T' : TypeId} {fr fr' : Nat × Nat} (h : w.heap[k]? = some (.cells cs T fr)) (h' : w.heap[k']? = some (.cells cs' T' fr')) (hT : T ≠ T') : k ≠ k' := by
  rintro rfl
  rw [h] at h'
  simp only [Option.some.injEq, Obj.cells.injEq] at h'
  exact hT h'.2.1
theorem own_fr {X : Nat → Prop} {w w' : World} {base n k : Nat} {T : TypeId} {v : Value} {vs : List Value} (h : w.ownsRow base T k v n vs) (f : Fr X w w') (hx : ∀ g cs, w.heap[g]? = some (.cells cs T (0, 0)) → v.ownBlock = some g → ¬ X g) : w'.ownsRow base T k v n vs := by
  obtain ⟨h1, h2⟩ := h
  refine ⟨h1, ?_⟩
  rcases h2 with h2 | ⟨g, cap, cur, r1, r2, r3, r4⟩
  · exact .inl h2
  · exact .inr ⟨g, cap, cur, r1, r2, (f.2 g (lt_of_block r3) (hx g cur r3 (by rw [r1]; rfl))).trans r3, r4⟩
theorem RowB.fr {X : Nat → Prop} {w w' : World} {base n cap : Nat} {a : Option Addr} {bs : List Bk} (h : RowB 110 w base (.slice a n cap) bs) (f : Fr X w w') (hr : ∀ k, a = some ⟨k, 0, none⟩ → ¬ X k) (he : ∀ k cs, w.heap[k]? = some (.cells cs 34 (0, 0)) → ¬ X k) : RowB 110 w' base (.slice a n cap) bs := by
  refine ⟨own_fr h.row f fun g cs hg hv => ?_, fun b hb => own_fr (h.own b hb) f fun g cs hg _ => he g cs hg⟩
  rcases h.row.2 with ⟨e, _⟩ | ⟨g', c', cur, e, _⟩
  · rw [e] at hv; simp [Value.ownBlock] at hv
  · have e' := e
    injection e' with e1 _ _
    rw [e] at hv
    simp only [Value.ownBlock, Option.some.injEq] at hv
    subst hv
    exact hr _ e1
theorem LsmA.fr {X : Nat → Prop} {w w' : World} {base b : Nat} {ls : List (List Ent)} {a : Option Addr} (h : LsmA w base b ls a) (f : Fr X w w') (hb : ¬ X b) (hr : ∀ k, a = some ⟨k, 0, none⟩ → ¬ X k) (he : ∀ k cs, w.heap[k]? = some (.cells cs 34 (0, 0)) → ¬ X k) : LsmA w' base b ls a := by
  obtain ⟨cap, bs, h1, h2, h3, h4⟩ := h
  exact ⟨cap, bs, h1, h2, (f.2 b (lt_of_block h3) hb).trans h3, h4.fr f hr he⟩
theorem ShrA.fr {X : Nat → Prop} {w w' : World} {b v : Nat} {ls : List (List Ent)} {a : Option Addr} (h : ShrA w b v ls a) (f : Fr X w w') (hb : ¬ X b) (hr : ∀ k, a = some ⟨k, 0, none⟩ → ¬ X k) (he : ∀ k cs, w.heap[k]? = some (.cells cs 34 (0, 0)) → ¬ X k) : ShrA w' b v ls a := by
  obtain ⟨n, cap, h1, bs, h2, h3, h4⟩ := h
  exact ⟨n, cap, (f.2 b (lt_of_block h1) hb).trans h1, bs, h2, h3, h4.fr f hr he⟩
theorem LsmA.head {w : World} {base b : Nat} {ls : List (List Ent)} {a : Option Addr} (h : LsmA w base b ls a) : ∃ cs, w.heap[b]? = some (.cells cs 102 (0, 0)) := by
  obtain ⟨cap, bs, h1, h2, h3, h4⟩ := h
  exact ⟨_, h3⟩
theorem LsmA.low {w : World} {base b : Nat} {ls : List (List Ent)} {a : Option Addr} (h : LsmA w base b ls a) : base ≤ b := by
  obtain ⟨cap, bs, h1, h2, h3, h4⟩ := h
  exact h2
theorem RowB.addr {w : World} {base n cap : Nat} {a : Option Addr} {bs : List Bk} (h : RowB 110 w base (.slice a n cap) bs) {x : Addr} (hx : a = some x) : ∃ g cs, x = ⟨g, 0, none⟩ ∧ w.heap[g]? = some (.cells cs 110 (0, 0)) := by
  rcases h.row.2 with ⟨e, _⟩ | ⟨g, c', cur, e, _, hg, _⟩
  · injection e with e1; rw [hx] at e1; cases e1
  · injection e with e1; rw [hx] at e1; injection e1 with e1; exact ⟨g, cur, e1, hg⟩
theorem LsmA.row {w : World} {base b : Nat} {ls : List (List Ent)} {a : Option Addr} (h : LsmA w base b ls a) {x : Addr} (hx : a = some x) : ∃ g cs, x = ⟨g, 0, none⟩ ∧ w.heap[g]? = some (.cells cs 110 (0, 0)) := by
  obtain ⟨cap, bs, h1, h2, h3, h4⟩ := h
  exact h4.addr hx
theorem ShrA.row {w : World} {b v : Nat} {ls : List (List Ent)} {a : Option Addr} (h : ShrA w b v ls a) {x : Addr} (hx : a = some x) : ∃ g cs, x = ⟨g, 0, none⟩ ∧ w.heap[g]? = some (.cells cs 110 (0, 0)) := by
  obtain ⟨n, cap, h1, bs, h2, h3, h4⟩ := h
  exact h4.addr hx
theorem ShrA.head {w : World} {b v : Nat} {ls : List (List Ent)} {a : Option Addr} (h : ShrA w b v ls a) : ∃ cs, w.heap[b]? = some (.cells cs 100 (0, 0)) := by
  obtain ⟨n, cap, h1, h2⟩ := h
  exact ⟨_, h1⟩

/-- What no call turns: the head, the row of own lists, the table, what its functions captured. -/
structure QFix (w : World) (A : QAd) (T K : Nat) : Prop where
  head : w.heap[A.B]? = some (.cells #[.int .i64 K, ptr A.SB, .slice (some ⟨A.OR, 0, none⟩) T A.oc, ptr A.HB, .map (some A.M)] 59 (0, 0))
  row : ∃ cs, w.heap[A.OR]? = some (.cells cs 60 (0, 0)) ∧ ∀ i, i < T → cs[i]? = some (ptr (A.L i))
  tab : Tab w A.M (tabF A T)
  qc : w.heap[A.QC]? = some (.cells #[ptr A.B] 23 (0, 0))
  tc : ∀ i, i < T → w.heap[A.TC i]? = some (.cells #[.int .i64 i] 3 (0, 0))
/-- Blocks that a call of slots, own lists or the shared one may turn. -/
def May (w : World) (X : Nat → Prop) : Prop := ∀ k, X k → ∃ cs U fr, w.heap[k]? = some (.cells cs U fr) ∧ (U = 106 ∨ U = 102 ∨ U = 110 ∨ U = 100)
theorem May.not {w : World} {X : Nat → Prop} (h : May w X) {k : Nat} {cs : Array Value} {U : TypeId} {fr : Nat × Nat} (hk : w.heap[k]? = some (.cells cs U fr)) (hU : U ≠ 106 ∧ U ≠ 102 ∧ U ≠ 110 ∧ U ≠ 100) : ¬ X k := fun hx => by
  obtain ⟨cs', U', fr', h1, h2⟩ := h k hx
  rw [hk] at h1
  simp only [Option.some.injEq, Obj.cells.injEq] at h1
  obtain ⟨_, rfl, _⟩ := h1
  rcases h2 with h2 | h2 | h2 | h2
  · exact hU.1 h2
  · exact hU.2.1 h2
  · exact hU.2.2.1 h2
  · exact hU.2.2.2 h2
theorem QFix.fr {X : Nat → Prop} {w w' : World} {A : QAd} {T K : Nat} (h : QFix w A T K) (f : Fr X w w') (m : May w X) : QFix w' A T K := by
  obtain ⟨cs, r1, r2⟩ := h.row
  refine ⟨(f.2 _ (lt_of_block h.head) (m.not h.head (by decide))).trans h.head, ⟨cs, (f.2 _ (lt_of_block r1) (m.not r1 (by decide))).trans r1, r2⟩, ?_, (f.2 _ (lt_of_block h.qc) (m.not h.qc (by decide))).trans h.qc, fun i hi => (f.2 _ (lt_of_block (h.tc i hi)) (m.not (h.tc i hi) (by decide))).trans (h.tc i hi)⟩
  refine h.tab.of_block (f.2 _ h.tab.lt fun hx => ?_)
  obtain ⟨cs', U', fr', h1, _⟩ := m _ hx
  obtain ⟨es, c, h2⟩ := h.tab.isMap
  rw [h1] at h2
  cases h2

/-- Types of what such calls may turn. -/
def MQ (U : TypeId) : Prop := U = 106 ∨ U = 102 ∨ U = 110 ∨ U = 100
/-- What a call of a queue leaves of the rest: all that lay below, and all of other types. -/
structure Went (base : Nat) (w w' : World) : Prop where
  low : Below base w w'
  kept : Kept MQ w w'
theorem Went.refl (base : Nat) (w : World) : Went base w w := ⟨Below.refl _ _, Kept.refl _ _⟩
theorem Went.trans {base : Nat} {u v w : World} (h : Went base u v) (g : Went base v w) : Went base u w := ⟨h.low.trans g.low, h.kept.trans g.kept⟩
theorem Went.below {base : Nat} {w w' : World} (h : Below w.heap.size w w') (hb : base ≤ w.heap.size) : Went base w w' := ⟨h.mono hb, Kept.of_below h⟩
theorem Went.size {base : Nat} {w w' : World} (h : Went base w w') : w.heap.size ≤ w'.heap.size := h.kept.size
theorem Went.block {base : Nat} {w w' : World} (h : Went base w w') {k : Nat} {cs : Array Value} {U : TypeId} {fr : Nat × Nat} (hk : w.heap[k]? = some (.cells cs U fr)) (hU : ¬ MQ U) : w'.heap[k]? = some (.cells cs U fr) := (h.kept.block k cs U fr hk hU).trans hk
theorem Went.own {base : Nat} {w w' : World} (h : Went base w w') {b n k : Nat} {U : TypeId} {v : Value} {vs : List Value} (hU : ¬ MQ U) (o : w.ownsRow b U k v n vs) : w'.ownsRow b U k v n vs := h.kept.own hU o
theorem mq_ent : ¬ MQ 34 := by unfold MQ; decide
theorem mq_int : ¬ MQ 3 := by unfold MQ; decide
theorem Went.grown {base R : Nat} {w w' : World} {cs : Array Value} {U : TypeId} {fr : Nat × Nat} (hr : w.heap[R]? = some (.cells cs U fr)) (hU : MQ U) (hb : base ≤ R) (hg : w.grownBy w' (some R)) : Went base w w' :=
  ⟨below_gr hg hb (Nat.le_of_lt (Nat.lt_of_le_of_lt hb (lt_of_block hr))), ⟨hg.size, fun k ds V f hk hV => hg.block k (lt_of_block hk) (fun e => by
    injection e with e
    subst e
    rw [hr] at hk
    simp only [Option.some.injEq, Obj.cells.injEq] at hk
    exact hV (hk.2.1 ▸ hU))⟩⟩

/-- A queue in the heap; where the rows of its blocks lie. -/
structure QueA (w : World) (base : Nat) (A : QAd) (T K : Nat) (s : QSt) (ra : Nat → Option Addr) (sa : Option Addr) : Prop where
  fix : QFix w A T K
  slt : Slt w A.SB A.SR T s.g
  own : ∀ i, i < T → LsmA w base (A.L i) (s.ls i) (ra i)
  shr : ShrA w A.HB s.v s.hs sa
  inj : ∀ i j, i < T → j < T → A.L i = A.L j → i = j
  rne : ∀ i j, i < T → j < T → i ≠ j → ∀ x, ra i = some x → ra j ≠ some x
  sne : ∀ i, i < T → ∀ x, ra i = some x → sa ≠ some x
  lowS : base ≤ A.SR
  lowH : base ≤ A.HB
def Que (w : World) (base : Nat) (A : QAd) (T K : Nat) (s : QSt) : Prop := ∃ ra sa, QueA w base A T K s ra sa

theorem QueA.below {w w' : World} {base : Nat} {A : QAd} {T K : Nat} {s : QSt} {ra : Nat → Option Addr} {sa : Option Addr} (h : QueA w base A T K s ra sa) (hw : Below w.heap.size w w') : QueA w' base A T K s ra sa :=
  ⟨h.fix.fr (X := fun _ => False) (Fr.below hw) (fun k hk => hk.elim), h.slt.below hw, fun i hi => (h.own i hi).below hw, h.shr.below hw, h.inj, h.rne, h.sne, h.lowS, h.lowH⟩
theorem Que.below {w w' : World} {base : Nat} {A : QAd} {T K : Nat} {s : QSt} (h : Que w base A T K s) (hw : Below w.heap.size w w') : Que w' base A T K s := by
  obtain ⟨ra, sa, h⟩ := h
  exact ⟨ra, sa, h.below hw⟩
theorem Slt.rowT {w : World} {B R n : Nat} {g : Nat → Pl} (h : Slt w B R n g) : ∃ cs, w.heap[R]? = some (.cells cs 106 (0, 0)) := by
  obtain ⟨cs, h1, _⟩ := h.row
  exact ⟨cs, h1⟩
/-- A call of the slots. -/
theorem QueA.slots {w w' : World} {base : Nat} {A : QAd} {T K : Nat} {s : QSt} {ra : Nat → Option Addr} {sa : Option Addr} {g' : Nat → Pl} (h : QueA w base A T K s ra sa) (hs : Slt w' A.SB A.SR T g') (hg : w.grownBy w' (some A.SR)) :
    QueA w' base A T K { s with g := g' } ra sa ∧ Went base w w' := by
  obtain ⟨cs, hr⟩ := h.slt.rowT
  refine ⟨?_, Went.grown hr (.inl rfl) h.lowS hg⟩
  have f := Fr.grown hg
  have ne : ∀ {k : Nat} {ds : Array Value} {U : TypeId}, w.heap[k]? = some (.cells ds U (0, 0)) → U ≠ 106 → ¬ k = A.SR := fun hk hU => ne_type hk hr hU
  refine ⟨h.fix.fr f (fun k hk => ⟨cs, _, (0, 0), by rw [hk]; exact hr, .inl rfl⟩), hs, fun i hi => ?_, ?_, h.inj, h.rne, h.sne, h.lowS, h.lowH⟩
  · obtain ⟨ds, hd⟩ := (h.own i hi).head
    exact (h.own i hi).fr f (ne hd (by decide)) (fun k hk => by
      obtain ⟨g, es, e, he⟩ := (h.own i hi).row hk
      injection e with e1
      subst e1
      exact ne he (by decide)) (fun k es he => ne he (by decide))
  · obtain ⟨ds, hd⟩ := h.shr.head
    exact h.shr.fr f (ne hd (by decide)) (fun k hk => by
      obtain ⟨g, es, e, he⟩ := h.shr.row hk
      injection e with e1
      subst e1
      exact ne he (by decide)) (fun k es he => ne he (by decide))
/-- A call of the shared one. -/
theorem QueA.shared {w w' : World} {base : Nat} {A : QAd} {T K : Nat} {s : QSt} {ra : Nat → Option Addr} {sa sa' : Option Addr} {v' : Nat} {hs' : List (List Ent)} (h : QueA w base A T K s ra sa) (hs : ShrA w' A.HB v' hs' sa') (hm : Moved w sa sa') (hg : w.grownBy w' (some A.HB)) :
    QueA w' base A T K { s with v := v', hs := hs' } ra sa' ∧ Went base w w' := by
  obtain ⟨cs, hr⟩ := h.shr.head
  refine ⟨?_, Went.grown hr (.inr (.inr (.inr rfl))) h.lowH hg⟩
  have f := Fr.grown hg
  have ne : ∀ {k : Nat} {ds : Array Value} {U : TypeId}, w.heap[k]? = some (.cells ds U (0, 0)) → U ≠ 100 → ¬ k = A.HB := fun hk hU => ne_type hk hr hU
  refine ⟨h.fix.fr f (fun k hk => ⟨cs, _, (0, 0), by rw [hk]; exact hr, .inr (.inr (.inr rfl))⟩), h.slt.kept hg (fun e => by injection e with e; exact ne h.slt.head (by decide) e) (fun e => by injection e with e; obtain ⟨ds, hd⟩ := h.slt.rowT; exact ne hd (by decide) e), fun i hi => ?_, hs, h.inj, h.rne, fun i hi x hx e => ?_, h.lowS, h.lowH⟩
  · obtain ⟨ds, hd⟩ := (h.own i hi).head
    exact (h.own i hi).fr f (ne hd (by decide)) (fun k hk => by
      obtain ⟨g, es, e, he⟩ := (h.own i hi).row hk
      injection e with e1
      subst e1
      exact ne he (by decide)) (fun k es he => ne he (by decide))
  · rcases hm with hm | hm
    · exact h.sne i hi x hx (by rw [← hm]; exact e)
    · have h1 := hm x e
      obtain ⟨g, es, e2, he⟩ := (h.own i hi).row hx
      have := lt_of_block he
      rw [e2] at h1
      exact absurd h1 (by show ¬ w.heap.size ≤ g; omega)
/-- One element of a row of lists, set anew. -/
def lset {α : Type} (f : Nat → α) (t : Nat) (x : α) : Nat → α := fun i => if i = t then x else f i
theorem lset_same {α : Type} (f : Nat → α) (t : Nat) (x : α) : lset f t x t = x := if_pos rfl
theorem lset_ne {α : Type} (f : Nat → α) {t i : Nat} (x : α) (h : i ≠ t) : lset f t x i = f i := if_neg h
/-- A call of an own list. -/
theorem QueA.turn {w w' : World} {base : Nat} {A : QAd} {T K t : Nat} {s : QSt} {ra : Nat → Option Addr} {sa : Option Addr} {l' : List (List Ent)} (h : QueA w base A T K s ra sa) (ht : t < T) (hl : Turned w base (A.L t) (ra t) l' w') :
    ∃ ra', QueA w' base A T K { s with ls := lset s.ls t l' } ra' sa ∧ Went base w w' := by
  obtain ⟨a', l1, l2, l3, l4, l5⟩ := hl
  have wt : Went base w w' := ⟨l2, ⟨l3.size, fun k ds V f hk hV => l3.block k ds V f hk (fun e => hV (by rcases e with e | e; exact .inr (.inl e); exact .inr (.inr (.inl e))))⟩⟩
  obtain ⟨cs, hr⟩ := (h.own t ht).head
  have f : Fr (fun k => k = A.L t ∨ ra t = some ⟨k, 0, none⟩) w w' := ⟨l3.size, fun k hk hx => l4 k hk (fun e => hx (.inl e)) (fun e => hx (.inr e))⟩
  have ne : ∀ {k : Nat} {ds : Array Value} {U : TypeId}, w.heap[k]? = some (.cells ds U (0, 0)) → U ≠ 102 → U ≠ 110 → ¬ (k = A.L t ∨ ra t = some ⟨k, 0, none⟩) := fun {k} {ds} {U} hk h1 h2 hx => by
    rcases hx with hx | hx
    · exact ne_type hk hr h1 hx
    · obtain ⟨g, es, e, he⟩ := (h.own t ht).row hx
      injection e with e1
      subst e1
      exact ne_type hk he h2 rfl
  refine ⟨lset ra t a', ⟨h.fix.fr f (fun k hk => ?_), ?_, fun i hi => ?_, ?_, h.inj, fun i j hi hj hij x hx => ?_, fun i hi x hx => ?_, h.lowS, h.lowH⟩, wt⟩
  · rcases hk with rfl | hk
    · exact ⟨cs, _, _, hr, .inr (.inl rfl)⟩
    · obtain ⟨g, es, e, he⟩ := (h.own t ht).row hk
      injection e with e1
      subst e1
      exact ⟨es, _, _, he, .inr (.inr (.inl rfl))⟩
  · obtain ⟨ds, hd⟩ := h.slt.rowT
    exact h.slt.of_blocks (f.2 _ h.slt.blt (ne h.slt.head (by decide) (by decide))) (f.2 _ h.slt.rlt (ne hd (by decide) (by decide)))
  · by_cases e : i = t
    · subst e
      rw [lset_same]
      show LsmA w' base (A.L i) (lset s.ls i l' i) a'
      rw [lset_same]
      exact l1
    · rw [lset_ne _ _ e]
      show LsmA w' base (A.L i) (lset s.ls t l' i) (ra i)
      rw [lset_ne _ _ e]
      refine (h.own i hi).fr f (fun hx => ?_) (fun k hk hx => ?_) (fun k es he => ne he (by decide) (by decide))
      · rcases hx with hx | hx
        · exact e (h.inj i t hi ht hx)
        · obtain ⟨g, es, e2, he⟩ := (h.own t ht).row hx
          injection e2 with e1
          subst e1
          obtain ⟨ds, hd⟩ := (h.own i hi).head
          exact ne_type hd he (by decide) rfl
      · rcases hx with hx | hx
        · obtain ⟨g, es, e2, he⟩ := (h.own i hi).row hk
          injection e2 with e1
          subst e1
          exact ne_type he hr (by decide) hx
        · exact h.rne i t hi ht e _ hk hx
  · obtain ⟨ds, hd⟩ := h.shr.head
    refine h.shr.fr f (ne hd (by decide) (by decide)) (fun k hk hx => ?_) (fun k es he => ne he (by decide) (by decide))
    rcases hx with hx | hx
    · obtain ⟨g, es, e2, he⟩ := h.shr.row hk
      injection e2 with e1
      subst e1
      exact ne_type he hr (by decide) hx
    · exact h.sne t ht _ hx hk
  · have old : ∀ q, q < T → ∀ y, ra q = some y → y.block < w.heap.size := fun q hq y hy => by
      obtain ⟨g, es, e2, he⟩ := (h.own q hq).row hy
      rw [e2]; exact lt_of_block he
    by_cases e1 : i = t
    · subst e1
      rw [lset_same] at hx
      rw [lset_ne _ _ (fun e => hij e.symm)]
      intro hy
      rcases l5 with l5 | l5
      · exact h.rne i j hi hj hij x (by rw [← l5]; exact hx) hy
      · have := l5 x hx
        have := old j hj x hy
        omega
    · rw [lset_ne _ _ e1] at hx
      by_cases e2 : j = t
      · subst e2
        rw [lset_same]
        intro hy
        rcases l5 with l5 | l5
        · exact h.rne i j hi hj hij x hx (by rw [← l5]; exact hy)
        · have := l5 x hy
          have := old i hi x hx
          omega
      · rw [lset_ne _ _ e2]
        exact h.rne i j hi hj hij x hx
  · by_cases e1 : i = t
    · subst e1
      rw [lset_same] at hx
      rcases l5 with l5 | l5
      · exact h.sne i hi x (by rw [← l5]; exact hx)
      · intro hy
        have h1 := l5 x hx
        obtain ⟨g, es, e2, he⟩ := h.shr.row hy
        have h2 := lt_of_block he
        rw [e2] at h1
        exact absurd h1 (by show ¬ w.heap.size ≤ g; omega)
    · rw [lset_ne _ _ e1] at hx
      exact h.sne i hi x hx

/- What a walk reads. -/
theorem QFix.cells {w : World} {A : QAd} {T K : Nat} (h : QFix w A T K) : w.cell? ⟨A.B, 0, none⟩ = some (.int .i64 K) ∧ w.cell? ⟨A.B, 1, none⟩ = some (ptr A.SB) ∧ w.cell? ⟨A.B, 2, none⟩ = some (.slice (some ⟨A.OR, 0, none⟩) T A.oc) ∧ w.cell? ⟨A.B, 3, none⟩ = some (ptr A.HB) ∧ w.cell? ⟨A.B, 4, none⟩ = some (.map (some A.M)) := by
  refine ⟨?_, ?_, ?_, ?_, ?_⟩ <;> (rw [cell_of_row _ _ _ _ _ _ h.head]; rfl)
theorem QFix.own {w : World} {A : QAd} {T K : Nat} (h : QFix w A T K) {i : Nat} (hi : i < T) : w.cell? ⟨A.OR, i, none⟩ = some (ptr (A.L i)) := by
  obtain ⟨cs, h1, h2⟩ := h.row
  rw [cell_of_row _ _ _ _ _ _ h1]
  exact h2 i hi
theorem QFix.below {w w' : World} {A : QAd} {T K : Nat} (h : QFix w A T K) (hw : Below w.heap.size w w') : QFix w' A T K := h.fr (X := fun _ => False) (Fr.below hw) (fun k hk => hk.elim)
theorem QFix.blt {w : World} {A : QAd} {T K : Nat} (h : QFix w A T K) : A.B < w.heap.size := lt_of_block h.head
theorem QFix.olt {w : World} {A : QAd} {T K : Nat} (h : QFix w A T K) : A.OR < w.heap.size := by
  obtain ⟨cs, h1, h2⟩ := h.row
  exact lt_of_block h1
end Go.Proofs.YtdcacbjmbfppeaaGreat

/- A map in the heap: what it leads to; maps keyed by ints; a range over one. -/
import Derived.Test.YtpcmdbpgplcnnaaBnR
import Derived.Maps.OwnSet
import Derived.Maps.Keyed
import Derived.Maps.Range
import Derived.Maps.RangeWalk
namespace Go.Proofs.Ytpcmdbpgplcnnaa
open Go.RowKit Go.Lib Go.WideMaps Go.Maps
set_option linter.unusedVariables false

def heldR (v : Value) : Option (DataW Value × List MemPlace) := some (.held v, [])
/-- A kind of keys. -/
structure KeyT (κ : Type) (kt : TypeId) where
  ek : κ → Value
  ok : κ → Prop
  lk : κ → Lit
  K : Keyed Try.prog kt
  key : ∀ x, ok x → keyOf Try.prog kt (ek x) = some (lk x)
  inj : ∀ x y, ek x = ek y → x = y
section
variable {κ : Type} {kt t e : TypeId} {k : KeyT κ kt} {w w' : World} {M n : Nat} {f : κ → Option Value} {x : κ} {z : Value}
theorem KeyT.lk_is (k : KeyT κ kt) (h : k.ok x) : keyOf Try.prog kt (k.ek x) = some (k.lk x) := k.key x h
theorem KeyT.lk_ne (k : KeyT κ kt) {x y : κ} (hx : k.ok x) (hy : k.ok y) (h : x ≠ y) : k.lk x ≠ k.lk y := fun e => h (k.inj x y (k.K.inj (k.lk_is hx) (by rw [k.lk_is hy, e])))
def fput [DecidableEq κ] (f : κ → Option Value) (i : κ) (v : Value) : κ → Option Value := fun a => if a = i then some v else f a
def fdel [DecidableEq κ] (f : κ → Option Value) (i : κ) : κ → Option Value := fun a => if a = i then none else f a
/-- At M lies a map of n entries. -/
def MapG (k : KeyT κ kt) (w : World) (M : Nat) (f : κ → Option Value) (n : Nat) : Prop :=
  ∃ D : DataW Value, w.ownsMap Try.prog kt heldR M n D ∧ Maps.size D = n ∧ (∃ ks : List κ, ks.Nodup ∧ ks.length = n ∧ ∀ x, x ∈ ks ↔ (f x).isSome = true) ∧ (∀ x v, f x = some v → k.ok x) ∧
    ∀ x, k.ok x → Maps.has D (k.lk x) = (f x).isSome ∧ ∀ v, f x = some v → ∀ z, D.atKey (k.lk x) z = .held v
theorem own_tight {D : DataW Value} (h : w.ownsMap Try.prog kt heldR M n D) : w.ownsMap Try.prog kt heldR M (Maps.size D) D := by
  obtain ⟨es, cl, h1, h2, h3, rfl⟩ := h
  exact ⟨es, cl, h1, h2, by simp [Maps.size, length_sorted], rfl⟩
theorem MapG.lt (h : MapG k w M f n) : M < w.heap.size := by
  obtain ⟨D, h1, _⟩ := h
  exact h1.lt
theorem MapG.isMap (h : MapG k w M f n) : ∃ es c, w.heap[M]? = some (.map es c) := by
  obtain ⟨D, ⟨es, c, hb, _⟩, _⟩ := h
  exact ⟨es, c, hb⟩
theorem MapG.of_block (h : MapG k w M f n) (e : w'.heap[M]? = w.heap[M]?) : MapG k w' M f n := by
  obtain ⟨D, ⟨es, c, hb, r⟩, h3⟩ := h
  exact ⟨D, ⟨es, c, e.trans hb, r⟩, h3⟩
theorem MapG.keys (h : MapG k w M f n) : ∃ ks : List κ, ks.Nodup ∧ ks.length = n ∧ ∀ x, x ∈ ks ↔ (f x).isSome = true := by
  obtain ⟨D, _, _, h3, _⟩ := h
  exact h3
theorem MapG.okey (h : MapG k w M f n) {v : Value} (hx : f x = some v) : k.ok x := by
  obtain ⟨D, _, _, _, h4, _⟩ := h
  exact h4 x v hx
theorem MapG.made (k : KeyT κ kt) (w : World) : MapG k (w.alloc (.map #[] 0)) w.heap.size (fun _ => none) 0 :=
  ⟨.map [], World.ownsMap_made w _ _ _, rfl, ⟨[], List.nodup_nil, rfl, fun x => by simp⟩, fun x v h => (by cases h), fun i _ => ⟨rfl, fun v hv => by cases hv⟩⟩
theorem MapG.look (h : MapG k w M f n) (ht : Try.prog.underlying t = some (.map kt e)) (hz : (zeroValue e).run Try.prog w = .ok z w) (hx : k.ok x) :
    (Instr.lookup t (.map (some M)) (k.ek x) false).run Try.prog w = .ok ((f x).getD z) w := by
  obtain ⟨D, h1, h2, _, _, h3⟩ := h
  obtain ⟨v', ps, hr, hv'⟩ := h1.lookup k.K ht hz (zd := .held z) (zp := []) rfl (k.lk_is hx)
  rw [hr]
  unfold heldR at hv'
  simp only [Option.some.injEq, Prod.mk.injEq] at hv'
  obtain ⟨q1, q2⟩ := h3 x hx
  cases hf : f x with
  | none =>
    rw [hf] at q1
    rw [Maps.atKey_of_not_has q1] at hv'
    injection hv'.1 with e
    rw [e]; rfl
  | some u =>
    rw [q2 u hf] at hv'
    injection hv'.1 with e
    rw [e]; rfl
theorem MapG.len (h : MapG k w M f n) (ht : Try.prog.underlying t = some (.map kt e)) (ty : TypeId) : (Builtin.len_ #[t] ty #[.map (some M)]).run Try.prog w = .ok (.int .i64 n) w := by
  obtain ⟨D, h1, h2, _⟩ := h
  rw [← h2]
  exact h1.len ht ty
theorem MapG.store [DecidableEq κ] (h : MapG k w M f n) (ht : Try.prog.underlying t = some (.map kt e)) (hn : n ≤ 1000000) (hx : k.ok x) (v : Value) :
    ∃ w' m, (Instr.mapUpdate t (.map (some M)) (k.ek x) v).run Try.prog w = .ok () w' ∧ MapG k w' M (fput f x v) m ∧ m = (if (f x).isSome = true then n else n + 1) ∧ w.grownBy w' (some M) := by
  obtain ⟨D, h1, h2, ⟨ks, k1, k2, k3⟩, h4, h3⟩ := h
  obtain ⟨w', hr, ho, hm⟩ := h1.store k.K ht (by unfold maxLen; omega) (k.lk_is hx) (val := v) (d := .held v) (ps := []) rfl
  have hk := k.K.key (k.lk_is hx)
  have hsz : Maps.size (D.put (k.lk x) (.held v)) = if (f x).isSome then n else n + 1 := by
    rw [Maps.size_put (h1.tidy k.K), (h3 x hx).1, h2]
  refine ⟨w', _, hr, ⟨_, by have := own_tight ho; rw [hsz] at this; exact this, hsz, ?_, fun y u hy => ?_, fun y hy => ?_⟩, rfl, hm.grown⟩
  · cases hf : (f x).isSome with
    | true =>
      refine ⟨ks, k1, by simp [k2], fun y => ?_⟩
      rw [k3]
      unfold fput
      by_cases c : y = x
      · subst c; simp [hf]
      · rw [if_neg c]
    | false =>
      refine ⟨x :: ks, List.nodup_cons.2 ⟨fun hm => (by rw [k3, hf] at hm; cases hm), k1⟩, by simp [k2], fun y => ?_⟩
      rw [List.mem_cons, k3]
      unfold fput
      by_cases c : y = x
      · subst c; simp
      · rw [if_neg c]; simp [c]
  · unfold fput at hy
    by_cases c : y = x
    · subst c; exact hx
    · rw [if_neg c] at hy; exact h4 y u hy
  · by_cases c : y = x
    · subst c
      refine ⟨by rw [Maps.has_put_same h1.isMap hk]; simp [fput], fun u hu z => ?_⟩
      rw [Maps.atKey_put_same h1.isMap hk]
      simp [fput] at hu
      rw [hu]
    · have ne := k.lk_ne hy hx c
      rw [Maps.has_put_other ne]
      have : fput f x v y = f y := by unfold fput; rw [if_neg c]
      rw [this]
      refine ⟨(h3 y hy).1, fun u hu z => ?_⟩
      rw [Maps.atKey_put_other ne]
      exact (h3 y hy).2 u hu z
theorem MapG.del [DecidableEq κ] (h : MapG k w M f n) (ht : Try.prog.underlying t = some (.map kt e)) (hx : k.ok x) (ty : TypeId) :
    ∃ w' m, (Builtin.delete_ #[t, kt] ty #[.map (some M), k.ek x]).run Try.prog w = .ok (.tuple #[]) w' ∧ MapG k w' M (fdel f x) m ∧ m ≤ n ∧ w.grownBy w' (some M) := by
  obtain ⟨D, h1, h2, ⟨ks, k1, k2, k3⟩, h4, h3⟩ := h
  obtain ⟨w', hr, ho, hm⟩ := h1.drop k.K ht (k.lk_is hx) ty
  have hsz : Maps.size (D.del (k.lk x)) = if (f x).isSome = true then n - 1 else n := by
    have := Maps.size_del (k := k.lk x) (h1.tidy k.K)
    rw [(h3 x hx).1] at this
    cases hf : (f x).isSome with
    | true =>
      rw [hf] at this
      simp at this
      rw [if_pos rfl]
      omega
    | false =>
      rw [hf] at this
      simp at this
      rw [if_neg (by simp)]
      omega
  refine ⟨w', _, hr, ⟨_, by have := own_tight ho; rw [hsz] at this; exact this, hsz, ?_, fun y u hy => ?_, fun y hy => ?_⟩, by split <;> omega, hm.grown⟩
  · cases hf : (f x).isSome with
    | true =>
      have hmem : x ∈ ks := (k3 x).2 hf
      refine ⟨ks.erase x, k1.erase _, by rw [List.length_erase_of_mem hmem, k2, if_pos rfl], fun y => ?_⟩
      rw [k1.mem_erase_iff, k3]
      unfold fdel
      by_cases c : y = x
      · subst c; simp
      · rw [if_neg c]; simp [c]
    | false =>
      refine ⟨ks, k1, by rw [k2, if_neg (by simp)], fun y => ?_⟩
      rw [k3]
      unfold fdel
      by_cases c : y = x
      · subst c; simp [hf]
      · rw [if_neg c]
  · unfold fdel at hy
    by_cases c : y = x
    · subst c; exact hx
    · rw [if_neg c] at hy; exact h4 y u hy
  · by_cases c : y = x
    · subst c
      exact ⟨by rw [Maps.has_del_same]; simp [fdel], fun u hu z => by simp [fdel] at hu⟩
    · have ne := k.lk_ne hy hx c
      rw [Maps.has_del_other ne]
      have : fdel f x y = f y := by unfold fdel; rw [if_neg c]
      rw [this]
      refine ⟨(h3 y hy).1, fun u hu z => ?_⟩
      rw [Maps.atKey_del_other ne]
      exact (h3 y hy).2 u hu z
theorem MapG.lookOk (h : MapG k w M f n) (ht : Try.prog.underlying t = some (.map kt e)) (hz : (zeroValue e).run Try.prog w = .ok z w) (hx : k.ok x) :
    (Instr.lookup t (.map (some M)) (k.ek x) true).run Try.prog w = .ok (.tuple #[(f x).getD z, .bool (f x).isSome]) w := by
  obtain ⟨D, h1, h2, _, _, h3⟩ := h
  obtain ⟨v', ps, hr, hv'⟩ := h1.look_ok k.K ht hz (zd := .held z) (zp := []) rfl (k.lk_is hx)
  rw [hr]
  unfold heldR at hv'
  simp only [Option.some.injEq, Prod.mk.injEq] at hv'
  obtain ⟨q1, q2⟩ := h3 x hx
  rw [q1]
  cases hf : f x with
  | none =>
    rw [hf] at q1
    rw [Maps.atKey_of_not_has q1] at hv'
    injection hv'.1 with e
    rw [e]; rfl
  | some u =>
    rw [q2 u hf] at hv'
    injection hv'.1 with e
    rw [e]; rfl
end


abbrev wfI (a : Int) : Prop := (Lit.int .i64 a).wf = true
theorem wfI_of {a : Int} (h1 : -9223372036854775808 ≤ a) (h2 : a ≤ 9223372036854775807) : wfI a := by
  unfold wfI
  simp [Lit.wf, IntKind.min, IntKind.max, IntKind.bits, IntKind.signed]
  omega
abbrev wfU (a : Nat) : Prop := (Lit.int .u64 (a : Int)).wf = true
theorem wfU_of {a : Nat} (h2 : a < 18446744073709551616) : wfU a := by
  unfold wfU
  simp [Lit.wf, IntKind.min, IntKind.max, IntKind.bits, IntKind.signed]
  omega
/-- Ints as keys. -/
def keyI : KeyT Int 3 where
  ek := fun a => .int .i64 a
  ok := wfI
  lk := fun a => .int .i64 a
  K := int_keyed Try.underlying3
  key := fun x h => keyOf_int_mk Try.underlying3 h
  inj := fun x y h => by injection h
/-! ## A range over a map whose keys are whole numbers -/
/-- What is still to come of it: T. -/
def Rg {α : Type} (enc : α → Value) (w : World) (M r n : Nat) (D : DataW Value) (T : List (Int × α)) (cnt : Nat) : Prop :=
  Keys T ∧ (∀ p ∈ T, wfI p.1 ∧ ∀ z, D.atKey (.int .i64 p.1) z = .held (enc p.2)) ∧ ∃ left, w.ranges Try.prog 3 heldR M r n D left cnt ∧ ∀ x, wfI x → left (.int .i64 x) = (kget x T).isSome
section
variable {α : Type} {enc : α → Value} {w w' : World} {M r n cnt : Nat} {D : DataW Value} {S T : List (Int × α)}
theorem MapG.toRange (h : MapG keyI w M (fun i => (kget i S).map enc) n) (hk : Keys S) : ∃ D, w.ownsMap Try.prog 3 heldR M n D ∧ (∀ p ∈ S, wfI p.1 ∧ ∀ z, D.atKey (.int .i64 p.1) z = .held (enc p.2)) ∧ ∀ x, wfI x → Maps.has D (.int .i64 x) = (kget x S).isSome := by
  obtain ⟨D, h1, h2, h3, h4, h5⟩ := h
  refine ⟨D, h1, fun p hp => ?_, fun x hx => ?_⟩
  · have hg : kget p.1 S = some p.2 := (kget_mem hk).2 hp
    have hf : (fun i => (kget i S).map enc) p.1 = some (enc p.2) := by show (kget p.1 S).map enc = _; rw [hg]; rfl
    have hw : wfI p.1 := h4 p.1 _ hf
    exact ⟨hw, fun z => (h5 p.1 hw).2 _ hf z⟩
  · have := (h5 x hx).1
    rw [Option.isSome_map] at this
    exact this
theorem Rg.start (h : w.ranges Try.prog 3 heldR M r n D (Maps.has D) (Maps.size D)) (hk : Keys S) (h1 : ∀ p ∈ S, wfI p.1 ∧ ∀ z, D.atKey (.int .i64 p.1) z = .held (enc p.2)) (h2 : ∀ x, wfI x → Maps.has D (.int .i64 x) = (kget x S).isSome) : Rg enc w M r n D S (Maps.size D) := ⟨hk, h1, _, h, h2⟩
theorem Rg.left_eq (h : Rg enc w M r n D T cnt) : w.rangeLeft M r = cnt := by obtain ⟨_, _, _, h, _⟩ := h; exact h.left_eq
theorem Rg.lt (h : Rg enc w M r n D T cnt) : r < w.heap.size := by obtain ⟨_, _, _, h, _⟩ := h; exact h.lt
theorem Rg.ne (h : Rg enc w M r n D T cnt) : r ≠ M := by obtain ⟨_, _, _, h, _⟩ := h; exact h.ne
theorem Rg.kept {row : Option Nat} (h : Rg enc w M r n D T cnt) (hg : w.grownBy w' row) (hb : some M ≠ row) (hr : some r ≠ row) : Rg enc w' M r n D T cnt := by
  obtain ⟨h1, h2, l, h3, h4⟩ := h
  exact ⟨h1, h2, l, h3.kept hg hb hr, h4⟩
theorem Rg.below {B : Nat} (h : Rg enc w M r n D T cnt) (hb : Below B w w') (hm : M < B) (hr : r < B) : Rg enc w' M r n D T cnt := by
  obtain ⟨h1, h2, l, ⟨es, clock, since, seen, c0, a1, a2, a3, a4, a5, rest⟩, h4⟩ := h
  exact ⟨h1, h2, l, ⟨es, clock, since, seen, c0, (hb.block M hm).trans a1, a2, a3, a4, (hb.block r hr).trans a5, rest⟩, h4⟩
theorem sameKey_int (x y : Int) : (Lit.int .i64 x).sameKey (.int .i64 y) = decide (x = y) := by
  simp [Lit.sameKey]
theorem wpList_next_rg {ops : Array Oper} {rest : List Oper} {o : Oper} {a : Act} {Q : Exit → Act → World → Prop} (hg : o.guard = none) (it : Operand) (hop : o.op = Op.next it false) (hit : a.eval it = .pointer (some ⟨r, 0, none⟩)) (h : Rg enc w M r n D T cnt)
    (hDone : T = [] → wpList Try.prog ops Q rest (a.put o.dst (.tuple #[.bool false])) w)
    (hMore : ∀ (x : Int) (v : α) (w' : World) (cnt' : Nat), wfI x → kget x T = some v → Rg enc w' M r n D (kdel x T) cnt' → cnt' < cnt →
      w.grownBy w' (some r) → w'.heap.size = w.heap.size → (Instr.entry (.pointer (some ⟨r, 0, none⟩))).run Try.prog w' = .ok (.tuple #[.int .i64 x, enc v]) w' → wpList Try.prog ops Q rest (a.put o.dst (.tuple #[.bool true, .int .i64 x, enc v])) w') :
    wpList Try.prog ops Q (o :: rest) a w := by
  obtain ⟨h1, h2, left, h3, h4⟩ := h
  refine wpList_next_ranges (α := Int) (β := Value) w hg it hop 3 (int_keyed Try.underlying3) heldR (fun x => .int .i64 x) id (fun key kl hk => ?_) (fun v y _ => ⟨v, rfl⟩) M r n D left cnt hit h3 (fun _ hl => hDone ?_) (fun x c kl y w1 cnt1 hk hl hv hat hrg hlt hgr hsz hen => ?_)
  · obtain ⟨x, e, _⟩ := Maps.keyOf_int_inv Try.underlying3 hk
    exact ⟨x, e⟩
  · cases T with
    | nil => rfl
    | cons p T =>
      have hp := (h2 p List.mem_cons_self).1
      have := h4 p.1 hp
      rw [hl, (kget_mem (v := p.2) h1).2 List.mem_cons_self] at this
      cases this
  · obtain ⟨x', e1, e2, hw⟩ := Maps.keyOf_int_inv Try.underlying3 hk
    obtain rfl : x = x' := by injection e1
    subst e2
    have hs := h4 x hw
    rw [hl] at hs
    obtain ⟨v, hv'⟩ := Option.isSome_iff_exists.1 hs.symm
    have hm := (kget_mem h1).1 hv'
    have ha := (h2 _ hm).2 (.held c)
    rw [hat] at ha
    unfold heldR at hv
    injection hv with hv
    rw [← hv] at ha
    have hc : c = enc v := by injection ha
    subst hc
    refine hMore x v w1 cnt1 hw hv' ⟨keys_del h1, fun p hp => h2 p (List.mem_filter.1 hp).1, _, hrg, fun z hz => ?_⟩ hlt hgr hsz hen
    show (left (.int .i64 z) && !(Lit.int .i64 z).sameKey (.int .i64 x)) = _
    rw [h4 z hz, sameKey_int, kget_del]
    by_cases hzx : z = x
    · rw [if_pos hzx]; simp [hzx]
    · rw [if_neg hzx]; simp [hzx]
end
end Go.Proofs.Ytpcmdbpgplcnnaa

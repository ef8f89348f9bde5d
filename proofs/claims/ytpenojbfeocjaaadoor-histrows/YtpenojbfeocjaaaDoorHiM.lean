/- A map in the heap: what it leads to. Maps keyed by ints, and by places (a key and an ID as words). -/
import Derived.Test.YtpenojbfeocjaaaDoorHiR
import Derived.Maps.OwnSet
import Derived.Maps.Keyed
import Derived.DeepKeys4
namespace Go.Proofs.YtpenojbfeocjaaaDoor
open Go.RowKit Go.Lib Go.WideMaps Go.Maps
set_option linter.unusedVariables false

def heldR (v : Value) : Option (DataW Value × List MemPlace) := some (.held v, [])
/-- A kind of keys. -/
structure KeyT (κ : Type) (kt : TypeId) where
  ek : κ → Value
  ok : κ → Prop
  lk : κ → Lit
  K : Keyed Tryd.prog kt
  key : ∀ x, ok x → keyOf Tryd.prog kt (ek x) = some (lk x)
  inj : ∀ x y, ek x = ek y → x = y
section
variable {κ : Type} {kt t e : TypeId} {k : KeyT κ kt} {w w' : World} {M n : Nat} {f : κ → Option Value} {x : κ} {z : Value}
theorem KeyT.lk_is (k : KeyT κ kt) (h : k.ok x) : keyOf Tryd.prog kt (k.ek x) = some (k.lk x) := k.key x h
theorem KeyT.lk_ne (k : KeyT κ kt) {x y : κ} (hx : k.ok x) (hy : k.ok y) (h : x ≠ y) : k.lk x ≠ k.lk y := fun e => h (k.inj x y (k.K.inj (k.lk_is hx) (by rw [k.lk_is hy, e])))
def fput [DecidableEq κ] (f : κ → Option Value) (i : κ) (v : Value) : κ → Option Value := fun a => if a = i then some v else f a
def fdel [DecidableEq κ] (f : κ → Option Value) (i : κ) : κ → Option Value := fun a => if a = i then none else f a
/-- At M lies a map of n entries. -/
def MapG (k : KeyT κ kt) (w : World) (M : Nat) (f : κ → Option Value) (n : Nat) : Prop :=
  ∃ D : DataW Value, w.ownsMap Tryd.prog kt heldR M n D ∧ Maps.size D = n ∧ (∃ ks : List κ, ks.Nodup ∧ ks.length = n ∧ ∀ x, x ∈ ks ↔ (f x).isSome = true) ∧ (∀ x v, f x = some v → k.ok x) ∧
    ∀ x, k.ok x → Maps.has D (k.lk x) = (f x).isSome ∧ ∀ v, f x = some v → ∀ z, D.atKey (k.lk x) z = .held v
theorem own_tight {D : DataW Value} (h : w.ownsMap Tryd.prog kt heldR M n D) : w.ownsMap Tryd.prog kt heldR M (Maps.size D) D := by
  obtain ⟨es, cl, h1, h2, h3, rfl⟩ := h
  exact ⟨es, cl, h1, h2, by simp [Maps.size, length_sorted], rfl⟩
theorem MapG.lt (h : MapG k w M f n) : M < w.heap.size := by
  obtain ⟨D, h1, _⟩ := h
  exact h1.lt
theorem MapG.isMap (h : MapG k w M f n) : ∃ es c, w.heap[M]? = some (.map es c) := by
  obtain ⟨D, ⟨es, c, hb, _⟩, _⟩ := h
  exact ⟨es, c, hb⟩
theorem MapG.of_block (h : MapG k w M f n) (e : w'.heap[M]? = w.heap[M]?) : MapG k w' M f n := by
  obtain ⟨D, ⟨es, c, hb, r⟩, h3⟩ := h
  exact ⟨D, ⟨es, c, e.trans hb, r⟩, h3⟩
theorem MapG.keys (h : MapG k w M f n) : ∃ ks : List κ, ks.Nodup ∧ ks.length = n ∧ ∀ x, x ∈ ks ↔ (f x).isSome = true := by
  obtain ⟨D, _, _, h3, _⟩ := h
  exact h3
theorem MapG.okey (h : MapG k w M f n) {v : Value} (hx : f x = some v) : k.ok x := by
  obtain ⟨D, _, _, _, h4, _⟩ := h
  exact h4 x v hx
theorem MapG.made (k : KeyT κ kt) (w : World) : MapG k (w.alloc (.map #[] 0)) w.heap.size (fun _ => none) 0 :=
  ⟨.map [], World.ownsMap_made w _ _ _, rfl, ⟨[], List.nodup_nil, rfl, fun x => by simp⟩, fun x v h => (by cases h), fun i _ => ⟨rfl, fun v hv => by cases hv⟩⟩
theorem MapG.look (h : MapG k w M f n) (ht : Tryd.prog.underlying t = some (.map kt e)) (hz : (zeroValue e).run Tryd.prog w = .ok z w) (hx : k.ok x) :
    (Instr.lookup t (.map (some M)) (k.ek x) false).run Tryd.prog w = .ok ((f x).getD z) w := by
  obtain ⟨D, h1, h2, _, _, h3⟩ := h
  obtain ⟨v', ps, hr, hv'⟩ := h1.lookup k.K ht hz (zd := .held z) (zp := []) rfl (k.lk_is hx)
  rw [hr]
  unfold heldR at hv'
  simp only [Option.some.injEq, Prod.mk.injEq] at hv'
  obtain ⟨q1, q2⟩ := h3 x hx
  cases hf : f x with
  | none =>
    rw [hf] at q1
    rw [Maps.atKey_of_not_has q1] at hv'
    injection hv'.1 with e
    rw [e]; rfl
  | some u =>
    rw [q2 u hf] at hv'
    injection hv'.1 with e
    rw [e]; rfl
theorem MapG.len (h : MapG k w M f n) (ht : Tryd.prog.underlying t = some (.map kt e)) (ty : TypeId) : (Builtin.len_ #[t] ty #[.map (some M)]).run Tryd.prog w = .ok (.int .i64 n) w := by
  obtain ⟨D, h1, h2, _⟩ := h
  rw [← h2]
  exact h1.len ht ty
theorem MapG.store [DecidableEq κ] (h : MapG k w M f n) (ht : Tryd.prog.underlying t = some (.map kt e)) (hn : n ≤ 1000000) (hx : k.ok x) (v : Value) :
    ∃ w' m, (Instr.mapUpdate t (.map (some M)) (k.ek x) v).run Tryd.prog w = .ok () w' ∧ MapG k w' M (fput f x v) m ∧ m = (if (f x).isSome = true then n else n + 1) ∧ w.grownBy w' (some M) := by
  obtain ⟨D, h1, h2, ⟨ks, k1, k2, k3⟩, h4, h3⟩ := h
  obtain ⟨w', hr, ho, hm⟩ := h1.store k.K ht (by unfold maxLen; omega) (k.lk_is hx) (val := v) (d := .held v) (ps := []) rfl
  have hk := k.K.key (k.lk_is hx)
  have hsz : Maps.size (D.put (k.lk x) (.held v)) = if (f x).isSome then n else n + 1 := by
    rw [Maps.size_put (h1.tidy k.K), (h3 x hx).1, h2]
  refine ⟨w', _, hr, ⟨_, by have := own_tight ho; rw [hsz] at this; exact this, hsz, ?_, fun y u hy => ?_, fun y hy => ?_⟩, rfl, hm.grown⟩
  · cases hf : (f x).isSome with
    | true =>
      refine ⟨ks, k1, by simp [k2], fun y => ?_⟩
      rw [k3]
      unfold fput
      by_cases c : y = x
      · subst c; simp [hf]
      · rw [if_neg c]
    | false =>
      refine ⟨x :: ks, List.nodup_cons.2 ⟨fun hm => (by rw [k3, hf] at hm; cases hm), k1⟩, by simp [k2], fun y => ?_⟩
      rw [List.mem_cons, k3]
      unfold fput
      by_cases c : y = x
      · subst c; simp
      · rw [if_neg c]; simp [c]
  · unfold fput at hy
    by_cases c : y = x
    · subst c; exact hx
    · rw [if_neg c] at hy; exact h4 y u hy
  · by_cases c : y = x
    · subst c
      refine ⟨by rw [Maps.has_put_same h1.isMap hk]; simp [fput], fun u hu z => ?_⟩
      rw [Maps.atKey_put_same h1.isMap hk]
      simp [fput] at hu
      rw [hu]
    · have ne := k.lk_ne hy hx c
      rw [Maps.has_put_other ne]
      have : fput f x v y = f y := by unfold fput; rw [if_neg c]
      rw [this]
      refine ⟨(h3 y hy).1, fun u hu z => ?_⟩
      rw [Maps.atKey_put_other ne]
      exact (h3 y hy).2 u hu z
theorem MapG.del [DecidableEq κ] (h : MapG k w M f n) (ht : Tryd.prog.underlying t = some (.map kt e)) (hx : k.ok x) (ty : TypeId) :
    ∃ w' m, (Builtin.delete_ #[t, kt] ty #[.map (some M), k.ek x]).run Tryd.prog w = .ok (.tuple #[]) w' ∧ MapG k w' M (fdel f x) m ∧ m ≤ n ∧ w.grownBy w' (some M) := by
  obtain ⟨D, h1, h2, ⟨ks, k1, k2, k3⟩, h4, h3⟩ := h
  obtain ⟨w', hr, ho, hm⟩ := h1.drop k.K ht (k.lk_is hx) ty
  have hsz : Maps.size (D.del (k.lk x)) = if (f x).isSome = true then n - 1 else n := by
    have := Maps.size_del (k := k.lk x) (h1.tidy k.K)
    rw [(h3 x hx).1] at this
    cases hf : (f x).isSome with
    | true =>
      rw [hf] at this
      simp at this
      rw [if_pos rfl]
      omega
    | false =>
      rw [hf] at this
      simp at this
      rw [if_neg (by simp)]
      omega
  refine ⟨w', _, hr, ⟨_, by have := own_tight ho; rw [hsz] at this; exact this, hsz, ?_, fun y u hy => ?_, fun y hy => ?_⟩, by split <;> omega, hm.grown⟩
  · cases hf : (f x).isSome with
    | true =>
      have hmem : x ∈ ks := (k3 x).2 hf
      refine ⟨ks.erase x, k1.erase _, by rw [List.length_erase_of_mem hmem, k2, if_pos rfl], fun y => ?_⟩
      rw [k1.mem_erase_iff, k3]
      unfold fdel
      by_cases c : y = x
      · subst c; simp
      · rw [if_neg c]; simp [c]
    | false =>
      refine ⟨ks, k1, by rw [k2, if_neg (by simp)], fun y => ?_⟩
      rw [k3]
      unfold fdel
      by_cases c : y = x
      · subst c; simp [hf]
      · rw [if_neg c]
  · unfold fdel at hy
    by_cases c : y = x
    · subst c; exact hx
    · rw [if_neg c] at hy; exact h4 y u hy
  · by_cases c : y = x
    · subst c
      exact ⟨by rw [Maps.has_del_same]; simp [fdel], fun u hu z => by simp [fdel] at hu⟩
    · have ne := k.lk_ne hy hx c
      rw [Maps.has_del_other ne]
      have : fdel f x y = f y := by unfold fdel; rw [if_neg c]
      rw [this]
      refine ⟨(h3 y hy).1, fun u hu z => ?_⟩
      rw [Maps.atKey_del_other ne]
      exact (h3 y hy).2 u hu z
theorem MapG.lookOk (h : MapG k w M f n) (ht : Tryd.prog.underlying t = some (.map kt e)) (hz : (zeroValue e).run Tryd.prog w = .ok z w) (hx : k.ok x) :
    (Instr.lookup t (.map (some M)) (k.ek x) true).run Tryd.prog w = .ok (.tuple #[(f x).getD z, .bool (f x).isSome]) w := by
  obtain ⟨D, h1, h2, _, _, h3⟩ := h
  obtain ⟨v', ps, hr, hv'⟩ := h1.look_ok k.K ht hz (zd := .held z) (zp := []) rfl (k.lk_is hx)
  rw [hr]
  unfold heldR at hv'
  simp only [Option.some.injEq, Prod.mk.injEq] at hv'
  obtain ⟨q1, q2⟩ := h3 x hx
  rw [q1]
  cases hf : f x with
  | none =>
    rw [hf] at q1
    rw [Maps.atKey_of_not_has q1] at hv'
    injection hv'.1 with e
    rw [e]; rfl
  | some u =>
    rw [q2 u hf] at hv'
    injection hv'.1 with e
    rw [e]; rfl
end


abbrev wfI (a : Int) : Prop := (Lit.int .i64 a).wf = true
theorem wfI_of {a : Int} (h1 : -9223372036854775808 ≤ a) (h2 : a ≤ 9223372036854775807) : wfI a := by
  unfold wfI
  simp [Lit.wf, IntKind.min, IntKind.max, IntKind.bits, IntKind.signed]
  omega
abbrev wfU (a : Nat) : Prop := (Lit.int .u64 (a : Int)).wf = true
theorem wfU_of {a : Nat} (h2 : a < 18446744073709551616) : wfU a := by
  unfold wfU
  simp [Lit.wf, IntKind.min, IntKind.max, IntKind.bits, IntKind.signed]
  omega
/-- Ints as keys. -/
def keyI : KeyT Int 3 where
  ek := fun a => .int .i64 a
  ok := wfI
  lk := fun a => .int .i64 a
  K := int_keyed Tryd.underlying3
  key := fun x h => keyOf_int_mk Tryd.underlying3 h
  inj := fun x y h => by injection h
theorem laidOut : laidOutB Tryd.prog = true := by kernel_rfl
theorem keyedP : Keyed Tryd.prog 52 := Keyed.of_law (deep_law_laid laidOut (m := 2) (by omega) (of_decide_eq_true (by kernel_rfl)) (by kernel_rfl) (by kernel_rfl))
/-- A place: two words. -/
def prV (p : Nat × Nat) : Value := .agg #[.int .u64 p.1, .int .u64 p.2]
theorem prV_key (a b : Nat) (ha : wfU a) (hb : wfU b) : keyOf Tryd.prog 52 (prV (a, b)) = some (.string (keyBytes [.int .u64 a, .int .u64 b])) := by
  have k1 : Tryd.prog.keyType 52 = true := by kernel_rfl
  have k2 : (prV (a, b)).formed Tryd.prog 52 = true := by kernel_rfl
  have lit : ∀ (d : Nat) (x : Nat), wfU x → Tryd.prog.keyLits (d + 1) 25 [.int .u64 x] = some [.int .u64 x] := fun d x hx => by
    unfold Program.keyLits
    rw [Tryd.underlying25]
    show (if _ then _ else _) = _
    rw [if_pos ⟨rfl, hx⟩]
  have c1 : Tryd.prog.cellsOf 25 = 1 := by kernel_rfl
  have c2 : Tryd.prog.cellsOf 52 = 2 := by kernel_rfl
  have lits : ∀ d, Tryd.prog.keyLits (d + 2) 52 [.int .u64 a, .int .u64 b] = some [.int .u64 a, .int .u64 b] := fun d => by
    rw [Program.keyLits.eq_def]
    simp only [Tryd.underlying52, c1, c2]
    have r2 : List.range 2 = [0, 1] := by decide
    simp [r2, lit d a ha, lit d b hb]
  unfold keyOf
  rw [Tryd.underlying52]
  simp only [k1, k2, Bool.and_self, if_true]
  obtain ⟨q, hq⟩ : ∃ q, Tryd.prog.types.size + 1 = q + 2 := ⟨Tryd.prog.types.size - 1, by have : 0 < Tryd.prog.types.size := of_decide_eq_true (by kernel_rfl); omega⟩
  rw [hq]
  rw [show (prV (a, b)).cells.toList = [.int .u64 a, .int .u64 b] from rfl, lits q]
  rfl
def keyP : KeyT (Nat × Nat) 52 where
  ek := prV
  ok := fun p => wfU p.1 ∧ wfU p.2
  lk := fun p => .string (keyBytes [.int .u64 p.1, .int .u64 p.2])
  K := keyedP
  key := fun x h => prV_key x.1 x.2 h.1 h.2
  inj := fun x y h => by
    unfold prV at h
    injection h with h
    simp at h
    exact Prod.ext (by omega) (by omega)
/-- A map that leads nowhere has nothing. -/
theorem MapG.none_left {κ : Type} {kt : TypeId} {k : KeyT κ kt} {w : World} {M n : Nat} {f : κ → Option Value} (h : MapG k w M f n) (hf : ∀ x, f x = none) : n = 0 := by
  obtain ⟨ks, _, k2, k3⟩ := h.keys
  rw [← k2]
  refine List.length_eq_zero_iff.2 (List.eq_nil_iff_forall_not_mem.2 fun x hx => ?_)
  have := (k3 x).1 hx
  rw [hf x] at this
  cases this
end Go.Proofs.YtpenojbfeocjaaaDoor

/- A map in the heap: what it leads to. Maps keyed by ints, and by pairs of them. -/
import Derived.Test.YtpenjncbodcbnaaDoorDgL
import Derived.Test.YtpenjncbodcbnaaDoorSteps
import Derived.Maps.OwnSet
import Derived.Maps.Keyed
import Derived.DeepKeys4
namespace Go.Proofs.YtpenjncbodcbnaaDoor
open Go.RowKit Go.Lib Go.WideMaps Go.Maps
set_option linter.unusedVariables false

def heldR (v : Value) : Option (DataW Value × List MemPlace) := some (.held v, [])
/-- A kind of keys. -/
structure KeyT (κ : Type) (kt : TypeId) where
  ek : κ → Value
  ok : κ → Prop
  lk : κ → Lit
  K : Keyed Tryd.prog kt
  key : ∀ x, ok x → keyOf Tryd.prog kt (ek x) = some (lk x)
  inj : ∀ x y, ek x = ek y → x = y
section
variable {κ : Type} {kt t e : TypeId} {k : KeyT κ kt} {w w' : World} {M n : Nat} {f : κ → Option Value} {x : κ} {z : Value}
theorem KeyT.lk_is (k : KeyT κ kt) (h : k.ok x) : keyOf Tryd.prog kt (k.ek x) = some (k.lk x) := k.key x h
theorem KeyT.lk_ne (k : KeyT κ kt) {x y : κ} (hx : k.ok x) (hy : k.ok y) (h : x ≠ y) : k.lk x ≠ k.lk y := fun e => h (k.inj x y (k.K.inj (k.lk_is hx) (by rw [k.lk_is hy, e])))
def fput [DecidableEq κ] (f : κ → Option Value) (i : κ) (v : Value) : κ → Option Value := fun a => if a = i then some v else f a
def fdel [DecidableEq κ] (f : κ → Option Value) (i : κ) : κ → Option Value := fun a => if a = i then none else f a
/-- At M lies a map of n entries. -/
def MapG (k : KeyT κ kt) (w : World) (M : Nat) (f : κ → Option Value) (n : Nat) : Prop :=
  ∃ D : DataW Value, w.ownsMap Tryd.prog kt heldR M n D ∧ Maps.size D = n ∧ (∃ ks : List κ, ks.Nodup ∧ ks.length = n ∧ ∀ x, x ∈ ks ↔ (f x).isSome = true) ∧ (∀ x v, f x = some v → k.ok x) ∧
    ∀ x, k.ok x → Maps.has D (k.lk x) = (f x).isSome ∧ ∀ v, f x = some v → ∀ z, D.atKey (k.lk x) z = .held v
theorem own_tight {D : DataW Value} (h : w.ownsMap Tryd.prog kt heldR M n D) : w.ownsMap Tryd.prog kt heldR M (Maps.size D) D := by
  obtain ⟨es, cl, h1, h2, h3, rfl⟩ := h
  exact ⟨es, cl, h1, h2, by simp [Maps.size, length_sorted], rfl⟩
theorem MapG.lt (h : MapG k w M f n) : M < w.heap.size := by
  obtain ⟨D, h1, _⟩ := h
  exact h1.lt
theorem MapG.isMap (h : MapG k w M f n) : ∃ es c, w.heap[M]? = some (.map es c) := by
  obtain ⟨D, ⟨es, c, hb, _⟩, _⟩ := h
  exact ⟨es, c, hb⟩
theorem MapG.of_block (h : MapG k w M f n) (e : w'.heap[M]? = w.heap[M]?) : MapG k w' M f n := by
  obtain ⟨D, ⟨es, c, hb, r⟩, h3⟩ := h
  exact ⟨D, ⟨es, c, e.trans hb, r⟩, h3⟩
theorem MapG.keys (h : MapG k w M f n) : ∃ ks : List κ, ks.Nodup ∧ ks.length = n ∧ ∀ x, x ∈ ks ↔ (f x).isSome = true := by
  obtain ⟨D, _, _, h3, _⟩ := h
  exact h3
theorem MapG.okey (h : MapG k w M f n) {v : Value} (hx : f x = some v) : k.ok x := by
  obtain ⟨D, _, _, _, h4, _⟩ := h
  exact h4 x v hx
theorem MapG.made (k : KeyT κ kt) (w : World) : MapG k (w.alloc (.map #[] 0)) w.heap.size (fun _ => none) 0 :=
  ⟨.map [], World.ownsMap_made w _ _ _, rfl, ⟨[], List.nodup_nil, rfl, fun x => by simp⟩, fun x v h => (by cases h), fun i _ => ⟨rfl, fun v hv => by cases hv⟩⟩
theorem MapG.look (h : MapG k w M f n) (ht : Tryd.prog.underlying t = some (.map kt e)) (hz : (zeroValue e).run Tryd.prog w = .ok z w) (hx : k.ok x) :
    (Instr.lookup t (.map (some M)) (k.ek x) false).run Tryd.prog w = .ok ((f x).getD z) w := by
  obtain ⟨D, h1, h2, _, _, h3⟩ := h
  obtain ⟨v', ps, hr, hv'⟩ := h1.lookup k.K ht hz (zd := .held z) (zp := []) rfl (k.lk_is hx)
  rw [hr]
  unfold heldR at hv'
  simp only [Option.some.injEq, Prod.mk.injEq] at hv'
  obtain ⟨q1, q2⟩ := h3 x hx
  cases hf : f x with
  | none =>
    rw [hf] at q1
    rw [Maps.atKey_of_not_has q1] at hv'
    injection hv'.1 with e
    rw [e]; rfl
  | some u =>
    rw [q2 u hf] at hv'
    injection hv'.1 with e
    rw [e]; rfl
theorem MapG.len (h : MapG k w M f n) (ht : Tryd.prog.underlying t = some (.map kt e)) (ty : TypeId) : (Builtin.len_ #[t] ty #[.map (some M)]).run Tryd.prog w = .ok (.int .i64 n) w := by
  obtain ⟨D, h1, h2, _⟩ := h
  rw [← h2]
  exact h1.len ht ty
theorem MapG.store [DecidableEq κ] (h : MapG k w M f n) (ht : Tryd.prog.underlying t = some (.map kt e)) (hn : n ≤ 1000000) (hx : k.ok x) (v : Value) :
    ∃ w' m, (Instr.mapUpdate t (.map (some M)) (k.ek x) v).run Tryd.prog w = .ok () w' ∧ MapG k w' M (fput f x v) m ∧ m = (if (f x).isSome = true then n else n + 1) ∧ w.grownBy w' (some M) := by
  obtain ⟨D, h1, h2, ⟨ks, k1, k2, k3⟩, h4, h3⟩ := h
  obtain ⟨w', hr, ho, hm⟩ := h1.store k.K ht (by unfold maxLen; omega) (k.lk_is hx) (val := v) (d := .held v) (ps := []) rfl
  have hk := k.K.key (k.lk_is hx)
  have hsz : Maps.size (D.put (k.lk x) (.held v)) = if (f x).isSome then n else n + 1 := by
    rw [Maps.size_put (h1.tidy k.K), (h3 x hx).1, h2]
  refine ⟨w', _, hr, ⟨_, by have := own_tight ho; rw [hsz] at this; exact this, hsz, ?_, fun y u hy => ?_, fun y hy => ?_⟩, rfl, hm.grown⟩
  · cases hf : (f x).isSome with
    | true =>
      refine ⟨ks, k1, by simp [k2], fun y => ?_⟩
      rw [k3]
      unfold fput
      by_cases c : y = x
      · subst c; simp [hf]
      · rw [if_neg c]
    | false =>
      refine ⟨x :: ks, List.nodup_cons.2 ⟨fun hm => (by rw [k3, hf] at hm; cases hm), k1⟩, by simp [k2], fun y => ?_⟩
      rw [List.mem_cons, k3]
      unfold fput
      by_cases c : y = x
      · subst c; simp
      · rw [if_neg c]; simp [c]
  · unfold fput at hy
    by_cases c : y = x
    · subst c; exact hx
    · rw [if_neg c] at hy; exact h4 y u hy
  · by_cases c : y = x
    · subst c
      refine ⟨by rw [Maps.has_put_same h1.isMap hk]; simp [fput], fun u hu z => ?_⟩
      rw [Maps.atKey_put_same h1.isMap hk]
      simp [fput] at hu
      rw [hu]
    · have ne := k.lk_ne hy hx c
      rw [Maps.has_put_other ne]
      have : fput f x v y = f y := by unfold fput; rw [if_neg c]
      rw [this]
      refine ⟨(h3 y hy).1, fun u hu z => ?_⟩
      rw [Maps.atKey_put_other ne]
      exact (h3 y hy).2 u hu z
theorem MapG.drop [DecidableEq κ] (h : MapG k w M f n) (ht : Tryd.prog.underlying t = some (.map kt e)) {u : Value} (hx : f x = some u) (ty : TypeId) :
    ∃ w' m, (Builtin.delete_ #[t, kt] ty #[.map (some M), k.ek x]).run Tryd.prog w = .ok (.tuple #[]) w' ∧ MapG k w' M (fdel f x) m ∧ m + 1 = n ∧ w.grownBy w' (some M) := by
  obtain ⟨D, h1, h2, ⟨ks, k1, k2, k3⟩, h4, h3⟩ := h
  have ox := h4 x u hx
  obtain ⟨w', hr, ho, hm⟩ := h1.drop k.K ht (k.lk_is ox) ty
  have hmem : x ∈ ks := (k3 x).2 (by rw [hx]; rfl)
  have hpos : 0 < n := by rw [← k2]; exact List.length_pos_of_mem hmem
  have hsz : Maps.size (D.del (k.lk x)) = n - 1 := by
    have := Maps.size_del (k := k.lk x) (h1.tidy k.K)
    rw [(h3 x ox).1, hx] at this
    simp at this
    omega
  refine ⟨w', n - 1, hr, ⟨_, by have := own_tight ho; rw [hsz] at this; exact this, hsz, ?_, fun y u hy => ?_, fun y hy => ?_⟩, by omega, hm.grown⟩
  · refine ⟨ks.erase x, k1.erase _, by rw [List.length_erase_of_mem hmem, k2], fun y => ?_⟩
    rw [k1.mem_erase_iff, k3]
    unfold fdel
    by_cases c : y = x
    · subst c; simp
    · rw [if_neg c]; simp [c]
  · unfold fdel at hy
    by_cases c : y = x
    · subst c; exact ox
    · rw [if_neg c] at hy; exact h4 y u hy
  · by_cases c : y = x
    · subst c
      exact ⟨by rw [Maps.has_del_same]; simp [fdel], fun u hu z => by simp [fdel] at hu⟩
    · have ne := k.lk_ne hy ox c
      rw [Maps.has_del_other ne]
      have : fdel f x y = f y := by unfold fdel; rw [if_neg c]
      rw [this]
      refine ⟨(h3 y hy).1, fun u hu z => ?_⟩
      rw [Maps.atKey_del_other ne]
      exact (h3 y hy).2 u hu z
end

/-- Ints as keys. -/
def keyI : KeyT Int 3 where
  ek := fun a => .int .i64 a
  ok := wfI
  lk := fun a => .int .i64 a
  K := int_keyed Tryd.underlying3
  key := fun x h => keyOf_int_mk Tryd.underlying3 h
  inj := fun x y h => by injection h
theorem keyedP : Keyed Tryd.prog 64 := Keyed.of_law (deep_law_laid laidOut (m := 2) (by omega) (of_decide_eq_true (by kernel_rfl)) (by kernel_rfl) (by kernel_rfl))
/-- A pair of ints. -/
def prV (p : Int × Int) : Value := .agg #[.int .i64 p.1, .int .i64 p.2]
theorem prV_key (a b : Int) (ha : wfI a) (hb : wfI b) : keyOf Tryd.prog 64 (prV (a, b)) = some (.string (keyBytes [.int .i64 a, .int .i64 b])) := by
  have k1 : Tryd.prog.keyType 64 = true := by kernel_rfl
  have k2 : (prV (a, b)).formed Tryd.prog 64 = true := by kernel_rfl
  have lit : ∀ (d : Nat) (x : Int), wfI x → Tryd.prog.keyLits (d + 1) 3 [.int .i64 x] = some [.int .i64 x] := fun d x hx => by
    unfold Program.keyLits
    rw [Tryd.underlying3]
    show (if _ then _ else _) = _
    rw [if_pos ⟨rfl, hx⟩]
  have c1 : Tryd.prog.cellsOf 3 = 1 := by kernel_rfl
  have c2 : Tryd.prog.cellsOf 64 = 2 := by kernel_rfl
  have lits : ∀ d, Tryd.prog.keyLits (d + 2) 64 [.int .i64 a, .int .i64 b] = some [.int .i64 a, .int .i64 b] := fun d => by
    rw [Program.keyLits.eq_def]
    simp only [Tryd.underlying64, c1, c2]
    have r2 : List.range 2 = [0, 1] := by decide
    simp [r2, lit d a ha, lit d b hb]
  unfold keyOf
  rw [Tryd.underlying64]
  simp only [k1, k2, Bool.and_self, if_true]
  obtain ⟨q, hq⟩ : ∃ q, Tryd.prog.types.size + 1 = q + 2 := ⟨Tryd.prog.types.size - 1, by have : 0 < Tryd.prog.types.size := of_decide_eq_true (by kernel_rfl); omega⟩
  rw [hq]
  rw [show (prV (a, b)).cells.toList = [.int .i64 a, .int .i64 b] from rfl, lits q]
  rfl
def keyP : KeyT (Int × Int) 64 where
  ek := prV
  ok := fun p => wfI p.1 ∧ wfI p.2
  lk := fun p => .string (keyBytes [.int .i64 p.1, .int .i64 p.2])
  K := keyedP
  key := fun x h => prV_key x.1 x.2 h.1 h.2
  inj := fun x y h => by
    unfold prV at h
    injection h with h
    simp at h
    exact Prod.ext h.1 h.2
end Go.Proofs.YtpenjncbodcbnaaDoor

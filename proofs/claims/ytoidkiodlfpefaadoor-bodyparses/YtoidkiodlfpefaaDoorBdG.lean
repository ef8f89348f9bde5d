/- A map in the heap: what it leads to; keyed by strings. body.kindsByWord. -/
import Derived.Test.YtoidkiodlfpefaaDoorBdC
import Derived.Maps.OwnSet
import Derived.Maps.Keyed
namespace Go.Proofs.YtoidkiodlfpefaaDoor
open Go.RowKit Go.Lib Go.WideMaps Go.Maps
set_option linter.unusedVariables false
set_option maxRecDepth 10000

def heldR (v : Value) : Option (DataW Value × List MemPlace) := some (.held v, [])
/-- A kind of keys. -/
structure KeyT (κ : Type) (kt : TypeId) where
  ek : κ → Value
  ok : κ → Prop
  lk : κ → Lit
  K : Keyed Tryd.prog kt
  key : ∀ x, ok x → keyOf Tryd.prog kt (ek x) = some (lk x)
  inj : ∀ x y, ek x = ek y → x = y
section
variable {κ : Type} {kt t e : TypeId} {k : KeyT κ kt} {w w' : World} {M n : Nat} {f : κ → Option Value} {x : κ} {z : Value}
theorem KeyT.lk_is (k : KeyT κ kt) (h : k.ok x) : keyOf Tryd.prog kt (k.ek x) = some (k.lk x) := k.key x h
theorem KeyT.lk_ne (k : KeyT κ kt) {x y : κ} (hx : k.ok x) (hy : k.ok y) (h : x ≠ y) : k.lk x ≠ k.lk y := fun e => h (k.inj x y (k.K.inj (k.lk_is hx) (by rw [k.lk_is hy, e])))
def fput [DecidableEq κ] (f : κ → Option Value) (i : κ) (v : Value) : κ → Option Value := fun a => if a = i then some v else f a
def fdel [DecidableEq κ] (f : κ → Option Value) (i : κ) : κ → Option Value := fun a => if a = i then none else f a
/-- At M lies a map of n entries. -/
def MapG (k : KeyT κ kt) (w : World) (M : Nat) (f : κ → Option Value) (n : Nat) : Prop :=
  ∃ D : DataW Value, w.ownsMap Tryd.prog kt heldR M n D ∧ Maps.size D = n ∧ (∃ ks : List κ, ks.Nodup ∧ ks.length = n ∧ ∀ x, x ∈ ks ↔ (f x).isSome = true) ∧ (∀ x v, f x = some v → k.ok x) ∧
    ∀ x, k.ok x → Maps.has D (k.lk x) = (f x).isSome ∧ ∀ v, f x = some v → ∀ z, D.atKey (k.lk x) z = .held v
theorem own_tight {D : DataW Value} (h : w.ownsMap Tryd.prog kt heldR M n D) : w.ownsMap Tryd.prog kt heldR M (Maps.size D) D := by
  obtain ⟨es, cl, h1, h2, h3, rfl⟩ := h
  exact ⟨es, cl, h1, h2, by simp [Maps.size, length_sorted], rfl⟩
theorem MapG.lt (h : MapG k w M f n) : M < w.heap.size := by
  obtain ⟨D, h1, _⟩ := h
  exact h1.lt
theorem MapG.isMap (h : MapG k w M f n) : ∃ es c, w.heap[M]? = some (.map es c) := by
  obtain ⟨D, ⟨es, c, hb, _⟩, _⟩ := h
  exact ⟨es, c, hb⟩
theorem MapG.of_block (h : MapG k w M f n) (e : w'.heap[M]? = w.heap[M]?) : MapG k w' M f n := by
  obtain ⟨D, ⟨es, c, hb, r⟩, h3⟩ := h
  exact ⟨D, ⟨es, c, e.trans hb, r⟩, h3⟩
theorem MapG.keys (h : MapG k w M f n) : ∃ ks : List κ, ks.Nodup ∧ ks.length = n ∧ ∀ x, x ∈ ks ↔ (f x).isSome = true := by
  obtain ⟨D, _, _, h3, _⟩ := h
  exact h3
theorem MapG.okey (h : MapG k w M f n) {v : Value} (hx : f x = some v) : k.ok x := by
  obtain ⟨D, _, _, _, h4, _⟩ := h
  exact h4 x v hx
theorem MapG.made (k : KeyT κ kt) (w : World) : MapG k (w.alloc (.map #[] 0)) w.heap.size (fun _ => none) 0 :=
  ⟨.map [], World.ownsMap_made w _ _ _, rfl, ⟨[], List.nodup_nil, rfl, fun x => by simp⟩, fun x v h => (by cases h), fun i _ => ⟨rfl, fun v hv => by cases hv⟩⟩
theorem MapG.look (h : MapG k w M f n) (ht : Tryd.prog.underlying t = some (.map kt e)) (hz : (zeroValue e).run Tryd.prog w = .ok z w) (hx : k.ok x) :
    (Instr.lookup t (.map (some M)) (k.ek x) false).run Tryd.prog w = .ok ((f x).getD z) w := by
  obtain ⟨D, h1, h2, _, _, h3⟩ := h
  obtain ⟨v', ps, hr, hv'⟩ := h1.lookup k.K ht hz (zd := .held z) (zp := []) rfl (k.lk_is hx)
  rw [hr]
  unfold heldR at hv'
  simp only [Option.some.injEq, Prod.mk.injEq] at hv'
  obtain ⟨q1, q2⟩ := h3 x hx
  cases hf : f x with
  | none =>
    rw [hf] at q1
    rw [Maps.atKey_of_not_has q1] at hv'
    injection hv'.1 with e
    rw [e]; rfl
  | some u =>
    rw [q2 u hf] at hv'
    injection hv'.1 with e
    rw [e]; rfl
theorem MapG.len (h : MapG k w M f n) (ht : Tryd.prog.underlying t = some (.map kt e)) (ty : TypeId) : (Builtin.len_ #[t] ty #[.map (some M)]).run Tryd.prog w = .ok (.int .i64 n) w := by
  obtain ⟨D, h1, h2, _⟩ := h
  rw [← h2]
  exact h1.len ht ty
theorem MapG.store [DecidableEq κ] (h : MapG k w M f n) (ht : Tryd.prog.underlying t = some (.map kt e)) (hn : n ≤ 1000000) (hx : k.ok x) (v : Value) :
    ∃ w' m, (Instr.mapUpdate t (.map (some M)) (k.ek x) v).run Tryd.prog w = .ok () w' ∧ MapG k w' M (fput f x v) m ∧ m = (if (f x).isSome = true then n else n + 1) ∧ w.grownBy w' (some M) := by
  obtain ⟨D, h1, h2, ⟨ks, k1, k2, k3⟩, h4, h3⟩ := h
  obtain ⟨w', hr, ho, hm⟩ := h1.store k.K ht (by unfold maxLen; omega) (k.lk_is hx) (val := v) (d := .held v) (ps := []) rfl
  have hk := k.K.key (k.lk_is hx)
  have hsz : Maps.size (D.put (k.lk x) (.held v)) = if (f x).isSome then n else n + 1 := by
    rw [Maps.size_put (h1.tidy k.K), (h3 x hx).1, h2]
  refine ⟨w', _, hr, ⟨_, by have := own_tight ho; rw [hsz] at this; exact this, hsz, ?_, fun y u hy => ?_, fun y hy => ?_⟩, rfl, hm.grown⟩
  · cases hf : (f x).isSome with
    | true =>
      refine ⟨ks, k1, by simp [k2], fun y => ?_⟩
      rw [k3]
      unfold fput
      by_cases c : y = x
      · subst c; simp [hf]
      · rw [if_neg c]
    | false =>
      refine ⟨x :: ks, List.nodup_cons.2 ⟨fun hm => (by rw [k3, hf] at hm; cases hm), k1⟩, by simp [k2], fun y => ?_⟩
      rw [List.mem_cons, k3]
      unfold fput
      by_cases c : y = x
      · subst c; simp
      · rw [if_neg c]; simp [c]
  · unfold fput at hy
    by_cases c : y = x
    · subst c; exact hx
    · rw [if_neg c] at hy; exact h4 y u hy
  · by_cases c : y = x
    · subst c
      refine ⟨by rw [Maps.has_put_same h1.isMap hk]; simp [fput], fun u hu z => ?_⟩
      rw [Maps.atKey_put_same h1.isMap hk]
      simp [fput] at hu
      rw [hu]
    · have ne := k.lk_ne hy hx c
      rw [Maps.has_put_other ne]
      have : fput f x v y = f y := by unfold fput; rw [if_neg c]
      rw [this]
      refine ⟨(h3 y hy).1, fun u hu z => ?_⟩
      rw [Maps.atKey_put_other ne]
      exact (h3 y hy).2 u hu z
end

/-- Strings as keys. -/
def keyS : KeyT (List UInt8) 9 where
  ek := sV
  ok := fun l => l.length ≤ maxLen
  lk := fun l => .string l
  K := string_keyed Tryd.underlying9
  key := fun x h => by
    unfold keyOf mapKey
    rw [Tryd.underlying9]
    exact if_pos h
  inj := fun x y h => by
    unfold sV at h
    injection h with h
    injection h with h
    have := congrArg Array.toList h
    simpa using this
theorem MapG.lookOk {w : World} {M n : Nat} {f : List UInt8 → Option Value} (h : MapG keyS w M f n) (l : List UInt8) (hl : l.length ≤ maxLen) (z : Value) (hz : (zeroValue 3).run Tryd.prog w = .ok z w) :
    (Instr.lookup 46 (.map (some M)) (sV l) true).run Tryd.prog w = .ok (.tuple #[(f l).getD z, .bool (f l).isSome]) w := by
  obtain ⟨D, h1, h2, _, _, h3⟩ := h
  obtain ⟨v', ps, hr, hv'⟩ := h1.look_ok keyS.K Tryd.underlying46 hz (zd := .held z) (zp := []) rfl (keyS.lk_is (x := l) hl)
  change (Instr.lookup 46 (.map (some M)) (sV l) true).run Tryd.prog w = _ at hr
  rw [hr]
  unfold heldR at hv'
  simp only [Option.some.injEq, Prod.mk.injEq] at hv'
  obtain ⟨q1, q2⟩ := h3 l hl
  rw [q1]
  cases hf : f l with
  | none =>
    rw [hf] at q1
    rw [Maps.atKey_of_not_has q1] at hv'
    injection hv'.1 with e
    rw [e]; rfl
  | some u =>
    rw [q2 u hf] at hv'
    injection hv'.1 with e
    rw [e]; rfl

/-- Where the words lead, those of the kinds below I. -/
def kf (I : Nat) (l : List UInt8) : Option Value := if 0 < kindOf l ∧ kindOf l < (I : Int) then some (.int .i64 (kindOf l)) else none
theorem kindOf_eq {I : Nat} (h1 : 1 ≤ I) (h5 : I ≤ 5) (l : List UInt8) : kindOf l = (I : Int) ↔ l = shW.getD I [] := by
  constructor
  · intro h
    unfold kindOf at h
    have hI : I = 1 ∨ I = 2 ∨ I = 3 ∨ I = 4 ∨ I = 5 := by omega
    (repeat' split at h) <;> rcases hI with rfl | rfl | rfl | rfl | rfl <;> first | assumption | (exfalso; omega)
  · rintro rfl
    have hI : I = 1 ∨ I = 2 ∨ I = 3 ∨ I = 4 ∨ I = 5 := by omega
    rcases hI with rfl | rfl | rfl | rfl | rfl <;> decide
theorem kindOf_range (l : List UInt8) : 0 ≤ kindOf l ∧ kindOf l ≤ 5 := by
  rcases kindOf_cases l with h | h
  · omega
  · have := kindB_cases h; omega
theorem kf_next {I : Nat} (h1 : 1 ≤ I) (h5 : I ≤ 5) : fput (kf I) (shW.getD I []) (.int .i64 I) = kf (I + 1) := by
  funext l
  unfold fput kf
  have e := kindOf_eq h1 h5 l
  by_cases c : l = shW.getD I []
  · rw [if_pos c, if_pos ⟨by rw [e.2 c]; omega, by rw [e.2 c]; omega⟩, e.2 c]
  · rw [if_neg c]
    have hn : kindOf l ≠ (I : Int) := fun h => c (e.1 h)
    by_cases d : 0 < kindOf l ∧ kindOf l < (I : Int)
    · rw [if_pos d, if_pos ⟨d.1, by omega⟩]
    · rw [if_neg d, if_neg (by omega)]
theorem kf_one : kf 1 = fun _ => none := by
  funext l
  unfold kf
  rw [if_neg (by omega)]
theorem kf_fresh {I : Nat} (h1 : 1 ≤ I) (h5 : I ≤ 5) : (kf I (shW.getD I [])).isSome = false := by
  unfold kf
  rw [(kindOf_eq h1 h5 _).2 rfl, if_neg (by omega)]; rfl

/-- The words' map. -/
def Kds (w : World) (M : Nat) : Prop := MapG keyS w M (kf 6) 5
theorem Kds.below {w w' : World} {M : Nat} (h : Kds w M) (hb : Below w.heap.size w w') : Kds w' M := MapG.of_block h (hb.block M (MapG.lt h))
theorem Kds.look {w : World} {M : Nat} (h : Kds w M) (l : List UInt8) (hl : l.length ≤ maxLen) : (Instr.lookup 46 (.map (some M)) (sV l) true).run Tryd.prog w = .ok (.tuple #[.int .i64 (kindOf l), .bool (decide (kindOf l ≠ 0))]) w := by
  have := MapG.lookOk h l hl (.int .i64 0) (Tryd.zeroValue3 w)
  rw [this]
  have r := kindOf_range l
  unfold kf
  by_cases c : kindOf l = 0
  · rw [if_neg (by omega), c]; rfl
  · rw [if_pos ⟨by omega, by show kindOf l < 6; omega⟩, decide_eq_true c]; rfl

theorem makeMap5 (w : World) : (Instr.makeMap 46 (some (.int .i64 5))).run Tryd.prog w = .ok (.map (some w.heap.size)) (w.alloc (.map #[] 0)) := by
  simp [Instr.makeMap, asInt, asIntOf, go_sem]
set_option maxHeartbeats 4000000 in
set_option maxRecDepth 100000 in
theorem kinds_any (w : World) (t : Tb w) : Calls Tryd.prog 22 #[] w fun e w' => ∃ M, e = .returned (.map (some M)) ∧ Kds w' M ∧ Below w.heap.size w w' := by
  have T0 : Aside (Tb w) := t
  clear t
  have hmm := makeMap5
  have m0 : Aside (MapG keyS (w.alloc (.map #[] 0)) w.heap.size (kf 1) 0) := by
    show MapG keyS _ _ _ _
    rw [kf_one]
    exact MapG.made keyS w
  obtain ⟨M, hM⟩ : ∃ M, w.heap.size = M := ⟨_, rfl⟩
  have HM : Hid _ := hM
  have b0 : Aside (Below M w (w.alloc (.map #[] 0))) := by rw [← hM]; exact bel1 _ _
  rw [hM] at m0
  go_enter Tryd.func22, Tryd.ntmps22
  go_wp2_with fail
  go_loopg [2] 6 (fun kx s2 wr => ∃ I : Nat, s2 = .int .i64 I ∧ 1 ≤ I ∧ I ≤ 6 ∧ 6 - I ≤ kx ∧ Aside (MapG keyS wr M (kf I) (I - 1)) ∧ Aside (Below M w wr))
  case atStart => exact ⟨1, rfl, by omega, by omega, by omega, m0, b0⟩
  case round =>
    obtain ⟨I, rfl, hI, hI6, hkx, MG, G⟩ := hrel
    by_cases hlt : I ≤ 5
    · have hz : (I : Int) ≤ 5 := by omega
      have hz6 : (I : Int) < 6 := by omega
      obtain ⟨c0, _⟩ := (T0.out.below (by rw [HM.out]; exact G.out)).sh I (by omega)
      obtain ⟨w', m, hr, hm, hmm', hg⟩ := MG.out.store Tryd.underlying46 (by omega) (x := shW.getD I []) (by
          have : (shW.getD I []).length ≤ 6 := by
            have hI : I = 1 ∨ I = 2 ∨ I = 3 ∨ I = 4 ∨ I = 5 := by omega
            rcases hI with rfl | rfl | rfl | rfl | rfl <;> decide
          show _ ≤ maxLen
          unfold maxLen; omega) (.int .i64 I)
      rw [kf_fresh hI hlt] at hmm'
      rw [kf_next hI hlt] at hm
      simp only [Bool.false_eq_true, if_false] at hmm'
      have e1 : m = I + 1 - 1 := by omega
      rw [e1] at hm
      have M2 : Aside (MapG keyS w' M (kf (I + 1)) (I + 1 - 1)) := hm
      have G2 : Aside (Below M w w') := Below.grown G.out hg (by have := G.out.size; have := HM.out; omega) (fun k hk => by cases hk; exact Nat.le_refl _)
      change (Instr.mapUpdate 46 (.map (some M)) (sV (shW.getD I [])) _).run _ _ = _ at hr
      unfold sV at c0 hr
      generalize (⟨(shW.getD I []).toArray⟩ : ByteArray) = W0 at c0 hr
      clear hm hg MG G
      go_wp2_with fail
      go_roundg (6 - (I + 1))
      case measure => omega
      case rel => exact ⟨I + 1, by go_num, by omega, by omega, Nat.le_refl _, M2, G2⟩
    · have hz : ¬ (I : Int) ≤ 5 := by omega
      have e0 : I = 6 := by omega
      subst e0
      go_wp2
      go_ret
      exact ⟨M, rfl, MG.out, G.out⟩

end Go.Proofs.YtoidkiodlfpefaaDoor

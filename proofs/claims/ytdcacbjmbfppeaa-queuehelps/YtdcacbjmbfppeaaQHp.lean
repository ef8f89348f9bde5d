/- QueueHelps: the plain part. -/
import Derived.Test.YtdcacbjmbfppeaaQL
import Derived.Test.YtdcacbjmbfppeaaQW
import Derived.Test.YtdcacbjmbfppeaaMask
import Derived.Test.YtdcacbjmbfppeaaNum
namespace Go.Proofs.Ytdcacbjmbfppeaa
open Go.RowKit Go.Lib Go.Sort
set_option linter.unusedVariables false

/-- Has thread t something? -/
def hpB (x : Int) (t : Nat) : Bool := decide (x / 2 ^ t % 2 = 1)
theorem hpBit (x : Int) (t : Nat) : ∃ X : Nat, bits .and .i64 (x / 2 ^ t) 1 = (X : Int) ∧ X < 2 ∧ ((X : Int) == 1) = hpB x t ∧ ((X : Int) == 0) = !hpB x t := by
  have h := mask_i64 (x / 2 ^ t) 1 1 2 (by omega) rfl rfl
  refine ⟨(x / 2 ^ t % 2).toNat, by rw [h]; omega, by omega, ?_, ?_⟩
  · unfold hpB
    have e : (((x / 2 ^ t % 2).toNat : Nat) : Int) = x / 2 ^ t % 2 := by omega
    rw [e]
    rfl
  · unfold hpB
    have e : (((x / 2 ^ t % 2).toNat : Nat) : Int) = x / 2 ^ t % 2 := by omega
    rw [e]
    have : x / 2 ^ t % 2 = 0 ∨ x / 2 ^ t % 2 = 1 := by omega
    rcases this with h | h <;> (rw [h]; rfl)
def hpE (i : Nat) : Ent := (50 + (i : Int), (i : Int) + 1)
def hpO (x : Int) (t : Nat) (i : Nat) : List Ent := if i < t ∧ hpB x i = true then [hpE i] else []
def HpI (x : Int) (T t : Nat) (s : QSt) : Prop := View T s (fun _ => []) (hpO x t) [] ∧ QOk 16 T (2 * t) s
theorem hp_new (x : Int) (T : Nat) : HpI x T 0 newQ := ⟨⟨fun _ _ => rfl, fun i _ => by unfold hpO; rw [if_neg (by omega)]; exact sortE_nil, sortE_nil⟩, newQ_ok 16 T⟩
theorem hp_skip {x : Int} {T t : Nat} {s : QSt} (h : HpI x T t s) (hb : hpB x t = false) : HpI x T (t + 1) s := by
  refine ⟨⟨h.1.sl, fun i hi => ?_, h.1.sh⟩, h.2.mono (by omega)⟩
  rw [h.1.ow i hi]
  unfold hpO
  by_cases c : i < t ∧ hpB x i = true
  · rw [if_pos c, if_pos ⟨by omega, c.2⟩]
  · rw [if_neg c, if_neg (fun h' => by
      by_cases e : i = t
      · rw [e, hb] at h'; exact absurd h'.2 (by simp)
      · exact c ⟨by omega, h'.2⟩)]
theorem hp_put {x : Int} {T t : Nat} {s : QSt} (h : HpI x T t s) (hb : hpB x t = true) (ht : t < T) : QOk 16 T (2 * t + 1) (putQ 16 s t (hpE t)) ∧ ((putQ 16 s t (hpE t)).g t).f = true ∧ HpI x T (t + 1) (settleQ 16 (putQ 16 s t (hpE t)) t) := by
  obtain ⟨v, ok⟩ := h
  have ok1 := put_ok ok ht (by omega) (hpE t)
  have e0 := v.settle_no (K := 16) (t := t) ht rfl
  have v1 : View T (settleQ 16 s t) (fun _ => []) (hpO x t) [] := by rw [e0]; exact v
  have v2 := v1.put (hpE t)
  have o0 : hpO x t t = [] := by unfold hpO; rw [if_neg (by omega)]
  refine ⟨ok1, by rw [v2.f ht, lset_same]; rfl, ?_, (settle_ok ok1 ht (by omega)).mono (by omega)⟩
  have v3 := v2.settle_fit (K := 16) (t := t) ht (e := hpE t) (lset_same _ _ _) (by rw [o0]; simp)
  rw [lset_lset, o0, List.nil_append, sort_one] at v3
  refine ⟨fun i hi => ?_, fun i hi => ?_, v3.sh⟩
  · rw [v3.sl i hi]
    by_cases c : i = t
    · subst c; rw [lset_same]
    · rw [lset_ne _ _ c]
  · rw [v3.ow i hi]
    by_cases c : i = t
    · subst c
      rw [lset_same]
      unfold hpO
      rw [if_pos ⟨by omega, hb⟩]
    · rw [lset_ne _ _ c]
      unfold hpO
      by_cases d : i < t ∧ hpB x i = true
      · rw [if_pos d, if_pos ⟨by omega, d.2⟩]
      · rw [if_neg d, if_neg (fun h' => d ⟨by omega, h'.2⟩)]
/-- Whose is wanted. -/
def hpW (x : Int) (T who : Nat) : Option Nat := (List.range T).find? (fun i => hpB x ((who + i) % T))
def hpF (x : Int) (T who : Nat) : Int := match hpW x T who with
  | some i => (((who + i) % T : Nat) : Int) + 1
  | none => 99
def hpS (s : QSt) (who : Nat) : QSt := putQ 16 s who (1, 99)
theorem hp_last {x : Int} {T who : Nat} {s : QSt} (h : HpI x T T s) (hw : who < T) : View T (hpS s who) (lset (fun _ => []) who [(1, 99)]) (hpO x T) [] ∧ QOk 16 T (2 * T + 1) (hpS s who) := by
  obtain ⟨v, ok⟩ := h
  have e0 := v.settle_no (K := 16) (t := who) hw rfl
  have v1 : View T (settleQ 16 s who) (fun _ => []) (hpO x T) [] := by rw [e0]; exact v
  exact ⟨v1.put (1, 99), put_ok ok hw (by omega) _⟩
theorem hp_least {x : Int} {T who : Nat} {s : QSt} (h : HpI x T T s) (hw : who < T) : unl (leastQ (hpS s who) T) = (1, 99) ∧ unb (leastQ (hpS s who) T) = true := by
  obtain ⟨v, ok⟩ := hp_last h hw
  have mem : ((1, 99) : Ent) ∈ allV T (lset (fun _ => []) who [(1, 99)]) (hpO x T) [] := by
    unfold allV
    rw [flat_one1 hw]
    simp
  rcases v.least with ⟨_, e⟩ | ⟨j, y, e, m⟩
  · rw [e] at mem; cases mem
  · rw [e]
    refine ⟨?_, rfl⟩
    show y = (1, 99)
    have m1 := m.1
    have m2 := m.2 _ mem
    unfold allV at m1
    rw [flat_one1 hw, List.append_nil] at m1
    rcases List.mem_append.1 m1 with m1 | m1
    · simpa using m1
    · exfalso
      obtain ⟨i, hi, hy⟩ := List.mem_flatMap.1 m1
      unfold hpO at hy
      split at hy
      · simp at hy
        subst hy
        have : ltE ((1, 99) : Ent) (hpE i) = true := (ltE_iff _ _).2 (.inl (by show (1 : Int) < 50 + (i : Int); omega))
        rw [this] at m2
        cases m2
      · cases hy
theorem hp_relax {x : Int} {T who : Nat} {s : QSt} (h : HpI x T T s) (hw : who < T) (dr : Nat) : (relaxQ (hpS s who) T 16 who dr).1.2 = hpF x T who ∧ (relaxQ (hpS s who) T 16 who dr).2 = true := by
  obtain ⟨v, ok⟩ := hp_last h hw
  have e2 : candL (hpS s who) 16 dr = [] := by
    unfold candL
    rw [v.sh]
    rfl
  have hO : ∀ i, i < T → hpB x i = true → hpO x T i = [hpE i] := fun i hi hb => by unfold hpO; rw [if_pos ⟨hi, hb⟩]
  have hN : ∀ i, hpB x i = false → hpO x T i = [] := fun i hb => by unfold hpO; rw [if_neg (by rw [hb]; simp)]
  cases c : hpB x who with
  | true =>
    have e1 : own1 (hpS s who) who = [hpE who] := by unfold own1; rw [v.ow who hw, hO who hw c]; rfl
    have e3 : nearQ (hpS s who) 16 who dr = some (0, hpE who) := by unfold nearQ; rw [e1, e2]; rfl
    have e4 : hpW x T who = some 0 := find_range (by omega) (by show hpB x ((who + 0) % T) = true; rw [Nat.add_zero, Nat.mod_eq_of_lt hw]; exact c) (fun i hi => absurd hi (by omega))
    unfold relaxQ hpF
    rw [e3, e4]
    refine ⟨?_, rfl⟩
    show (who : Int) + 1 = (((who + 0) % T : Nat) : Int) + 1
    rw [Nat.add_zero, Nat.mod_eq_of_lt hw]
  | false =>
    have e1 : own1 (hpS s who) who = [] := by unfold own1; rw [v.ow who hw, hN who c]; rfl
    have e3 : nearQ (hpS s who) 16 who dr = none := by unfold nearQ; rw [e1, e2]; rfl
    have fi : ∀ i, decide (0 < ((hpS s who).ls ((who + 1 + i) % T)).flatten.length) = hpB x ((who + 1 + i) % T) := fun i => by
      have lt : (who + 1 + i) % T < T := Nat.mod_lt _ (by omega)
      rw [v.len lt]
      cases b : hpB x ((who + 1 + i) % T) with
      | true => rw [hO _ lt b]; rfl
      | false => rw [hN _ b]; rfl
    unfold relaxQ
    rw [e3]
    show (headO (furtherL (hpS s who) T who)).1.2 = _ ∧ _
    cases f : furtherI (hpS s who) T who with
    | some i =>
      have hf := f
      unfold furtherI at hf
      rw [List.find?_range_eq_some] at hf
      obtain ⟨f1, f2, f3⟩ := hf
      have iT := List.mem_range.1 f2
      rw [fi i] at f1
      have f3' : ∀ k, k < i → hpB x ((who + 1 + k) % T) = false := fun k hk => by have := f3 k hk; rw [fi k] at this; simpa using this
      have iT2 : i + 1 < T := by
        by_cases e : i + 1 = T
        · rw [show who + 1 + i = who + T by omega, Nat.add_mod_right, Nat.mod_eq_of_lt hw, c] at f1
          cases f1
        · omega
      have e4 : hpW x T who = some (i + 1) := find_range iT2 (by show hpB x ((who + (i + 1)) % T) = true; rw [show who + (i + 1) = who + 1 + i by omega]; exact f1) (fun k hk => by
        by_cases k0 : k = 0
        · subst k0; show hpB x ((who + 0) % T) = false; rw [Nat.add_zero, Nat.mod_eq_of_lt hw]; exact c
        · show hpB x ((who + k) % T) = false
          rw [show who + k = who + 1 + (k - 1) by omega]; exact f3' (k - 1) (by omega))
      have lt : (who + 1 + i) % T < T := Nat.mod_lt _ (by omega)
      have e5 : furtherL (hpS s who) T who = [hpE ((who + 1 + i) % T)] := by
        unfold furtherL
        rw [f]
        show sortE ((hpS s who).ls ((who + 1 + i) % T)).flatten = _
        rw [v.ow _ lt, hO _ lt f1]
      unfold hpF
      rw [e4, e5]
      refine ⟨?_, rfl⟩
      show (((who + 1 + i) % T : Nat) : Int) + 1 = (((who + (i + 1)) % T : Nat) : Int) + 1
      rw [show who + (i + 1) = who + 1 + i by omega]
    | none =>
      have hf := f
      unfold furtherI at hf
      rw [List.find?_eq_none] at hf
      have f3' : ∀ k, k < T → hpB x ((who + 1 + k) % T) = false := fun k hk => by have := hf k (List.mem_range.2 hk); rw [fi k] at this; simpa using this
      have e4 : hpW x T who = none := find_range_none fun k hk => by
        by_cases k0 : k = 0
        · subst k0; show hpB x ((who + 0) % T) = false; rw [Nat.add_zero, Nat.mod_eq_of_lt hw]; exact c
        · show hpB x ((who + k) % T) = false
          rw [show who + k = who + 1 + (k - 1) by omega]; exact f3' (k - 1) (by omega)
      have e5 : furtherL (hpS s who) T who = [(1, 99)] := by
        unfold furtherL
        rw [f]
        show sortE (slAll (hpS s who).g T) = _
        rw [v.slots, flat_one1 hw, sort_one]
      unfold hpF
      rw [e4, e5]
      exact ⟨rfl, rfl⟩
end Go.Proofs.Ytdcacbjmbfppeaa

/- What a table's tasks, words and counts tell of each other. Plain. -/
import Derived.Test.YtpenjncbodcbnaaDoorTbA
import Derived.Test.YtpenjncbodcbnaaDoorCan
namespace Go.Proofs.YtpenjncbodcbnaaDoor
open Go.RowKit Go.Lib Go.WideMaps Go.Maps
set_option linter.unusedVariables false
/-- Whether a task has this state and this urgency. -/
def hasK (s p : Int) (t : TR) : Bool := t.s == s && t.prio == p
structure TInv (T : List TR) (ws : Nat → Int) (fc : Int × Int → Option Value) (n : Nat) : Prop where
  st : ∀ i x, T[i]? = some x → ws i % 8 = x.s
  fre : ∀ i, T.length ≤ i → i < n → ws i % 8 = 0
  cnt : ∀ s p, (fc (s, p)).getD (.int .i64 0) = .int .i64 (T.countP (hasK s p) : Nat)
  dom : ∀ s p, (fc (s, p)).isSome = true → (0 ≤ s ∧ s < 8) ∧ 0 ≤ p ∧ p < 8
  le : T.length ≤ n
  ok : ∀ x ∈ T, (0 ≤ x.prio ∧ x.prio ≤ 7) ∧ 1 ≤ x.s ∧ x.s ≤ 6
variable {T : List TR} {ws : Nat → Int} {fc : Int × Int → Option Value} {n : Nat}
theorem TInv.nil (n : Nat) : TInv [] (fun _ => 0) (fun _ => none) n :=
  ⟨fun i x h => by simp at h, fun i _ _ => rfl, fun s p => rfl, fun s p h => (by cases h), by simp, fun x h => (by cases h)⟩
theorem nodupLe {α : Type} [BEq α] [LawfulBEq α] : ∀ (ks L : List α), ks.Nodup → (∀ x ∈ ks, x ∈ L) → ks.length ≤ L.length
  | [], L, _, _ => by simp
  | x :: ks, L, h, hs => by
    obtain ⟨h1, h2⟩ := List.nodup_cons.1 h
    have hx := hs x (by simp)
    have := nodupLe ks (L.erase x) h2 (fun y hy => by
      have hy' := hs y (by simp [hy])
      have hne : y ≠ x := fun e => h1 (by rw [← e]; exact hy)
      exact (List.mem_erase_of_ne hne).2 hy')
    rw [List.length_erase_of_mem hx] at this
    have := List.length_pos_of_mem hx
    simp; omega
def keys64 : List (Int × Int) := (List.range 8).flatMap fun (s : Nat) => (List.range 8).map fun (p : Nat) => ((s : Int), (p : Int))
theorem keys64_len : keys64.length = 64 := by decide
theorem keys64_mem {s p : Int} (h1 : 0 ≤ s ∧ s < 8) (h2 : 0 ≤ p ∧ p < 8) : (s, p) ∈ keys64 := by
  unfold keys64
  rw [List.mem_flatMap]
  refine ⟨s.toNat, List.mem_range.2 (by omega), List.mem_map.2 ⟨p.toNat, List.mem_range.2 (by omega), ?_⟩⟩
  rw [Prod.mk.injEq]
  omega
theorem few {w : World} {M N : Nat} (h : MapG keyP w M fc N) (hd : ∀ s p, (fc (s, p)).isSome = true → (0 ≤ s ∧ s < 8) ∧ 0 ≤ p ∧ p < 8) : N ≤ 1000000 := by
  obtain ⟨ks, k1, k2, k3⟩ := h.keys
  have := nodupLe ks keys64 k1 (fun x hx => by
    obtain ⟨s, p⟩ := x
    obtain ⟨h1, h2⟩ := hd s p ((k3 _).1 hx)
    exact keys64_mem h1 h2)
  rw [keys64_len] at this
  omega
theorem wfI_8 {s : Int} (h : 0 ≤ s ∧ s < 8) : wfI s := wfI_of (by omega) (by omega)
theorem cntP_set (q : TR → Bool) : ∀ (l : List TR) (i : Nat) (x y : TR), l[i]? = some x → (l.set i y).countP q + (if q x = true then 1 else 0) = l.countP q + (if q y = true then 1 else 0) := by
  intro l
  induction l with
  | nil => intro i x y h; simp at h
  | cons z l ih =>
    intro i x y h
    cases i with
    | zero =>
      simp at h; subst h
      rw [List.set_cons_zero, List.countP_cons, List.countP_cons]
      omega
    | succ i =>
      have := ih i x y (by simpa using h)
      rw [List.set_cons_succ, List.countP_cons, List.countP_cons]
      omega
theorem cntP_le (q : TR → Bool) (l : List TR) : l.countP q ≤ l.length := List.countP_le_length
/-- One more task. -/
theorem TInv.push (I : TInv T ws fc n) (x : TR) (hl : T.length < n) (hp : 0 ≤ x.prio ∧ x.prio ≤ 7) (hs : 1 ≤ x.s ∧ x.s ≤ 6) (V : Int) (hV : V % 8 = x.s) :
    TInv (T ++ [x]) (putW ws T.length V) (fput fc (x.s, x.prio) (.int .i64 ((T.countP (hasK x.s x.prio) : Nat) + 1))) n := by
  refine ⟨fun i y h => ?_, fun i h1 h2 => ?_, fun s p => ?_, fun s p h => ?_, by simp; omega, fun y hy => ?_⟩
  · by_cases c : i < T.length
    · rw [List.getElem?_append_left c] at h
      rw [putW_other _ _ _ _ (by omega)]
      exact I.st i y h
    · rw [List.getElem?_append_right (by omega)] at h
      have hi : i = T.length := by
        have := (List.getElem?_eq_some_iff.1 h).1
        simp at this; omega
      subst hi
      simp at h; subst h
      rw [putW_same]; exact hV
  · simp at h1
    rw [putW_other _ _ _ _ (by omega)]
    exact I.fre i (by omega) h2
  · rw [List.countP_append]
    by_cases c : (s, p) = (x.s, x.prio)
    · simp only [Prod.mk.injEq] at c
      obtain ⟨rfl, rfl⟩ := c
      simp [fput, hasK]
    · have : hasK s p x = false := by
        simp only [Prod.mk.injEq] at c
        simp [hasK]
        intro e1 e2
        exact c ⟨e1.symm, e2.symm⟩
      simp [fput, c, this, I.cnt s p]
  · by_cases c : (s, p) = (x.s, x.prio)
    · simp only [Prod.mk.injEq] at c
      omega
    · simp [fput, c] at h
      exact I.dom s p h
  · rcases List.mem_append.1 hy with hy | hy
    · exact I.ok y hy
    · simp at hy; subst hy
      exact ⟨hp, hs⟩
/-- A task's state is another now. -/
theorem TInv.turn (I : TInv T ws fc n) {i : Nat} {x y : TR} (hi : T[i]? = some x) (hp : y.prio = x.prio) (hs : 1 ≤ y.s ∧ y.s ≤ 6) (hne : x.s ≠ y.s) (V : Int) (hV : V % 8 = y.s) :
    TInv (T.set i y) (putW ws i V) (fput (fput fc (x.s, x.prio) (.int .i64 ((T.countP (hasK x.s x.prio) : Nat) - 1 : Int))) (y.s, x.prio) (.int .i64 ((T.countP (hasK y.s x.prio) : Nat) + 1))) n := by
  have hil : i < T.length := (List.getElem?_eq_some_iff.1 hi).1
  have hxm : x ∈ T := List.mem_of_getElem? hi
  have okx := I.ok x hxm
  refine ⟨fun j z h => ?_, fun j h1 h2 => ?_, fun s p => ?_, fun s p h => ?_, by simp; exact I.le, fun z hz => ?_⟩
  · by_cases c : j = i
    · subst c
      rw [List.getElem?_set_self hil] at h
      injection h with h
      subst h
      rw [putW_same]; exact hV
    · rw [List.getElem?_set_ne (fun e => c e.symm)] at h
      rw [putW_other _ _ _ _ c]
      exact I.st j z h
  · simp at h1
    rw [putW_other _ _ _ _ (by omega)]
    exact I.fre j h1 h2
  · have hc := cntP_set (hasK s p) T i x y hi
    by_cases c1 : (s, p) = (y.s, x.prio)
    · simp only [Prod.mk.injEq] at c1
      obtain ⟨rfl, rfl⟩ := c1
      have e1 : hasK y.s x.prio x = false := by simp [hasK, hne]
      have e2 : hasK y.s x.prio y = true := by simp [hasK, hp]
      simp [e1, e2] at hc
      simp [fput, hc]
    · by_cases c2 : (s, p) = (x.s, x.prio)
      · simp only [Prod.mk.injEq] at c2
        obtain ⟨rfl, rfl⟩ := c2
        have e1 : hasK x.s x.prio x = true := by simp [hasK]
        have e2 : hasK x.s x.prio y = false := by simp [hasK]; intro e; exact absurd e.symm hne
        simp [e1, e2] at hc
        simp [fput, c1]
        omega
      · have e1 : hasK s p x = false := by
          simp only [Prod.mk.injEq] at c2
          simp [hasK]
          intro h1 h2
          exact c2 ⟨h1.symm, h2.symm⟩
        have e2 : hasK s p y = false := by
          simp only [Prod.mk.injEq] at c1
          simp [hasK]
          intro h1 h2
          exact c1 ⟨h1.symm, by rw [← hp]; exact h2.symm⟩
        simp [e1, e2] at hc
        simp [fput, c1, c2, hc, I.cnt s p]
  · by_cases c1 : (s, p) = (y.s, x.prio)
    · simp only [Prod.mk.injEq] at c1
      omega
    · by_cases c2 : (s, p) = (x.s, x.prio)
      · simp only [Prod.mk.injEq] at c2
        omega
      · simp [fput, c1, c2] at h
        exact I.dom s p h
  · rcases List.mem_or_eq_of_mem_set hz with hz | hz
    · exact I.ok z hz
    · subst hz
      exact ⟨by rw [hp]; exact okx.1, hs⟩
/-- A task has turned, but for its state and urgency. -/
theorem TInv.same (I : TInv T ws fc n) {i : Nat} {x y : TR} (hi : T[i]? = some x) (hp : y.prio = x.prio) (hs : y.s = x.s) : TInv (T.set i y) ws fc n := by
  have hil : i < T.length := (List.getElem?_eq_some_iff.1 hi).1
  have okx := I.ok x (List.mem_of_getElem? hi)
  refine ⟨fun j z h => ?_, fun j h1 h2 => I.fre j (by simpa using h1) h2, fun s p => ?_, I.dom, by simp; exact I.le, fun z hz => ?_⟩
  · by_cases c : j = i
    · subst c
      rw [List.getElem?_set_self hil] at h
      injection h with h
      subst h
      rw [hs]
      exact I.st j x hi
    · rw [List.getElem?_set_ne (fun e => c e.symm)] at h
      exact I.st j z h
  · have hc := cntP_set (hasK s p) T i x y hi
    have : hasK s p y = hasK s p x := by simp [hasK, hp, hs]
    rw [this] at hc
    rw [I.cnt s p]
    congr 2
    omega
  · rcases List.mem_or_eq_of_mem_set hz with hz | hz
    · exact I.ok z hz
    · subst hz
      exact ⟨by rw [hp]; exact okx.1, by rw [hs]; exact okx.2⟩
end Go.Proofs.YtpenjncbodcbnaaDoor

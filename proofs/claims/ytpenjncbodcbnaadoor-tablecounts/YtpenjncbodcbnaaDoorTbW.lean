/- A table and a row of states beside it: what TableCounts keeps. -/
import Derived.Test.YtpenjncbodcbnaaDoorTbH
import Derived.Test.YtpenjncbodcbnaaDoorWordCoreRef
namespace Go.Proofs.YtpenjncbodcbnaaDoor
open Go.RowKit Go.Lib Go.WideMaps Go.Maps
set_option linter.unusedVariables false
/-- The table has the tasks T; the row at R holds D; the tasks' states are E. -/
structure Cw (w : World) (S : Nat) (wr : World) (B R n : Nat) (T : List TR) (D E : Nat → Int) : Prop where
  tb : ∃ X, Tb wr X B 60 T ∧ Ab w S wr X
  row : wr.rowIs R 3 (n + 1) (fun i => .int .i64 (D i))
  rs : S ≤ R
  eq : ∀ j x, T[j]? = some x → E (j + 1) = x.s
  p0 : ∀ x ∈ T, x.p = 0
  le : T.length ≤ n
  n60 : n ≤ 60
variable {w wr w' : World} {S B R n : Nat} {T : List TR} {D E E' : Nat → Int}
theorem Cw.bel (h : Cw w S wr B R n T D E) : Below S w wr := by
  obtain ⟨X, _, A⟩ := h.tb
  exact A.bel
theorem Cw.sz (h : Cw w S wr B R n T D E) : S ≤ wr.heap.size := by
  obtain ⟨X, _, A⟩ := h.tb
  exact A.sz
theorem Cw.below (h : Cw w S wr B R n T D E) (hb : Below wr.heap.size wr w') : Cw w S w' B R n T D E := by
  obtain ⟨X, t, A⟩ := h.tb
  exact ⟨⟨X, t.below hb, A.below hb⟩, h.row.of_block (hb.block R h.row.lt), h.rs, h.eq, h.p0, h.le, h.n60⟩
theorem Cw.congr (h : Cw w S wr B R n T D E) (he : ∀ j, j < T.length → E (j + 1) = E' (j + 1)) : Cw w S wr B R n T D E' :=
  ⟨h.tb, h.row, h.rs, fun j x hj => by rw [← he j (List.getElem?_eq_some_iff.1 hj).1]; exact h.eq j x hj, h.p0, h.le, h.n60⟩
/-- A state is written down. -/
theorem Cw.set (h : Cw w S wr B R n T D E) (i : Nat) (v : Int) : Cw w S (wr.setCell ⟨R, i, none⟩ (.int .i64 v)) B R n T (putW D i v) E := by
  obtain ⟨X, t, A⟩ := h.tb
  obtain ⟨cs, hc, _⟩ := h.row
  have nx := t.noInt hc
  have hf : Fr (fun k => k = R) wr (wr.setCell ⟨R, i, none⟩ (.int .i64 v)) := Fr.setCell _ wr R i _ rfl
  refine ⟨⟨X, t.fr hf (fun k hk e => nx (e ▸ hk)), ⟨A.bel.trans (hf.toBelow (fun k hk => by rw [hk]; exact h.rs) A.sz), A.low, Nat.le_trans A.sz hf.size⟩⟩, (h.row.set i (.int .i64 v)).congr fun j hj => ?_, h.rs, h.eq, h.p0, h.le, h.n60⟩
  by_cases e : j = i <;> simp [putW, e]
theorem Cw.st {X X' : Nat → Prop} {T' : List TR} (h : Cw w S wr B R n T D E) (t : Tb wr X B 60 T) (A : Ab w S wr X) (t' : Tb w' X' B 60 T') (s : Sx X wr X' w') (heq : ∀ j x, T'[j]? = some x → E' (j + 1) = x.s) (hp : ∀ x ∈ T', x.p = 0) (hl : T'.length ≤ n) : Cw w S w' B R n T' D E' := by
  obtain ⟨cs, hc, _⟩ := h.row
  have nx := t.noInt hc
  exact ⟨⟨X', t', A.st s⟩, h.row.of_block (s.fr.block R h.row.lt nx), h.rs, heq, hp, hl, h.n60⟩
theorem Cw.make (h : Cw w S wr B R n T D E) (prio s : Int) (hm : mayB prio s = true) (K : Nat) (hK : T.length + 1 = K) (hl : K ≤ n) (hE : E K = s) :
    Calls Tryd.prog 6 #[.pointer (some ⟨B, 0, none⟩), .int .i64 prio, .slice none 0 0, .agg #[.int .u64 0, .int .u64 0, .int .u64 0, .int .u64 0, .int .u64 0], .int .i64 s] wr fun e w' => e = .returned (.tuple #[.int .i64 K, .int .i64 0]) ∧ ∃ T', T'.length = K ∧ Cw w S w' B R n T' D E := by
  obtain ⟨X, t, A⟩ := h.tb
  have := h.n60
  refine (makeT t prio 0 0 0 0 s hm (by omega)).mono ?_
  rintro e w' ⟨rfl, X', t', s'⟩
  refine ⟨?_, _, ?_, h.st t A t' s' (fun j x hj => ?_) (fun x hx => ?_) ?_⟩
  · have : (T.length : Int) + 1 = (K : Int) := by omega
    rw [this]
  · simp [hK]
  · by_cases c : j < T.length
    · rw [List.getElem?_append_left c] at hj
      exact h.eq j x hj
    · rw [List.getElem?_append_right (by omega)] at hj
      have := (List.getElem?_eq_some_iff.1 hj).1
      simp at this
      have e : j = T.length := by omega
      subst e
      simp at hj
      subst hj
      rw [hK, hE]; rfl
  · rcases List.mem_append.1 hx with hx | hx
    · exact h.p0 x hx
    · simp at hx; subst hx; rfl
  · simp [hK, hl]
theorem Cw.turn (h : Cw w S wr B R n T D D) (Y : Nat) (h1 : 1 ≤ Y) (h2 : Y ≤ T.length) (q : Int) :
    Calls Tryd.prog 7 #[.pointer (some ⟨B, 0, none⟩), .int .i64 Y, .int .i64 q] wr fun e w' => ∃ z : Int, e = .returned (.int .i64 z) ∧ ∃ T' E, T'.length = T.length ∧ Cw w S w' B R n T' D E ∧ ((canB (D Y) q = true ∧ z = 0 ∧ E = putW D Y q) ∨ (canB (D Y) q = false ∧ z ≠ 0 ∧ E = D)) := by
  obtain ⟨X, t, A⟩ := h.tb
  obtain ⟨i, rfl⟩ : ∃ i, Y = i + 1 := ⟨Y - 1, by omega⟩
  have hi : i < T.length := by omega
  obtain ⟨x, hx⟩ : ∃ x, T[i]? = some x := ⟨_, List.getElem?_eq_getElem hi⟩
  have hs := h.eq i x hx
  have hp := h.p0 x (List.mem_of_getElem? hx)
  have P := turnG t hx q hp
  rw [hs]
  refine Calls.mono P ?_
  rintro e w' ⟨rfl, t', s'⟩
  refine ⟨_, rfl, ?_⟩
  cases hc : canB x.s q with
  | false =>
    rw [hc] at t'
    refine ⟨T, D, rfl, h.st t A t' s' h.eq h.p0 h.le, .inr ⟨rfl, ?_, rfl⟩⟩
    unfold turnE
    rw [hc]
    split
    · omega
    · simp
  | true =>
    rw [hc] at t'
    refine ⟨T.set i (turnT x q), putW D (i + 1) q, by simp, h.st t A t' s' (fun j y hj => ?_) (fun y hy => ?_) (by simp; exact h.le), .inl ⟨rfl, ?_, rfl⟩⟩
    · by_cases c : j = i
      · subst c
        rw [List.getElem?_set_self hi] at hj
        injection hj with hj
        subst hj
        rw [putW_same]; rfl
      · rw [List.getElem?_set_ne (fun e => c e.symm)] at hj
        rw [putW_other _ _ _ _ (by omega)]
        exact h.eq j y hj
    · rcases List.mem_or_eq_of_mem_set hy with hy | hy
      · exact h.p0 y hy
      · subst hy; exact hp
    · obtain ⟨k, rfl, k1, _, k2, _⟩ := can_range hc
      unfold turnE
      rw [hc, if_neg (by omega)]
      rfl
theorem Cw.count (h : Cw w S wr B R n T D E) (s : Int) (hs : wfI s) : Calls Tryd.prog 9 #[.pointer (some ⟨B, 0, none⟩), .int .i64 s] wr fun e w' => e = .returned (.int .i64 (T.countP (ofS s) : Nat)) ∧ w' = wr := by
  obtain ⟨X, t, A⟩ := h.tb
  exact countT t s hs
theorem Cw.len (h : Cw w S wr B R n T D E) : Calls Tryd.prog 10 #[.pointer (some ⟨B, 0, none⟩)] wr fun e w' => e = .returned (.int .i64 T.length) ∧ w' = wr := by
  obtain ⟨X, t, A⟩ := h.tb
  exact lenT t
/-- How many of the first k have this state. -/
def cw (D : Nat → Int) (s : Int) : Nat → Nat
  | 0 => 0
  | k + 1 => cw D s k + (if D (k + 1) = s then 1 else 0)
theorem cw_take (h : ∀ j x, T[j]? = some x → D (j + 1) = x.s) (s : Int) : ∀ k, k ≤ T.length → (T.take k).countP (ofS s) = cw D s k
  | 0, _ => by simp [cw]
  | k + 1, hk => by
    have hk' : k < T.length := by omega
    rw [List.take_add_one, List.getElem?_eq_getElem hk', List.countP_append, cw_take h s k (by omega), cw, h k T[k] (List.getElem?_eq_getElem hk')]
    simp [ofS]
theorem cw_all (h : Cw w S wr B R n T D D) (hl : T.length = n) (s : Int) : T.countP (ofS s) = cw D s n := by
  have := cw_take h.eq s n (by omega)
  rw [← hl, List.take_length] at this
  rw [this, hl]
theorem cw_le (D : Nat → Int) (s : Int) : ∀ k, cw D s k ≤ k
  | 0 => by simp [cw]
  | k + 1 => by have := cw_le D s k; simp only [cw]; split <;> omega
/-- Of a state below k. -/
def slt (k : Nat) (t : TR) : Bool := decide (0 ≤ t.s) && decide (t.s < k)
theorem slt_up (k : Nat) (T : List TR) : T.countP (slt (k + 1)) = T.countP (slt k) + T.countP (ofS k) := by
  induction T with
  | nil => rfl
  | cons t T ih =>
    rw [List.countP_cons, List.countP_cons, List.countP_cons, ih]
    have : (if slt (k + 1) t = true then 1 else 0) = (if slt k t = true then 1 else 0) + (if ofS k t = true then (1 : Nat) else 0) := by
      simp only [slt, ofS, Bool.and_eq_true, beq_iff_eq, decide_eq_true_eq]
      by_cases c2 : t.s = k
      · rw [if_pos (by omega), if_neg (by omega), if_pos c2]
      · by_cases c3 : 0 ≤ t.s ∧ t.s < (k : Int)
        · rw [if_pos (by omega), if_pos c3, if_neg c2]
        · rw [if_neg (by omega), if_neg c3, if_neg c2]
    omega
theorem slt_0 (T : List TR) : T.countP (slt 0) = 0 := by
  rw [List.countP_eq_zero]
  intro t _
  simp [slt]
theorem slt_7 (h : Cw w S wr B R n T D E) : T.countP (slt 7) = T.length := by
  obtain ⟨X, t, A⟩ := h.tb
  rw [List.countP_eq_length]
  intro x hx
  have := (t.ok.1 x hx).2
  simp [slt]
  omega
end Go.Proofs.YtpenjncbodcbnaaDoor

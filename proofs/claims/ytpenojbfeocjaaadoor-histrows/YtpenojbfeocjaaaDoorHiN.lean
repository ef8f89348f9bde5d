/- Events and their lines, as plain lists of numbers and bytes: unlike ones have unlike lines. Plain: nothing of the program. -/
import Derived.Lib.ItoaNum
namespace Go.Proofs.YtpenojbfeocjaaaDoor
open Go.Lib
set_option linter.unusedVariables false

/-- An event: kind, thread, ID; key, ticket, tick. -/
structure EvR where
  k : Int
  t : Int
  i : Int
  y : Nat
  c : Nat
  n : Nat
theorem EvR.ext {a b : EvR} (h1 : a.k = b.k) (h2 : a.t = b.t) (h3 : a.i = b.i) (h4 : a.y = b.y) (h5 : a.c = b.c) (h6 : a.n = b.n) : a = b := by
  obtain ⟨k, t, i, y, c, n⟩ := a
  obtain ⟨k', t', i', y', c', n'⟩ := b
  simp at h1 h2 h3 h4 h5 h6
  subst h1 h2 h3 h4 h5 h6
  rfl
/-- Are two the same? -/
def eqB (a b : EvR) : Bool := decide (a.k = b.k) && (decide (a.t = b.t) && (decide (a.i = b.i) && (decide (a.y = b.y) && (decide (a.c = b.c) && decide (a.n = b.n)))))
theorem eqB_yes {a b : EvR} (h : eqB a b = true) : a = b := by
  unfold eqB at h
  simp only [Bool.and_eq_true, decide_eq_true_eq] at h
  exact EvR.ext h.1 h.2.1 h.2.2.1 h.2.2.2.1 h.2.2.2.2.1 h.2.2.2.2.2
theorem eqB_self (a : EvR) : eqB a a = true := by unfold eqB; simp
theorem eqB_no {a b : EvR} (h : ¬ a = b) : eqB a b = false := by
  cases hq : eqB a b with
  | false => rfl
  | true => exact absurd (eqB_yes hq) h

/-! ## Numerals -/
def dgt (x : UInt8) : Bool := decide (48 ≤ x.toNat) && decide (x.toNat ≤ 57)
def numF (n : Nat) (w : List UInt8) : Nat := w.foldl (fun n x => n * 10 + (x.toNat - 48)) n
def numV (w : List UInt8) : Nat := numF 0 w
theorem numF_cons (n : Nat) (x : UInt8) (w : List UInt8) : numF n (x :: w) = numF (n * 10 + (x.toNat - 48)) w := by unfold numF; rw [List.foldl_cons]
theorem numF_app (n : Nat) (w v : List UInt8) : numF n (w ++ v) = numF (numF n w) v := List.foldl_append
theorem dg_toNat {u : Nat} (h : u < 10) : (UInt8.ofNat (48 + u)).toNat = 48 + u := by
  rw [UInt8.toNat_ofNat']; omega
theorem dec_all (u : Nat) : (decDigits u).all dgt = true := by
  induction u using Nat.strongRecOn with
  | _ u ih =>
    rw [decDigits]
    split
    · rename_i h
      simp [dgt]; omega
    · rw [List.all_append, ih (u / 10) (by omega)]
      simp [dgt]; omega
theorem dec_val (u : Nat) : numV (decDigits u) = u := by
  induction u using Nat.strongRecOn with
  | _ u ih =>
    rw [decDigits]
    split
    · rename_i h
      simp [numV, numF]; omega
    · have e := dg_toNat (show u % 10 < 10 by omega)
      unfold numV at ih ⊢
      rw [numF_app, ih (u / 10) (by omega), numF_cons, e]
      simp only [numF, List.foldl_nil]
      omega
theorem dec_inj {u v : Nat} (h : decDigits u = decDigits v) : u = v := by rw [← dec_val u, h, dec_val]
theorem dec_not (u : Nat) {c : UInt8} (hc : dgt c = false) : c ∉ decDigits u := fun h => by
  have := List.all_eq_true.1 (dec_all u) c h
  rw [hc] at this; cases this
theorem dec_len : ∀ (k u : Nat), u < 10 ^ (k + 1) → (decDigits u).length ≤ k + 1
  | 0, u, h => by rw [decDigits, dif_pos (by simpa using h)]; simp
  | k + 1, u, h => by
    rw [decDigits]
    split
    · simp
    · have := dec_len k (u / 10) (by rw [Nat.pow_succ] at h; omega)
      simp only [List.length_append, List.length_singleton]; omega
theorem itoa_not (n : Int) {c : UInt8} (hc : dgt c = false) (h45 : c ≠ 45) : c ∉ itoa n := by
  unfold itoa
  split
  · rw [List.mem_cons]
    exact fun h => h.elim h45 (dec_not _ hc)
  · exact dec_not _ hc
theorem itoa_inj {a b : Int} (h : itoa a = itoa b) : a = b := by
  unfold itoa at h
  have no : ∀ u v : Nat, 45 :: decDigits u ≠ decDigits v := fun u v e => dec_not v (c := 45) (by decide) (by rw [← e]; exact List.mem_cons_self)
  split at h <;> split at h
  · have := dec_inj (List.cons.inj h).2; omega
  · exact absurd h (no _ _)
  · exact absurd h.symm (no _ _)
  · have := dec_inj h; omega
theorem itoa_len {n : Int} (h0 : -9223372036854775808 ≤ n) (h1 : n ≤ 9223372036854775807) : (itoa n).length ≤ 20 := by
  unfold itoa
  split
  · have := dec_len 18 n.natAbs (by omega)
    rw [List.length_cons]; omega
  · have := dec_len 18 n.toNat (by omega)
    omega

/-! ## Lines -/
/-- What stands ahead of the first c of two texts that are alike is alike, and so is what stands behind it. -/
theorem cut_eq {c : UInt8} {a b r s : List UInt8} (ha : c ∉ a) (hb : c ∉ b) (h : a ++ c :: r = b ++ c :: s) : a = b ∧ r = s := by
  induction a generalizing b with
  | nil =>
    cases b with
    | nil => simp at h; exact ⟨rfl, h⟩
    | cons y b =>
      simp at h
      exact absurd (by rw [← h.1]; exact List.mem_cons_self) hb
  | cons x a ih =>
    cases b with
    | nil =>
      simp at h
      exact absurd (by rw [h.1]; exact List.mem_cons_self) ha
    | cons y b =>
      rw [List.cons_append, List.cons_append] at h
      injection h with h1 h2
      obtain ⟨e1, e2⟩ := ih (fun m => ha (List.mem_cons_of_mem _ m)) (fun m => hb (List.mem_cons_of_mem _ m)) h2
      exact ⟨by rw [h1, e1], e2⟩
def nums (e : EvR) : List (List UInt8) := [itoa e.k, itoa e.t, itoa e.i, decDigits e.y, decDigits e.c, decDigits e.n]
def lineL (e : EvR) : List UInt8 := [32].intercalate (nums e) ++ [10]
theorem lineL_eq (e : EvR) (r : List UInt8) : lineL e ++ r = itoa e.k ++ 32 :: (itoa e.t ++ 32 :: (itoa e.i ++ 32 :: (decDigits e.y ++ 32 :: (decDigits e.c ++ 32 :: (decDigits e.n ++ 10 :: r))))) := by
  unfold lineL nums
  simp [List.intercalate]
theorem line_inj {e f : EvR} {r s : List UInt8} (h : lineL e ++ r = lineL f ++ s) : e = f ∧ r = s := by
  rw [lineL_eq, lineL_eq] at h
  have d32 : dgt 32 = false := by decide
  have d10 : dgt 10 = false := by decide
  have n45 : (32 : UInt8) ≠ 45 := by decide
  obtain ⟨h1, h⟩ := cut_eq (itoa_not _ d32 n45) (itoa_not _ d32 n45) h
  obtain ⟨h2, h⟩ := cut_eq (itoa_not _ d32 n45) (itoa_not _ d32 n45) h
  obtain ⟨h3, h⟩ := cut_eq (itoa_not _ d32 n45) (itoa_not _ d32 n45) h
  obtain ⟨h4, h⟩ := cut_eq (dec_not _ d32) (dec_not _ d32) h
  obtain ⟨h5, h⟩ := cut_eq (dec_not _ d32) (dec_not _ d32) h
  obtain ⟨h6, h⟩ := cut_eq (dec_not _ d10) (dec_not _ d10) h
  exact ⟨EvR.ext (itoa_inj h1) (itoa_inj h2) (itoa_inj h3) (dec_inj h4) (dec_inj h5) (dec_inj h6), h⟩
theorem count_dec (u : Nat) : (decDigits u).count 10 = 0 := List.count_eq_zero.2 (dec_not u (by decide))
theorem count_itoa (n : Int) : (itoa n).count 10 = 0 := List.count_eq_zero.2 (itoa_not n (by decide) (by decide))
theorem line_count (e : EvR) : (lineL e).count 10 = 1 := by
  have h := lineL_eq e []
  rw [List.append_nil] at h
  rw [h]
  simp [List.count_append, count_dec, count_itoa]
def txts (d : List EvR) : List UInt8 := d.flatMap lineL
theorem txts_nil : txts [] = [] := rfl
theorem txts_cons (e : EvR) (d : List EvR) : txts (e :: d) = lineL e ++ txts d := rfl
theorem txts_snoc (d : List EvR) (e : EvR) : txts (d ++ [e]) = txts d ++ lineL e := by simp [txts]
theorem line_ne (e : EvR) : lineL e ≠ [] := fun h => by
  have := line_count e
  rw [h] at this; cases this
theorem txts_inj : ∀ {c d : List EvR}, txts c = txts d → c = d
  | [], [], _ => rfl
  | [], f :: d, h => by
    rw [txts_nil, txts_cons] at h
    exact absurd (List.append_eq_nil_iff.1 h.symm).1 (line_ne f)
  | e :: c, [], h => by
    rw [txts_nil, txts_cons] at h
    exact absurd (List.append_eq_nil_iff.1 h).1 (line_ne e)
  | e :: c, f :: d, h => by
    rw [txts_cons, txts_cons] at h
    obtain ⟨h1, h2⟩ := line_inj h
    rw [h1, txts_inj h2]
theorem txts_count (d : List EvR) : (txts d).count 10 = d.length := by
  induction d with
  | nil => rfl
  | cons e d ih => rw [txts_cons, List.count_append, line_count, ih, List.length_cons]; omega
/-- Numbers that may be. -/
def EvR.ok (e : EvR) : Prop := (-9223372036854775808 ≤ e.k ∧ e.k ≤ 9223372036854775807) ∧ (-9223372036854775808 ≤ e.t ∧ e.t ≤ 9223372036854775807) ∧ (-9223372036854775808 ≤ e.i ∧ e.i ≤ 9223372036854775807) ∧ e.y < 18446744073709551616 ∧ e.c < 18446744073709551616 ∧ e.n < 18446744073709551616
theorem joined_len {e : EvR} (h : e.ok) : ([32].intercalate (nums e)).length ≤ 125 := by
  obtain ⟨⟨a0, a1⟩, ⟨b0, b1⟩, ⟨c0, c1⟩, d1, e1, f1⟩ := h
  have l1 := itoa_len a0 a1
  have l2 := itoa_len b0 b1
  have l3 := itoa_len c0 c1
  have l4 := dec_len 19 e.y (by omega)
  have l5 := dec_len 19 e.c (by omega)
  have l6 := dec_len 19 e.n (by omega)
  unfold nums
  simp [List.intercalate]
  omega
theorem line_len {e : EvR} (h : e.ok) : (lineL e).length ≤ 126 := by
  have := joined_len h
  unfold lineL
  rw [List.length_append, List.length_singleton]; omega
theorem txts_len : ∀ {d : List EvR}, (∀ e ∈ d, e.ok) → (txts d).length ≤ d.length * 126
  | [], _ => by simp [txts_nil]
  | e :: d, h => by
    have h1 := line_len (h e (by simp))
    have h2 := txts_len (d := d) (fun x hx => h x (List.mem_cons_of_mem _ hx))
    rw [txts_cons, List.length_append, List.length_cons]
    omega
end Go.Proofs.YtpenojbfeocjaaaDoor

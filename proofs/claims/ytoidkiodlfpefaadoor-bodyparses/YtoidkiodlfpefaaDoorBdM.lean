/- Ops, their words and texts, as plain lists of numbers and bytes: what is cut at a byte, what a numeral tells, what is read of a text. Plain: nothing of the program. -/
import Derived.Lib.ItoaNum
import Derived.Lib.SplitLaws
namespace Go.Proofs.YtoidkiodlfpefaaDoor
open Go.Lib
set_option linter.unusedVariables false

/-! ## Cut at a byte -/

/-- A text's pieces between one byte. -/
def wds (c : UInt8) : List UInt8 → List (List UInt8)
  | [] => [[]]
  | x :: t => if x = c then [] :: wds c t else (x :: (wds c t).headD []) :: (wds c t).tail
theorem wds_nil (c : UInt8) : wds c [] = [[]] := rfl
theorem wds_hit (c : UInt8) (t : List UInt8) : wds c (c :: t) = [] :: wds c t := by rw [wds, if_pos rfl]
theorem wds_miss {c x : UInt8} (h : x ≠ c) (t : List UInt8) : wds c (x :: t) = (x :: (wds c t).headD []) :: (wds c t).tail := by rw [wds, if_neg h]
theorem wds_ne (c : UInt8) (s : List UInt8) : wds c s ≠ [] := by
  cases s with
  | nil => simp [wds]
  | cons x t =>
    by_cases h : x = c
    · subst h; rw [wds_hit]; simp
    · rw [wds_miss h]; simp
theorem wds_pos (c : UInt8) (s : List UInt8) : 0 < (wds c s).length := List.length_pos_iff.2 (wds_ne c s)
theorem wds_eta (c : UInt8) (s : List UInt8) : (wds c s).headD [] :: (wds c s).tail = wds c s := by
  have h := wds_ne c s
  cases hw : wds c s with
  | nil => exact absurd hw h
  | cons a t => rfl
theorem wds_app {c : UInt8} (a t : List UInt8) (h : c ∉ a) : wds c (a ++ c :: t) = a :: wds c t := by
  induction a with
  | nil => rw [List.nil_append, wds_hit]
  | cons x a ih =>
    have hx : x ≠ c := fun e => h (by rw [e]; exact List.mem_cons_self)
    rw [List.cons_append, wds_miss hx, ih (fun e => h (List.mem_cons_of_mem _ e))]
    rfl
theorem wds_no {c : UInt8} (a : List UInt8) (h : c ∉ a) : wds c a = [a] := by
  induction a with
  | nil => rfl
  | cons x a ih =>
    have hx : x ≠ c := fun e => h (by rw [e]; exact List.mem_cons_self)
    rw [wds_miss hx, ih (fun e => h (List.mem_cons_of_mem _ e))]
    rfl
theorem wds_end (c : UInt8) (a : List UInt8) : wds c (a ++ [c]) = wds c a ++ [[]] := by
  induction a with
  | nil => rw [List.nil_append, wds_hit]; rfl
  | cons x a ih =>
    by_cases hx : x = c
    · subst hx; rw [List.cons_append, wds_hit, wds_hit, ih]; rfl
    · rw [List.cons_append, wds_miss hx, wds_miss hx, ih]
      have h := wds_ne c a
      cases hw : wds c a with
      | nil => exact absurd hw h
      | cons a t => rfl
theorem wds_join {c : UInt8} : ∀ (xs : List (List UInt8)), xs ≠ [] → (∀ x ∈ xs, c ∉ x) → wds c ([c].intercalate xs) = xs
  | [], h, _ => absurd rfl h
  | [x], _, h => by
    rw [show [c].intercalate [x] = x by simp [List.intercalate]]
    exact wds_no x (h x (by simp))
  | x :: y :: r, _, h => by
    rw [show [c].intercalate (x :: y :: r) = x ++ c :: [c].intercalate (y :: r) by simp [List.intercalate], wds_app x _ (h x (by simp)),
      wds_join (y :: r) (by simp) (fun z hz => h z (List.mem_cons_of_mem _ hz))]
/-- What no piece has. -/
theorem wds_mem_not (c : UInt8) (s : List UInt8) : ∀ x ∈ wds c s, c ∉ x := by
  induction s with
  | nil => intro x hx; rw [wds_nil, List.mem_singleton] at hx; subst hx; simp
  | cons y t ih =>
    intro x hx
    have hh : (wds c t).headD [] ∈ wds c t := by
      have h := wds_ne c t
      cases hw : wds c t with
      | nil => exact absurd hw h
      | cons a r => simp
    by_cases hy : y = c
    · subst hy
      rw [wds_hit, List.mem_cons] at hx
      rcases hx with rfl | hx
      · simp
      · exact ih x hx
    · rw [wds_miss hy, List.mem_cons] at hx
      rcases hx with rfl | hx
      · intro hm
        rcases List.mem_cons.1 hm with e | e
        · exact hy e.symm
        · exact ih _ hh e
      · exact ih x (List.mem_of_mem_tail hx)
theorem wds_len (c : UInt8) (s : List UInt8) : (wds c s).length ≤ s.length + 1 := by
  induction s with
  | nil => simp [wds]
  | cons x t ih =>
    by_cases hx : x = c
    · subst hx; rw [wds_hit]; simp only [List.length_cons]; omega
    · rw [wds_miss hx]; simp only [List.length_cons, List.length_tail]; omega
theorem wds_mem_len (c : UInt8) (s : List UInt8) : ∀ x ∈ wds c s, x.length ≤ s.length := by
  induction s with
  | nil => intro x hx; rw [wds_nil, List.mem_singleton] at hx; subst hx; simp
  | cons y t ih =>
    intro x hx
    have hh : (wds c t).headD [] ∈ wds c t := by
      have h := wds_ne c t
      cases hw : wds c t with
      | nil => exact absurd hw h
      | cons a r => simp
    by_cases hy : y = c
    · subst hy
      rw [wds_hit, List.mem_cons] at hx
      rcases hx with rfl | hx
      · simp
      · have := ih x hx; simp only [List.length_cons]; omega
    · rw [wds_miss hy, List.mem_cons] at hx
      rcases hx with rfl | hx
      · have := ih _ hh; simp only [List.length_cons]; omega
      · have := ih x (List.mem_of_mem_tail hx); simp only [List.length_cons]; omega

/-- Where the byte is first found. -/
theorem idx_split (c : UInt8) : ∀ s : List UInt8, c ∈ s → ∃ a t, s = a ++ c :: t ∧ c ∉ a ∧ Lib.index s [c] = (a.length : Int)
  | [], h => by simp at h
  | x :: s, h => by
    by_cases hx : x = c
    · subst hx
      refine ⟨[], s, rfl, by simp, ?_⟩
      rw [Lib.index]; simp [List.isPrefixOf]
    · obtain ⟨a, t, e, hn, hi⟩ := idx_split c s (by rcases List.mem_cons.1 h with h | h; exact absurd h.symm hx; exact h)
      refine ⟨x :: a, t, by rw [e]; rfl, ?_, ?_⟩
      · intro hm
        rcases List.mem_cons.1 hm with h | h
        · exact hx h.symm
        · exact hn h
      · have hp : ([c] : List UInt8).isPrefixOf (x :: s) = false := by simp [List.isPrefixOf, Ne.symm hx]
        rw [Lib.index, hp, hi]
        have : ¬ (((a.length : Nat) : Int) == -1) = true := by simp
        simp only [Bool.false_eq_true, if_false, this, List.length_cons]
        omega
/-- Cut at all places where the byte stands. -/
theorem splitK_wds (c : UInt8) : ∀ (k : Nat) (s : List UInt8), s.count c = k → Lib.splitK [c] 0 k s = wds c s
  | 0, s, h => by
    have hn : c ∉ s := List.count_eq_zero.1 h
    rw [wds_no s hn]; rfl
  | k + 1, s, h => by
    have hm : c ∈ s := List.count_pos_iff.1 (by omega)
    obtain ⟨a, t, rfl, hn, hi⟩ := idx_split c s hm
    have hc : t.count c = k := by
      rw [List.count_append, List.count_cons_self, List.count_eq_zero.2 hn] at h
      omega
    rw [wds_app a t hn, Lib.splitK, hi]
    have : ¬ (((a.length : Nat) : Int) == -1) = true := by simp
    rw [if_neg this]
    have e2 : List.drop (a.length + 1) (a ++ c :: t) = t := by
      rw [show a ++ c :: t = (a ++ [c]) ++ t by simp, List.drop_left' (by simp)]
    rw [Int.toNat_natCast, Nat.add_zero, List.take_left, List.length_singleton, e2, splitK_wds c k t hc]
theorem split_wds (c : UInt8) (s : List UInt8) : Lib.splitK [c] 0 (Lib.count s [c]) s = wds c s := splitK_wds c _ s (Lib.count_one c s).symm

/-! ## Numerals -/

def dgt (x : UInt8) : Bool := decide (48 ≤ x.toNat) && decide (x.toNat ≤ 57)
/-- What the digits tell, so far n. -/
def numF (n : Nat) (w : List UInt8) : Nat := w.foldl (fun n x => n * 10 + (x.toNat - 48)) n
def numV (w : List UInt8) : Nat := numF 0 w
/-- Digits, at most so many, no nought ahead. -/
def numB (most : Nat) (w : List UInt8) : Bool := decide (w ≠ []) && (decide (w.length ≤ most) && ((decide (w.headD 0 ≠ 48) || decide (w = [48])) && w.all dgt))
theorem numF_cons (n : Nat) (x : UInt8) (w : List UInt8) : numF n (x :: w) = numF (n * 10 + (x.toNat - 48)) w := by unfold numF; rw [List.foldl_cons]
theorem numF_app (n : Nat) (w v : List UInt8) : numF n (w ++ v) = numF (numF n w) v := List.foldl_append
theorem dgt_ge {x : UInt8} (h : dgt x = true) : 48 ≤ x.toNat ∧ x.toNat ≤ 57 := by
  unfold dgt at h
  rw [Bool.and_eq_true, decide_eq_true_eq, decide_eq_true_eq] at h
  exact h
theorem numF_lt : ∀ (w : List UInt8) (n : Nat), w.all dgt = true → numF n w < (n + 1) * 10 ^ w.length
  | [], n, _ => by simp [numF]
  | x :: w, n, h => by
    rw [List.all_cons, Bool.and_eq_true] at h
    have hx := dgt_ge h.1
    have ih := numF_lt w (n * 10 + (x.toNat - 48)) h.2
    rw [numF_cons, List.length_cons, Nat.pow_succ]
    refine Nat.lt_of_lt_of_le ih ?_
    have : n * 10 + (x.toNat - 48) + 1 ≤ (n + 1) * 10 := by omega
    calc (n * 10 + (x.toNat - 48) + 1) * 10 ^ w.length ≤ ((n + 1) * 10) * 10 ^ w.length := Nat.mul_le_mul_right _ this
      _ = (n + 1) * (10 ^ w.length * 10) := by rw [Nat.mul_assoc, Nat.mul_comm 10]
theorem numF_ge : ∀ (w : List UInt8) (n : Nat), n * 10 ^ w.length ≤ numF n w
  | [], n => by simp [numF]
  | x :: w, n => by
    have ih := numF_ge w (n * 10 + (x.toNat - 48))
    rw [numF_cons, List.length_cons, Nat.pow_succ]
    refine Nat.le_trans ?_ ih
    calc n * (10 ^ w.length * 10) = (n * 10) * 10 ^ w.length := by rw [Nat.mul_assoc, Nat.mul_comm 10]
      _ ≤ _ := Nat.mul_le_mul_right _ (by omega)
theorem numB_iff (most : Nat) (w : List UInt8) : numB most w = true ↔ w ≠ [] ∧ w.length ≤ most ∧ (w.headD 0 ≠ 48 ∨ w = [48]) ∧ w.all dgt = true := by
  unfold numB
  simp only [Bool.and_eq_true, Bool.or_eq_true, decide_eq_true_eq]
theorem numV_lt {most : Nat} {w : List UInt8} (h : numB most w = true) : numV w < 10 ^ most := by
  obtain ⟨_, h1, _, h2⟩ := (numB_iff most w).1 h
  have := numF_lt w 0 h2
  rw [Nat.zero_add, Nat.one_mul] at this
  exact Nat.lt_of_lt_of_le this (Nat.pow_le_pow_right (by decide) h1)
/-- What is told with more digits is no less. -/
theorem numV_big {most k : Nat} {w : List UInt8} (h : numB most w = true) (hk : numB k w = false) (h1 : 1 ≤ k) : 10 ^ k ≤ numV w := by
  obtain ⟨hne, hl, hz, hd⟩ := (numB_iff most w).1 h
  have hlen : k < w.length := by
    refine Nat.lt_of_not_le fun hle => ?_
    rw [(numB_iff k w).2 ⟨hne, hle, hz, hd⟩] at hk
    cases hk
  cases w with
  | nil => exact absurd rfl hne
  | cons x v =>
    rw [List.length_cons] at hlen
    have hx : x ≠ 48 := by
      rcases hz with hz | hz
      · exact hz
      · injection hz with _ e; subst e; simp at hlen; omega
    rw [List.all_cons, Bool.and_eq_true] at hd
    have hxd := dgt_ge hd.1
    have hx' : x.toNat ≠ 48 := fun e => hx (UInt8.toNat_inj.1 e)
    have g := numF_ge v (0 * 10 + (x.toNat - 48))
    have : numV (x :: v) = numF (0 * 10 + (x.toNat - 48)) v := rfl
    rw [this]
    refine Nat.le_trans (Nat.le_trans (Nat.pow_le_pow_right (by decide) (show k ≤ v.length by omega)) ?_) g
    calc 10 ^ v.length = 1 * 10 ^ v.length := (Nat.one_mul _).symm
      _ ≤ _ := Nat.mul_le_mul_right _ (by omega)

/-! ## A number's own numeral -/

theorem dg_toNat {u : Nat} (h : u < 10) : (UInt8.ofNat (48 + u)).toNat = 48 + u := by
  rw [UInt8.toNat_ofNat']; omega
theorem dec_all (u : Nat) : (decDigits u).all dgt = true := by
  induction u using Nat.strongRecOn with
  | _ u ih =>
    rw [decDigits]
    split
    · rename_i h
      simp [dgt]; omega
    · rw [List.all_append, ih (u / 10) (by omega)]
      simp [dgt]; omega
theorem dec_val (u : Nat) : numV (decDigits u) = u := by
  induction u using Nat.strongRecOn with
  | _ u ih =>
    rw [decDigits]
    split
    · rename_i h
      simp [numV, numF]; omega
    · have e := dg_toNat (show u % 10 < 10 by omega)
      unfold numV at ih ⊢
      rw [numF_app, ih (u / 10) (by omega), numF_cons, e]
      simp only [numF, List.foldl_nil]
      omega
theorem dec_ne (u : Nat) : decDigits u ≠ [] := by
  rw [decDigits]; split <;> simp
theorem dec_len : ∀ (k u : Nat), u < 10 ^ (k + 1) → (decDigits u).length ≤ k + 1
  | 0, u, h => by rw [decDigits, dif_pos (by simpa using h)]; simp
  | k + 1, u, h => by
    rw [decDigits]
    split
    · simp
    · have := dec_len k (u / 10) (by rw [Nat.pow_succ] at h; omega)
      simp only [List.length_append, List.length_singleton]; omega
theorem dec_head (u : Nat) (h : 0 < u) : (decDigits u).headD 0 ≠ 48 := by
  induction u using Nat.strongRecOn with
  | _ u ih =>
    rw [decDigits]
    split
    · rename_i hu
      intro e
      have e2 : (UInt8.ofNat (48 + u)).toNat = 48 := by
        have : UInt8.ofNat (48 + u) = 48 := e
        rw [this]; rfl
      rw [dg_toNat hu] at e2; omega
    · rename_i hu
      have := ih (u / 10) (by omega) (by omega)
      have hne := dec_ne (u / 10)
      cases hd : decDigits (u / 10) with
      | nil => exact absurd hd hne
      | cons x t => rw [hd] at this; exact this
theorem dec_numB (k u : Nat) (h : u < 10 ^ (k + 1)) : numB (k + 1) (decDigits u) = true := by
  refine (numB_iff _ _).2 ⟨dec_ne u, dec_len k u h, ?_, dec_all u⟩
  rcases Nat.eq_zero_or_pos u with rfl | h0
  · exact Or.inr (by rw [decDigits, dif_pos (by decide)]; rfl)
  · exact Or.inl (dec_head u h0)
theorem dec_not (u : Nat) {c : UInt8} (hc : dgt c = false) : c ∉ decDigits u := fun h => by
  have := List.all_eq_true.1 (dec_all u) c h
  rw [hc] at this; cases this

/-! ## Ops -/

/-- An op: its kind and its two numbers. -/
abbrev OpR := Int × Int × Int
def shW : List (List UInt8) := [[], [110, 111, 112], [115, 117, 98, 109, 105, 116], [97, 102, 116, 101, 114], [99, 97, 110, 99, 101, 108], [112, 97, 110, 105, 99]]
def shT : List Nat := [0, 0, 1, 2, 1, 0]
def shL : List Int := [0, 0, 0, 0, 1, 0]
def shA : List Int := [0, 0, 7, 7, 1000, 0]
def shB : List Int := [0, 0, 0, 1000000, 0, 0]
/-- A kind's word, how many of its numbers are told, and their bounds. -/
def wdK (k : Int) : List UInt8 := shW.getD k.toNat []
def toK (k : Int) : Nat := shT.getD k.toNat 0
def loK (k : Int) : Int := shL.getD k.toNat 0
def hiA (k : Int) : Int := shA.getD k.toNat 0
def hiB (k : Int) : Int := shB.getD k.toNat 0
def kindB (k : Int) : Bool := decide (1 ≤ k) && decide (k ≤ 5)
def okO (o : OpR) : Bool := kindB o.1 && ((decide (loK o.1 ≤ o.2.1) && decide (o.2.1 ≤ hiA o.1)) && (decide (0 ≤ o.2.2) && decide (o.2.2 ≤ hiB o.1)))
def okL (l : List OpR) : Bool := decide (l.length ≤ 16) && l.all okO
/-- How many are done. -/
def stp : List OpR → Nat
  | [] => 0
  | o :: t => if o.1 = 5 then 1 else stp t + 1
theorem kindB_cases {k : Int} (h : kindB k = true) : k = 1 ∨ k = 2 ∨ k = 3 ∨ k = 4 ∨ k = 5 := by
  unfold kindB at h
  rw [Bool.and_eq_true, decide_eq_true_eq, decide_eq_true_eq] at h
  omega
theorem okO_iff (o : OpR) : okO o = true ↔ kindB o.1 = true ∧ (loK o.1 ≤ o.2.1 ∧ o.2.1 ≤ hiA o.1) ∧ 0 ≤ o.2.2 ∧ o.2.2 ≤ hiB o.1 := by
  unfold okO
  simp only [Bool.and_eq_true, decide_eq_true_eq]
/-- The document's own words. -/
theorem okO_doc (k a b : Int) : okO (k, a, b) = true ↔ ((k = 1 ∨ k = 5) ∧ a = 0 ∧ b = 0) ∨ (k = 2 ∧ 0 ≤ a ∧ a ≤ 7 ∧ b = 0) ∨ (k = 3 ∧ 0 ≤ a ∧ a ≤ 7 ∧ 0 ≤ b ∧ b ≤ 1000000) ∨ (k = 4 ∧ 1 ≤ a ∧ a ≤ 1000 ∧ b = 0) := by
  rw [okO_iff]
  constructor
  · rintro ⟨hk, ⟨h1, h2⟩, h3, h4⟩
    rcases kindB_cases hk with rfl | rfl | rfl | rfl | rfl <;>
      simp only [loK, hiA, hiB, shL, shA, shB] at h1 h2 h3 h4 <;> simp at h1 h2 h3 h4 <;> omega
  · intro h
    have hk : k = 1 ∨ k = 2 ∨ k = 3 ∨ k = 4 ∨ k = 5 := by omega
    rcases hk with rfl | rfl | rfl | rfl | rfl <;>
      refine ⟨by rfl, ?_⟩ <;> simp only [loK, hiA, hiB, shL, shA, shB] <;> simp <;> omega

/-! ## Texts -/

/-- An op's text. -/
def txtO (o : OpR) : List UInt8 :=
  wdK o.1 ++ ((if 1 ≤ toK o.1 then 32 :: itoa o.2.1 else []) ++ (if 2 ≤ toK o.1 then 32 :: itoa o.2.2 else []))
def txtL (l : List OpR) : List UInt8 := if l = [] then [45] else [59].intercalate (l.map txtO)
/-- A word's kind; nought: it is none. -/
def kindOf (w : List UInt8) : Int :=
  if w = [110, 111, 112] then 1 else if w = [115, 117, 98, 109, 105, 116] then 2 else if w = [97, 102, 116, 101, 114] then 3 else if w = [99, 97, 110, 99, 101, 108] then 4 else if w = [112, 97, 110, 105, 99] then 5 else 0
/-- What the pieces of an op's text tell. -/
def opP (p : List (List UInt8)) : OpR := (kindOf (p.headD []), (numV (p.tail.getD 0 []) : Int), (numV (p.tail.getD 1 []) : Int))
def shapeB (p : List (List UInt8)) : Bool := decide (kindOf (p.headD []) ≠ 0) && decide (p.tail.length = toK (kindOf (p.headD [])))
/-- Whether an op is read of a text (its bounds aside), and which. -/
def rdB (t : List UInt8) : Bool := shapeB (wds 32 t) && (wds 32 t).tail.all (numB 7)
def rdO (t : List UInt8) : OpR := opP (wds 32 t)
/-- Whether a text is one of a body, and of which. -/
def prs (s : List UInt8) : List OpR := (wds 59 s).map rdO
def prsB (s : List UInt8) : Bool := (wds 59 s).all rdB && okL (prs s)
/-- The document's reading of one piece. -/
def opO (t : List UInt8) : OpR := if shapeB (wds 32 t) = true then opP (wds 32 t) else (0, 0, 0)
def opB (t : List UInt8) : Bool := (wds 32 t).tail.all (numB 9) && okO (opO t)

theorem kindOf_wdK {k : Int} (h : kindB k = true) : kindOf (wdK k) = k := by
  rcases kindB_cases h with rfl | rfl | rfl | rfl | rfl <;> decide
theorem kindOf_cases (w : List UInt8) : kindOf w = 0 ∨ kindB (kindOf w) = true := by
  unfold kindOf
  (repeat' split) <;> first | exact Or.inl rfl | exact Or.inr rfl
theorem opB_eq (t : List UInt8) : opB t = (rdB t && okO (rdO t)) := by
  cases hs : shapeB (wds 32 t) with
  | false =>
    have e1 : opO t = (0, 0, 0) := by unfold opO; rw [hs]; rfl
    have e2 : okO ((0, 0, 0) : OpR) = false := by decide
    unfold opB rdB
    rw [e1, e2, hs, Bool.and_false, Bool.false_and, Bool.false_and]
  | true =>
    have e1 : opO t = rdO t := by unfold opO; rw [hs]; rfl
    unfold opB rdB
    rw [e1, hs, Bool.true_and]
    cases ho : okO (rdO t) with
    | false => rw [Bool.and_false, Bool.and_false]
    | true =>
      rw [Bool.and_true, Bool.and_true]
      -- the numbers of what is in bounds have seven digits at most
      unfold shapeB at hs
      rw [Bool.and_eq_true, decide_eq_true_eq, decide_eq_true_eq] at hs
      obtain ⟨hk, hlen⟩ := hs
      rw [okO_iff] at ho
      obtain ⟨hkb, ⟨_, ha⟩, _, hb⟩ := ho
      have hA : ∀ k, kindB k = true → hiA k < 10 ^ 7 ∧ hiB k < 10 ^ 7 ∧ toK k ≤ 2 := by
        intro k hk
        rcases kindB_cases hk with rfl | rfl | rfl | rfl | rfl <;> decide
      obtain ⟨a1, a2, a3⟩ := hA _ hkb
      have hka : (rdO t).1 = kindOf ((wds 32 t).headD []) := rfl
      rw [hka] at a1 a2 a3 ha hb
      have va : (rdO t).2.1 = (numV ((wds 32 t).tail.getD 0 []) : Int) := rfl
      have vb : (rdO t).2.2 = (numV ((wds 32 t).tail.getD 1 []) : Int) := rfl
      rw [va] at ha
      rw [vb] at hb
      have one : ∀ w : List UInt8, (numV w : Int) < 10 ^ 7 → numB 9 w = numB 7 w := by
        intro w hw
        cases h9 : numB 9 w with
        | false =>
          cases h7 : numB 7 w with
          | false => rfl
          | true =>
            obtain ⟨q1, q2, q3, q4⟩ := (numB_iff 7 w).1 h7
            rw [(numB_iff 9 w).2 ⟨q1, by omega, q3, q4⟩] at h9
            cases h9
        | true =>
          cases h7 : numB 7 w with
          | true => rfl
          | false =>
            have := numV_big h9 h7 (by decide)
            omega
      have w0 := one ((wds 32 t).tail.getD 0 []) (by omega)
      have w1 := one ((wds 32 t).tail.getD 1 []) (by omega)
      rw [← hlen] at a3
      generalize (wds 32 t).tail = l at *
      match l, a3 with
      | [], _ => rfl
      | [x], _ =>
        have w0 : numB 9 x = numB 7 x := w0
        simp only [List.all_cons, List.all_nil, w0]
      | [x, y], _ =>
        have w0 : numB 9 x = numB 7 x := w0
        have w1 : numB 9 y = numB 7 y := w1
        simp only [List.all_cons, List.all_nil, w0, w1]
      | _ :: _ :: _ :: _, h => simp at h
theorem opO_eq {t : List UInt8} (h : rdB t = true) : opO t = rdO t := by
  unfold rdB at h
  rw [Bool.and_eq_true] at h
  unfold opO
  rw [if_pos h.1]; rfl
/-- The document's reading of a whole text is the program's. -/
theorem prsB_doc (s : List UInt8) : prsB s = (decide ((wds 59 s).length ≤ 16) && (wds 59 s).all opB) := by
  unfold prsB okL prs
  rw [List.length_map]
  have key : ∀ l : List (List UInt8), (l.all rdB && (l.map rdO).all okO) = l.all opB := by
    intro l
    induction l with
    | nil => rfl
    | cons x l ih =>
      rw [List.map_cons, List.all_cons, List.all_cons, List.all_cons, ← ih, opB_eq x]
      cases rdB x <;> cases okO (rdO x) <;> cases l.all rdB <;> rfl
  rw [← key]
  cases (wds 59 s).all rdB <;> cases decide ((wds 59 s).length ≤ 16) <;> rfl

/-! ## There and back -/

theorem itoa_nat {a : Int} (h : 0 ≤ a) : itoa a = decDigits a.toNat := by unfold itoa; rw [if_neg (by omega)]
theorem okO_nums {o : OpR} (h : okO o = true) : 0 ≤ o.2.1 ∧ o.2.1 ≤ 1000 ∧ 0 ≤ o.2.2 ∧ o.2.2 ≤ 1000000 := by
  obtain ⟨k, a, b⟩ := o
  have := (okO_doc k a b).1 h
  simp only
  omega
theorem okO_kind {o : OpR} (h : okO o = true) : kindB o.1 = true := ((okO_iff o).1 h).1
theorem wdK_not {k : Int} (h : kindB k = true) : (32 : UInt8) ∉ wdK k ∧ (59 : UInt8) ∉ wdK k := by
  rcases kindB_cases h with rfl | rfl | rfl | rfl | rfl <;> decide
theorem wdK_len {k : Int} (h : kindB k = true) : (wdK k).length ≤ 6 := by
  rcases kindB_cases h with rfl | rfl | rfl | rfl | rfl <;> decide
/-- The pieces of an op's own text. -/
def pcs (o : OpR) : List (List UInt8) := wdK o.1 :: ((if 1 ≤ toK o.1 then [itoa o.2.1] else []) ++ (if 2 ≤ toK o.1 then [itoa o.2.2] else []))
theorem wds_txtO {o : OpR} (h : okO o = true) : wds 32 (txtO o) = pcs o := by
  have hk := okO_kind h
  obtain ⟨a0, a1, b0, b1⟩ := okO_nums h
  have n1 := (wdK_not hk).1
  have na : (32 : UInt8) ∉ itoa o.2.1 := by rw [itoa_nat a0]; exact dec_not _ (by decide)
  have nb : (32 : UInt8) ∉ itoa o.2.2 := by rw [itoa_nat b0]; exact dec_not _ (by decide)
  unfold txtO pcs
  have ht : toK o.1 = 0 ∨ toK o.1 = 1 ∨ toK o.1 = 2 := by
    rcases kindB_cases hk with e | e | e | e | e <;> rw [e] <;> decide
  rcases ht with e | e | e <;> rw [e]
  · simp only [show ¬ 1 ≤ 0 by decide, show ¬ 2 ≤ 0 by decide, if_false, List.append_nil]
    exact wds_no _ n1
  · simp only [show (1 : Nat) ≤ 1 by decide, show ¬ 2 ≤ 1 by decide, if_true, if_false, List.append_nil]
    rw [wds_app _ _ n1, wds_no _ na]
  · simp only [show (1 : Nat) ≤ 2 by decide, show (2 : Nat) ≤ 2 by decide, if_true]
    rw [List.cons_append, wds_app _ _ n1, wds_app _ _ na, wds_no _ nb]
    rfl
theorem rd_txtO {o : OpR} (h : okO o = true) : rdB (txtO o) = true ∧ rdO (txtO o) = o := by
  have hk := okO_kind h
  obtain ⟨a0, a1, b0, b1⟩ := okO_nums h
  have v1 : numB 7 (itoa o.2.1) = true := by rw [itoa_nat a0]; exact dec_numB 6 _ (by omega)
  have v2 : numB 7 (itoa o.2.2) = true := by rw [itoa_nat b0]; exact dec_numB 6 _ (by omega)
  have e1 : (numV (itoa o.2.1) : Int) = o.2.1 := by rw [itoa_nat a0, dec_val]; omega
  have e2 : (numV (itoa o.2.2) : Int) = o.2.2 := by rw [itoa_nat b0, dec_val]; omega
  unfold rdB rdO shapeB
  rw [wds_txtO h]
  have hh : (pcs o).headD [] = wdK o.1 := rfl
  have k0 : o.1 ≠ 0 := fun e => by rw [e] at hk; cases hk
  rw [hh, kindOf_wdK hk]
  have hd := (okO_doc o.1 o.2.1 o.2.2).1 h
  have ht : (toK o.1 = 0 ∧ o.2.1 = 0 ∧ o.2.2 = 0) ∨ (toK o.1 = 1 ∧ o.2.2 = 0) ∨ toK o.1 = 2 := by
    rcases kindB_cases hk with e | e | e | e | e <;> rw [e] at hd ⊢ <;> simp [toK, shT] <;> omega
  have hK : opP (pcs o) = (o.1, (numV ((pcs o).tail.getD 0 []) : Int), (numV ((pcs o).tail.getD 1 []) : Int)) := by
    unfold opP; rw [hh, kindOf_wdK hk]
  rw [hK]
  have heta : (o.1, o.2.1, o.2.2) = o := rfl
  unfold pcs
  rcases ht with ⟨e, qa, qb⟩ | ⟨e, qb⟩ | e <;> rw [e]
  · refine ⟨by simp [k0], ?_⟩
    simp [numV, numF]
    rw [← heta, qa, qb]
  · refine ⟨by simp [k0, v1], ?_⟩
    simp [e1]
    rw [← heta, qb]
    simp [numV, numF]
  · refine ⟨by simp [k0, v1, v2], ?_⟩
    simp [e1, e2]
theorem txtO_not {o : OpR} (h : okO o = true) : (59 : UInt8) ∉ txtO o := by
  have hk := okO_kind h
  obtain ⟨a0, a1, b0, b1⟩ := okO_nums h
  have na : (59 : UInt8) ∉ itoa o.2.1 := by rw [itoa_nat a0]; exact dec_not _ (by decide)
  have nb : (59 : UInt8) ∉ itoa o.2.2 := by rw [itoa_nat b0]; exact dec_not _ (by decide)
  unfold txtO
  intro hm
  rcases List.mem_append.1 hm with hm | hm
  · exact (wdK_not hk).2 hm
  rcases List.mem_append.1 hm with hm | hm
  · split at hm
    · rcases List.mem_cons.1 hm with e | e
      · cases e
      · exact na e
    · simp at hm
  · split at hm
    · rcases List.mem_cons.1 hm with e | e
      · cases e
      · exact nb e
    · simp at hm
theorem txtO_len {o : OpR} (h : okO o = true) : (txtO o).length ≤ 22 := by
  have hk := okO_kind h
  obtain ⟨a0, a1, b0, b1⟩ := okO_nums h
  have la : (itoa o.2.1).length ≤ 7 := by rw [itoa_nat a0]; exact dec_len 6 _ (by omega)
  have lb : (itoa o.2.2).length ≤ 7 := by rw [itoa_nat b0]; exact dec_len 6 _ (by omega)
  have lw := wdK_len hk
  unfold txtO
  rw [List.length_append, List.length_append]
  have h1 : (if 1 ≤ toK o.1 then 32 :: itoa o.2.1 else ([] : List UInt8)).length ≤ 8 := by split <;> simp; omega
  have h2 : (if 2 ≤ toK o.1 then 32 :: itoa o.2.2 else ([] : List UInt8)).length ≤ 8 := by split <;> simp; omega
  omega
theorem inter_len (c : UInt8) : ∀ (xs : List (List UInt8)) (k : Nat), (∀ x ∈ xs, x.length ≤ k) → ([c].intercalate xs).length ≤ xs.length * (k + 1)
  | [], _, _ => by simp [List.intercalate]
  | [x], k, h => by
    have := h x (by simp)
    simp [List.intercalate]; omega
  | x :: y :: r, k, h => by
    have h1 := h x (by simp)
    have ih := inter_len c (y :: r) k (fun z hz => h z (List.mem_cons_of_mem _ hz))
    rw [show [c].intercalate (x :: y :: r) = x ++ c :: [c].intercalate (y :: r) by simp [List.intercalate]]
    rw [List.length_append, List.length_cons, List.length_cons, Nat.succ_mul]
    omega
theorem okL_all {l : List OpR} (h : okL l = true) : l.length ≤ 16 ∧ ∀ o ∈ l, okO o = true := by
  unfold okL at h
  rw [Bool.and_eq_true, decide_eq_true_eq] at h
  exact ⟨h.1, fun o ho => List.all_eq_true.1 h.2 o ho⟩
theorem txtL_len {l : List OpR} (h : okL l = true) : (txtL l).length ≤ 368 := by
  obtain ⟨h1, h2⟩ := okL_all h
  unfold txtL
  split
  · simp
  · have := inter_len 59 (l.map txtO) 22 (fun x hx => by
      obtain ⟨o, ho, rfl⟩ := List.mem_map.1 hx
      exact txtO_len (h2 o ho))
    rw [List.length_map] at this
    omega
theorem wds_txtL {l : List OpR} (h : okL l = true) (hne : l ≠ []) : wds 59 (txtL l) = l.map txtO := by
  obtain ⟨h1, h2⟩ := okL_all h
  unfold txtL
  rw [if_neg hne]
  refine wds_join _ (fun e => hne (List.map_eq_nil_iff.1 e)) fun x hx => ?_
  obtain ⟨o, ho, rfl⟩ := List.mem_map.1 hx
  exact txtO_not (h2 o ho)
theorem prs_txtL {l : List OpR} (h : okL l = true) (hne : l ≠ []) : prsB (txtL l) = true ∧ prs (txtL l) = l := by
  obtain ⟨h1, h2⟩ := okL_all h
  have e : prs (txtL l) = l := by
    unfold prs
    rw [wds_txtL h hne, List.map_map]
    refine List.map_congr_left (g := id) (fun o ho => (rd_txtO (h2 o ho)).2) |>.trans (List.map_id _)
  refine ⟨?_, e⟩
  unfold prsB
  rw [e, h, Bool.and_true, wds_txtL h hne]
  exact List.all_eq_true.2 fun x hx => by
    obtain ⟨o, ho, rfl⟩ := List.mem_map.1 hx
    exact (rd_txtO (h2 o ho)).1
/-- The text of a body that has ops is not the text of none. -/
theorem txtL_ne {l : List OpR} (h : okL l = true) (hne : l ≠ []) : txtL l ≠ [45] := fun e => by
  have := (prs_txtL h hne).1
  rw [e] at this
  exact absurd this (by decide)
/-- No op is read of nothing, or of what a blank opens. -/
theorem rdB_nil : rdB [] = false := by decide
theorem rdB_blank (t : List UInt8) : rdB (32 :: t) = false := by
  unfold rdB shapeB
  rw [wds_hit]
  rfl
theorem prsB_end (s : List UInt8) : prsB (s ++ [59]) = false := by
  unfold prsB
  rw [wds_end, List.all_append, List.all_cons, rdB_nil, Bool.false_and, Bool.and_false, Bool.false_and]
theorem prsB_blank (s : List UInt8) : prsB (32 :: s) = false := by
  unfold prsB
  rw [wds_miss (by decide), List.all_cons, rdB_blank, Bool.false_and, Bool.false_and]

end Go.Proofs.YtoidkiodlfpefaaDoor

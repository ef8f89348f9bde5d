/- Levels behind Puts alone are the bits of their number; rows of ints. -/
import Derived.Test.YtchephglapnloaaLsmA
namespace Go.Proofs.Ytchephglapnloaa
open Go.RowKit Go.Lib Go.Sort
set_option linter.unusedVariables false

/-- Each block is full. -/
def FullB (ls : List (List Ent)) : Prop := ∀ d ∈ ls, d.length = 2 ^ lv d
theorem layL_full {ls : List (List Ent)} {b : List Ent} (h : FullB ls) (hp : ∀ d ∈ ls, 0 < d.length) (hb : b.length = 2 ^ lv b) : FullB (layL ls b) := by
  induction ls using snocInd generalizing b with
  | nil => intro d hd; simp [layL_nil] at hd; subst hd; exact hb
  | snoc l x ih =>
    have hl : FullB l := fun d hd => h d (by simp [hd])
    have hx := h x (by simp)
    have pos : 0 < b.length := by rw [hb]; exact Nat.two_pow_pos _
    rw [layL_snoc]
    split
    · intro d hd
      simp at hd
      rcases hd with hd | hd | hd
      · exact hl d hd
      · subst hd; exact hx
      · subst hd; exact hb
    · split
      · next c =>
        refine ih hl (fun d hd => hp d (by simp [hd])) ?_
        rw [lv_two (hp x (by simp)) pos c, sortE_len, List.length_append, hx, hb, c, Nat.pow_succ]
        omega
      · intro d hd
        rcases List.mem_append.1 hd with hd | hd
        · exact ih hl (fun d hd => hp d (by simp [hd])) hb d hd
        · simp at hd; subst hd; exact hx
theorem putUp_full (f : Nat → Ent) : ∀ k, FullB (putUp f k)
  | 0 => fun d hd => by simp [putUp] at hd
  | k + 1 => layL_full (putUp_full f k) (putUp_fall f k).pos (by rw [show lv [f k] = 0 from lvl_zero (by simp)]; rfl)

/-- The bits of n below k, falling. -/
def bitsD (n : Nat) : Nat → List Nat
  | 0 => []
  | k + 1 => if n.testBit k then k :: bitsD n k else bitsD n k
def powS : List Nat → Nat
  | [] => 0
  | l :: r => 2 ^ l + powS r
theorem powS_lt : ∀ (k : Nat) (L : List Nat), L.Pairwise (fun x y => y < x) → (∀ l ∈ L, l < k) → powS L < 2 ^ k
  | 0, L, _, h => by
    cases L with
    | nil => simp [powS]
    | cons x r => have := h x (by simp); omega
  | k + 1, [], _, _ => by simp only [powS]; exact Nat.two_pow_pos _
  | k + 1, x :: r, h1, h2 => by
    obtain ⟨g1, g2⟩ := List.pairwise_cons.1 h1
    have hx := h2 x (by simp)
    have := powS_lt k r g2 (fun l hl => by have := g1 l hl; omega)
    have hp : 2 ^ x ≤ 2 ^ k := Nat.pow_le_pow_right (by omega) (by omega)
    rw [powS, Nat.pow_succ]
    omega
theorem bitsD_add (m : Nat) : ∀ (j k : Nat), j ≤ k → bitsD (2 ^ k + m) j = bitsD m j
  | 0, _, _ => rfl
  | j + 1, k, h => by
    rw [bitsD, bitsD, Nat.testBit_two_pow_add_gt (by omega), bitsD_add m j k (by omega)]
theorem bitsD_of : ∀ (k : Nat) (L : List Nat), L.Pairwise (fun x y => y < x) → (∀ l ∈ L, l < k) → bitsD (powS L) k = L
  | 0, L, _, h => by
    cases L with
    | nil => rfl
    | cons x r => have := h x (by simp); omega
  | k + 1, L, h1, h2 => by
    by_cases c : ∀ l ∈ L, l < k
    · rw [bitsD, Nat.testBit_lt_two_pow (powS_lt k L h1 c)]
      exact bitsD_of k L h1 c
    · cases L with
      | nil => exact absurd (fun l hl => by simp at hl) c
      | cons x r =>
        obtain ⟨g1, g2⟩ := List.pairwise_cons.1 h1
        have hx : x = k := by
          have := h2 x (by simp)
          by_cases e : x = k
          · exact e
          · exact absurd (fun l hl => by
              rcases List.mem_cons.1 hl with rfl | hl
              · omega
              · have := g1 l hl; omega) c
        subst hx
        have hr : ∀ l ∈ r, l < x := g1
        rw [bitsD, powS, Nat.testBit_two_pow_add_eq, Nat.testBit_lt_two_pow (powS_lt x r g2 hr), bitsD_add _ x x (Nat.le_refl _), bitsD_of x r g2 hr]
        rfl
theorem powS_full : ∀ (ls : List (List Ent)), FullB ls → powS (ls.map lv) = ls.flatten.length
  | [], _ => rfl
  | d :: r, h => by
    rw [List.map_cons, powS, powS_full r (fun x hx => h x (by simp [hx])), List.flatten_cons, List.length_append, ← h d (by simp)]
theorem putUp_bits (f : Nat → Ent) (n : Nat) (hn : n < 256) : (putUp f n).map lv = bitsD n 8 := by
  have hs := powS_full _ (putUp_full f n)
  rw [putUp_len] at hs
  have hp : ((putUp f n).map lv).Pairwise (fun x y => y < x) := List.pairwise_map.2 (putUp_fall f n).fall
  have h8 : ∀ l ∈ (putUp f n).map lv, l < 8 := by
    intro l hl
    obtain ⟨d, hd, rfl⟩ := List.mem_map.1 hl
    have hf := putUp_full f n d hd
    obtain ⟨k, hk, rfl⟩ := List.getElem_of_mem hd
    have := (flat_split hk).length_eq
    rw [List.length_append, putUp_len] at this
    by_cases c : lv (putUp f n)[k] < 8
    · exact c
    · have : 2 ^ 8 ≤ 2 ^ lv (putUp f n)[k] := Nat.pow_le_pow_right (by omega) (by omega)
      omega
  rw [← bitsD_of 8 _ hp h8, hs]
/-- The bits from 7 down, the first j of them looked at. -/
def wantL (n : Nat) : Nat → List Nat
  | 0 => []
  | j + 1 => wantL n j ++ (if n.testBit (7 - j) then [7 - j] else [])
theorem want_bits (n : Nat) : ∀ j, j ≤ 8 → wantL n j ++ bitsD n (8 - j) = bitsD n 8
  | 0, _ => rfl
  | j + 1, h => by
    rw [wantL, List.append_assoc, ← want_bits n j (by omega), show 8 - j = (7 - j) + 1 by omega, bitsD, show 8 - (j + 1) = 7 - j by omega]
    cases n.testBit (7 - j) <;> simp
theorem want_all (n : Nat) : wantL n 8 = bitsD n 8 := by have := want_bits n 8 (by omega); simpa [bitsD] using this
theorem want_len (n : Nat) : ∀ j, (wantL n j).length ≤ j
  | 0 => by simp [wantL]
  | j + 1 => by
    have := want_len n j
    rw [wantL, List.length_append]
    split <;> simp <;> omega
theorem bit_test (n k : Nat) : n / 2 ^ k % 2 = 1 ↔ n.testBit k = true := by rw [Nat.testBit_eq_decide_div_mod_eq]; simp

/-- A row of ints of the call's own. -/
def OwnI (w : World) (base : Nat) (v : Value) (zs : List Nat) : Prop := w.ownsRow base 3 1 v zs.length (zs.map fun (z : Nat) => Value.int .i64 (z : Int))
theorem OwnI.below {w w' : World} {base : Nat} {v : Value} {zs : List Nat} (h : OwnI w base v zs) (hw : Below w.heap.size w w') : OwnI w' base v zs := own_below h hw
theorem OwnI.slice {w : World} {base : Nat} {v : Value} {zs : List Nat} (h : OwnI w base v zs) : ∃ a cap, v = .slice a zs.length cap := by
  rcases h.2 with ⟨h1, h0⟩ | ⟨g, cap, cur, h1, _⟩
  · exact ⟨none, 0, by rw [h1, h0]⟩
  · exact ⟨some ⟨g, 0, none⟩, cap, h1⟩
theorem OwnI.at {w : World} {base n cap : Nat} {a : Option Addr} {zs : List Nat} (h : OwnI w base (.slice a n cap) zs) {i : Nat} (hi : i < zs.length) : ∃ g, a = some ⟨g, 0, none⟩ ∧ g < w.heap.size ∧ w.cell? ⟨g, i, none⟩ = some (.int .i64 (zs[i] : Nat)) := by
  have own := h
  rcases h.2 with ⟨h1, h0⟩ | ⟨g, cap', cur, h1, _, hg, _⟩
  · omega
  · injection h1 with e1 e2 e3
    subst e1 e2 e3
    refine ⟨g, rfl, lt_of_block hg, ?_⟩
    rw [World.ownsRow.cellAt own i (by omega), List.getElem?_map, List.getElem?_eq_getElem hi]
    rfl
theorem kept_grownK {S : TypeId → Prop} {w w' : World} {base n k : Nat} {v : Value} {T : TypeId} {vs : List Value} (hS : S T) (o : w.ownsRow base T k v n vs) (hg : w.grownBy w' v.ownBlock) : Kept S w w' := by
  refine ⟨hg.size, fun j cs U fr hk hU => hg.block j (lt_of_block hk) ?_⟩
  intro e
  rcases o.2 with ⟨rfl, _⟩ | ⟨g, cap, cur, rfl, _, h, _⟩
  · simp [Value.ownBlock] at e
  · simp only [Value.ownBlock, Option.some.injEq] at e
    subst e
    rw [h] at hk
    simp only [Option.some.injEq, Obj.cells.injEq] at hk
    rw [← hk.2.1] at hU
    exact hU hS
/-- append(v, z). -/
theorem app_int {w : World} {base n : Nat} {v : Value} {zs : List Nat} (z : Nat) (h : OwnI w base v zs) (hn : zs.length = n) (hN : n ≤ 100000) (hbase : base ≤ w.heap.size) :
    ∃ r t w', (Builtin.append_ #[48, 48] 48 #[v, .slice (some ⟨w.heap.size, 0, none⟩) 1 1]).run Try.prog (w.alloc (.cells #[.int .i64 z] 3)) = .ok (.slice r (n + 1) t) w' ∧ OwnI w' base (.slice r (n + 1) t) (zs ++ [z]) ∧ Below base w w' ∧ Kept (fun T => T = 3) w w' := by
  subst hn
  obtain ⟨i, hi, hz, hs, hby⟩ := infoI
  have bv : Below w.heap.size w (w.alloc (.cells #[.int .i64 z] 3)) := (Below.refl _ _).alloc (Nat.le_refl _) _
  have hv := h.below bv
  obtain ⟨v', w', k1, k2, k3, k4⟩ := run_append_own (P := Try.prog) (w.alloc (.cells #[.int .i64 z] 3)) base 48 48 3 i _ 1 8 Try.underlying48 hi hz hs hby rfl (by omega) v zs.length _ hv ⟨w.heap.size, 0, none⟩ 1 1 [.int .i64 z] rfl
    (fun j u hj => by
      have : j = 0 := by have := (List.getElem?_eq_some_iff.1 hj).1; simp at this; omega
      subst this
      simp at hj; subst hj; exact cell_new w _ _ 0) (by intro u hu; simp at hu; subst hu; rfl) (by unfold maxLen; omega) (by omega) (Nat.le_trans hbase bv.size)
  have own : OwnI w' base v' (zs ++ [z]) := by
    unfold OwnI
    rw [List.length_append, List.map_append]
    exact k2
  obtain ⟨r, t, e⟩ := own.slice
  rw [List.length_append] at e
  simp only [List.length_singleton] at e
  subst e
  exact ⟨r, t, w', k1, own, (bv.mono hbase).trans ((Below.refl _ _).grown k3 (Nat.le_trans hbase bv.size) (fun k hk => (World.ownsRow.lt hv k hk).1)), (Kept.of_below bv).trans (kept_grownK rfl hv k3)⟩
end Go.Proofs.Ytchephglapnloaa

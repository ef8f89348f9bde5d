/- A script of calls, and what holds between them. -/
import Derived.Test.YtboccihcomaaoaaShrRA
import Derived.Test.YtboccihcomaaoaaShrRD
import Derived.Test.YtboccihcomaaoaaShrRC
import Derived.Test.YtboccihcomaaoaaShrBl
import Derived.Test.YtboccihcomaaoaaShrSA
import Derived.Test.YtboccihcomaaoaaShrF
import Derived.Test.YtboccihcomaaoaaShrX
namespace Go.Proofs.Ytboccihcomaaoaa
open Go.RowKit Go.Lib Go.Sort
set_option linter.unusedVariables false

/-- A call. -/
structure OpR where
  kind : Int
  id : Int
  lev : Int
  old : Bool
  pl : Option Addr
  ql : Nat
  L : List Ent
  pm : Option Addr
  qm : Nat
  M : List Ent
def OpR.cells (o : OpR) : Array Value := #[.int .i64 o.kind, .int .i64 o.id, .int .i64 o.lev, .bool o.old, .slice o.pl o.L.length o.ql, .slice o.pm o.M.length o.qm]
/-- A slice of calls. -/
structure IsOps (w : World) (a : Option Addr) (len : Nat) (Z : Nat → OpR) : Prop where
  len_le : len ≤ 9223372036854775807
  elem : ∀ i, i < len → ∃ b off, a = some ⟨b, off, none⟩ ∧ b < w.heap.size ∧ w.cell? ⟨b, off + i * 6, none⟩ = some (.int .i64 (Z i).kind) ∧ w.cell? ⟨b, off + i * 6 + 1, none⟩ = some (.int .i64 (Z i).id) ∧ w.cell? ⟨b, off + i * 6 + 2, none⟩ = some (.int .i64 (Z i).lev) ∧ w.cell? ⟨b, off + i * 6 + 3, none⟩ = some (.bool (Z i).old) ∧ w.cell? ⟨b, off + i * 6 + 4, none⟩ = some (.slice (Z i).pl (Z i).L.length (Z i).ql) ∧ w.cell? ⟨b, off + i * 6 + 5, none⟩ = some (.slice (Z i).pm (Z i).M.length (Z i).qm) ∧ IsL w (Z i).pl (Z i).ql (Z i).L ∧ IsL w (Z i).pm (Z i).qm (Z i).M
theorem IsL.lst {w W : World} {S q : Nat} {p : Option Addr} {d : List Ent} (h : IsL w p q d) (hS : w.heap.size ≤ S) (hb : Below w.heap.size w W) : Lst W S p q d := ⟨h.below hb, fun b off e hd => by
  obtain ⟨x, r, rfl⟩ := List.exists_cons_of_ne_nil hd
  obtain ⟨b', off', e', hb', _⟩ := h.elem 0 x rfl
  rw [e] at e'
  injection e' with e'
  injection e' with e'
  omega⟩
theorem kept_of_grown {w w' : World} {B : Nat} {cs : Array Value} {X : TypeId} {fr : Nat × Nat} (hg : w.grownBy w' (some B)) (hX : w.heap[B]? = some (.cells cs X fr)) : Kept (fun T => T = X) w w' :=
  ⟨hg.size, fun k ds U fr' hk hU => hg.block k (lt_of_block hk) (fun c => by
    injection c with c
    subst c
    rw [hX] at hk
    simp only [Option.some.injEq, Obj.cells.injEq] at hk
    exact hU hk.2.1.symm)⟩
theorem Bls.kept {Q : TypeId → Prop} {w w' : World} {base : Nat} {a : Option Addr} {n cap : Nat} {ls : List (List Ent)} (h : Bls w base a n cap ls) (hw : Kept Q w w') (h1 : ¬ Q 34) (h2 : ¬ Q 37) : Bls w' base a n cap ls := by
  obtain ⟨bs, b1, b2, b3⟩ := h
  exact ⟨bs, b1, b2, b3.kept hw h1 h2⟩
/-- The program's and the document's, side by side. -/
structure PlI (w : World) (S i v : Nat) (ls : List (List Ent)) (W : World) : Prop where
  p : Shr W S v ls
  r : RShr W S v ls
  d : Below S w W
  srt : ∀ d ∈ ls, Srt d
  len : ls.length ≤ 2 * i
  sum : ls.flatten.length ≤ 80 * i
  ver : v ≤ i
theorem PlI.sz {w W : World} {S i v : Nat} {ls : List (List Ent)} (h : PlI w S i v ls W) : S + 1 < W.heap.size := h.r.lt
theorem PlI.on {w W W' : World} {S i v : Nat} {ls : List (List Ent)} (h : PlI w S i v ls W) (hw : Below W.heap.size W W') : PlI w S i v ls W' :=
  ⟨h.p.below hw, h.r.below hw, h.d.trans (hw.mono (by have := h.sz; omega)), h.srt, h.len, h.sum, h.ver⟩
theorem PlI.step {w W W1 W2 : World} {S i v v' : Nat} {ls ks : List (List Ent)} (h : PlI w S i v ls W) (h1 : Shr W1 S v' ks) (g1 : W.grownBy W1 (some S)) (hr : RShr W1 S v ls) (h2 : RShr W2 S v' ks) (g2 : W1.grownBy W2 (some (S + 1))) (srt : ∀ d ∈ ks, Srt d) (len : ks.length ≤ 2 * (i + 1)) (sum : ks.flatten.length ≤ 80 * (i + 1)) (ver : v' ≤ i + 1) : PlI w S (i + 1) v' ks W2 := by
  obtain ⟨a, n, cap, bs, r1, r2, r3⟩ := hr
  have sz := h.sz
  have s1 := g1.size
  exact ⟨h1.kept (kept_of_grown g2 r2) (by decide) (by decide) (by decide), h2, (h.d.trans (below_of_grown g1 (Nat.le_refl _) (by omega))).trans (below_of_grown g2 (by omega) (by omega)), srt, len, sum, ver⟩
theorem PlI.mid {w W W1 : World} {S i v : Nat} {ls : List (List Ent)} (h : PlI w S i v ls W) (g1 : W.grownBy W1 (some S)) : RShr W1 S v ls := by
  obtain ⟨a, n, cap, hB, _⟩ := h.p
  exact h.r.grown g1 hB (by decide)
theorem PlI.up {w W : World} {S i v : Nat} {ls : List (List Ent)} (h : PlI w S i v ls W) : PlI w S (i + 1) v ls W :=
  ⟨h.p, h.r, h.d, h.srt, by have := h.len; omega, by have := h.sum; omega, by have := h.ver; omega⟩
theorem PlI.new (w : World) (S : Nat) (hS : w.heap.size = S) : PlI w S 0 0 [] ((w.alloc (.cells #[.int .u64 0, .slice none 0 0] 69)).alloc (.cells #[.int .u64 0, .slice none 0 0] 50)) := by
  have b1 : Below (w.alloc (.cells #[.int .u64 0, .slice none 0 0] 69)).heap.size (w.alloc (.cells #[.int .u64 0, .slice none 0 0] 69)) ((w.alloc (.cells #[.int .u64 0, .slice none 0 0] 69)).alloc (.cells #[.int .u64 0, .slice none 0 0] 50)) := bel_alloc _ _
  have p := (shr_new w).below b1
  rw [hS] at p
  have r := heap_alloc_new (w.alloc (.cells #[.int .u64 0, .slice none 0 0] 69)) (.cells #[.int .u64 0, .slice none 0 0] 50)
  rw [show (w.alloc (.cells #[.int .u64 0, .slice none 0 0] 69)).heap.size = S + 1 by simp [hS]] at r
  refine ⟨p, ⟨none, 0, 0, [], rfl, r, rfl, Nat.le_refl _, by unfold maxLen; omega, fun i b h => by simp at h, fun b h => by simp at h⟩, ?_, fun d h => by simp at h, Nat.le_refl _, Nat.le_refl _, Nat.le_refl _⟩
  rw [← hS]
  exact (bel_alloc w _).trans (b1.mono (bel_alloc w _).size)
/-- What was seen ahead of a call. -/
structure OldI (S B10 B11 B12 v n : Nat) (o : OpR) (a0 : Option Addr) (c0 : Nat) (ls : List (List Ent)) (W : World) : Prop where
  c10 : W.heap[B10]? = some (.cells o.cells 52 (0, 0))
  c11 : W.heap[B11]? = some (.cells #[.int .u64 v, .slice a0 n c0] 30 (0, 0))
  row : ∃ base, S + 1 < base ∧ Bls W base a0 n c0 ls
  ref : ∃ a' c' bs, bs.map Bk.d = ls ∧ W.heap[B12]? = some (.cells #[.int .u64 v, .slice a' n c'] 50 (0, 0)) ∧ RefS W S a' n c' bs
  lo : S + 1 < B10 ∧ S + 1 < B11 ∧ S + 1 < B12
theorem OldI.on {S B10 B11 B12 v n c0 : Nat} {o : OpR} {a0 : Option Addr} {ls : List (List Ent)} {W W' : World} (h : OldI S B10 B11 B12 v n o a0 c0 ls W) (hw : Below W.heap.size W W') : OldI S B10 B11 B12 v n o a0 c0 ls W' := by
  obtain ⟨base, b1, b2⟩ := h.row
  obtain ⟨a', c', bs, r1, r2, r3⟩ := h.ref
  exact ⟨(hw.block _ (lt_of_block h.c10)).trans h.c10, (hw.block _ (lt_of_block h.c11)).trans h.c11, ⟨base, b1, b2.below hw⟩, ⟨a', c', bs, r1, (hw.block _ (lt_of_block r2)).trans r2, r3.below hw⟩, h.lo⟩
theorem OldI.grown {S B10 B11 B12 v n c0 B : Nat} {o : OpR} {a0 : Option Addr} {ls : List (List Ent)} {W W' : World} {cs : Array Value} {X : TypeId} (h : OldI S B10 B11 B12 v n o a0 c0 ls W) (hg : W.grownBy W' (some B)) (hB : B = S ∨ B = S + 1) (hX : W.heap[B]? = some (.cells cs X (0, 0))) (hT : X ≠ 79) : OldI S B10 B11 B12 v n o a0 c0 ls W' := by
  obtain ⟨base, b1, b2⟩ := h.row
  obtain ⟨a', c', bs, r1, r2, r3⟩ := h.ref
  obtain ⟨l1, l2, l3⟩ := h.lo
  have ne : ∀ k, S + 1 < k → some k ≠ some B := fun k hk c => by injection c with c; omega
  exact ⟨(hg.block _ (lt_of_block h.c10) (ne _ l1)).trans h.c10, (hg.block _ (lt_of_block h.c11) (ne _ l2)).trans h.c11, ⟨base, b1, b2.grown hg (by omega)⟩, ⟨a', c', bs, r1, (hg.block _ (lt_of_block r2) (ne _ l3)).trans r2, r3.grown hg hB hX hT⟩, h.lo⟩
theorem OldI.gp {w W W' : World} {S i v v0 n c0 B10 B11 B12 : Nat} {o : OpR} {a0 : Option Addr} {ls l0 : List (List Ent)} (h : OldI S B10 B11 B12 v0 n o a0 c0 l0 W) (hp : PlI w S i v ls W) (hg : W.grownBy W' (some S)) : OldI S B10 B11 B12 v0 n o a0 c0 l0 W' := by
  obtain ⟨a, n, cap, hB, _⟩ := hp.p
  exact h.grown hg (.inl rfl) hB (by decide)
theorem OldI.gr {W W' : World} {S v v0 n c0 B10 B11 B12 : Nat} {o : OpR} {a0 : Option Addr} {ls l0 : List (List Ent)} (h : OldI S B10 B11 B12 v0 n o a0 c0 l0 W) (hp : RShr W S v ls) (hg : W.grownBy W' (some (S + 1))) : OldI S B10 B11 B12 v0 n o a0 c0 l0 W' := by
  obtain ⟨a, n, cap, bs, _, hB, _⟩ := hp
  exact h.grown hg (.inr rfl) hB (by decide)
theorem OldI.cells {W : World} {S v n c0 B10 B11 B12 : Nat} {o : OpR} {a0 : Option Addr} {ls : List (List Ent)} (h : OldI S B10 B11 B12 v n o a0 c0 ls W) : W.cell? ⟨B10, 0, none⟩ = some (.int .i64 o.kind) ∧ W.cell? ⟨B10, 1, none⟩ = some (.int .i64 o.id) ∧ W.cell? ⟨B10, 2, none⟩ = some (.int .i64 o.lev) ∧ W.cell? ⟨B10, 3, none⟩ = some (.bool o.old) ∧ W.cell? ⟨B10, 4, none⟩ = some (.slice o.pl o.L.length o.ql) ∧ W.cell? ⟨B10, 5, none⟩ = some (.slice o.pm o.M.length o.qm) := by
  have h := h.c10
  refine ⟨?_, ?_, ?_, ?_, ?_, ?_⟩ <;> rw [cell_of_row _ _ _ _ _ _ h] <;> rfl

/-- What the program's Swap, by the version of now, tells and leaves. -/
def SwapIs (w : World) (B v : Nat) (ls : List (List Ent)) (xs : List (Int × List Ent)) (r : Ending) (w' : World) : Prop := r = .returned (.bool (xs.all okX)) ∧ (if xs.all okX = true then Shr w' B (v + 1) (xs.map Prod.snd) else Shr w' B v ls) ∧ w.grownBy w' (some B)
theorem swapX_any (B v : Nat) (ls : List (List Ent)) (a : Option Addr) (n cap : Nat) (xs : List (Int × List Ent)) (w : World) (h : Shr w B v ls) (hv : v ≤ 1000000) (hx : RawB w a xs) (hn : xs.length = n) (hl : n ≤ 100000) (hd : ∀ x ∈ xs, x.2.length ≤ 1000000) :
    Calls Try.prog 21 #[.pointer (some ⟨B, 0, none⟩), .int .u64 v, .slice a n cap] w (SwapIs w B v ls xs) := by
  cases hk : xs.all okX with
  | true =>
    obtain ⟨e, hs⟩ := okX_lvs hk
    have hx' : RawB w a (lvs (xs.map Prod.snd)) := by rw [← e]; exact hx
    refine (swap_any B v ls (xs.map Prod.snd) a n cap w h hv hx' hs (by rw [List.length_map]; exact hn) hl (fun d hd' => by
      obtain ⟨x, hx1, rfl⟩ := List.mem_map.1 hd'
      exact hd x hx1)).mono ?_
    rintro r w' ⟨rfl, h1, h2⟩
    exact ⟨by rw [hk], by rw [hk, if_pos rfl]; exact h1, h2⟩
  | false =>
    refine (swap_bad B v ls a n cap xs w h hx hn hl hd hk).mono ?_
    rintro r w' ⟨rfl, h1⟩
    exact ⟨by rw [hk], by rw [hk, if_neg (by simp)]; exact h.below h1, grown_of_below h1 _⟩
/-- The document's Add, whether there is something or not. -/
theorem rsadd_any (S v : Nat) (ls : List (List Ent)) (a : Option Addr) (K cap : Nat) (l : List Ent) (w : World) (h : RShr w S v ls) (hL : IsL w a cap l) (hK : l.length = K) (hlen : ls.length ≤ 4000) (hsum : ls.flatten.length + K ≤ 9000) (hv : v ≤ 1000000) :
    Calls Try.prog 18 #[.pointer (some ⟨S + 1, 0, none⟩), .slice a K cap] w fun r w' => r = .returned (.tuple #[]) ∧ RShr w' S (if K = 0 then v else v + 1) (addS ls l) ∧ w.grownBy w' (some (S + 1)) := by
  by_cases c : K = 0
  · subst c
    have e : addS ls l = ls := by unfold addS; rw [if_pos hK]
    rw [e, if_pos rfl]
    refine (rsadd_none S a cap w).mono ?_
    rintro r w' ⟨rfl, rfl⟩
    exact ⟨rfl, h, grown_of_below (Below.refl _ _) _⟩
  · rw [if_neg c]
    refine (rsadd_some S v ls a K cap l w h hL hK (by omega) hlen hsum hv).mono ?_
    rintro r w' ⟨h1, h2, h3⟩
    rw [if_neg (by omega)] at h2
    exact ⟨h1, h2, h3⟩
/-- Both draw the same. -/
theorem cand_both (S v : Nat) (ls : List (List Ent)) (k : Int) (dr : Nat) (hsum : ls.flatten.length ≤ 9000) (hk : -9223372036854775808 ≤ k ∧ k ≤ 9223372036854775807) (hdr : dr < 18446744073709551616) :
    ∃ x ok, (∀ W, Shr W S v ls → Calls Try.prog 24 #[.pointer (some ⟨S, 0, none⟩), .int .i64 k, .int .u64 dr] W (CandIs W x ok)) ∧ (∀ W, RShr W S v ls → Calls Try.prog 25 #[.pointer (some ⟨S + 1, 0, none⟩), .int .i64 k, .int .u64 dr] W (CandIs W x ok)) := by
  by_cases c : ls.flatten.length = 0
  · exact ⟨(0, 0), false, fun W h => cand_none S v ls k dr W h c, fun W h => rcand_none S v ls k dr W h hsum hk c⟩
  · have hJ : dr % drawN k ls.flatten.length < (sortE ls.flatten).length := by
      rw [sortE_len]
      have h1 : 0 < drawN k ls.flatten.length := by unfold drawN; omega
      have h2 : drawN k ls.flatten.length ≤ ls.flatten.length := by unfold drawN; omega
      have := Nat.mod_lt dr h1
      omega
    exact ⟨_, true, fun W h => cand_any S v ls k dr W h (by omega) hdr (by omega) _ (List.getElem?_eq_getElem hJ), fun W h => rcand_any S v ls k dr W h hsum hk hdr (by omega) _ (List.getElem?_eq_getElem hJ)⟩
end Go.Proofs.Ytboccihcomaaoaa

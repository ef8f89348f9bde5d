/- queue: what Settle and Put do to what there is (plain). -/
import Derived.Test.YtdcacbjmbfppeaaGreatQM
namespace Go.Proofs.YtdcacbjmbfppeaaGreat
open Go.RowKit Go.Lib Go.Sort
set_option linter.unusedVariables false

/-- Settle. -/
def settleQ (K : Nat) (s : QSt) (t : Nat) : QSt :=
  if (s.g t).f = true then
    if K < (putL (s.ls t) (s.g t).e).flatten.length then ⟨slSet s.g t ⟨(0, 0), (s.g t).v + 1, false⟩, lset s.ls t [], s.v + 1, addS s.hs (sortE (putL (s.ls t) (s.g t).e).flatten)⟩
    else ⟨slSet s.g t ⟨(0, 0), (s.g t).v + 1, false⟩, lset s.ls t (putL (s.ls t) (s.g t).e), s.v, s.hs⟩
  else s
/-- Put, of a thread that there is. -/
def putQ (K : Nat) (s : QSt) (t : Nat) (e : Ent) : QSt := { settleQ K s t with g := slSet (settleQ K s t).g t ⟨e, ((settleQ K s t).g t).v + 1, true⟩ }
theorem settle_f (K : Nat) (s : QSt) (t : Nat) : ((settleQ K s t).g t).f = false := by
  unfold settleQ
  split
  · split <;> (show (slSet s.g t _ t).f = false; rw [slSet_same])
  · cases h : (s.g t).f
    · rfl
    · contradiction

/-- What holds behind N calls. -/
structure QOk (K T N : Nat) (s : QSt) : Prop where
  ver : ∀ i, i < T → (s.g i).v ≤ 2 * N
  fall : ∀ i, i < T → Fall (s.ls i)
  len : ∀ i, i < T → (s.ls i).flatten.length ≤ K
  sv : s.v ≤ N
  hlen : s.hs.length ≤ N
  hsum : s.hs.flatten.length ≤ 17 * N
  hsrt : ∀ d ∈ s.hs, Srt d
theorem QOk.mono {K T N N' : Nat} {s : QSt} (h : QOk K T N s) (hn : N ≤ N') : QOk K T N' s :=
  ⟨fun i hi => by have := h.ver i hi; omega, h.fall, h.len, by have := h.sv; omega, by have := h.hlen; omega, by have := h.hsum; omega, h.hsrt⟩
theorem putL_len (ls : List (List Ent)) (e : Ent) : (putL ls e).flatten.length = ls.flatten.length + 1 := by rw [(putL_perm ls e).length_eq]; simp
/-- Settle, and a store of whatever version below into that slot. -/
theorem settle_ok1 {K T N t : Nat} {s : QSt} (h : QOk K T N s) (ht : t < T) (hK : K ≤ 16) : QOk K T (N + 1) (settleQ K s t) ∧ ∀ i, i < T → ((settleQ K s t).g i).v ≤ 2 * N + 1 := by
  have vv : ∀ i, i < T → (slSet s.g t ⟨(0, 0), (s.g t).v + 1, false⟩ i).v ≤ 2 * N + 1 := fun i hi => by
    by_cases e : i = t
    · subst e; rw [slSet_same]; have := h.ver i hi; show (s.g i).v + 1 ≤ _; omega
    · rw [slSet_ne _ _ e]; have := h.ver i hi; omega
  unfold settleQ
  split
  · rename_i hf
    split
    · rename_i hl
      refine ⟨⟨fun i hi => by have := vv i hi; show (slSet s.g t _ i).v ≤ _; omega, fun i hi => ?_, fun i hi => ?_, by have := h.sv; show s.v + 1 ≤ N + 1; omega, ?_, ?_, addS_srt _ h.hsrt⟩, vv⟩
      · show Fall (lset s.ls t [] i)
        by_cases e : i = t
        · subst e; rw [lset_same]; exact Fall.nil
        · rw [lset_ne _ _ e]; exact h.fall i hi
      · show (lset s.ls t [] i).flatten.length ≤ K
        by_cases e : i = t
        · subst e; rw [lset_same]; simp
        · rw [lset_ne _ _ e]; exact h.len i hi
      · have := addS_count s.hs (sortE (putL (s.ls t) (s.g t).e).flatten)
        have := h.hlen
        show (addS s.hs _).length ≤ N + 1
        omega
      · show (addS s.hs _).flatten.length ≤ 17 * (N + 1)
        rw [addS_len, sortE_len, putL_len]
        have := h.hsum
        have := h.len t ht
        omega
    · rename_i hl
      refine ⟨⟨fun i hi => by have := vv i hi; show (slSet s.g t _ i).v ≤ _; omega, fun i hi => ?_, fun i hi => ?_, by have := h.sv; show s.v ≤ N + 1; omega, by have := h.hlen; show s.hs.length ≤ N + 1; omega, by have := h.hsum; show s.hs.flatten.length ≤ _; omega, h.hsrt⟩, vv⟩
      · show Fall (lset s.ls t _ i)
        by_cases e : i = t
        · subst e; rw [lset_same]; exact putL_fall (h.fall i hi) _
        · rw [lset_ne _ _ e]; exact h.fall i hi
      · show (lset s.ls t _ i).flatten.length ≤ K
        by_cases e : i = t
        · subst e; rw [lset_same]; omega
        · rw [lset_ne _ _ e]; exact h.len i hi
  · exact ⟨h.mono (by omega), fun i hi => by have := h.ver i hi; omega⟩
theorem settle_ok {K T N t : Nat} {s : QSt} (h : QOk K T N s) (ht : t < T) (hK : K ≤ 16) : QOk K T (N + 1) (settleQ K s t) := (settle_ok1 h ht hK).1
theorem put_ok {K T N t : Nat} {s : QSt} (h : QOk K T N s) (ht : t < T) (hK : K ≤ 16) (e : Ent) : QOk K T (N + 1) (putQ K s t e) := by
  obtain ⟨h1, h2⟩ := settle_ok1 h ht hK
  refine ⟨fun i hi => ?_, h1.fall, h1.len, h1.sv, h1.hlen, h1.hsum, h1.hsrt⟩
  show (slSet (settleQ K s t).g t ⟨e, ((settleQ K s t).g t).v + 1, true⟩ i).v ≤ _
  by_cases e : i = t
  · subst e; rw [slSet_same]; have := h2 i hi; show _ + 1 ≤ _; omega
  · rw [slSet_ne _ _ e]; have := h2 i hi; omega
theorem QOk.count {K T N : Nat} {s : QSt} (h : QOk K T N s) {i : Nat} (hi : i < T) : (s.ls i).length ≤ K := Nat.le_trans (h.fall i hi).count (h.len i hi)
/-- A new one. -/
def newQ : QSt := ⟨fun _ => Pl.zero, fun _ => [], 0, []⟩
theorem newQ_ok (K T : Nat) : QOk K T 0 newQ := ⟨fun _ _ => Nat.le_refl _, fun _ _ => Fall.nil, fun _ _ => Nat.zero_le _, Nat.le_refl _, Nat.le_refl _, Nat.le_refl _, fun d hd => by simp [newQ] at hd⟩
end Go.Proofs.YtdcacbjmbfppeaaGreat

/- shared: copied; what all have, in the heap; New, Snap, Swap. -/
import Derived.Test.YtboccihcomaaoaaShrW
import Derived.Deep.RegionHeld3
namespace Go.Proofs.Ytboccihcomaaoaa
open Go.RowKit Go.Lib Go.Sort
set_option linter.unusedVariables false

theorem flatB_get : ∀ (bs : List Bk) (f : Nat → Option Value), (∀ i b, bs[i]? = some b → f (i * 2) = some (.int .i64 (lv b.d)) ∧ f (i * 2 + 1) = some (.slice b.p b.d.length b.q)) → ∀ j u, (flatB bs)[j]? = some u → f j = some u
  | [], f, h, j, u, hj => by simp at hj
  | b :: bs, f, h, 0, u, hj => by
    have := (h 0 b rfl).1
    rw [flatB_cons] at hj
    simp at hj
    subst hj
    exact this
  | b :: bs, f, h, 1, u, hj => by
    have := (h 0 b rfl).2
    rw [flatB_cons] at hj
    simp at hj
    subst hj
    exact this
  | b :: bs, f, h, j + 2, u, hj => by
    rw [flatB_cons] at hj
    exact flatB_get bs (fun j => f (j + 2)) (fun i c hc => by
      have := h (i + 1) c (by simpa using hc)
      rw [show (i + 1) * 2 = i * 2 + 2 by omega] at this
      exact ⟨this.1, by have := this.2; rw [show i * 2 + 2 + 1 = i * 2 + 1 + 2 by omega] at this; exact this⟩) j u (by simpa using hj)
theorem flatB_set : ∀ (bs : List Bk) (k : Nat) (b : Bk) (hk : k < bs.length), b.d = bs[k].d → flatB (bs.set k b) = (flatB bs).set (k * 2 + 1) (.slice b.p b.d.length b.q)
  | [], k, b, hk, _ => by simp at hk
  | c :: bs, 0, b, hk, e => by
    simp at e
    rw [List.set_cons_zero, flatB_cons, flatB_cons]
    simp [e]
  | c :: bs, k + 1, b, hk, e => by
    rw [List.set_cons_succ, flatB_cons, flatB_cons, flatB_set bs k b (by simpa using hk) (by simpa using e), show (k + 1) * 2 + 1 = (k * 2 + 1) + 1 + 1 by omega, List.set_cons_succ, List.set_cons_succ]
/-- The list of one block of a row set anew. -/
theorem row_set {T : TypeId} {w : World} {base g n cap : Nat} {bs : List Bk} (h : w.ownsRow base T 2 (.slice (some ⟨g, 0, none⟩) n cap) n (flatB bs)) (k : Nat) (b : Bk) (hk : k < bs.length) (e : b.d = bs[k].d) (hn : bs.length = n) :
    (w.setCell ⟨g, k * 2 + 1, none⟩ (.slice b.p b.d.length b.q)).ownsRow base T 2 (.slice (some ⟨g, 0, none⟩) n cap) n (flatB (bs.set k b)) := by
  rcases h.2 with ⟨h1, h0⟩ | ⟨g', cap', cur, h1, hb, hg, hnc, hc, hs, ht⟩
  · cases h1
  injection h1 with e1 e2 e3
  injection e1 with e1
  injection e1 with e1
  subst e1 e3
  rw [setCell_eq_setRow w g (k * 2 + 1) cur T (0, 0) _ hg]
  refine ⟨by rw [flatB_len, List.length_set, hn], .inr ⟨g, cap, _, rfl, hb, setRow_heap w g cur _ T (0, 0) hg, hnc, hc, by simpa using hs, ?_⟩⟩
  rw [flatB_set bs k b hk e, Array.toList_setIfInBounds, List.take_set, ht]
theorem RowB.grown {T : TypeId} {w w' : World} {base B : Nat} {v : Value} {bs : List Bk} (h : RowB T w base v bs) (hg : w.grownBy w' (some B)) (hB : B < base) : RowB T w' base v bs :=
  ⟨h.row.kept hg (.inr fun e => by have := World.ownsRow.lt h.row B e; omega), fun b hb => World.ownsRow.kept (h.own b hb) hg (.inr fun e => by have := World.ownsRow.lt (h.own b hb) B e; omega)⟩
theorem own_low {T : TypeId} {w : World} {base k n : Nat} {v : Value} {vs : List Value} (h : w.ownsRow base T k v n vs) {b' : Nat} (hb : b' ≤ base) : w.ownsRow b' T k v n vs := by
  refine ⟨h.1, ?_⟩
  rcases h.2 with h2 | ⟨g, cap, cur, r1, r2, r3⟩
  · exact .inl h2
  · exact .inr ⟨g, cap, cur, r1, by omega, r3⟩
theorem RowB.low {T : TypeId} {w : World} {base : Nat} {v : Value} {bs : List Bk} (h : RowB T w base v bs) {b' : Nat} (hb : b' ≤ base) : RowB T w b' v bs :=
  ⟨own_low h.row hb, fun b h' => (h.own b h').low hb⟩
theorem grown_of_below {w w' : World} (h : Below w.heap.size w w') (row : Option Nat) : w.grownBy w' row := ⟨h.os, h.tape, h.output, h.size, fun k hk _ => h.block k hk⟩
theorem grown_trans {u v w : World} {row : Option Nat} (h : u.grownBy v row) (g : v.grownBy w row) : u.grownBy w row :=
  ⟨g.os.trans h.os, g.tape.trans h.tape, g.output.trans h.output, Nat.le_trans h.size g.size, fun k hk hne => (g.block k (Nat.lt_of_lt_of_le hk h.size) hne).trans (h.block k hk hne)⟩
theorem grown_set (w : World) (B o : Nat) (u : Value) : w.grownBy (w.setCell ⟨B, o, none⟩ u) (some B) :=
  ⟨rfl, rfl, rfl, by simp [World.setCell], fun k hk hne => Below.heap_setCell w ⟨B, o, none⟩ u k (fun e => hne (by rw [e]))⟩
theorem below_of_grown {w w' : World} {B b : Nat} (h : w.grownBy w' (some B)) (hb : b ≤ B) (hw : b ≤ w.heap.size) : Below b w w' :=
  ⟨h.os, h.tape, h.output, h.size, fun k hk => h.block k (by omega) (by intro e; injection e with e; omega)⟩

/-- A row of the call's own of blocks that hold these lists. -/
def Bls (w : World) (base : Nat) (a : Option Addr) (n cap : Nat) (ls : List (List Ent)) : Prop := ∃ bs : List Bk, bs.map Bk.d = ls ∧ bs.length = n ∧ RowB 34 w base (.slice a n cap) bs
theorem Bls.below {w w' : World} {base : Nat} {a : Option Addr} {n cap : Nat} {ls : List (List Ent)} (h : Bls w base a n cap ls) (hw : Below w.heap.size w w') : Bls w' base a n cap ls := by
  obtain ⟨bs, h1, h2, h3⟩ := h
  exact ⟨bs, h1, h2, h3.below hw⟩
theorem Bls.grown {w w' : World} {base B : Nat} {a : Option Addr} {n cap : Nat} {ls : List (List Ent)} (h : Bls w base a n cap ls) (hg : w.grownBy w' (some B)) (hB : B < base) : Bls w' base a n cap ls := by
  obtain ⟨bs, h1, h2, h3⟩ := h
  exact ⟨bs, h1, h2, h3.grown hg hB⟩
theorem Bls.low {w : World} {base : Nat} {a : Option Addr} {n cap : Nat} {ls : List (List Ent)} (h : Bls w base a n cap ls) {b' : Nat} (hb : b' ≤ base) : Bls w b' a n cap ls := by
  obtain ⟨bs, h1, h2, h3⟩ := h
  exact ⟨bs, h1, h2, h3.low hb⟩
theorem Bls.raw {w : World} {base : Nat} {a : Option Addr} {n cap : Nat} {ls : List (List Ent)} (h : Bls w base a n cap ls) : RawB w a (lvs ls) := by
  obtain ⟨bs, rfl, h2, h3⟩ := h
  exact h3.raw
theorem Bls.len {w : World} {base : Nat} {a : Option Addr} {n cap : Nat} {ls : List (List Ent)} (h : Bls w base a n cap ls) : ls.length = n ∧ n ≤ cap ∧ cap ≤ maxLen := by
  obtain ⟨bs, rfl, h2, h3⟩ := h
  obtain ⟨a', cap', e, k1, k2⟩ := h3.slice
  injection e with _ _ e3
  exact ⟨by rw [List.length_map, h2], by omega, by omega⟩
theorem Bls.isBs {w : World} {base : Nat} {a : Option Addr} {n cap : Nat} {ls : List (List Ent)} (h : Bls w base a n cap ls) : IsBs w a ls := by
  obtain ⟨bs, rfl, h2, h3⟩ := h
  exact h3.isBs
theorem RawB.bks {w : World} {a : Option Addr} {ls : List (List Ent)} (h : RawB w a (lvs ls)) : ∃ bs : List Bk, bs.map Bk.d = ls ∧ ∀ (i : Nat) (hi : i < bs.length), IsL w bs[i].p bs[i].q bs[i].d ∧ ∃ g, a = some ⟨g, 0, none⟩ ∧ w.cell? ⟨g, i * 2, none⟩ = some (.int .i64 (lv bs[i].d)) ∧ w.cell? ⟨g, i * 2 + 1, none⟩ = some (.slice bs[i].p bs[i].d.length bs[i].q) ∧ g < w.heap.size := by
  have h1 : ∀ i : Fin ls.length, ∃ b : Bk, b.d = ls[i] ∧ IsL w b.p b.q b.d ∧ ∃ g, a = some ⟨g, 0, none⟩ ∧ w.cell? ⟨g, i.1 * 2, none⟩ = some (.int .i64 (lv b.d)) ∧ w.cell? ⟨g, i.1 * 2 + 1, none⟩ = some (.slice b.p b.d.length b.q) ∧ g < w.heap.size := fun i => by
    obtain ⟨g, p, q, e, hg, c0, c1, L⟩ := h i.1 (by rw [lvs_len]; exact i.2)
    rw [lvs_at i.2] at c0 c1 L
    exact ⟨⟨ls[i.1], p, q⟩, rfl, L, g, e, c0, c1, hg⟩
  refine ⟨List.ofFn (fun i => Classical.choose (h1 i)), ?_, fun i hi => ?_⟩
  · apply List.ext_getElem
    · simp
    · intro i h2 h3
      simp only [List.getElem_map, List.getElem_ofFn]
      exact (Classical.choose_spec (h1 ⟨i, h3⟩)).1
  · rw [List.length_ofFn] at hi
    simp only [List.getElem_ofFn]
    exact (Classical.choose_spec (h1 ⟨i, hi⟩)).2

/-- What a copy of the row alone gives. -/
def ClonedB (w : World) (n : Nat) (bs : List Bk) (r : Ending) (w' : World) : Prop := ∃ a cap, r = .returned (.slice a n cap) ∧ w'.ownsRow w.heap.size 34 2 (.slice a n cap) n (flatB bs) ∧ Below w.heap.size w w'

set_option maxHeartbeats 1000000 in
theorem cloneB_any (a : Option Addr) (n cap : Nat) (bs : List Bk) (w : World) (hn : bs.length = n) (hl : n ≤ 100000) (h : ∀ (i : Nat) (hi : i < bs.length), ∃ g, a = some ⟨g, 0, none⟩ ∧ w.cell? ⟨g, i * 2, none⟩ = some (.int .i64 (lv bs[i].d)) ∧ w.cell? ⟨g, i * 2 + 1, none⟩ = some (.slice bs[i].p bs[i].d.length bs[i].q) ∧ g < w.heap.size) :
    Calls Try.prog 50 #[.slice a n cap] w (ClonedB w n bs) := by
  have q22 : ∀ (w : World) (a : Option Addr) (n c n' c' : Nat), (binOp .eql 28 (.slice a n c) (.slice none n' c')).run Try.prog w = .ok (.bool a.isNone) w := fun w a n c n' c' => Lib.run_eql_slice_nil w _ _ a n c n' c' Try.underlying28
  by_cases hz : a = none
  · subst hz
    obtain rfl : bs = [] := by
      cases bs with
      | nil => rfl
      | cons x d => obtain ⟨b, e, _⟩ := h 0 (by simp); cases e
    subst hn
    go_enter Try.func50, Try.ntmps50
    go_wp2
    go_ret
    exact ⟨none, 0, rfl, World.ownsRow_nil _ _ _ _, Below.refl _ _⟩
  · obtain ⟨ad, rfl⟩ := Option.ne_none_iff_exists'.1 hz
    obtain ⟨inf, hinf, hzr, hsz, hby⟩ := info62
    have o0 : (w.alloc (.cells #[] 34)).ownsRow w.heap.size 34 2 (.slice (some ⟨w.heap.size, 0, none⟩) 0 0) 0 [] := ⟨rfl, .inr ⟨w.heap.size, 0, #[], rfl, Nat.le_refl _, heap_alloc_new w _, Nat.le_refl _, by unfold maxLen; omega, rfl, rfl⟩⟩
    have b0 : Below w.heap.size w (w.alloc (.cells #[] 34)) := (Below.refl _ _).alloc (Nat.le_refl _) _
    obtain ⟨v', w', k1, k2, k3, k4⟩ := run_append_own (P := Try.prog) (w.alloc (.cells #[] 34)) w.heap.size 28 28 34 inf _ 2 32 Try.underlying28 hinf hzr hsz hby rfl (by omega) _ 0 [] o0 ad n cap (flatB bs) (by rw [flatB_len, hn])
      (flatB_get bs (fun j => (w.alloc (.cells #[] 34)).cell? (ad.add j)) (fun i b hb => by
        obtain ⟨hi, rfl⟩ := List.getElem?_eq_some_iff.1 hb
        obtain ⟨g, e, c0, c1, hg⟩ := h i hi
        injection e with e
        subst e
        rw [Addr.add_lit, Addr.add_lit, Nat.zero_add, Nat.zero_add]
        exact ⟨(b0.cell (p := ⟨g, i * 2, none⟩) hg).trans c0, (b0.cell (p := ⟨g, i * 2 + 1, none⟩) hg).trans c1⟩)) (flatB_one _) (by unfold maxLen; omega) (by omega) (by simp)
    simp only [Nat.zero_add, List.nil_append] at k2
    have bw : Below w.heap.size w w' := b0.trans (below_of_grown k3 (Nat.le_refl _) (by simp))
    have B : Aside (Below w.heap.size w w') := bw
    have O : Aside (w'.ownsRow w.heap.size 34 2 v' n (flatB bs)) := k2
    clear k2 k3 k4 h b0 o0 bw hinf
    go_enter Try.func50, Try.ntmps50
    go_wp2_with (at_builtin; refine Lib.wpList_append_run _ rfl _ _ 28 28 rfl _ _ rfl rfl v' w' k1 ?_)
    go_ret
    rcases O.out.2 with ⟨e, e2⟩ | ⟨g, cap', cur, e, _⟩
    · subst e e2
      exact ⟨none, 0, rfl, O.out, B.out⟩
    · subst e
      exact ⟨_, cap', rfl, O.out, B.out⟩
end Go.Proofs.Ytboccihcomaaoaa

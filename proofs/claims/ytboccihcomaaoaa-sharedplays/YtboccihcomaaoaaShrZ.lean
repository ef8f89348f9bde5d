/- Appends onto what is new; the document's blocks; its Has and Without. -/
import Derived.Deep.AppendSrc
import Derived.Deep.RegionHeld3
import Derived.Deep.QuietTactic
import Derived.BigQuiet
import Derived.Test.YtboccihcomaaoaaShrK
import Derived.Test.YtboccihcomaaoaaBlkR
namespace Go.Proofs.Ytboccihcomaaoaa
open Go.RowKit Go.Lib Go.Sort
set_option linter.unusedVariables false

/-- A row of the call's own, or an empty one with no room at all, wherever. -/
def OwnZ (T : TypeId) (w : World) (base : Nat) (v : Value) (n : Nat) (vs : List Value) : Prop := w.ownsRow base T 2 v n vs ∨ (n = 0 ∧ vs = [] ∧ ∃ g, v = .slice (some ⟨g, 0, none⟩) 0 0)
theorem OwnZ.below {T : TypeId} {w w' : World} {base n : Nat} {v : Value} {vs : List Value} (h : OwnZ T w base v n vs) (hw : Below w.heap.size w w') : OwnZ T w' base v n vs := by
  rcases h with h | h
  · exact .inl (own_below h hw)
  · exact .inr h
theorem OwnZ.new (T : TypeId) (w : World) (base g : Nat) : OwnZ T w base (.slice (some ⟨g, 0, none⟩) 0 0) 0 [] := .inr ⟨rfl, rfl, g, rfl⟩
theorem OwnZ.kept {S : TypeId → Prop} {T : TypeId} {w w' : World} {base n : Nat} {v : Value} {vs : List Value} (h : OwnZ T w base v n vs) (hw : Kept S w w') (hT : ¬ S T) : OwnZ T w' base v n vs := by
  rcases h with h | h
  · exact .inl (hw.own hT h)
  · exact .inr h
/-- A slice of n elements of two cells each reads these cells. -/
def Reads (w : World) (a : Option Addr) (n : Nat) (news : List Value) : Prop := news.length = n * 2 ∧ (∀ u ∈ news, u.oneCell' = true) ∧ ∀ j u, news[j]? = some u → ∃ ad, a = some ad ∧ w.cell? (ad.add j) = some u
theorem Reads.nil {w : World} {n : Nat} {news : List Value} (h : Reads w none n news) : n = 0 ∧ news = [] := by
  obtain ⟨h1, _, h3⟩ := h
  cases news with
  | nil => simp at h1; exact ⟨by omega, rfl⟩
  | cons u r => obtain ⟨ad, e, _⟩ := h3 0 u rfl; cases e
theorem Reads.some' {w : World} {ad : Addr} {n : Nat} {news : List Value} (h : Reads w (some ad) n news) : ∀ j u, news[j]? = some u → w.cell? (ad.add j) = some u := fun j u hj => by
  obtain ⟨ad', e, hc⟩ := h.2.2 j u hj
  cases e
  exact hc
/-- What a type of two cells has. -/
structure TwoT (TS T : TypeId) where
  i : TypeInfo
  z : Value
  hu : Try.prog.underlying TS = some (.slice T)
  hi : Try.prog.info? T = some i
  hz : i.zero = some z
  hs : i.size = 2
  hb : i.bytes ≤ 32
  hc : z.cells.size = 2
/-- append onto an empty one with no room: nothing old turns. -/
theorem app0 {TS T : TypeId} (t2 : TwoT TS T) (w : World) (base g n cap : Nat) (a : Option Addr) (news : List Value) (h : Reads w a n news) (hn : n ≤ 100000) (hbase : base ≤ w.heap.size) (ty : TypeId) :
    ∃ r t w', (Builtin.append_ #[TS, TS] ty #[.slice (some ⟨g, 0, none⟩) 0 0, .slice a n cap]).run Try.prog w = .ok (.slice r n t) w' ∧ OwnZ T w' base (.slice r n t) n news ∧ Below w.heap.size w w' ∧ n ≤ t ∧ t ≤ maxLen := by
  obtain ⟨i, z, hu, hi, hz, hs, hb, hc⟩ := t2
  by_cases e : a = none
  · subst e
    obtain ⟨rfl, rfl⟩ := h.nil
    refine ⟨some ⟨g, 0, none⟩, 0, w, ?_, OwnZ.new _ _ _ _, Below.refl _ _, Nat.le_refl _, by unfold maxLen; omega⟩
    simp [Builtin.append_, run_underlying hu, sizeOf, typeInfo, hi, Builtin.lenOf, Builtin.firstCells, storeCells]
  · obtain ⟨ad, rfl⟩ := Option.ne_none_iff_exists'.1 e
    have hsrc := h.some'
    obtain ⟨h1, h2, _⟩ := h
    by_cases n0 : n = 0
    · subst n0
      obtain rfl : news = [] := List.length_eq_zero_iff.1 (by omega)
      refine ⟨some ⟨g, 0, none⟩, 0, w, ?_, OwnZ.new _ _ _ _, Below.refl _ _, Nat.le_refl _, by unfold maxLen; omega⟩
      have := run_firstCells_some (P := Try.prog) w i.size 0 ad 0 cap [] (by simp) (fun j u hj => by simp at hj)
      simp [Builtin.append_, run_underlying hu, sizeOf, typeInfo, hi, Builtin.lenOf, this, storeCells]
    · have hsr : Src Try.prog i.size TS (.slice (some ad) n cap) n news w := Src.ofSlice w hu ad n cap news (by rw [hs, h1]) hsrc h2
      have hold : (Builtin.firstCells i.size 0 (.slice (some ⟨g, 0, none⟩) 0 0)).run Try.prog w.drew = .ok ([] : List Value).toArray w.drew := run_firstCells_some w.drew i.size 0 ⟨g, 0, none⟩ 0 0 [] (by simp) (fun j u hj => by simp at hj)
      have hr := run_append_grow_src (P := Try.prog) w TS TS ty T i z hu hi hz (some ⟨g, 0, none⟩) 0 0 [] hold _ n news hsr (by omega) (by omega) (growslice_fits (by omega) (by
        have : (0 + n) * i.bytes ≤ 100000 * 32 := Nat.mul_le_mul (by omega) hb
        omega))
      have c1 := grownCap_ge w (0 + n) 0 T
      have c2 := grownCap_le_maxLen w (0 + n) 0 T (by unfold maxLen; omega)
      simp only [Nat.zero_add, List.nil_append] at hr c1 c2
      refine ⟨_, _, _, hr, .inl ⟨h1, .inr ⟨w.heap.size, _, _, rfl, hbase, heap_alloc_new w.drew _, c1, c2, ?_, ?_⟩⟩, ((Below.refl _ w).drew).alloc (Nat.le_refl _) _, c1, c2⟩
      · rw [Array.size_append, size_zeroCells, hc]
        simp only [List.size_toArray, h1]
        omega
      · rw [Array.toList_append]
        dsimp only
        rw [List.take_append_of_le_length (by omega), List.take_of_length_le (by omega)]
set_option maxRecDepth 100000 in
/-- append onto a row of the call's own. -/
theorem appZ {TS T : TypeId} (t2 : TwoT TS T) (hbb : t2.i.bytes = 16 ∨ t2.i.bytes = 32) (w : World) (base m n cap : Nat) (v : Value) (vs : List Value) (a : Option Addr) (news : List Value) (o : OwnZ T w base v m vs) (h : Reads w a n news) (hn : m + n ≤ 100000) (hbase : base ≤ w.heap.size) (ty : TypeId) :
    ∃ r t w', (Builtin.append_ #[TS, TS] ty #[v, .slice a n cap]).run Try.prog w = .ok (.slice r (m + n) t) w' ∧ OwnZ T w' base (.slice r (m + n) t) (m + n) (vs ++ news) ∧ Below base w w' ∧ Kept (fun X => X = T) w w' ∧ m + n ≤ t ∧ t ≤ maxLen := by
  rcases o with o | ⟨rfl, rfl, g, rfl⟩
  · obtain ⟨i, z, hu, hi, hz, hs, hb, hc⟩ := t2
    have hcap : ∀ {w1 : World} {r : Value} {k : Nat} {us : List Value}, w1.ownsRow base T 2 r k us → ∃ p t, r = .slice p k t ∧ k ≤ t ∧ t ≤ maxLen := fun {w1 r k us} q => by
      rcases q.2 with ⟨h1, h0⟩ | ⟨g, cp, cur, h1, _, _, k1, k2, _⟩
      · exact ⟨none, 0, by rw [h1, h0], by omega, by unfold maxLen; omega⟩
      · exact ⟨some ⟨g, 0, none⟩, cp, h1, k1, k2⟩
    by_cases e : a = none
    · subst e
      obtain ⟨rfl, rfl⟩ := h.nil
      obtain ⟨p, t, rfl, k1, k2⟩ := hcap o
      refine ⟨p, t, w, ?_, .inl (by rw [List.append_nil]; exact o), Below.refl _ _, Kept.refl _ _, k1, k2⟩
      rcases o.2 with ⟨h1, h0⟩ | ⟨g, cap', cur, h1, _, _, hnc, _⟩
      · injection h1 with e1 e2 e3
        subst e1 e2 e3
        simp [Builtin.append_, run_underlying hu, sizeOf, typeInfo, hi, Builtin.lenOf, Builtin.firstCells]
      · injection h1 with e1 e2 e3
        subst e1 e3
        simp [Builtin.append_, run_underlying hu, sizeOf, typeInfo, hi, Builtin.lenOf, Builtin.firstCells, k1, storeCells]
    · obtain ⟨ad, rfl⟩ := Option.ne_none_iff_exists'.1 e
      obtain ⟨v', w', k1, k2, k3, _⟩ := run_append_own (P := Try.prog) w base TS ty T i z 2 i.bytes hu hi hz hs rfl hc (by omega) v m vs o ad n cap news h.1 h.some' h.2.1 (by unfold maxLen; omega) (by
        have : (m + n) * i.bytes ≤ 100000 * 32 := Nat.mul_le_mul hn hb
        omega) hbase
      obtain ⟨p, t, rfl, q1, q2⟩ := hcap k2
      exact ⟨p, t, w', k1, .inl k2, (Below.refl _ _).grown k3 hbase (fun k hk => (World.ownsRow.lt o k hk).1), kept_grown rfl o k3, q1, q2⟩
  · obtain ⟨r, t, w', k1, k2, k3, k4, k5⟩ := app0 t2 w base g n cap a news h (by omega) hbase ty
    refine ⟨r, t, w', by rw [Nat.zero_add]; exact k1, by rw [Nat.zero_add, List.nil_append]; exact k2, k3.mono hbase, Kept.of_below k3, by omega, k5⟩

/-- The document's blocks. -/
theorem twoB : ∃ t : TwoT 48 79, t.i.bytes = 16 ∨ t.i.bytes = 32 := by
  have h : (Try.prog.info? 79).map (fun i => (i.zero, i.size, i.bytes)) = some (some (.agg #[.int .i64 0, .slice none 0 0]), 2, 32) := by kernel_rfl
  obtain ⟨i, h1, h2⟩ := Option.map_eq_some_iff.1 h
  simp at h2
  exact ⟨⟨i, _, Try.underlying48, h1, h2.1, h2.2.1, by omega, rfl⟩, .inr h2.2.2⟩
theorem twoE : ∃ t : TwoT 32 37, t.i.bytes = 16 ∨ t.i.bytes = 32 := by
  obtain ⟨i, h1, h2, h3, h4⟩ := infoE
  exact ⟨⟨i, _, Try.underlying32, h1, h2, h3, by omega, rfl⟩, .inl h4⟩

/-- A slice of the document's blocks, by types. -/
structure RefB (w : World) (base : Nat) (a : Option Addr) (bs : List Bk) : Prop where
  elem : ∀ i b, bs[i]? = some b → ∃ g off cs, a = some ⟨g, off, none⟩ ∧ w.heap[g]? = some (.cells cs 79 (0, 0)) ∧ cs[off + i * 2]? = some (.int .i64 (lv b.d)) ∧ cs[off + i * 2 + 1]? = some (.slice b.p b.d.length b.q)
  own : ∀ b ∈ bs, OwnE w base (.slice b.p b.d.length b.q) b.d
theorem RefB.nil (w : World) (base : Nat) (a : Option Addr) : RefB w base a [] := ⟨fun i b h => by simp at h, fun b h => by simp at h⟩
theorem RefB.below {w w' : World} {base : Nat} {a : Option Addr} {bs : List Bk} (h : RefB w base a bs) (hw : Below w.heap.size w w') : RefB w' base a bs :=
  ⟨fun i b hb => by
    obtain ⟨g, off, cs, e, h1, h2, h3⟩ := h.elem i b hb
    exact ⟨g, off, cs, e, (hw.block g (lt_of_block h1)).trans h1, h2, h3⟩, fun b hb => (h.own b hb).below hw⟩
theorem RefB.kept {S : TypeId → Prop} {w w' : World} {base : Nat} {a : Option Addr} {bs : List Bk} (h : RefB w base a bs) (hw : Kept S w w') (h1 : ¬ S 79) (h2 : ¬ S 37) : RefB w' base a bs :=
  ⟨fun i b hb => by
    obtain ⟨g, off, cs, e, k1, k2, k3⟩ := h.elem i b hb
    exact ⟨g, off, cs, e, (hw.block g _ _ _ k1 h1).trans k1, k2, k3⟩, fun b hb => hw.own h2 (h.own b hb)⟩
theorem RefB.take {w : World} {base : Nat} {a : Option Addr} {bs : List Bk} (h : RefB w base a bs) (k : Nat) : RefB w base a (bs.take k) :=
  ⟨fun i b hb => h.elem i b (by
    rw [List.getElem?_take] at hb
    split at hb
    · exact hb
    · cases hb), fun b hb => h.own b (List.mem_of_mem_take hb)⟩
theorem RefB.drop {w : World} {base cap : Nat} {a : Option Addr} {bs : List Bk} (h : RefB w base a bs) (k : Nat) (hc : bs.length ≤ cap) : RefB w base (if cap = k then a else a.map (·.add (k * 2))) (bs.drop k) :=
  ⟨fun i b hb => by
    rw [List.getElem?_drop] at hb
    obtain ⟨g, off, cs, e, k1, k2, k3⟩ := h.elem _ b hb
    have := (List.getElem?_eq_some_iff.1 hb).1
    refine ⟨g, off + k * 2, cs, ?_, k1, ?_, ?_⟩
    · rw [if_neg (by omega), e, Option.map_some, Addr.add_lit]
    · rw [← k2]; congr 1; omega
    · rw [← k3]; congr 1; omega, fun b hb => h.own b (List.mem_of_mem_drop hb)⟩
theorem RefB.reads {w : World} {base : Nat} {a : Option Addr} {bs : List Bk} (h : RefB w base a bs) {n : Nat} (hn : bs.length = n) : Reads w a n (flatB bs) := by
  refine ⟨by rw [flatB_len, hn], flatB_one _, fun j u hj => ?_⟩
  have hl : j < (flatB bs).length := (List.getElem?_eq_some_iff.1 hj).1
  rw [flatB_len] at hl
  obtain ⟨b, hb⟩ : ∃ b, bs[j / 2]? = some b := ⟨_, List.getElem?_eq_getElem (by omega)⟩
  obtain ⟨g, off, cs, e, k1, k2, k3⟩ := h.elem _ b hb
  obtain ⟨f1, f2⟩ := flatB_at bs _ b hb
  refine ⟨⟨g, off, none⟩, e, ?_⟩
  rw [Addr.add_lit, cell_of_row _ _ _ _ _ _ k1]
  by_cases c : j = j / 2 * 2
  · rw [← c] at f1 k2; rw [k2, ← f1, hj]
  · have c' : j / 2 * 2 + 1 = j := by omega
    rw [c'] at f2
    rw [show off + j = off + j / 2 * 2 + 1 by omega, k3, ← f2, hj]
theorem RefB.cell {w : World} {base : Nat} {a : Option Addr} {bs : List Bk} (h : RefB w base a bs) {i : Nat} (hi : i < bs.length) : ∃ g off, a = some ⟨g, off, none⟩ ∧ g < w.heap.size ∧ w.cell? ⟨g, off + i * 2, none⟩ = some (.int .i64 (lv bs[i].d)) ∧ w.cell? ⟨g, off + i * 2 + 1, none⟩ = some (.slice bs[i].p bs[i].d.length bs[i].q) := by
  obtain ⟨g, off, cs, e, k1, k2, k3⟩ := h.elem i bs[i] (List.getElem?_eq_getElem hi)
  exact ⟨g, off, e, lt_of_block k1, by rw [cell_of_row _ _ _ _ _ _ k1]; exact k2, by rw [cell_of_row _ _ _ _ _ _ k1]; exact k3⟩
theorem RefB.isBs {w : World} {base : Nat} {a : Option Addr} {bs : List Bk} (h : RefB w base a bs) (hl : bs.length ≤ 9223372036854775807) : IsBs w a (bs.map Bk.d) := by
  refine ⟨by simpa using hl, fun i d hd => ?_⟩
  rw [List.getElem?_map] at hd
  obtain ⟨b, hb, rfl⟩ := Option.map_eq_some_iff.1 hd
  obtain ⟨hi, hb'⟩ := List.getElem?_eq_some_iff.1 hb
  obtain ⟨g, off, e, hg, c0, c1⟩ := h.cell hi
  rw [hb'] at c0 c1
  exact ⟨g, off, b.p, b.q, lv b.d, e, hg, c0, c1, (h.own b (List.mem_of_getElem? hb)).is⟩
/-- A row that was made reads so. -/
theorem RefB.of_own {w : World} {base n t : Nat} {r : Option Addr} {bs : List Bk} (h : OwnZ 79 w base (.slice r n t) n (flatB bs)) (hn : bs.length = n) (ho : ∀ b ∈ bs, OwnE w base (.slice b.p b.d.length b.q) b.d) : RefB w base r bs := by
  rcases h with h | ⟨rfl, h2, _⟩
  · refine ⟨fun i b hb => ?_, ho⟩
    have hi := (List.getElem?_eq_some_iff.1 hb).1
    rcases h.2 with ⟨h1, h0⟩ | ⟨g, cap, cur, h1, _, hg, k1, _, hs, ht⟩
    · omega
    · injection h1 with e1 e2 e3
      obtain ⟨f1, f2⟩ := flatB_at bs i b hb
      have key : ∀ j, j < n * 2 → cur[j]? = (flatB bs)[j]? := fun j hj => by
        rw [← ht, List.getElem?_take_of_lt hj]
        simp
      exact ⟨g, 0, cur, e1, hg, by rw [Nat.zero_add, key _ (by omega), f1], by rw [Nat.zero_add, key _ (by omega), f2]⟩
  · obtain rfl : bs = [] := List.length_eq_zero_iff.1 hn
    exact RefB.nil _ _ _

theorem Reads.below {w w' : World} {a : Option Addr} {n : Nat} {news : List Value} (h : Reads w a n news) (hw : Below w.heap.size w w') : Reads w' a n news :=
  ⟨h.1, h.2.1, fun j u hj => by
    obtain ⟨ad, e, hc⟩ := h.2.2 j u hj
    have hl := World.block_lt_of_cell? w _ hc
    exact ⟨ad, e, (hw.cell (p := ad.add j) hl).trans hc⟩⟩
/-- append of blocks onto a new row. -/
theorem pushB {V : World} {b0 m n cap : Nat} {v : Value} {a : Option Addr} {b1 cs : List Bk} (o : OwnZ 79 V b0 v m (flatB b1)) (hr : Reads V a n (flatB cs)) (hN : m + n ≤ 100000) (hb : b0 ≤ V.heap.size) :
    ∃ r t V', (Builtin.append_ #[48, 48] 48 #[v, .slice a n cap]).run Try.prog V = .ok (.slice r (m + n) t) V' ∧ OwnZ 79 V' b0 (.slice r (m + n) t) (m + n) (flatB (b1 ++ cs)) ∧ Below b0 V V' ∧ Kept (fun X => X = 79) V V' ∧ m + n ≤ t ∧ t ≤ maxLen := by
  obtain ⟨t2, hbb⟩ := twoB
  obtain ⟨r, t, w', k1, k2, k3, k4, k5, k6⟩ := appZ t2 hbb V b0 m n cap v (flatB b1) a (flatB cs) o hr hN hb 48
  exact ⟨r, t, w', k1, by rw [flatB_append]; exact k2, k3, k4, k5, k6⟩
theorem push0 {V : World} {g n cap : Nat} {a : Option Addr} {cs : List Bk} (hr : Reads V a n (flatB cs)) (hN : n ≤ 100000) :
    ∃ r t V', (Builtin.append_ #[48, 48] 48 #[.slice (some ⟨g, 0, none⟩) 0 0, .slice a n cap]).run Try.prog V = .ok (.slice r n t) V' ∧ OwnZ 79 V' V.heap.size (.slice r n t) n (flatB cs) ∧ Below V.heap.size V V' ∧ n ≤ t ∧ t ≤ maxLen := by
  obtain ⟨t2, _⟩ := twoB
  exact app0 t2 V V.heap.size g n cap a (flatB cs) hr hN (Nat.le_refl _) 48
theorem reads_one {V : World} {G m K q : Nat} {p : Option Addr} {d : List Ent} (hG : V.heap[G]? = some (.cells #[.int .i64 m, .slice p K q] 79 (0, 0))) (hm : lv d = m) (hK : d.length = K) : Reads V (some ⟨G, 0, none⟩) 1 (flatB [⟨d, p, q⟩]) := by
  refine ⟨rfl, flatB_one _, fun j u hj => ?_⟩
  refine ⟨⟨G, 0, none⟩, rfl, ?_⟩
  rw [Addr.add_lit, Nat.zero_add, cell_of_row _ _ _ _ _ _ hG, ← hj, ← hm, ← hK]
  have : j = 0 ∨ j = 1 := by have := (List.getElem?_eq_some_iff.1 hj).1; simp [flatB, encB] at this; omega
  rcases this with rfl | rfl <;> rfl
theorem bel_alloc (X : World) (o : Obj) : Below X.heap.size X (X.alloc o) := (Below.refl _ _).alloc (Nat.le_refl _) _
theorem bel_allocD (X : World) (o : Obj) : Below X.drew.heap.size X.drew (X.alloc o).drew := by
  have h := ((Below.refl X.heap.size X).alloc (Nat.le_refl _) o).drew
  exact ⟨h.os, h.tape, h.output, h.size, h.block⟩
theorem bel_D (X : World) : Below X.heap.size X X.drew := (Below.refl _ _).drew

theorem IsL.reads {w : World} {a : Option Addr} {cap n : Nat} {d : List Ent} (h : IsL w a cap d) (hn : d.length = n) : Reads w a n (flat d) := by
  refine ⟨by rw [flat_len, hn], flat_one _, ?_⟩
  · intro j u hj
    have hl : j < (flat d).length := (List.getElem?_eq_some_iff.1 hj).1
    rw [flat_len] at hl
    obtain ⟨x, hx⟩ : ∃ x, d[j / 2]? = some x := ⟨_, List.getElem?_eq_getElem (by omega)⟩
    obtain ⟨b, off, e, _, h1, h2⟩ := h.elem _ x hx
    obtain ⟨g1, g2⟩ := flat_at d _ x hx
    refine ⟨⟨b, off, none⟩, e, ?_⟩
    rw [Addr.add_lit]
    by_cases c : j = j / 2 * 2
    · rw [← c] at g1 h1; rw [h1, ← g1, hj]
    · have c' : j / 2 * 2 + 1 = j := by omega
      rw [c'] at g2
      rw [show off + j = off + j / 2 * 2 + 1 by omega, h2, ← g2, hj]
/-- append of entries onto a new row. -/
theorem pushE0 {V : World} {g n cap : Nat} {a : Option Addr} {d : List Ent} (hr : Reads V a n (flat d)) (hN : n ≤ 100000) :
    ∃ r t V', (Builtin.append_ #[32, 32] 32 #[.slice (some ⟨g, 0, none⟩) 0 0, .slice a n cap]).run Try.prog V = .ok (.slice r n t) V' ∧ OwnZ 37 V' V.heap.size (.slice r n t) n (flat d) ∧ Below V.heap.size V V' := by
  obtain ⟨t2, _⟩ := twoE
  obtain ⟨r, t, w', k1, k2, k3, _⟩ := app0 t2 V V.heap.size g n cap a (flat d) hr hN (Nat.le_refl _) 32
  exact ⟨r, t, w', k1, k2, k3⟩
theorem isL_own {w : World} {base n t : Nat} {r : Option Addr} {d : List Ent} (h : OwnZ 37 w base (.slice r n t) n (flat d)) (hn : d.length = n) : IsL w r t d := by
  rcases h with h | ⟨rfl, h2, g, h3⟩
  · subst hn
    exact OwnE.is h
  · obtain rfl : d = [] := List.length_eq_zero_iff.1 hn
    injection h3 with e1 e2 e3
    subst e1 e3
    exact ⟨by simp, by unfold maxLen; omega, fun i x h => by simp at h⟩
theorem pushE {V : World} {b0 m n cap t0 : Nat} {r0 a : Option Addr} {d c : List Ent} (o : OwnZ 37 V b0 (.slice r0 m t0) m (flat d)) (hd : d.length = m) (hc : c.length = n) (hr : Reads V a n (flat c)) (hN : m + n ≤ 100000) (hb : b0 ≤ V.heap.size) :
    ∃ r t V', (Builtin.append_ #[32, 32] 32 #[.slice r0 m t0, .slice a n cap]).run Try.prog V = .ok (.slice r (m + n) t) V' ∧ IsL V' r t (d ++ c) ∧ Below b0 V V' ∧ Kept (fun X => X = 37) V V' := by
  obtain ⟨t2, hbb⟩ := twoE
  obtain ⟨r, t, w', k1, k2, k3, k4, k5, k6⟩ := appZ t2 hbb V b0 m n cap _ (flat d) a (flat c) o hr hN hb 32
  rw [← flat_append] at k2
  exact ⟨r, t, w', k1, isL_own k2 (by rw [List.length_append, hd, hc]), k3, k4⟩
theorem refOfO {w : World} {a : Option Addr} {p n m : Nat} {c d : List Ent} (h : IsL w a p c) (hl : c.length = n) (hn : n ≤ 10000) (hs : sortE c = d) (hm : lv d = m) : Calls Try.prog 40 #[.slice a n p] w fun r w' => ∃ pa pc, r = .returned (.agg #[.int .i64 m, .slice pa n pc]) ∧ OwnE w' w.heap.size (.slice pa n pc) d ∧ Below w.heap.size w w' := by
  have := refOf_any a p c w h (by omega)
  rw [hl] at this
  refine this.mono fun r w' h => ?_
  rw [hs] at h
  obtain ⟨pa, pc, k1, k2, k3⟩ := h
  have el : d.length = n := by rw [← hs, sortE_len, hl]
  have em : lvl d.length = m := hm
  rw [em] at k1
  rw [el] at k1 k2
  exact ⟨pa, pc, k1, k2, k3⟩
theorem box2_row {w : World} {S : Nat} {x y : Value} {T : TypeId} (h : w.heap[S]? = some (.cells #[x, y] T (0, 0))) : Box2 S x y w := ⟨lt_of_block h, shr0 h, shr1 h, by simp [World.frozen?, h], by simp [World.frozen?, h]⟩
theorem row_alloc {w : World} {S : Nat} (hS : w.heap.size = S) (cs : Array Value) (T : TypeId) : (w.alloc (.cells cs T)).heap[S]? = some (.cells cs T (0, 0)) := by rw [← hS]; exact heap_alloc_new w _
set_option maxHeartbeats 2000000 in
set_option maxRecDepth 100000 in
theorem refHas_any (a : Option Addr) (cap : Nat) (d : List Ent) (id : Int) (w : World) (h : IsL w a cap d) :
    Calls Try.prog 41 #[.slice a d.length cap, .int .i64 id] w fun r w' => r = .returned (.bool (hasL d id)) ∧ w' = w := by
  have hl := h.len
  have H : Aside (IsL w a cap d) := h
  obtain ⟨n, hn⟩ : ∃ n, d.length = n := ⟨_, rfl⟩
  have HN : Hid _ := hn
  rw [hn] at hl ⊢
  clear h hn
  go_enter Try.func41, Try.ntmps41
  go_wp2
  go_loopg [5] n (fun kx s5 wr => ∃ k : Nat, s5 = .int .i64 k ∧ k ≤ n ∧ n - k ≤ kx ∧ wr = w ∧ Aside (∀ i (hi : i < d.length), i < k → d[i].2 ≠ id))
  case atStart => exact ⟨0, rfl, by omega, by omega, rfl, (fun i _ h => absurd h (by omega) : ∀ i (hi : i < d.length), i < 0 → d[i].2 ≠ id)⟩
  case round =>
    obtain ⟨k, rfl, hk, hkx, rfl, A⟩ := hrel
    by_cases hlt : k < n
    · have hz : (k : Int) < (n : Int) := by omega
      have hkl : k < d.length := by rw [HN.out]; exact hlt
      obtain ⟨b, off, ha, hb, c0, c1⟩ := H.out.elem k d[k] (List.getElem?_eq_getElem hkl)
      obtain ⟨x, hx⟩ : ∃ x, d[k] = x := ⟨_, rfl⟩
      rw [hx] at c1
      have HX : Hid _ := hx
      subst ha
      clear c0 hx
      by_cases e : x.2 = id
      · have q1 : (x.2 == id) = true := by simp [e]
        have hh : hasL d id = true := hasL_at k hkl (by rw [HX.out]; exact e)
        have HH : Hid _ := hh
        clear hh e
        go_wp2
        go_ret
        exact ⟨by rw [HH.out]; rfl, rfl⟩
      · have q1 : (x.2 == id) = false := by simp [e]
        have A2 : Aside (∀ i (hi : i < d.length), i < k + 1 → d[i].2 ≠ id) := fun i hi hik => by
          by_cases c : i = k
          · subst c; rw [HX.out]; exact e
          · exact A.out i hi (by omega)
        clear e
        go_wp2
        go_roundg (n - (k + 1))
        case measure => omega
        case rel => exact ⟨k + 1, by go_num, by omega, Nat.le_refl _, rfl, A2⟩
    · have hz : ¬ (k : Int) < (n : Int) := by omega
      have hh : hasL d id = false := hasL_none fun i hi => A.out i hi (by have := HN.out; omega)
      have HH : Hid _ := hh
      clear hh
      go_wp2
      go_ret
      exact ⟨by rw [HH.out]; rfl, rfl⟩

theorem out_take {id : Int} {d : List Ent} {k : Nat} (h : k < d.length) : outL id (d.take (k + 1)) = outL id (d.take k) ++ (if d[k].2 = id then [] else [d[k]]) := by
  unfold outL
  rw [List.take_succ_eq_append_getElem h, List.filter_append]
  by_cases e : d[k].2 = id <;> simp [e]

set_option maxHeartbeats 4000000 in
set_option maxRecDepth 100000 in
theorem refWithout_any (a : Option Addr) (cap : Nat) (d : List Ent) (id : Int) (w : World) (h : IsL w a cap d) (hd : d.length ≤ 10000) :
    Calls Try.prog 42 #[.slice a d.length cap, .int .i64 id] w (Made w (outL id d)) := by
  have H : Aside (IsL w a cap d) := h
  obtain ⟨n, hn⟩ : ∃ n, d.length = n := ⟨_, rfl⟩
  have HN : Hid _ := hn
  rw [hn] at hd ⊢
  clear h hn
  go_enter Try.func42, Try.ntmps42
  go_wp2
  go_loopg [5, 6] n (fun kx s5 s6 wr => ∃ (k m : Nat) (r : Option Addr) (t : Nat), s6 = .int .i64 k ∧ s5 = .slice r m t ∧ Hid ((outL id (d.take k)).length = m) ∧ k ≤ n ∧ n - k ≤ kx ∧ Aside (OwnE wr w.heap.size (.slice r m t) (outL id (d.take k))) ∧ Aside (Below w.heap.size w wr))
  case atStart => exact ⟨0, 0, none, 0, rfl, rfl, rfl, by omega, by omega, OwnE.nil _ _, Below.refl _ _⟩
  case round =>
    obtain ⟨k, z, r, t, rfl, rfl, HZ, hk, hkx, O, B⟩ := hrel
    have zle : z ≤ n := by have h1 := HZ.out; have h2 := outL_len id (d.take k); rw [List.length_take, HN.out] at h2; omega
    have sz := B.out.size
    by_cases hlt : k < n
    · have hz : (k : Int) < (n : Int) := by omega
      have hkl : k < d.length := by rw [HN.out]; exact hlt
      obtain ⟨b, off, ha, hb, c0, c1⟩ := (H.out.below B.out).elem k d[k] (List.getElem?_eq_getElem hkl)
      have e1 := out_take (id := id) hkl
      obtain ⟨x, hx⟩ : ∃ x, d[k] = x := ⟨_, rfl⟩
      rw [hx] at c0 c1 e1
      have E1 : Aside (outL id (d.take (k + 1)) = outL id (d.take k) ++ (if x.2 = id then [] else [x])) := e1
      subst ha
      clear hx e1
      by_cases e : x.2 = id
      · have q1 : (x.2 == id) = true := by simp [e]
        have E2 : Hid (outL id (d.take (k + 1)) = outL id (d.take k)) := by show _ = _; have := E1.out; rw [if_pos e, List.append_nil] at this; exact this
        have O2 : Aside (OwnE wr w.heap.size (.slice r z t) (outL id (d.take (k + 1)))) := by rw [E2.out]; exact O.out
        clear E1
        go_wp2
        go_roundg (n - (k + 1))
        case measure => omega
        case rel => exact ⟨k + 1, z, r, t, by go_num, rfl, by rw [E2.out]; exact HZ, by omega, Nat.le_refl _, O2, B⟩
      · have q1 : (x.2 == id) = false := by simp [e]
        have q2 : ¬ x.2 = id := e
        have E2 : Hid (outL id (d.take (k + 1)) = outL id (d.take k) ++ [x]) := by show _ = _; have := E1.out; rw [if_neg e] at this; exact this
        obtain ⟨r', t', w2, hr, o2, b2⟩ := app_one x O.out HZ.out (by omega) (by omega)
        have B2 : Aside (Below w.heap.size w w2) := B.out.trans b2
        have O2 : Aside (OwnE w2 w.heap.size (.slice r' (z + 1) t') (outL id (d.take (k + 1)))) := by rw [E2.out]; exact o2
        have HZ2 : Hid ((outL id (d.take (k + 1))).length = z + 1) := by show _ = _; rw [E2.out, List.length_append, HZ.out]; rfl
        clear E1 o2 b2 O B
        go_wp2_with (at_builtin; refine Lib.wpList_append_run (World.alloc wr _) rfl _ _ 32 32 rfl _ _ rfl rfl _ w2 hr ?_)
        go_roundg (n - (k + 1))
        case measure => omega
        case rel => exact ⟨k + 1, z + 1, r', t', by go_num, rfl, HZ2, by omega, Nat.le_refl _, O2, B2⟩
    · have hz : ¬ (k : Int) < (n : Int) := by omega
      have e : d.take k = d := List.take_of_length_le (by rw [HN.out]; omega)
      rw [e] at HZ O
      go_wp2
      go_ret
      exact ⟨r, t, by rw [HZ.out]; rfl, by rw [HZ.out]; exact O.out, B.out⟩
end Go.Proofs.Ytboccihcomaaoaa

/- The document's own list in the heap; appends onto what is new. -/
import Derived.Deep.AppendSrc
import Derived.Deep.RegionHeld3
import Derived.Test.YtchephglapnloaaLsmF
import Derived.Test.YtchephglapnloaaBlkR
namespace Go.Proofs.Ytchephglapnloaa
open Go.RowKit Go.Lib Go.Sort
set_option linter.unusedVariables false

/-- A row of the call's own, or an empty one with no room at all, wherever. -/
def OwnZ (T : TypeId) (w : World) (base : Nat) (v : Value) (n : Nat) (vs : List Value) : Prop := w.ownsRow base T 2 v n vs ∨ (n = 0 ∧ vs = [] ∧ ∃ g, v = .slice (some ⟨g, 0, none⟩) 0 0)
theorem OwnZ.below {T : TypeId} {w w' : World} {base n : Nat} {v : Value} {vs : List Value} (h : OwnZ T w base v n vs) (hw : Below w.heap.size w w') : OwnZ T w' base v n vs := by
  rcases h with h | h
  · exact .inl (own_below h hw)
  · exact .inr h
theorem OwnZ.new (T : TypeId) (w : World) (base g : Nat) : OwnZ T w base (.slice (some ⟨g, 0, none⟩) 0 0) 0 [] := .inr ⟨rfl, rfl, g, rfl⟩
theorem OwnZ.kept {S : TypeId → Prop} {T : TypeId} {w w' : World} {base n : Nat} {v : Value} {vs : List Value} (h : OwnZ T w base v n vs) (hw : Kept S w w') (hT : ¬ S T) : OwnZ T w' base v n vs := by
  rcases h with h | h
  · exact .inl (hw.own hT h)
  · exact .inr h
/-- A slice of n elements of two cells each reads these cells. -/
def Reads (w : World) (a : Option Addr) (n : Nat) (news : List Value) : Prop := news.length = n * 2 ∧ (∀ u ∈ news, u.oneCell' = true) ∧ ∀ j u, news[j]? = some u → ∃ ad, a = some ad ∧ w.cell? (ad.add j) = some u
theorem Reads.nil {w : World} {n : Nat} {news : List Value} (h : Reads w none n news) : n = 0 ∧ news = [] := by
  obtain ⟨h1, _, h3⟩ := h
  cases news with
  | nil => simp at h1; exact ⟨by omega, rfl⟩
  | cons u r => obtain ⟨ad, e, _⟩ := h3 0 u rfl; cases e
theorem Reads.some' {w : World} {ad : Addr} {n : Nat} {news : List Value} (h : Reads w (some ad) n news) : ∀ j u, news[j]? = some u → w.cell? (ad.add j) = some u := fun j u hj => by
  obtain ⟨ad', e, hc⟩ := h.2.2 j u hj
  cases e
  exact hc
/-- What a type of two cells has. -/
structure TwoT (TS T : TypeId) where
  i : TypeInfo
  z : Value
  hu : Try.prog.underlying TS = some (.slice T)
  hi : Try.prog.info? T = some i
  hz : i.zero = some z
  hs : i.size = 2
  hb : i.bytes ≤ 32
  hc : z.cells.size = 2
/-- append onto an empty one with no room: nothing old turns. -/
theorem app0 {TS T : TypeId} (t2 : TwoT TS T) (w : World) (base g n cap : Nat) (a : Option Addr) (news : List Value) (h : Reads w a n news) (hn : n ≤ 100000) (hbase : base ≤ w.heap.size) (ty : TypeId) :
    ∃ r t w', (Builtin.append_ #[TS, TS] ty #[.slice (some ⟨g, 0, none⟩) 0 0, .slice a n cap]).run Try.prog w = .ok (.slice r n t) w' ∧ OwnZ T w' base (.slice r n t) n news ∧ Below w.heap.size w w' ∧ n ≤ t ∧ t ≤ maxLen := by
  obtain ⟨i, z, hu, hi, hz, hs, hb, hc⟩ := t2
  by_cases e : a = none
  · subst e
    obtain ⟨rfl, rfl⟩ := h.nil
    refine ⟨some ⟨g, 0, none⟩, 0, w, ?_, OwnZ.new _ _ _ _, Below.refl _ _, Nat.le_refl _, by unfold maxLen; omega⟩
    simp [Builtin.append_, run_underlying hu, sizeOf, typeInfo, hi, Builtin.lenOf, Builtin.firstCells, storeCells]
  · obtain ⟨ad, rfl⟩ := Option.ne_none_iff_exists'.1 e
    have hsrc := h.some'
    obtain ⟨h1, h2, _⟩ := h
    by_cases n0 : n = 0
    · subst n0
      obtain rfl : news = [] := List.length_eq_zero_iff.1 (by omega)
      refine ⟨some ⟨g, 0, none⟩, 0, w, ?_, OwnZ.new _ _ _ _, Below.refl _ _, Nat.le_refl _, by unfold maxLen; omega⟩
      have := run_firstCells_some (P := Try.prog) w i.size 0 ad 0 cap [] (by simp) (fun j u hj => by simp at hj)
      simp [Builtin.append_, run_underlying hu, sizeOf, typeInfo, hi, Builtin.lenOf, this, storeCells]
    · have hsr : Src Try.prog i.size TS (.slice (some ad) n cap) n news w := Src.ofSlice w hu ad n cap news (by rw [hs, h1]) hsrc h2
      have hold : (Builtin.firstCells i.size 0 (.slice (some ⟨g, 0, none⟩) 0 0)).run Try.prog w.drew = .ok ([] : List Value).toArray w.drew := run_firstCells_some w.drew i.size 0 ⟨g, 0, none⟩ 0 0 [] (by simp) (fun j u hj => by simp at hj)
      have hr := run_append_grow_src (P := Try.prog) w TS TS ty T i z hu hi hz (some ⟨g, 0, none⟩) 0 0 [] hold _ n news hsr (by omega) (by omega) (growslice_fits (by omega) (by
        have : (0 + n) * i.bytes ≤ 100000 * 32 := Nat.mul_le_mul (by omega) hb
        omega))
      have c1 := grownCap_ge w (0 + n) 0 T
      have c2 := grownCap_le_maxLen w (0 + n) 0 T (by unfold maxLen; omega)
      simp only [Nat.zero_add, List.nil_append] at hr c1 c2
      refine ⟨_, _, _, hr, .inl ⟨h1, .inr ⟨w.heap.size, _, _, rfl, hbase, heap_alloc_new w.drew _, c1, c2, ?_, ?_⟩⟩, ((Below.refl _ w).drew).alloc (Nat.le_refl _) _, c1, c2⟩
      · rw [Array.size_append, size_zeroCells, hc]
        simp only [List.size_toArray, h1]
        omega
      · rw [Array.toList_append]
        dsimp only
        rw [List.take_append_of_le_length (by omega), List.take_of_length_le (by omega)]
/-- append onto a row of the call's own. -/
theorem appZ {TS T : TypeId} (t2 : TwoT TS T) (hbb : t2.i.bytes = 16 ∨ t2.i.bytes = 32) (w : World) (base m n cap : Nat) (v : Value) (vs : List Value) (a : Option Addr) (news : List Value) (o : OwnZ T w base v m vs) (h : Reads w a n news) (hn : m + n ≤ 100000) (hbase : base ≤ w.heap.size) (ty : TypeId) :
    ∃ r t w', (Builtin.append_ #[TS, TS] ty #[v, .slice a n cap]).run Try.prog w = .ok (.slice r (m + n) t) w' ∧ OwnZ T w' base (.slice r (m + n) t) (m + n) (vs ++ news) ∧ Below base w w' ∧ Kept (fun X => X = T) w w' ∧ m + n ≤ t ∧ t ≤ maxLen := by
  rcases o with o | ⟨rfl, rfl, g, rfl⟩
  · obtain ⟨i, z, hu, hi, hz, hs, hb, hc⟩ := t2
    have hcap : ∀ {w1 : World} {r : Value} {k : Nat} {us : List Value}, w1.ownsRow base T 2 r k us → ∃ p t, r = .slice p k t ∧ k ≤ t ∧ t ≤ maxLen := fun {w1 r k us} q => by
      rcases q.2 with ⟨h1, h0⟩ | ⟨g, cp, cur, h1, _, _, k1, k2, _⟩
      · exact ⟨none, 0, by rw [h1, h0], by omega, by unfold maxLen; omega⟩
      · exact ⟨some ⟨g, 0, none⟩, cp, h1, k1, k2⟩
    by_cases e : a = none
    · subst e
      obtain ⟨rfl, rfl⟩ := h.nil
      obtain ⟨p, t, rfl, k1, k2⟩ := hcap o
      refine ⟨p, t, w, ?_, .inl (by rw [List.append_nil]; exact o), Below.refl _ _, Kept.refl _ _, k1, k2⟩
      rcases o.2 with ⟨h1, h0⟩ | ⟨g, cap', cur, h1, _, _, hnc, _⟩
      · injection h1 with e1 e2 e3
        subst e1 e2 e3
        simp [Builtin.append_, run_underlying hu, sizeOf, typeInfo, hi, Builtin.lenOf, Builtin.firstCells]
      · injection h1 with e1 e2 e3
        subst e1 e3
        simp [Builtin.append_, run_underlying hu, sizeOf, typeInfo, hi, Builtin.lenOf, Builtin.firstCells, k1, storeCells]
    · obtain ⟨ad, rfl⟩ := Option.ne_none_iff_exists'.1 e
      obtain ⟨v', w', k1, k2, k3, _⟩ := run_append_own (P := Try.prog) w base TS ty T i z 2 i.bytes hu hi hz hs rfl hc (by omega) v m vs o ad n cap news h.1 h.some' h.2.1 (by unfold maxLen; omega) (by
        have : (m + n) * i.bytes ≤ 100000 * 32 := Nat.mul_le_mul hn hb
        omega) hbase
      obtain ⟨p, t, rfl, q1, q2⟩ := hcap k2
      exact ⟨p, t, w', k1, .inl k2, (Below.refl _ _).grown k3 hbase (fun k hk => (World.ownsRow.lt o k hk).1), kept_grown rfl o k3, q1, q2⟩
  · obtain ⟨r, t, w', k1, k2, k3, k4, k5⟩ := app0 t2 w base g n cap a news h (by omega) hbase ty
    refine ⟨r, t, w', by rw [Nat.zero_add]; exact k1, by rw [Nat.zero_add, List.nil_append]; exact k2, k3.mono hbase, Kept.of_below k3, by omega, k5⟩

/-- The document's blocks. -/
theorem twoB : ∃ t : TwoT 42 53, t.i.bytes = 16 ∨ t.i.bytes = 32 := by
  have h : (Try.prog.info? 53).map (fun i => (i.zero, i.size, i.bytes)) = some (some (.agg #[.int .i64 0, .slice none 0 0]), 2, 32) := by kernel_rfl
  obtain ⟨i, h1, h2⟩ := Option.map_eq_some_iff.1 h
  simp at h2
  exact ⟨⟨i, _, Try.underlying42, h1, h2.1, h2.2.1, by omega, rfl⟩, .inr h2.2.2⟩
theorem twoE : ∃ t : TwoT 29 28, t.i.bytes = 16 ∨ t.i.bytes = 32 := by
  obtain ⟨i, h1, h2, h3, h4⟩ := infoE
  exact ⟨⟨i, _, Try.underlying29, h1, h2, h3, by omega, rfl⟩, .inl h4⟩

/-- A slice of the document's blocks, by types. -/
structure RefB (w : World) (base : Nat) (a : Option Addr) (bs : List Bk) : Prop where
  elem : ∀ i b, bs[i]? = some b → ∃ g off cs, a = some ⟨g, off, none⟩ ∧ w.heap[g]? = some (.cells cs 53 (0, 0)) ∧ cs[off + i * 2]? = some (.int .i64 (lv b.d)) ∧ cs[off + i * 2 + 1]? = some (.slice b.p b.d.length b.q)
  own : ∀ b ∈ bs, OwnE w base (.slice b.p b.d.length b.q) b.d
theorem RefB.nil (w : World) (base : Nat) (a : Option Addr) : RefB w base a [] := ⟨fun i b h => by simp at h, fun b h => by simp at h⟩
theorem RefB.below {w w' : World} {base : Nat} {a : Option Addr} {bs : List Bk} (h : RefB w base a bs) (hw : Below w.heap.size w w') : RefB w' base a bs :=
  ⟨fun i b hb => by
    obtain ⟨g, off, cs, e, h1, h2, h3⟩ := h.elem i b hb
    exact ⟨g, off, cs, e, (hw.block g (lt_of_block h1)).trans h1, h2, h3⟩, fun b hb => (h.own b hb).below hw⟩
theorem RefB.kept {S : TypeId → Prop} {w w' : World} {base : Nat} {a : Option Addr} {bs : List Bk} (h : RefB w base a bs) (hw : Kept S w w') (h1 : ¬ S 53) (h2 : ¬ S 28) : RefB w' base a bs :=
  ⟨fun i b hb => by
    obtain ⟨g, off, cs, e, k1, k2, k3⟩ := h.elem i b hb
    exact ⟨g, off, cs, e, (hw.block g _ _ _ k1 h1).trans k1, k2, k3⟩, fun b hb => hw.own h2 (h.own b hb)⟩
theorem RefB.take {w : World} {base : Nat} {a : Option Addr} {bs : List Bk} (h : RefB w base a bs) (k : Nat) : RefB w base a (bs.take k) :=
  ⟨fun i b hb => h.elem i b (by
    rw [List.getElem?_take] at hb
    split at hb
    · exact hb
    · cases hb), fun b hb => h.own b (List.mem_of_mem_take hb)⟩
theorem RefB.drop {w : World} {base cap : Nat} {a : Option Addr} {bs : List Bk} (h : RefB w base a bs) (k : Nat) (hc : bs.length ≤ cap) : RefB w base (if cap = k then a else a.map (·.add (k * 2))) (bs.drop k) :=
  ⟨fun i b hb => by
    rw [List.getElem?_drop] at hb
    obtain ⟨g, off, cs, e, k1, k2, k3⟩ := h.elem _ b hb
    have := (List.getElem?_eq_some_iff.1 hb).1
    refine ⟨g, off + k * 2, cs, ?_, k1, ?_, ?_⟩
    · rw [if_neg (by omega), e, Option.map_some, Addr.add_lit]
    · rw [← k2]; congr 1; omega
    · rw [← k3]; congr 1; omega, fun b hb => h.own b (List.mem_of_mem_drop hb)⟩
theorem RefB.reads {w : World} {base : Nat} {a : Option Addr} {bs : List Bk} (h : RefB w base a bs) {n : Nat} (hn : bs.length = n) : Reads w a n (flatB bs) := by
  refine ⟨by rw [flatB_len, hn], flatB_one _, fun j u hj => ?_⟩
  have hl : j < (flatB bs).length := (List.getElem?_eq_some_iff.1 hj).1
  rw [flatB_len] at hl
  obtain ⟨b, hb⟩ : ∃ b, bs[j / 2]? = some b := ⟨_, List.getElem?_eq_getElem (by omega)⟩
  obtain ⟨g, off, cs, e, k1, k2, k3⟩ := h.elem _ b hb
  obtain ⟨f1, f2⟩ := flatB_at bs _ b hb
  refine ⟨⟨g, off, none⟩, e, ?_⟩
  rw [Addr.add_lit, cell_of_row _ _ _ _ _ _ k1]
  by_cases c : j = j / 2 * 2
  · rw [← c] at f1 k2; rw [k2, ← f1, hj]
  · have c' : j / 2 * 2 + 1 = j := by omega
    rw [c'] at f2
    rw [show off + j = off + j / 2 * 2 + 1 by omega, k3, ← f2, hj]
theorem RefB.cell {w : World} {base : Nat} {a : Option Addr} {bs : List Bk} (h : RefB w base a bs) {i : Nat} (hi : i < bs.length) : ∃ g off, a = some ⟨g, off, none⟩ ∧ g < w.heap.size ∧ w.cell? ⟨g, off + i * 2, none⟩ = some (.int .i64 (lv bs[i].d)) ∧ w.cell? ⟨g, off + i * 2 + 1, none⟩ = some (.slice bs[i].p bs[i].d.length bs[i].q) := by
  obtain ⟨g, off, cs, e, k1, k2, k3⟩ := h.elem i bs[i] (List.getElem?_eq_getElem hi)
  exact ⟨g, off, e, lt_of_block k1, by rw [cell_of_row _ _ _ _ _ _ k1]; exact k2, by rw [cell_of_row _ _ _ _ _ _ k1]; exact k3⟩
theorem RefB.isBs {w : World} {base : Nat} {a : Option Addr} {bs : List Bk} (h : RefB w base a bs) (hl : bs.length ≤ 9223372036854775807) : IsBs w a (bs.map Bk.d) := by
  refine ⟨by simpa using hl, fun i d hd => ?_⟩
  rw [List.getElem?_map] at hd
  obtain ⟨b, hb, rfl⟩ := Option.map_eq_some_iff.1 hd
  obtain ⟨hi, hb'⟩ := List.getElem?_eq_some_iff.1 hb
  obtain ⟨g, off, e, hg, c0, c1⟩ := h.cell hi
  rw [hb'] at c0 c1
  exact ⟨g, off, b.p, b.q, lv b.d, e, hg, c0, c1, (h.own b (List.mem_of_getElem? hb)).is⟩
/-- A row that was made reads so. -/
theorem RefB.of_own {w : World} {base n t : Nat} {r : Option Addr} {bs : List Bk} (h : OwnZ 53 w base (.slice r n t) n (flatB bs)) (hn : bs.length = n) (ho : ∀ b ∈ bs, OwnE w base (.slice b.p b.d.length b.q) b.d) : RefB w base r bs := by
  rcases h with h | ⟨rfl, h2, _⟩
  · refine ⟨fun i b hb => ?_, ho⟩
    have hi := (List.getElem?_eq_some_iff.1 hb).1
    rcases h.2 with ⟨h1, h0⟩ | ⟨g, cap, cur, h1, _, hg, k1, _, hs, ht⟩
    · omega
    · injection h1 with e1 e2 e3
      obtain ⟨f1, f2⟩ := flatB_at bs i b hb
      have key : ∀ j, j < n * 2 → cur[j]? = (flatB bs)[j]? := fun j hj => by
        rw [← ht, List.getElem?_take_of_lt hj]
        simp
      exact ⟨g, 0, cur, e1, hg, by rw [Nat.zero_add, key _ (by omega), f1], by rw [Nat.zero_add, key _ (by omega), f2]⟩
  · obtain rfl : bs = [] := List.length_eq_zero_iff.1 hn
    exact RefB.nil _ _ _

/-- The document's own list at b. -/
def RLsm (w : World) (base b : Nat) (ls : List (List Ent)) : Prop :=
  ∃ (a : Option Addr) (cap : Nat) (bs : List Bk), bs.map Bk.d = ls ∧ base ≤ b ∧ w.heap[b]? = some (.cells #[.slice a bs.length cap] 44 (0, 0)) ∧ bs.length ≤ cap ∧ cap ≤ maxLen ∧ RefB w base a bs
theorem RLsm.below {w w' : World} {base b : Nat} {ls : List (List Ent)} (h : RLsm w base b ls) (hw : Below w.heap.size w w') : RLsm w' base b ls := by
  obtain ⟨a, cap, bs, h1, h2, h3, h4, h5, h6⟩ := h
  exact ⟨a, cap, bs, h1, h2, (hw.block b (lt_of_block h3)).trans h3, h4, h5, h6.below hw⟩
theorem RLsm.kept {S : TypeId → Prop} {w w' : World} {base b : Nat} {ls : List (List Ent)} (h : RLsm w base b ls) (hw : Kept S w w') (h0 : ¬ S 44) (h1 : ¬ S 53) (h2 : ¬ S 28) : RLsm w' base b ls := by
  obtain ⟨a, cap, bs, k1, k2, k3, k4, k5, k6⟩ := h
  exact ⟨a, cap, bs, k1, k2, (hw.block b _ _ _ k3 h0).trans k3, k4, k5, k6.kept hw h1 h2⟩
/-- What a call of it leaves: nothing but its own cell has turned. -/
def RTurned (w : World) (base b : Nat) (ls : List (List Ent)) (w' : World) : Prop := RLsm w' base b ls ∧ w.grownBy w' (some b)
theorem grownBy_trans {u v w : World} {r : Option Nat} (h : u.grownBy v r) (g : v.grownBy w r) : u.grownBy w r :=
  ⟨g.os.trans h.os, g.tape.trans h.tape, g.output.trans h.output, Nat.le_trans h.size g.size, fun k hk hne => (g.block k (Nat.lt_of_lt_of_le hk h.size) hne).trans (h.block k hk hne)⟩
theorem grownBy_below {w w' : World} {r : Option Nat} (h : Below w.heap.size w w') : w.grownBy w' r := ⟨h.os, h.tape, h.output, h.size, fun k hk _ => h.block k hk⟩
theorem grownBy_set {u w : World} {b : Nat} (h : u.grownBy w (some b)) (v : Value) : u.grownBy (w.setCell ⟨b, 0, none⟩ v) (some b) :=
  ⟨h.os, h.tape, h.output, by simpa [World.setCell] using h.size, fun k hk hne => (Below.heap_setCell w ⟨b, 0, none⟩ v k (fun e => hne (by rw [e]))).trans (h.block k hk hne)⟩
theorem RTurned.kept {w w' : World} {base b : Nat} {ls ks : List (List Ent)} (t : RTurned w base b ls w') (h : RLsm w base b ks) : Kept (fun T => T = 44) w w' := by
  obtain ⟨a, cap, bs, k1, k2, k3, _⟩ := h
  refine ⟨t.2.size, fun k cs U fr hk hU => t.2.block k (lt_of_block hk) ?_⟩
  intro e
  simp only [Option.some.injEq] at e
  subst e
  rw [k3] at hk
  simp only [Option.some.injEq, Obj.cells.injEq] at hk
  exact hU hk.2.1.symm
end Go.Proofs.Ytchephglapnloaa

/- Rows of Snaps and of bools in the heap; what holds between who look and swap. -/
import Derived.Test.YtboccihcomaaoaaShrK
import Derived.Test.YtboccihcomaaoaaShrZ
namespace Go.Proofs.Ytboccihcomaaoaa
open Go.RowKit Go.Lib Go.Sort
set_option linter.unusedVariables false

/-- A Snap as it lies in a row. -/
structure Sn where
  v : Nat
  a : Option Addr
  k : Nat
  c : Nat
/-- A row of n Snaps. -/
def SnapAt (w : World) (G n : Nat) (f : Nat → Sn) : Prop := ∃ cs : Array Value, w.heap[G]? = some (.cells cs 30 (0, 0)) ∧ cs.size = n * 2 ∧ ∀ t, t < n → cs[t * 2]? = some (.int .u64 (f t).v) ∧ cs[t * 2 + 1]? = some (.slice (f t).a (f t).k (f t).c)
theorem SnapAt.kept {w w' : World} {G n : Nat} {f : Nat → Sn} (h : SnapAt w G n f) (hw : w'.heap[G]? = w.heap[G]?) : SnapAt w' G n f := by
  obtain ⟨cs, h1, h2⟩ := h
  exact ⟨cs, hw.trans h1, h2⟩
theorem SnapAt.lt {w : World} {G n : Nat} {f : Nat → Sn} (h : SnapAt w G n f) : G < w.heap.size := by
  obtain ⟨cs, h1, h2⟩ := h
  exact lt_of_block h1
theorem SnapAt.cell {w : World} {G n : Nat} {f : Nat → Sn} (h : SnapAt w G n f) {t : Nat} (ht : t < n) : w.cell? ⟨G, t * 2, none⟩ = some (.int .u64 (f t).v) ∧ w.cell? ⟨G, t * 2 + 1, none⟩ = some (.slice (f t).a (f t).k (f t).c) ∧ w.frozen? ⟨G, t * 2, none⟩ = false ∧ w.frozen? ⟨G, t * 2 + 1, none⟩ = false := by
  obtain ⟨cs, h1, h2, h3⟩ := h
  obtain ⟨e1, e2⟩ := h3 t ht
  exact ⟨by rw [cell_of_row _ _ _ _ _ _ h1]; exact e1, by rw [cell_of_row _ _ _ _ _ _ h1]; exact e2, by simp [World.frozen?, h1], by simp [World.frozen?, h1]⟩
def setF {α : Type} (f : Nat → α) (t : Nat) (x : α) : Nat → α := fun i => if i = t then x else f i
theorem setF_same {α : Type} (f : Nat → α) (t : Nat) (x : α) : setF f t x t = x := by unfold setF; rw [if_pos rfl]
theorem setF_ne {α : Type} (f : Nat → α) {t i : Nat} (x : α) (h : i ≠ t) : setF f t x i = f i := by unfold setF; rw [if_neg h]
theorem SnapAt.set {w : World} {G n : Nat} {f : Nat → Sn} (h : SnapAt w G n f) {t : Nat} (ht : t < n) (s : Sn) : SnapAt ((w.setCell ⟨G, t * 2, none⟩ (.int .u64 s.v)).setCell ⟨G, t * 2 + 1, none⟩ (.slice s.a s.k s.c)) G n (setF f t s) ∧ Kept (fun T => T = 30) w ((w.setCell ⟨G, t * 2, none⟩ (.int .u64 s.v)).setCell ⟨G, t * 2 + 1, none⟩ (.slice s.a s.k s.c)) ∧ w.grownBy ((w.setCell ⟨G, t * 2, none⟩ (.int .u64 s.v)).setCell ⟨G, t * 2 + 1, none⟩ (.slice s.a s.k s.c)) (some G) := by
  obtain ⟨cs, h1, h2, h3⟩ := h
  have g1 : (w.setCell ⟨G, t * 2, none⟩ (.int .u64 s.v)).heap[G]? = some (.cells (cs.setIfInBounds (t * 2) (.int .u64 s.v)) 30 (0, 0)) := by
    rw [setCell_eq_setRow w G (t * 2) cs _ (0, 0) _ h1]; exact setRow_heap w G cs _ _ (0, 0) h1
  refine ⟨⟨(cs.setIfInBounds (t * 2) (.int .u64 s.v)).setIfInBounds (t * 2 + 1) (.slice s.a s.k s.c), ?_, by simpa using h2, fun i hi => ?_⟩, ?_, grown_trans (grown_set w G (t * 2) _) (grown_set _ G (t * 2 + 1) _)⟩
  · rw [setCell_eq_setRow _ G (t * 2 + 1) _ _ (0, 0) _ g1]; exact setRow_heap _ G _ _ _ (0, 0) g1
  · by_cases e : i = t
    · subst e
      rw [setF_same]
      constructor
      · rw [Array.getElem?_setIfInBounds, if_neg (by omega), Array.getElem?_setIfInBounds, if_pos rfl, if_pos (by omega)]
      · rw [Array.getElem?_setIfInBounds, if_pos rfl, if_pos (by simp; omega)]
    · rw [setF_ne f s e]
      obtain ⟨e1, e2⟩ := h3 i hi
      constructor
      · rw [Array.getElem?_setIfInBounds, if_neg (by omega), Array.getElem?_setIfInBounds, if_neg (by omega)]; exact e1
      · rw [Array.getElem?_setIfInBounds, if_neg (by omega), Array.getElem?_setIfInBounds, if_neg (by omega)]; exact e2
  · exact (Kept.set (S := fun T => T = 30) h1 rfl _).trans (Kept.set (S := fun T => T = 30) g1 rfl _)
theorem infoN : ∃ i, Try.prog.info? 30 = some i ∧ i.zero = some (.agg #[.int .u64 0, .slice none 0 0]) ∧ i.size = 2 ∧ i.bytes = 32 := by
  have h : (Try.prog.info? 30).map (fun i => (i.zero, i.size, i.bytes)) = some (some (.agg #[.int .u64 0, .slice none 0 0]), 2, 32) := by kernel_rfl
  obtain ⟨i, h1, h2⟩ := Option.map_eq_some_iff.1 h
  simp at h2
  exact ⟨i, h1, h2.1, h2.2.1, h2.2.2⟩
theorem made_at (z : Array Value) (n j : Nat) (hj : j < n) : (madeCells z n)[j]? = some (z[j % z.size]!) := by
  unfold madeCells
  simp [hj]
theorem makeN_run (w : World) (n : Nat) (hn : n ≤ 1000) :
    ∃ w', (Instr.makeSlice 63 (.int .i64 (n : Int)) (.int .i64 (n : Int))).run Try.prog w = .ok (.slice (some ⟨w.heap.size, 0, none⟩) n n) w' ∧ SnapAt w' w.heap.size n (fun _ => ⟨0, none, 0, 0⟩) ∧ Below w.heap.size w w' ∧ w'.heap.size = w.heap.size + 1 := by
  obtain ⟨i, hi, hz, hs, hby⟩ := infoN
  have hm := run_make (P := Try.prog) w 63 30 i _ Try.underlying63 hi hz .i64 .i64 n n (by omega) (Int.le_refl _) (by rw [hby]; omega) (by omega)
  simp only [Int.toNat_natCast, hs] at hm
  refine ⟨_, hm, ⟨_, heap_alloc_new w _, ?_, fun t ht => ?_⟩, (Below.refl _ _).alloc (Nat.le_refl _) _, by simp⟩
  · simp [madeCells]
  · rw [made_at _ _ _ (by omega), made_at _ _ _ (by omega)]
    have e1 : t * 2 % 2 = 0 := by omega
    have e2 : (t * 2 + 1) % 2 = 1 := by omega
    constructor
    · show some ((#[Value.int .u64 0, .slice none 0 0] : Array Value)[t * 2 % 2]!) = _
      rw [e1]; rfl
    · show some ((#[Value.int .u64 0, .slice none 0 0] : Array Value)[(t * 2 + 1) % 2]!) = _
      rw [e2]; rfl
/-- A row of n bools. -/
def BoolAt (w : World) (G n : Nat) (g : Nat → Bool) : Prop := ∃ cs : Array Value, w.heap[G]? = some (.cells cs 4 (0, 0)) ∧ cs.size = n ∧ ∀ t, t < n → cs[t]? = some (.bool (g t))
theorem BoolAt.kept {w w' : World} {G n : Nat} {g : Nat → Bool} (h : BoolAt w G n g) (hw : w'.heap[G]? = w.heap[G]?) : BoolAt w' G n g := by
  obtain ⟨cs, h1, h2⟩ := h
  exact ⟨cs, hw.trans h1, h2⟩
theorem BoolAt.lt {w : World} {G n : Nat} {g : Nat → Bool} (h : BoolAt w G n g) : G < w.heap.size := by
  obtain ⟨cs, h1, h2⟩ := h
  exact lt_of_block h1
theorem BoolAt.cell {w : World} {G n : Nat} {g : Nat → Bool} (h : BoolAt w G n g) {t : Nat} (ht : t < n) : w.cell? ⟨G, t, none⟩ = some (.bool (g t)) ∧ w.frozen? ⟨G, t, none⟩ = false := by
  obtain ⟨cs, h1, h2, h3⟩ := h
  exact ⟨by rw [cell_of_row _ _ _ _ _ _ h1]; exact h3 t ht, by simp [World.frozen?, h1]⟩
theorem BoolAt.set {w : World} {G n : Nat} {g : Nat → Bool} (h : BoolAt w G n g) {t : Nat} (ht : t < n) (b : Bool) : BoolAt (w.setCell ⟨G, t, none⟩ (.bool b)) G n (setF g t b) ∧ Kept (fun T => T = 4) w (w.setCell ⟨G, t, none⟩ (.bool b)) ∧ w.grownBy (w.setCell ⟨G, t, none⟩ (.bool b)) (some G) := by
  obtain ⟨cs, h1, h2, h3⟩ := h
  refine ⟨⟨cs.setIfInBounds t (.bool b), ?_, by simpa using h2, fun i hi => ?_⟩, Kept.set (S := fun T => T = 4) h1 rfl _, grown_set w G t _⟩
  · rw [setCell_eq_setRow w G t cs _ (0, 0) _ h1]; exact setRow_heap w G cs _ _ (0, 0) h1
  · by_cases e : i = t
    · subst e
      rw [setF_same, Array.getElem?_setIfInBounds, if_pos rfl, if_pos (by omega)]
    · rw [setF_ne g b e, Array.getElem?_setIfInBounds, if_neg (by omega)]
      exact h3 i hi
theorem infoBo : (Try.prog.info? 4).map (fun i => (i.zero, i.size, i.bytes)) = some (some (.bool false), 1, 1) := by kernel_rfl
theorem makeBo_run (w : World) (n : Nat) (hn : n ≤ 1000) :
    ∃ w', (Instr.makeSlice 64 (.int .i64 (n : Int)) (.int .i64 (n : Int))).run Try.prog w = .ok (.slice (some ⟨w.heap.size, 0, none⟩) n n) w' ∧ BoolAt w' w.heap.size n (fun _ => false) ∧ Below w.heap.size w w' := by
  obtain ⟨i, hi, hzz⟩ := Option.map_eq_some_iff.1 infoBo
  simp only [Prod.mk.injEq] at hzz
  obtain ⟨hz, hs, hb⟩ := hzz
  have hm := run_make (P := Try.prog) w 64 4 i _ Try.underlying64 hi hz .i64 .i64 n n (by omega) (Int.le_refl _) (by rw [hb]; omega) (by omega)
  simp only [Int.toNat_natCast, hs, Nat.mul_one] at hm
  refine ⟨_, hm, ⟨_, heap_alloc_new w _, by simp [madeCells], fun t ht => ?_⟩, (Below.refl _ _).alloc (Nat.le_refl _) _⟩
  rw [made_at _ _ _ ht]
  show some ((#[Value.bool false] : Array Value)[t % 1]!) = _
  rw [Nat.mod_one]; rfl

/-- What somebody saw. -/
def SnIs (w : World) (S : Nat) (s : Sn) (put : Nat) : Prop := ∃ ks, Bls w (S + 1) s.a s.k s.c ks ∧ ks.flatten.length = s.v ∧ ks.length ≤ s.v ∧ (∀ d ∈ ks, Srt d) ∧ s.v ≤ put
theorem SnIs.kept {Q : TypeId → Prop} {w w' : World} {S put : Nat} {s : Sn} (h : SnIs w S s put) (hw : Kept Q w w') (h1 : ¬ Q 34) (h2 : ¬ Q 37) : SnIs w' S s put := by
  obtain ⟨ks, ⟨bs, b1, b2, b3⟩, k2⟩ := h
  exact ⟨ks, ⟨bs, b1, b2, b3.kept hw h1 h2⟩, k2⟩
theorem SnIs.grown {w w' : World} {S put : Nat} {s : Sn} (h : SnIs w S s put) (hw : w.grownBy w' (some S)) {p' : Nat} (hp : put ≤ p') : SnIs w' S s p' := by
  obtain ⟨ks, k1, k2, k3, k4, k5⟩ := h
  exact ⟨ks, k1.grown hw (by omega), k2, k3, k4, by omega⟩
theorem Shr.kept {Q : TypeId → Prop} {w w' : World} {B v : Nat} {ls : List (List Ent)} (h : Shr w B v ls) (hw : Kept Q w w') (h0 : ¬ Q 69) (h1 : ¬ Q 34) (h2 : ¬ Q 37) : Shr w' B v ls := by
  obtain ⟨a, n, cap, hB, bs, b1, b2, b3⟩ := h
  exact ⟨a, n, cap, (hw.block B _ _ _ hB h0).trans hB, bs, b1, b2, b3.kept hw h1 h2⟩
/-- What holds between who look and swap. -/
structure Race (w0 : World) (S n put : Nat) (f : Nat → Sn) (g : Nat → Bool) (ls : List (List Ent)) (wr : World) : Prop where
  shr : Shr wr S put ls
  len : ls.flatten.length = put
  cnt : ls.length ≤ put
  srt : ∀ d ∈ ls, Srt d
  sn : SnapAt wr (S + 1) n f
  se : ∀ t, t < n → SnIs wr S (f t) put
  bo : BoolAt wr (S + 2) n g
  low : Below S w0 wr
theorem Race.on {w0 : World} {S n put : Nat} {f : Nat → Sn} {g : Nat → Bool} {ls : List (List Ent)} {wr v : World} (h : Race w0 S n put f g ls wr) (hv : Below wr.heap.size wr v) : Race w0 S n put f g ls v :=
  ⟨h.shr.below hv, h.len, h.cnt, h.srt, h.sn.kept (hv.block _ h.sn.lt), fun t ht => (h.se t ht).kept (Q := fun _ => False) (Kept.of_below hv) (fun h => h) (fun h => h), h.bo.kept (hv.block _ h.bo.lt), h.low.trans (hv.mono (by have := h.shr.lt; omega))⟩
theorem Race.bool {w0 : World} {S n put : Nat} {f : Nat → Sn} {g : Nat → Bool} {ls : List (List Ent)} {wr : World} (h : Race w0 S n put f g ls wr) {t : Nat} (ht : t < n) (b : Bool) : Race w0 S n put f (setF g t b) ls (wr.setCell ⟨S + 2, t, none⟩ (.bool b)) := by
  obtain ⟨b1, b2, b3⟩ := h.bo.set ht b
  exact ⟨h.shr.kept b2 (by decide) (by decide) (by decide), h.len, h.cnt, h.srt, h.sn.kept (b3.block _ h.sn.lt (by simp)), fun t ht => (h.se t ht).kept b2 (by decide) (by decide), b1, h.low.setCell (by show S ≤ S + 2; omega) _⟩
theorem Race.look {w0 : World} {S n put : Nat} {f : Nat → Sn} {g : Nat → Bool} {ls : List (List Ent)} {wr : World} (h : Race w0 S n put f g ls wr) {t : Nat} (ht : t < n) {a : Option Addr} {k c : Nat} (hb : Bls wr (S + 1) a k c ls) :
    Race w0 S n put (setF f t ⟨put, a, k, c⟩) g ls ((wr.setCell ⟨S + 1, t * 2, none⟩ (.int .u64 put)).setCell ⟨S + 1, t * 2 + 1, none⟩ (.slice a k c)) := by
  obtain ⟨b1, b2, b3⟩ := h.sn.set ht ⟨put, a, k, c⟩
  refine ⟨h.shr.kept b2 (by decide) (by decide) (by decide), h.len, h.cnt, h.srt, b1, fun i hi => ?_, h.bo.kept (b3.block _ h.bo.lt (by simp)), h.low.trans (below_of_grown b3 (by omega) (by have := h.shr.lt; omega))⟩
  by_cases e : i = t
  · subst e
    rw [setF_same]
    exact SnIs.kept ⟨ls, hb, h.len, h.cnt, h.srt, Nat.le_refl _⟩ b2 (by decide) (by decide)
  · rw [setF_ne f _ e]
    exact (h.se i hi).kept b2 (by decide) (by decide)
theorem Race.swap {w0 : World} {S n put : Nat} {f : Nat → Sn} {g : Nat → Bool} {ls ks : List (List Ent)} {wr w' : World} (h : Race w0 S n put f g ls wr) (hs : Shr w' S (put + 1) ks) (hg : wr.grownBy w' (some S)) (h1 : ks.flatten.length = put + 1) (h2 : ks.length ≤ put + 1) (h3 : ∀ d ∈ ks, Srt d) : Race w0 S n (put + 1) f g ks w' :=
  ⟨hs, h1, h2, h3, h.sn.kept (hg.block _ h.sn.lt (by simp)), fun t ht => (h.se t ht).grown hg (by omega), h.bo.kept (hg.block _ h.bo.lt (by simp)), h.low.trans (below_of_grown hg (Nat.le_refl _) (by have := h.shr.lt; omega))⟩

/-- The program's blocks. -/
theorem twoBl : ∃ t : TwoT 28 34, t.i.bytes = 16 ∨ t.i.bytes = 32 := by
  obtain ⟨i, h1, h2, h3, h4⟩ := info62
  exact ⟨⟨i, _, Try.underlying28, h1, h2, h3, by omega, rfl⟩, .inr h4⟩
theorem RowB.reads {T : TypeId} {w : World} {base n cap : Nat} {a : Option Addr} {bs : List Bk} (h : RowB T w base (.slice a n cap) bs) (hn : bs.length = n) : Reads w a n (flatB bs) := by
  refine ⟨by rw [flatB_len, hn], flatB_one _, fun j u hj => ?_⟩
  have hl : j < (flatB bs).length := (List.getElem?_eq_some_iff.1 hj).1
  rw [flatB_len] at hl
  obtain ⟨g, e, _⟩ := h.at (show 0 < bs.length by omega)
  subst e
  refine ⟨⟨g, 0, none⟩, rfl, ?_⟩
  have hr := h.row
  rw [hn] at hr
  rw [Addr.add_lit, Nat.zero_add, World.ownsRow.cellAt hr j (by omega), hj]
theorem rawZ {T : TypeId} {w : World} {base n cap : Nat} {a : Option Addr} {bs : List Bk} (h : OwnZ T w base (.slice a n cap) n (flatB bs)) (hn : bs.length = n) (hL : ∀ b ∈ bs, IsL w b.p b.q b.d) : RawB w a (lvs (bs.map Bk.d)) := by
  intro i hi
  have hi' : i < bs.length := by rw [lvs_len, List.length_map] at hi; exact hi
  have ex := lvs_at (ls := bs.map Bk.d) (i := i) (by simpa using hi')
  simp only [List.getElem_map] at ex
  rw [ex]
  rcases h with h | ⟨h, _⟩
  · rcases h.2 with ⟨h1, h0⟩ | ⟨g, cap', cur, h1, hb, hg, _⟩
    · omega
    · injection h1 with e1 e2 e3
      subst e1 e3
      obtain ⟨f1, f2⟩ := flatB_at bs i bs[i] (List.getElem?_eq_getElem hi')
      exact ⟨g, bs[i].p, bs[i].q, rfl, lt_of_block hg, by rw [World.ownsRow.cellAt h (i * 2) (by omega), f1], by rw [World.ownsRow.cellAt h (i * 2 + 1) (by omega), f2], hL _ (List.getElem_mem hi')⟩
  · omega
theorem reads_blk {V : World} {G m K q : Nat} {p : Option Addr} {d : List Ent} (hG : V.heap[G]? = some (.cells #[.int .i64 m, .slice p K q] 34 (0, 0))) (hm : lv d = m) (hK : d.length = K) : Reads V (some ⟨G, 0, none⟩) 1 (flatB [⟨d, p, q⟩]) := by
  refine ⟨rfl, flatB_one _, fun j u hj => ?_⟩
  refine ⟨⟨G, 0, none⟩, rfl, ?_⟩
  rw [Addr.add_lit, Nat.zero_add, cell_of_row _ _ _ _ _ _ hG, ← hj, ← hm, ← hK]
  have : j = 0 ∨ j = 1 := by have := (List.getElem?_eq_some_iff.1 hj).1; simp [flatB, encB] at this; omega
  rcases this with rfl | rfl <;> rfl
end Go.Proofs.Ytboccihcomaaoaa

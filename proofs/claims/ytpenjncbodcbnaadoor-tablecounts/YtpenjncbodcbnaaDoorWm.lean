/- A memory of words in the heap, its counters whatever they are; an arena above it. What lies in the heap, and what a store does to it. -/
import Derived.WalkKit
import Derived.Deep.OwnRows
import Derived.Deep.QuietTactic
namespace Go.Proofs.YtpenjncbodcbnaaDoor
open Go.RowKit
set_option linter.unusedVariables false

/-- Word i is v now. -/
def putW (ws : Nat → Int) (i : Nat) (v : Int) : Nat → Int := fun j => if j = i then v else ws j
@[simp] theorem putW_same (ws : Nat → Int) (i : Nat) (v : Int) : putW ws i v i = v := by simp [putW]
theorem putW_other (ws : Nat → Int) (i j : Nat) (v : Int) (h : j ≠ i) : putW ws i v j = ws j := by simp [putW, h]

/-- How many of the first n words have the state s. -/
def cnt (ws : Nat → Int) (s : Int) : Nat → Nat
  | 0 => 0
  | n + 1 => cnt ws s n + (if ws n % 8 = s then 1 else 0)
theorem cnt_le (ws : Nat → Int) (s : Int) (n : Nat) : cnt ws s n ≤ n := by
  induction n with
  | zero => simp [cnt]
  | succ n ih => simp only [cnt]; split <;> omega
theorem cnt_congr {ws us : Nat → Int} {s : Int} {n : Nat} (h : ∀ i, i < n → ws i = us i) : cnt ws s n = cnt us s n := by
  induction n with
  | zero => rfl
  | succ n ih => simp only [cnt, ih fun i hi => h i (by omega), h n (by omega)]
theorem cnt_put (ws : Nat → Int) (s : Int) (n i : Nat) (v : Int) (hi : i < n) :
    cnt (putW ws i v) s n + (if ws i % 8 = s then 1 else 0) = cnt ws s n + (if v % 8 = s then 1 else 0) := by
  induction n with
  | zero => omega
  | succ n ih =>
    by_cases e : i = n
    · subst e
      have : cnt (putW ws i v) s i = cnt ws s i := cnt_congr fun j hj => putW_other _ _ _ _ (by omega)
      simp only [cnt, this, putW_same]
      omega
    · have h1 := ih (by omega)
      simp only [cnt, putW_other ws i n v (by omega)]
      omega
theorem cnt_none {ws : Nat → Int} {s : Int} {n : Nat} (h : ∀ i, i < n → ws i % 8 ≠ s) : cnt ws s n = 0 := by
  induction n with
  | zero => rfl
  | succ n ih => simp [cnt, ih fun i hi => h i (by omega), h n (by omega)]
theorem cnt_pos {ws : Nat → Int} {s : Int} {n i : Nat} (hi : i < n) (h : ws i % 8 = s) : 0 < cnt ws s n := by
  induction n with
  | zero => omega
  | succ n ih =>
    by_cases e : i = n
    · subst e; simp [cnt, h]
    · have := ih (by omega); simp only [cnt]; omega
theorem cnt_all {ws : Nat → Int} {s : Int} {n : Nat} (h : ∀ i, i < n → ws i % 8 = s) : cnt ws s n = n := by
  induction n with
  | zero => rfl
  | succ n ih => simp [cnt, ih fun i hi => h i (by omega), h n (by omega)]
/-- The least word that has the state s. -/
theorem least_or (ws : Nat → Int) (s : Int) (n : Nat) : (∀ i, i < n → ws i % 8 ≠ s) ∨ ∃ i, i < n ∧ ws i % 8 = s ∧ ∀ j, j < i → ws j % 8 ≠ s := by
  induction n with
  | zero => exact .inl fun i hi => absurd hi (by omega)
  | succ n ih =>
    rcases ih with h | ⟨i, h1, h2, h3⟩
    · by_cases e : ws n % 8 = s
      · exact .inr ⟨n, by omega, e, h⟩
      · refine .inl fun i hi => ?_
        by_cases e2 : i = n
        · exact e2 ▸ e
        · exact h i (by omega)
    · exact .inr ⟨i, by omega, h2, h3⟩

/-- Nothing but the blocks a, b and r of what was there has turned. -/
structure Kept (a b r : Nat) (w w' : World) : Prop where
  os : w'.os = w.os
  tape : w'.tape = w.tape
  output : w'.output = w.output
  size : w.heap.size ≤ w'.heap.size
  block : ∀ k, k < w.heap.size → k ≠ a → k ≠ b → k ≠ r → w'.heap[k]? = w.heap[k]?

theorem Kept.refl (a b r : Nat) (w : World) : Kept a b r w w := ⟨rfl, rfl, rfl, Nat.le_refl _, fun _ _ _ _ _ => rfl⟩
theorem Kept.trans {a b r : Nat} {u v w : World} (h : Kept a b r u v) (k : Kept a b r v w) : Kept a b r u w :=
  ⟨k.os.trans h.os, k.tape.trans h.tape, k.output.trans h.output, Nat.le_trans h.size k.size, fun i hi ha hb hr => (k.block i (by have := h.size; omega) ha hb hr).trans (h.block i hi ha hb hr)⟩
theorem Kept.of_below {a b r : Nat} {u v : World} (h : Below u.heap.size u v) : Kept a b r u v := ⟨h.os, h.tape, h.output, h.size, fun k hk _ _ _ => h.block k hk⟩
theorem Kept.set {a b r c : Nat} {u v : World} (h : Kept a b r u v) (i : Nat) (x : Value) (hc : c = a ∨ c = b ∨ c = r) : Kept a b r u (v.setCell ⟨c, i, none⟩ x) :=
  h.trans ⟨rfl, rfl, rfl, by simp [World.setCell], fun k _ ha hb hr => Below.heap_setCell _ _ _ _ (show k ≠ c by rcases hc with rfl | rfl | rfl <;> assumption)⟩
theorem Kept.drew {a b r : Nat} {u v : World} (h : Kept a b r u v) : Kept a b r u v.drew := ⟨h.os, h.tape, h.output, h.size, h.block⟩
theorem Kept.drewN {a b r : Nat} {u v : World} (h : Kept a b r u v) (q : Nat) : Kept a b r u (v.drewN q) := ⟨h.os, h.tape, h.output, h.size, h.block⟩
theorem Kept.alloc {a b r : Nat} {u v : World} (h : Kept a b r u v) (o : Obj) : Kept a b r u (v.alloc o) :=
  h.trans ⟨rfl, rfl, rfl, by simp, fun k hk _ _ _ => Below.heap_alloc _ _ _ hk⟩
theorem Kept.below {a b r B : Nat} {u w w' : World} (h : Kept a b r w w') (hu : Below B u w) (hB : B ≤ w.heap.size) (ha : B ≤ a) (hb : B ≤ b) (hr : B ≤ r) : Below B u w' :=
  hu.trans ⟨h.os, h.tape, h.output, h.size, fun k hk => h.block k (by omega) (by omega) (by omega) (by omega)⟩
theorem Kept.cell {a b r : Nat} {w w' : World} (h : Kept a b r w w') {p : Addr} (hp : p.block < w.heap.size) (ha : p.block ≠ a) (hb : p.block ≠ b) (hr : p.block ≠ r) : w'.cell? p = w.cell? p := World.cell?_of_block (w := w) (h.block p.block hp ha hb hr)
theorem Kept.frozen {a b r : Nat} {w w' : World} (h : Kept a b r w w') {p : Addr} (hp : p.block < w.heap.size) (ha : p.block ≠ a) (hb : p.block ≠ b) (hr : p.block ≠ r) : w'.frozen? p = w.frozen? p := World.frozen?_of_block (w := w) (h.block p.block hp ha hb hr)

/-- At block b lies a memory of n words, its row at block r. -/
structure WMem (t e : TypeId) (w : World) (b r n : Nat) (ws : Nat → Int) : Prop where
  ne : b ≠ r
  head : ∃ s q l k : Int, w.heap[b]? = some (.cells #[.slice (some ⟨r, 0, none⟩) n n, .int .u64 s, .int .u64 q, .int .i64 l, .int .i64 k] t (0, 0))
  row : w.rowIs r e n (fun i => .int .u64 (ws i))
  fits : ∀ i, i < n → 0 ≤ ws i ∧ ws i < 18446744073709551616
  size : n ≤ 4096

variable {t e : TypeId} {w w' : World} {a b r n : Nat} {ws : Nat → Int}
theorem set_head {c : Array Value} {b i : Nat} {x : Value} {t : TypeId} (h : w.heap[b]? = some (.cells c t (0, 0))) : (w.setCell ⟨b, i, none⟩ x).heap[b]? = some (.cells (c.setIfInBounds i x) t (0, 0)) := by
  simp [World.setCell, Array.getElem?_modify, h]
theorem WMem.c0 (h : WMem t e w b r n ws) : w.cell? ⟨b, 0, none⟩ = some (.slice (some ⟨r, 0, none⟩) n n) := by
  obtain ⟨s, q, l, k, hh⟩ := h.head
  simp [World.cell?, hh]
theorem WMem.cells (h : WMem t e w b r n ws) : ∃ s q l k : Int, w.cell? ⟨b, 1, none⟩ = some (.int .u64 s) ∧ w.cell? ⟨b, 2, none⟩ = some (.int .u64 q) ∧ w.cell? ⟨b, 3, none⟩ = some (.int .i64 l) ∧ w.cell? ⟨b, 4, none⟩ = some (.int .i64 k) := by
  obtain ⟨s, q, l, k, hh⟩ := h.head
  exact ⟨s, q, l, k, by simp [World.cell?, hh], by simp [World.cell?, hh], by simp [World.cell?, hh], by simp [World.cell?, hh]⟩
theorem WMem.free (h : WMem t e w b r n ws) (i : Nat) : w.frozen? ⟨b, i, none⟩ = false := by
  obtain ⟨s, q, l, k, hh⟩ := h.head
  simp [World.frozen?, hh]
theorem WMem.word (h : WMem t e w b r n ws) {i : Nat} (hi : i < n) : w.cell? ⟨r, i, none⟩ = some (.int .u64 (ws i)) := h.row.cell hi
theorem WMem.free' (h : WMem t e w b r n ws) (i : Nat) : w.frozen? ⟨r, i, none⟩ = false := h.row.frozen i
theorem WMem.blt (h : WMem t e w b r n ws) : b < w.heap.size := by
  obtain ⟨s, q, l, k, hh⟩ := h.head
  exact lt_of_block hh
theorem WMem.rlt (h : WMem t e w b r n ws) : r < w.heap.size := h.row.lt
theorem WMem.of_blocks (h : WMem t e w b r n ws) (hb : w'.heap[b]? = w.heap[b]?) (hr : w'.heap[r]? = w.heap[r]?) : WMem t e w' b r n ws := by
  obtain ⟨s, q, l, k, hh⟩ := h.head
  exact ⟨h.ne, ⟨s, q, l, k, hb.trans hh⟩, h.row.of_block hr, h.fits, h.size⟩
theorem WMem.drew (h : WMem t e w b r n ws) : WMem t e w.drew b r n ws := h.of_blocks rfl rfl
/-- A store into a counter. -/
theorem WMem.u1 (h : WMem t e w b r n ws) (x : Int) : WMem t e (w.setCell ⟨b, 1, none⟩ (.int .u64 x)) b r n ws := by
  obtain ⟨s, q, l, k, hh⟩ := h.head
  exact ⟨h.ne, ⟨x, q, l, k, by rw [set_head hh]; simp⟩, h.row.setOther (Ne.symm h.ne) _, h.fits, h.size⟩
theorem WMem.u2 (h : WMem t e w b r n ws) (x : Int) : WMem t e (w.setCell ⟨b, 2, none⟩ (.int .u64 x)) b r n ws := by
  obtain ⟨s, q, l, k, hh⟩ := h.head
  exact ⟨h.ne, ⟨s, x, l, k, by rw [set_head hh]; simp⟩, h.row.setOther (Ne.symm h.ne) _, h.fits, h.size⟩
theorem WMem.u3 (h : WMem t e w b r n ws) (x : Int) : WMem t e (w.setCell ⟨b, 3, none⟩ (.int .i64 x)) b r n ws := by
  obtain ⟨s, q, l, k, hh⟩ := h.head
  exact ⟨h.ne, ⟨s, q, x, k, by rw [set_head hh]; simp⟩, h.row.setOther (Ne.symm h.ne) _, h.fits, h.size⟩
theorem WMem.u4 (h : WMem t e w b r n ws) (x : Int) : WMem t e (w.setCell ⟨b, 4, none⟩ (.int .i64 x)) b r n ws := by
  obtain ⟨s, q, l, k, hh⟩ := h.head
  exact ⟨h.ne, ⟨s, q, l, x, by rw [set_head hh]; simp⟩, h.row.setOther (Ne.symm h.ne) _, h.fits, h.size⟩
/-- A store into word i. -/
theorem WMem.put (h : WMem t e w b r n ws) (i : Nat) (v : Int) (h0 : 0 ≤ v) (h1 : v < 18446744073709551616) :
    WMem t e (w.setCell ⟨r, i, none⟩ (.int .u64 v)) b r n (putW ws i v) := by
  obtain ⟨s, q, l, k, hh⟩ := h.head
  refine ⟨h.ne, ⟨s, q, l, k, ?_⟩, (h.row.set i (.int .u64 v)).congr fun j hj => ?_, fun j hj => ?_, h.size⟩
  · rw [Below.heap_setCell _ _ _ _ h.ne]
    exact hh
  · by_cases e : j = i <;> simp [putW, e]
  · by_cases e : j = i
    · simp [putW, e, h0, h1]
    · simpa [putW, e] using h.fits j hj
theorem WMem.kept {a' b' r' : Nat} (h : WMem t e w b r n ws) (hk : Kept a' b' r' w w') (h1 : b ≠ a') (h2 : b ≠ b') (h3 : b ≠ r') (h4 : r ≠ a') (h5 : r ≠ b') (h6 : r ≠ r') : WMem t e w' b r n ws :=
  h.of_blocks (hk.block b h.blt h1 h2 h3) (hk.block r h.rlt h4 h5 h6)

/-- At block a lies an arena of n ids: its memory at b, the counts of its states behind it. -/
structure Arn (ta t e : TypeId) (w : World) (a b r n : Nat) (ws : Nat → Int) : Prop where
  nb : a ≠ b
  nr : a ≠ r
  head : ∃ cs : Array Value, w.heap[a]? = some (.cells cs ta (0, 0)) ∧ cs.size = 8 ∧ cs[0]? = some (.pointer (some ⟨b, 0, none⟩)) ∧ ∀ s : Nat, s < 7 → cs[s + 1]? = some (.int .i64 (cnt ws s n))
  mem : WMem t e w b r n ws
  ok : ∀ i, i < n → ws i % 8 < 7
  one : 1 ≤ n
  most : n ≤ 1000

variable {ta : TypeId}
theorem Arn.c0 (h : Arn ta t e w a b r n ws) : w.cell? ⟨a, 0, none⟩ = some (.pointer (some ⟨b, 0, none⟩)) := by
  obtain ⟨cs, h1, h2, h3, h4⟩ := h.head
  simpa [World.cell?, h1] using h3
theorem Arn.cs (h : Arn ta t e w a b r n ws) (s : Nat) (hs : s < 7) : w.cell? ⟨a, s + 1, none⟩ = some (.int .i64 (cnt ws s n)) := by
  obtain ⟨cs, h1, h2, h3, h4⟩ := h.head
  simpa [World.cell?, h1] using h4 s hs
theorem Arn.cs' (h : Arn ta t e w a b r n ws) (s : Nat) (hs : s < 7) : w.cell? ⟨a, 1 + s, none⟩ = some (.int .i64 (cnt ws s n)) := by
  rw [Nat.add_comm]; exact h.cs s hs
theorem Arn.free (h : Arn ta t e w a b r n ws) (i : Nat) : w.frozen? ⟨a, i, none⟩ = false := by
  obtain ⟨cs, h1, h2, h3, h4⟩ := h.head
  simp [World.frozen?, h1]
theorem Arn.alt (h : Arn ta t e w a b r n ws) : a < w.heap.size := by
  obtain ⟨cs, h1, h2, h3, h4⟩ := h.head
  exact lt_of_block h1
theorem Arn.of_blocks (h : Arn ta t e w a b r n ws) (ha : w'.heap[a]? = w.heap[a]?) (hb : w'.heap[b]? = w.heap[b]?) (hr : w'.heap[r]? = w.heap[r]?) : Arn ta t e w' a b r n ws := by
  obtain ⟨cs, h1, h2⟩ := h.head
  exact ⟨h.nb, h.nr, ⟨cs, ha.trans h1, h2⟩, h.mem.of_blocks hb hr, h.ok, h.one, h.most⟩
theorem Arn.of_mem {b' r' : Nat} (h : Arn ta t e w a b r n ws) (m : WMem t e w' b r n ws) (k : Kept b b r w w') : Arn ta t e w' a b r n ws := by
  obtain ⟨cs, h1, h2⟩ := h.head
  exact ⟨h.nb, h.nr, ⟨cs, (k.block a h.alt h.nb h.nb h.nr).trans h1, h2⟩, m, h.ok, h.one, h.most⟩
theorem Arn.drew (h : Arn ta t e w a b r n ws) : Arn ta t e w.drew a b r n ws := h.of_blocks rfl rfl rfl
theorem Arn.drewN (h : Arn ta t e w a b r n ws) (q : Nat) : Arn ta t e (w.drewN q) a b r n ws := h.of_blocks rfl rfl rfl
theorem Arn.below {B : Nat} (h : Arn ta t e w a b r n ws) (hw : Below B w w') (h1 : a < B) (h2 : b < B) (h3 : r < B) : Arn ta t e w' a b r n ws :=
  h.of_blocks (hw.block a h1) (hw.block b h2) (hw.block r h3)
theorem Arn.grew (h : Arn ta t e w a b r n ws) (hw : Below w.heap.size w w') : Arn ta t e w' a b r n ws := h.below hw h.alt h.mem.blt h.mem.rlt
theorem Arn.kept {a' b' r' : Nat} (h : Arn ta t e w a b r n ws) (hk : Kept a' b' r' w w') (h7 : a ≠ a') (h8 : a ≠ b') (h9 : a ≠ r') (h1 : b ≠ a') (h2 : b ≠ b') (h3 : b ≠ r') (h4 : r ≠ a') (h5 : r ≠ b') (h6 : r ≠ r') : Arn ta t e w' a b r n ws :=
  h.of_blocks (hk.block a h.alt h7 h8 h9) (hk.block b h.mem.blt h1 h2 h3) (hk.block r h.mem.rlt h4 h5 h6)
theorem Arn.fits (h : Arn ta t e w a b r n ws) (i : Nat) (hi : i < n) : 0 ≤ ws i ∧ ws i < 18446744073709551616 := h.mem.fits i hi
/-- Word i was turned, and two counts. -/
theorem Arn.turned (h : Arn ta t e w a b r n ws) {i s q : Nat} {v : Int} (hi : i < n) (hs : ws i % 8 = s) (hq : v % 8 = q) (hs7 : s < 7) (hq7 : q < 7) (hne : s ≠ q)
    (m : WMem t e w' b r n (putW ws i v)) (k : Kept b b r w w') (x y : Int) (hx : x = (cnt ws s n : Int) - 1) (hy : y = (cnt ws q n : Int) + 1) :
    Arn ta t e ((w'.setCell ⟨a, s + 1, none⟩ (.int .i64 x)).setCell ⟨a, q + 1, none⟩ (.int .i64 y)) a b r n (putW ws i v) := by
  obtain ⟨cs, h1, h2, h3, h4⟩ := h.head
  have ha := (k.block a h.alt h.nb h.nb h.nr).trans h1
  refine ⟨h.nb, h.nr, ⟨_, set_head (set_head ha), by simp [h2], ?_, fun j hj => ?_⟩, ?_, fun j hj => ?_, h.one, h.most⟩
  · simpa [Array.getElem?_setIfInBounds] using h3
  · have hc := cnt_put ws j n i v hi
    have h5 := h4 j hj
    rw [hs, hq] at hc
    rw [Array.getElem?_setIfInBounds, Array.getElem?_setIfInBounds]
    by_cases e1 : q = j
    · subst e1
      have : ¬ (s : Int) = (q : Int) := by omega
      simp [this] at hc
      simp [h2, hj, hy, hc]
    · by_cases e2 : s = j
      · subst e2
        have : ¬ (q : Int) = (s : Int) := by omega
        simp [this] at hc
        simp [h2, hx, e1]
        omega
      · have g1 : ¬ (s : Int) = (j : Int) := by omega
        have g2 : ¬ (q : Int) = (j : Int) := by omega
        simp [g1, g2] at hc
        simp [e1, e2, hc, h5]
  · exact m.of_blocks (by rw [Below.heap_setCell _ _ _ _ h.nb.symm, Below.heap_setCell _ _ _ _ h.nb.symm]) (by rw [Below.heap_setCell _ _ _ _ h.nr.symm, Below.heap_setCell _ _ _ _ h.nr.symm])
  · by_cases e : j = i
    · subst e; rw [putW_same]; omega
    · rw [putW_other _ _ _ _ e]; exact h.ok j hj
end Go.Proofs.YtpenjncbodcbnaaDoor

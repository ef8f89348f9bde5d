import Derived.Deep.OwnRows
import Derived.WalkSmall
import Derived.Test.YtjnpmipbkiambaaGreatDoorBTbL
import Derived.Laws.BitsAllLaws
import Derived.Laws.Bits64
import Derived.Deep.RegionHeld3
import Derived.BigRegion
namespace Go.Proofs.YtjnpmipbkiambaaGreatDoor.Ta
set_option maxRecDepth 100000
open Go.RowKit
set_option linter.unusedVariables false
def putW (ws : Nat → Int) (i : Nat) (v : Int) : Nat → Int := fun j => if j = i then v else ws j
@[simp] theorem putW_same (ws : Nat → Int) (i : Nat) (v : Int) : putW ws i v i = v := by simp [putW]
theorem putW_other (ws : Nat → Int) (i j : Nat) (v : Int) (h : j ≠ i) : putW ws i v j = ws j := by simp [putW, h]
def cnt (ws : Nat → Int) (s : Int) : Nat → Nat
 | 0 => 0
 | n + 1 => cnt ws s n + (if ws n % 8 = s then 1 else 0)
theorem cnt_le (ws : Nat → Int) (s : Int) (n : Nat) : cnt ws s n ≤ n := by
 induction n with
 | zero => simp [cnt]
 | succ n ih => simp only [cnt]; split <;> omega
theorem cnt_congr {ws us : Nat → Int} {s : Int} {n : Nat} (h : ∀ i, i < n → ws i = us i) : cnt ws s n = cnt us s n := by
 induction n with
 | zero => rfl
 | succ n ih => simp only [cnt, ih fun i hi => h i (by omega), h n (by omega)]
theorem cnt_put (ws : Nat → Int) (s : Int) (n i : Nat) (v : Int) (hi : i < n) :
  cnt (putW ws i v) s n + (if ws i % 8 = s then 1 else 0) = cnt ws s n + (if v % 8 = s then 1 else 0) := by
 induction n with
 | zero => omega
 | succ n ih =>
  by_cases e : i = n
  ·subst e
   have : cnt (putW ws i v) s i = cnt ws s i := cnt_congr fun j hj => putW_other _ _ _ _ (by omega)
   simp only [cnt, this, putW_same]
   omega
  ·have h1 := ih (by omega)
   simp only [cnt, putW_other ws i n v (by omega)]
   omega
theorem cnt_none {ws : Nat → Int} {s : Int} {n : Nat} (h : ∀ i, i < n → ws i % 8 ≠ s) : cnt ws s n = 0 := by
 induction n with
 | zero => rfl
 | succ n ih => simp [cnt, ih fun i hi => h i (by omega), h n (by omega)]
theorem cnt_pos {ws : Nat → Int} {s : Int} {n i : Nat} (hi : i < n) (h : ws i % 8 = s) : 0 < cnt ws s n := by
 induction n with
 | zero => omega
 | succ n ih =>
  by_cases e : i = n
  ·subst e; simp [cnt, h]
  ·have := ih (by omega); simp only [cnt]; omega
theorem cnt_all {ws : Nat → Int} {s : Int} {n : Nat} (h : ∀ i, i < n → ws i % 8 = s) : cnt ws s n = n := by
 induction n with
 | zero => rfl
 | succ n ih => simp [cnt, ih fun i hi => h i (by omega), h n (by omega)]
structure Kept (a b r : Nat) (w w' : World) : Prop where
 os : w'.os = w.os
 tape : w'.tape = w.tape
 output : w'.output = w.output
 size : w.heap.size ≤ w'.heap.size
 block : ∀ k, k < w.heap.size → k ≠ a → k ≠ b → k ≠ r → w'.heap[k]? = w.heap[k]?
theorem Kept.refl (a b r : Nat) (w : World) : Kept a b r w w := ⟨rfl, rfl, rfl, Nat.le_refl _, fun _ _ _ _ _ => rfl⟩
theorem Kept.trans {a b r : Nat} {u v w : World} (h : Kept a b r u v) (k : Kept a b r v w) : Kept a b r u w :=
 ⟨k.os.trans h.os, k.tape.trans h.tape, k.output.trans h.output, Nat.le_trans h.size k.size, fun i hi ha hb hr => (k.block i (by have := h.size; omega) ha hb hr).trans (h.block i hi ha hb hr)⟩
theorem Kept.of_below {a b r : Nat} {u v : World} (h : Below u.heap.size u v) : Kept a b r u v := ⟨h.os, h.tape, h.output, h.size, fun k hk _ _ _ => h.block k hk⟩
theorem Kept.set {a b r c : Nat} {u v : World} (h : Kept a b r u v) (i : Nat) (x : Value) (hc : c = a ∨ c = b ∨ c = r) : Kept a b r u (v.setCell ⟨c, i, none⟩ x) :=
 h.trans ⟨rfl, rfl, rfl, by simp [World.setCell], fun k _ ha hb hr => Below.heap_setCell _ _ _ _ (show k ≠ c by rcases hc with rfl | rfl | rfl <;> assumption)⟩
theorem Kept.drew {a b r : Nat} {u v : World} (h : Kept a b r u v) : Kept a b r u v.drew := ⟨h.os, h.tape, h.output, h.size, h.block⟩
theorem Kept.cell {a b r : Nat} {w w' : World} (h : Kept a b r w w') {p : Addr} (hp : p.block < w.heap.size) (ha : p.block ≠ a) (hb : p.block ≠ b) (hr : p.block ≠ r) : w'.cell? p = w.cell? p := World.cell?_of_block (w := w) (h.block p.block hp ha hb hr)
theorem Kept.frozen {a b r : Nat} {w w' : World} (h : Kept a b r w w') {p : Addr} (hp : p.block < w.heap.size) (ha : p.block ≠ a) (hb : p.block ≠ b) (hr : p.block ≠ r) : w'.frozen? p = w.frozen? p := World.frozen?_of_block (w := w) (h.block p.block hp ha hb hr)
structure WMem (t e : TypeId) (w : World) (b r n : Nat) (ws : Nat → Int) : Prop where
 ne : b ≠ r
 head : ∃ s q l k : Int, w.heap[b]? = some (.cells #[.slice (some ⟨r, 0, none⟩) n n, .int .u64 s, .int .u64 q, .int .i64 l, .int .i64 k] t (0, 0))
 row : w.rowIs r e n (fun i => .int .u64 (ws i))
 fits : ∀ i, i < n → 0 ≤ ws i ∧ ws i < 18446744073709551616
 size : n ≤ 4096
variable {t e : TypeId} {w w' : World} {a b r n : Nat} {ws : Nat → Int}
theorem set_head {c : Array Value} {b i : Nat} {x : Value} {t : TypeId} (h : w.heap[b]? = some (.cells c t (0, 0))) : (w.setCell ⟨b, i, none⟩ x).heap[b]? = some (.cells (c.setIfInBounds i x) t (0, 0)) := by
 simp [World.setCell, Array.getElem?_modify, h]
theorem WMem.c0 (h : WMem t e w b r n ws) : w.cell? ⟨b, 0, none⟩ = some (.slice (some ⟨r, 0, none⟩) n n) := by
 obtain ⟨s, q, l, k, hh⟩ := h.head
 simp [World.cell?, hh]
theorem WMem.cells (h : WMem t e w b r n ws) : ∃ s q l k : Int, w.cell? ⟨b, 1, none⟩ = some (.int .u64 s) ∧ w.cell? ⟨b, 2, none⟩ = some (.int .u64 q) ∧ w.cell? ⟨b, 3, none⟩ = some (.int .i64 l) ∧ w.cell? ⟨b, 4, none⟩ = some (.int .i64 k) := by
 obtain ⟨s, q, l, k, hh⟩ := h.head
 exact ⟨s, q, l, k, by simp [World.cell?, hh], by simp [World.cell?, hh], by simp [World.cell?, hh], by simp [World.cell?, hh]⟩
theorem WMem.free (h : WMem t e w b r n ws) (i : Nat) : w.frozen? ⟨b, i, none⟩ = false := by
 obtain ⟨s, q, l, k, hh⟩ := h.head
 simp [World.frozen?, hh]
theorem WMem.word (h : WMem t e w b r n ws) {i : Nat} (hi : i < n) : w.cell? ⟨r, i, none⟩ = some (.int .u64 (ws i)) := h.row.cell hi
theorem WMem.free' (h : WMem t e w b r n ws) (i : Nat) : w.frozen? ⟨r, i, none⟩ = false := h.row.frozen i
theorem WMem.blt (h : WMem t e w b r n ws) : b < w.heap.size := by
 obtain ⟨s, q, l, k, hh⟩ := h.head
 exact lt_of_block hh
theorem WMem.rlt (h : WMem t e w b r n ws) : r < w.heap.size := h.row.lt
theorem WMem.of_blocks (h : WMem t e w b r n ws) (hb : w'.heap[b]? = w.heap[b]?) (hr : w'.heap[r]? = w.heap[r]?) : WMem t e w' b r n ws := by
 obtain ⟨s, q, l, k, hh⟩ := h.head
 exact ⟨h.ne, ⟨s, q, l, k, hb.trans hh⟩, h.row.of_block hr, h.fits, h.size⟩
theorem WMem.drew (h : WMem t e w b r n ws) : WMem t e w.drew b r n ws := h.of_blocks rfl rfl
theorem WMem.u1 (h : WMem t e w b r n ws) (x : Int) : WMem t e (w.setCell ⟨b, 1, none⟩ (.int .u64 x)) b r n ws := by
 obtain ⟨s, q, l, k, hh⟩ := h.head
 exact ⟨h.ne, ⟨x, q, l, k, by rw [set_head hh]; simp⟩, h.row.setOther (Ne.symm h.ne) _, h.fits, h.size⟩
theorem WMem.u2 (h : WMem t e w b r n ws) (x : Int) : WMem t e (w.setCell ⟨b, 2, none⟩ (.int .u64 x)) b r n ws := by
 obtain ⟨s, q, l, k, hh⟩ := h.head
 exact ⟨h.ne, ⟨s, x, l, k, by rw [set_head hh]; simp⟩, h.row.setOther (Ne.symm h.ne) _, h.fits, h.size⟩
theorem WMem.u3 (h : WMem t e w b r n ws) (x : Int) : WMem t e (w.setCell ⟨b, 3, none⟩ (.int .i64 x)) b r n ws := by
 obtain ⟨s, q, l, k, hh⟩ := h.head
 exact ⟨h.ne, ⟨s, q, x, k, by rw [set_head hh]; simp⟩, h.row.setOther (Ne.symm h.ne) _, h.fits, h.size⟩
theorem WMem.u4 (h : WMem t e w b r n ws) (x : Int) : WMem t e (w.setCell ⟨b, 4, none⟩ (.int .i64 x)) b r n ws := by
 obtain ⟨s, q, l, k, hh⟩ := h.head
 exact ⟨h.ne, ⟨s, q, l, x, by rw [set_head hh]; simp⟩, h.row.setOther (Ne.symm h.ne) _, h.fits, h.size⟩
theorem WMem.put (h : WMem t e w b r n ws) (i : Nat) (v : Int) (h0 : 0 ≤ v) (h1 : v < 18446744073709551616) :
  WMem t e (w.setCell ⟨r, i, none⟩ (.int .u64 v)) b r n (putW ws i v) := by
 obtain ⟨s, q, l, k, hh⟩ := h.head
 refine ⟨h.ne, ⟨s, q, l, k, ?_⟩, (h.row.set i (.int .u64 v)).congr fun j hj => ?_, fun j hj => ?_, h.size⟩
 ·rw [Below.heap_setCell _ _ _ _ h.ne]
  exact hh
 ·by_cases e : j = i <;> simp [putW, e]
 ·by_cases e : j = i
  ·simp [putW, e, h0, h1]
  ·simpa [putW, e] using h.fits j hj
structure Arn (ta t e : TypeId) (w : World) (a b r n : Nat) (ws : Nat → Int) : Prop where
 nb : a ≠ b
 nr : a ≠ r
 head : ∃ cs : Array Value, w.heap[a]? = some (.cells cs ta (0, 0)) ∧ cs.size = 8 ∧ cs[0]? = some (.pointer (some ⟨b, 0, none⟩)) ∧ ∀ s : Nat, s < 7 → cs[s + 1]? = some (.int .i64 (cnt ws s n))
 mem : WMem t e w b r n ws
 ok : ∀ i, i < n → ws i % 8 < 7
 one : 1 ≤ n
 most : n ≤ 1000
variable {ta : TypeId}
theorem Arn.c0 (h : Arn ta t e w a b r n ws) : w.cell? ⟨a, 0, none⟩ = some (.pointer (some ⟨b, 0, none⟩)) := by
 obtain ⟨cs, h1, h2, h3, h4⟩ := h.head
 simpa [World.cell?, h1] using h3
theorem Arn.cs (h : Arn ta t e w a b r n ws) (s : Nat) (hs : s < 7) : w.cell? ⟨a, s + 1, none⟩ = some (.int .i64 (cnt ws s n)) := by
 obtain ⟨cs, h1, h2, h3, h4⟩ := h.head
 simpa [World.cell?, h1] using h4 s hs
theorem Arn.cs' (h : Arn ta t e w a b r n ws) (s : Nat) (hs : s < 7) : w.cell? ⟨a, 1 + s, none⟩ = some (.int .i64 (cnt ws s n)) := by
 rw [Nat.add_comm]; exact h.cs s hs
theorem Arn.free (h : Arn ta t e w a b r n ws) (i : Nat) : w.frozen? ⟨a, i, none⟩ = false := by
 obtain ⟨cs, h1, h2, h3, h4⟩ := h.head
 simp [World.frozen?, h1]
theorem Arn.alt (h : Arn ta t e w a b r n ws) : a < w.heap.size := by
 obtain ⟨cs, h1, h2, h3, h4⟩ := h.head
 exact lt_of_block h1
theorem Arn.of_blocks (h : Arn ta t e w a b r n ws) (ha : w'.heap[a]? = w.heap[a]?) (hb : w'.heap[b]? = w.heap[b]?) (hr : w'.heap[r]? = w.heap[r]?) : Arn ta t e w' a b r n ws := by
 obtain ⟨cs, h1, h2⟩ := h.head
 exact ⟨h.nb, h.nr, ⟨cs, ha.trans h1, h2⟩, h.mem.of_blocks hb hr, h.ok, h.one, h.most⟩
theorem Arn.of_mem {b' r' : Nat} (h : Arn ta t e w a b r n ws) (m : WMem t e w' b r n ws) (k : Kept b b r w w') : Arn ta t e w' a b r n ws := by
 obtain ⟨cs, h1, h2⟩ := h.head
 exact ⟨h.nb, h.nr, ⟨cs, (k.block a h.alt h.nb h.nb h.nr).trans h1, h2⟩, m, h.ok, h.one, h.most⟩
theorem Arn.drew (h : Arn ta t e w a b r n ws) : Arn ta t e w.drew a b r n ws := h.of_blocks rfl rfl rfl
theorem Arn.below {B : Nat} (h : Arn ta t e w a b r n ws) (hw : Below B w w') (h1 : a < B) (h2 : b < B) (h3 : r < B) : Arn ta t e w' a b r n ws :=
 h.of_blocks (hw.block a h1) (hw.block b h2) (hw.block r h3)
theorem Arn.grew (h : Arn ta t e w a b r n ws) (hw : Below w.heap.size w w') : Arn ta t e w' a b r n ws := h.below hw h.alt h.mem.blt h.mem.rlt
theorem Arn.fits (h : Arn ta t e w a b r n ws) (i : Nat) (hi : i < n) : 0 ≤ ws i ∧ ws i < 18446744073709551616 := h.mem.fits i hi
theorem Arn.turned (h : Arn ta t e w a b r n ws) {i s q : Nat} {v : Int} (hi : i < n) (hs : ws i % 8 = s) (hq : v % 8 = q) (hs7 : s < 7) (hq7 : q < 7) (hne : s ≠ q)
  (m : WMem t e w' b r n (putW ws i v)) (k : Kept b b r w w') (x y : Int) (hx : x = (cnt ws s n : Int) - 1) (hy : y = (cnt ws q n : Int) + 1) :
  Arn ta t e ((w'.setCell ⟨a, s + 1, none⟩ (.int .i64 x)).setCell ⟨a, q + 1, none⟩ (.int .i64 y)) a b r n (putW ws i v) := by
 obtain ⟨cs, h1, h2, h3, h4⟩ := h.head
 have ha := (k.block a h.alt h.nb h.nb h.nr).trans h1
 refine ⟨h.nb, h.nr, ⟨_, set_head (set_head ha), by simp [h2], ?_, fun j hj => ?_⟩, ?_, fun j hj => ?_, h.one, h.most⟩
 ·simpa [Array.getElem?_setIfInBounds] using h3
 ·have hc := cnt_put ws j n i v hi
  have h5 := h4 j hj
  rw [hs, hq] at hc
  rw [Array.getElem?_setIfInBounds, Array.getElem?_setIfInBounds]
  by_cases e1 : q = j
  ·subst e1
   have : ¬ (s : Int) = (q : Int) := by omega
   simp [this] at hc
   simp [h2, hj, hy, hc]
  ·by_cases e2 : s = j
   ·subst e2
    have : ¬ (q : Int) = (s : Int) := by omega
    simp [this] at hc
    simp [h2, hx, e1]
    omega
   ·have g1 : ¬ (s : Int) = (j : Int) := by omega
    have g2 : ¬ (q : Int) = (j : Int) := by omega
    simp [g1, g2] at hc
    simp [e1, e2, hc, h5]
 ·exact m.of_blocks (by rw [Below.heap_setCell _ _ _ _ h.nb.symm, Below.heap_setCell _ _ _ _ h.nb.symm]) (by rw [Below.heap_setCell _ _ _ _ h.nr.symm, Below.heap_setCell _ _ _ _ h.nr.symm])
 ·by_cases e : j = i
  ·subst e; rw [putW_same]; omega
  ·rw [putW_other _ _ _ _ e]; exact h.ok j hj
end Go.Proofs.YtjnpmipbkiambaaGreatDoor.Ta
namespace Go.Proofs.YtjnpmipbkiambaaGreatDoor.Ta
set_option maxRecDepth 100000
open Go.RowKit
set_option linter.unusedVariables false
abbrev WAt := WMem 257 29
theorem infoU64 : (Tryz.prog.info? 29).map (fun i => (i.zero, i.size, i.bytes)) = some (some (.int .u64 0), 1, 8) := by kernel_rfl
theorem mnew_at (w : World) (n : Nat) (hn : n ≤ 4096) :
  WAt ((w.alloc (.cells (madeCells #[.int .u64 0] n) 29)).alloc (.cells #[.slice (some ⟨w.heap.size, 0, none⟩) n n, .int .u64 0, .int .u64 0, .int .i64 0, .int .i64 0] 257)) (w.heap.size + 1) w.heap.size n (fun _ => 0) := by
 refine ⟨by omega, ⟨0, 0, 0, 0, ?_⟩, (World.rowIs_made w (.int .u64 0) n 29).alloc _, fun i hi => by simp, hn⟩
 have := heap_alloc_new (w.alloc (.cells (madeCells #[.int .u64 0] n) 29)) (.cells #[.slice (some ⟨w.heap.size, 0, none⟩) n n, .int .u64 0, .int .u64 0, .int .i64 0, .int .i64 0] 257)
 simpa using this
theorem mnew_in (n : Nat) (w : World) (h1 : 1 ≤ n) (h2 : n ≤ 4096) :
  Calls Tryz.prog 103 #[.int .i64 n] w fun e w' => e = .returned (.tuple #[.pointer (some ⟨w.heap.size + 1, 0, none⟩), .int .i64 0]) ∧
   WAt w' (w.heap.size + 1) w.heap.size n (fun _ => 0) ∧ Below w.heap.size w w' ∧ w'.heap.size = w.heap.size + 2 := by
 have g1 : ¬ (n : Int) < 1 := by omega
 have g2 : ¬ (4096 : Int) < (n : Int) := by omega
 have hmk := run_make_row' (P := Tryz.prog) 55 29 (.int .u64 0) 8 Tryz.underlying55 infoU64 rfl .i64 .i64 n (by omega) (by omega)
 have hat := mnew_at w n h2
 go_enter Tryz.func103, Tryz.ntmps103
 go_wp2_with fail
 go_ret2
 exact ⟨rfl, hat, ((Below.refl _ _).alloc (Nat.le_refl _) _).alloc (by simp) _, by simp⟩
theorem mreach_in (w : World) (b r n : Nat) (ws : Nat → Int) (i : Nat) (c : Int) (h : WAt w b r n ws) (hi : i < n) :
  Calls Tryz.prog 184 #[.pointer (some ⟨b, 0, none⟩), .int .i64 i, .int .i64 c] w fun e w' => e = .returned (.bool true) ∧ WAt w' b r n ws ∧ Kept b b r w w' := by
 have c0 := h.c0
 obtain ⟨s, q, l, k, c1, c2, c3, c4⟩ := h.cells
 have f1 := h.free 1
 have f3 := h.free 3
 have f4 := h.free 4
 have h0 : ¬ (i : Int) < 0 := by omega
 have h1 : ¬ (n : Int) ≤ (i : Int) := by omega
 have H : Hid (WAt w b r n ws) := h
 obtain ⟨X, hX⟩ : ∃ X, IntKind.u64.wrap (s + 1) = X := ⟨_, rfl⟩
 go_enter Tryz.func184, Tryz.ntmps184
 go_wp2_with fail
 go_ret
 exact ⟨rfl, ((H.out.u1 _).u3 _).u4 _, (((Kept.refl _ _ _ _).set _ _ (.inl rfl)).set _ _ (.inl rfl)).set _ _ (.inl rfl)⟩
theorem mload_in (w : World) (b r n : Nat) (ws : Nat → Int) (i : Nat) (h : WAt w b r n ws) (hi : i < n) :
  Calls Tryz.prog 113 #[.pointer (some ⟨b, 0, none⟩), .int .i64 i] w fun e w' => e = .returned (.int .u64 (ws i)) ∧ WAt w' b r n ws ∧ Kept b b r w w' := by
 have g1 : (i : Int) < (n : Int) := by omega
 go_enter Tryz.func113, Tryz.ntmps113
 go_wp2_with fail
 refine (mreach_in w b r n ws i 1 h hi).mono ?_
 rintro e w1 ⟨rfl, h1, hw⟩
 have c0 := h1.c0
 have cw := h1.word hi
 go_wp2_with fail
 go_ret
 exact ⟨rfl, h1, hw⟩
theorem mcas_lost (w : World) (b r n : Nat) (ws : Nat → Int) (i : Nat) (o v : Int) (h : WAt w b r n ws) (hi : i < n) (ho : ws i ≠ o) :
  Calls Tryz.prog 311 #[.pointer (some ⟨b, 0, none⟩), .int .i64 i, .int .u64 o, .int .u64 v] w fun e w' => e = .returned (.bool false) ∧ WAt w' b r n ws ∧ Kept b b r w w' := by
 have g1 : (i : Int) < (n : Int) := by omega
 have ho' : (ws i == o) = false := by simpa using ho
 go_enter Tryz.func311, Tryz.ntmps311
 go_wp2_with fail
 refine (mreach_in w b r n ws i 3 h hi).mono ?_
 rintro e w1 ⟨rfl, h1, hw⟩
 have c0 := h1.c0
 have cw := h1.word hi
 go_wp2_with fail
 go_ret
 exact ⟨rfl, h1, hw⟩
theorem mcas_won (w : World) (b r n : Nat) (ws : Nat → Int) (i : Nat) (o v : Int) (h : WAt w b r n ws) (hi : i < n) (ho : ws i = o) (v0 : 0 ≤ v) (v1 : v < 18446744073709551616) :
  Calls Tryz.prog 311 #[.pointer (some ⟨b, 0, none⟩), .int .i64 i, .int .u64 o, .int .u64 v] w fun e w' => e = .returned (.bool true) ∧ WAt w' b r n (putW ws i v) ∧ Kept b b r w w' := by
 have g1 : (i : Int) < (n : Int) := by omega
 go_enter Tryz.func311, Tryz.ntmps311
 go_wp2_with fail
 refine (mreach_in w b r n ws i 3 h hi).mono ?_
 rintro e w1 ⟨rfl, h1, hw⟩
 have c0 := h1.c0
 have cw : w1.cell? ⟨r, i, none⟩ = some (.int .u64 o) := by rw [← ho]; exact h1.word hi
 have fw := h1.free' i
 have h2 := h1.put i v v0 v1
 obtain ⟨s, q, l, k, c1, c2, c3, c4⟩ := h2.cells
 have f2 := h2.free 2
 clear ho c1 c3 c4
 have H : Hid _ := And.intro h2 hw
 clear h2 hw h h1
 go_wp2_with fail
 go_ret
 exact ⟨rfl, H.out.1.u2 _, (H.out.2.set _ _ (.inr (.inr rfl))).set _ _ (.inl rfl)⟩
theorem mlen_any (w : World) (b r n : Nat) (ws : Nat → Int) (h : WAt w b r n ws) :
  Calls Tryz.prog 258 #[.pointer (some ⟨b, 0, none⟩)] w fun e w' => e = .returned (.int .i64 n) ∧ w' = w := by
 have c1 := h.c0
 go_enter Tryz.func258, Tryz.ntmps258
 go_wp2_with fail
 go_ret
 exact ⟨rfl, rfl⟩
end Go.Proofs.YtjnpmipbkiambaaGreatDoor.Ta
namespace Go.Proofs.YtjnpmipbkiambaaGreatDoor.Ta
set_option maxRecDepth 100000
open Go.RowKit Go.WideMaps Go.Maps
def canB (a b : Int) : Bool := (a == 0 && (b == 1 || b == 2 || b == 6)) || (a == 1 && (b == 2 || b == 6)) || (a == 2 && (b == 3 || b == 6)) || (a == 3 && (b == 1 || b == 4 || b == 5))
theorem zeroUnit (w : World) : (zeroValue 362).run Tryz.prog w = .ok (.agg #[]) w := by kernel_rfl
theorem can_has {a b : Int} (wa : (Lit.int .i64 a).wf = true) (wb : (Lit.int .i64 b).wf = true) {D : DataW Unit} (hhas : ∀ kl, Maps.has D kl = true ↔ ∃ j ∈ places, pairKey (pairAt j).1 (pairAt j).2 = kl) : Maps.has D (pairKey a b) = canB a b := by
 have inj : ∀ x y : Int, (Lit.int .i64 x).wf = true → (Lit.int .i64 y).wf = true → (pairKey x y = pairKey a b ↔ x = a ∧ y = b) := by
  intro x y wx wy
  constructor
  ·intro h
   have h1 := key_pair wx wy
   rw [h] at h1
   have h2 := lawPair.inj h1 (key_pair wa wb)
   simpa using h2
  ·rintro ⟨rfl, rfl⟩; rfl
 rw [Bool.eq_iff_iff, hhas]
 simp only [places, List.mem_cons, List.not_mem_nil, or_false, exists_eq_or_imp, exists_eq_left, pairAt]
 rw [inj 0 1 (by decide) (by decide), inj 0 2 (by decide) (by decide), inj 0 6 (by decide) (by decide), inj 1 2 (by decide) (by decide), inj 1 6 (by decide) (by decide), inj 2 3 (by decide) (by decide), inj 2 6 (by decide) (by decide), inj 3 1 (by decide) (by decide), inj 3 4 (by decide) (by decide), inj 3 5 (by decide) (by decide)]
 simp only [canB, Bool.or_eq_true, Bool.and_eq_true, beq_iff_eq]
 omega
set_option maxRecDepth 100000 in
theorem can_any (a b : Int) (w : World) (wa : (Lit.int .i64 a).wf = true) (wb : (Lit.int .i64 b).wf = true) :
  Calls Tryz.prog 257 #[.int .i64 a, .int .i64 b] w fun e w' => e = .returned (.bool (canB a b)) ∧ Below w.heap.size w w' := by
 go_enter Tryz.func257, Tryz.ntmps257
 go_wp2_with fail
 refine (steps_any _).mono ?_
 rintro e w1 ⟨rfl, hb, D, hown, hhas⟩
 obtain ⟨v, ps, hrun, hv⟩ := hown.look_ok lawPair undSteps (zeroUnit _) unitElem_mk (key_pair wa wb)
 obtain rfl := (unitElem_inv hv).1
 rw [can_has wa wb hhas] at hrun
 clear hhas hv hown
 go_wp2_with fail
 go_ret
 exact ⟨rfl, hb.alloc hb.size _⟩
end Go.Proofs.YtjnpmipbkiambaaGreatDoor.Ta
namespace Go.Proofs.YtjnpmipbkiambaaGreatDoor.Ta
set_option maxRecDepth 100000
open Go
theorem and7_u64 (n : Int) (h0 : 0 ≤ n) (h1 : n < 18446744073709551616) : bits .and .u64 n 7 = n % 8 := by
 rw [u64_and n 7 h0 h1 (by decide) (by decide)]
 show ((n.toNat &&& 7 : Nat) : Int) = _
 rw [nat_mask3]
 omega
def packI (s v : Int) : Int := v % 2305843009213693952 * 8 + s % 8
theorem pack_or (s v : Int) :
  bits .or .u64 (IntKind.u64.wrap (v * 8)) (bits .and .u64 (IntKind.u64.wrap s) 7) = packI s v := by
 rw [IntKind.wrap_u64, IntKind.wrap_u64, and7_u64 _ (by omega) (by omega), u64_or _ _ (by omega) (by omega) (by omega) (by omega)]
 rw [nat_join 3 _ _ (by show _ % 8 = 0; omega) (by show _ < 8; omega)]
 unfold packI
 omega
theorem packI_bound (s v : Int) : 0 ≤ packI s v ∧ packI s v < 18446744073709551616 := by
 unfold packI; omega
theorem packI_state (s v : Int) : packI s v % 8 = s % 8 := by unfold packI; omega
end Go.Proofs.YtjnpmipbkiambaaGreatDoor.Ta
namespace Go.Proofs.YtjnpmipbkiambaaGreatDoor.Ta
set_option maxRecDepth 100000
open Go.RowKit
theorem ret_int {k : IntKind} {a b : Int} (h : a = b) : Ending.returned (.int k a) = .returned (.int k b) := by rw [h]
theorem ret_bool {a b : Bool} (h : a = b) : Ending.returned (.bool a) = .returned (.bool b) := by rw [h]
theorem pack_any (s v : Int) (w : World) :
  Calls Tryz.prog 339 #[.int .i64 s, .int .u64 v] w fun e w' => e = .returned (.int .u64 (packI s v)) ∧ w' = w := by
 go_enter Tryz.func339, Tryz.ntmps339
 go_wp2
 go_ret
 exact ⟨ret_int (pack_or s v), rfl⟩
theorem state_num (v : Int) (h0 : 0 ≤ v) (h1 : v < 18446744073709551616) : wrap64 (bits .and .u64 v 7) = v % 8 := by
 rw [and7_u64 v h0 h1]
 exact IntWalk.wrap64_in _ ⟨by omega, by omega⟩
theorem state_any (v : Int) (w : World) (h0 : 0 ≤ v) (h1 : v < 18446744073709551616) :
  Calls Tryz.prog 202 #[.int .u64 v] w fun e w' => e = .returned (.int .i64 (v % 8)) ∧ w' = w := by
 go_enter Tryz.func202, Tryz.ntmps202
 go_wp2
 go_ret
 exact ⟨ret_int (state_num v h0 h1), rfl⟩
theorem version_any (v : Int) (w : World) :
  Calls Tryz.prog 340 #[.int .u64 v] w fun e w' => e = .returned (.int .u64 (v / 8)) ∧ w' = w := by
 go_enter Tryz.func340, Tryz.ntmps340
 go_wp2
 go_ret
 exact ⟨rfl, rfl⟩
theorem next_any (v s : Int) (w : World) (h0 : 0 ≤ v) (h1 : v < 18446744073709551616) :
  Calls Tryz.prog 312 #[.int .u64 v, .int .i64 s] w fun e w' => e = .returned (.int .u64 (packI s (v / 8 + 1))) ∧ w' = w := by
 go_enter Tryz.func312, Tryz.ntmps312
 go_wp2_with fail
 refine (version_any _ _).mono ?_
 rintro e w1 ⟨rfl, rfl⟩
 go_wp2_with fail
 refine (pack_any _ _ _).mono ?_
 rintro e w2 ⟨rfl, rfl⟩
 go_wp2_with fail
 go_ret
 exact ⟨rfl, rfl⟩
end Go.Proofs.YtjnpmipbkiambaaGreatDoor.Ta
namespace Go.Proofs.YtjnpmipbkiambaaGreatDoor.Ta
set_option maxRecDepth 100000
open Go.RowKit
set_option linter.unusedVariables false
abbrev AAt := Arn 260 257 29
theorem Kept.up {a b r : Nat} {w w' : World} (h : Kept b b r w w') : Kept a b r w w' := ⟨h.os, h.tape, h.output, h.size, fun k h0 h1 h2 h3 => h.block k h0 h2 h2 h3⟩
theorem wf_i64 {x : Int} (h0 : -9223372036854775808 ≤ x) (h1 : x ≤ 9223372036854775807) : (Lit.int .i64 x).wf = true := by
 simp [Lit.wf, IntKind.min, IntKind.max, IntKind.bits, IntKind.signed]
 omega
theorem cnt_zero (s n : Nat) (hs : s < 7) : (cnt (fun _ => 0) s n : Int) = if s = 0 then (n : Int) else 0 := by
 by_cases e : s = 0
 ·subst e
  have : cnt (fun _ => 0) ((0 : Nat) : Int) n = n := cnt_all fun i hi => rfl
  rw [if_pos rfl, this]
 ·have : cnt (fun _ => 0) s n = 0 := cnt_none fun i hi => by
   show (0 : Int) % 8 ≠ s
   omega
  simp [e, this]
theorem new_at (w w1 : World) (n : Nat) (h1 : 1 ≤ n) (h2 : n ≤ 1000) (h : WAt w1 (w.heap.size + 1) w.heap.size n (fun _ => 0)) (z : w1.heap.size = w.heap.size + 2) :
  AAt (w1.alloc (.cells #[.pointer (some ⟨w.heap.size + 1, 0, none⟩), .int .i64 n, .int .i64 0, .int .i64 0, .int .i64 0, .int .i64 0, .int .i64 0, .int .i64 0] 260)) (w.heap.size + 2) (w.heap.size + 1) w.heap.size n (fun _ => 0) := by
 have hh := heap_alloc_new w1 (.cells #[.pointer (some ⟨w.heap.size + 1, 0, none⟩), .int .i64 n, .int .i64 0, .int .i64 0, .int .i64 0, .int .i64 0, .int .i64 0, .int .i64 0] 260)
 rw [z] at hh
 refine ⟨by omega, by omega, ⟨_, hh, rfl, rfl, fun s hs => ?_⟩, h.of_blocks (Below.heap_alloc _ _ _ h.blt) (Below.heap_alloc _ _ _ h.rlt), fun i hi => by simp, h1, h2⟩
 ·rw [cnt_zero s n hs]
  have : s = 0 ∨ s = 1 ∨ s = 2 ∨ s = 3 ∨ s = 4 ∨ s = 5 ∨ s = 6 := by omega
  rcases this with rfl | rfl | rfl | rfl | rfl | rfl | rfl <;> rfl
theorem new_in (n : Nat) (w : World) (h1 : 1 ≤ n) (h2 : n ≤ 1000) :
  Calls Tryz.prog 104 #[.int .i64 n] w fun e w' => e = .returned (.tuple #[.pointer (some ⟨w.heap.size + 2, 0, none⟩), .int .i64 0]) ∧
   AAt w' (w.heap.size + 2) (w.heap.size + 1) w.heap.size n (fun _ => 0) ∧ Below w.heap.size w w' ∧ w'.heap.size = w.heap.size + 3 := by
 have g1 : ¬ (n : Int) < 1 := by omega
 have g2 : ¬ (1000 : Int) < (n : Int) := by omega
 go_enter Tryz.func104, Tryz.ntmps104
 go_wp2_with fail
 refine (mnew_in n w h1 (by omega)).mono ?_
 rintro e w1 ⟨rfl, hm, hb, hz⟩
 have hA : Hid _ := new_at w w1 n h1 h2 hm hz
 have hB : Hid (Below w.heap.size w w1) := hb
 clear hm hb
 go_wp2_with fail
 go_ret2
 exact ⟨rfl, hA.out, hB.out.alloc (by omega) _, by simp [hz]⟩
theorem len_any (w : World) (a b r n : Nat) (ws : Nat → Int) (h : AAt w a b r n ws) :
  Calls Tryz.prog 180 #[.pointer (some ⟨a, 0, none⟩)] w fun e w' => e = .returned (.int .i64 n) ∧ w' = w := by
 have c0 := h.c0
 go_enter Tryz.func180, Tryz.ntmps180
 go_wp2_with fail
 refine (mlen_any w b r n ws h.mem).mono ?_
 rintro e w1 ⟨rfl, rfl⟩
 go_wp2_with fail
 go_ret
 exact ⟨rfl, rfl⟩
theorem has_in (w : World) (a b r n : Nat) (ws : Nat → Int) (h : AAt w a b r n ws) (x : Int) (x1 : 1 ≤ x) (x2 : x ≤ n) :
  Calls Tryz.prog 282 #[.pointer (some ⟨a, 0, none⟩), .int .i64 x] w fun e w' => e = .returned (.bool true) ∧ w' = w := by
 go_enter Tryz.func282, Tryz.ntmps282
 go_wp2_with fail
 refine (len_any w a b r n ws h).mono ?_
 rintro e w1 ⟨rfl, rfl⟩
 go_wp2_with fail
 go_ret
 exact ⟨rfl, rfl⟩
theorem word_in (w : World) (a b r n : Nat) (ws : Nat → Int) (h : AAt w a b r n ws) (i : Nat) (hi : i < n) :
  Calls Tryz.prog 197 #[.pointer (some ⟨a, 0, none⟩), .int .i64 ((i : Int) + 1)] w fun e w' => e = .returned (.int .u64 (ws i)) ∧ AAt w' a b r n ws ∧ Kept a b r w w' := by
 have c0 := h.c0
 have hn := h.most
 go_enter Tryz.func197, Tryz.ntmps197
 go_wp2_with fail
 refine (mload_in w b r n ws i h.mem hi).mono ?_
 rintro e w1 ⟨rfl, h1, k1⟩
 have H : Hid _ := And.intro (h.of_mem (b' := 0) (r' := 0) h1 k1) (k1.up (a := a))
 clear h1 k1
 go_wp2_with fail
 go_ret
 exact ⟨rfl, H.out⟩
theorem state_in (w : World) (a b r n : Nat) (ws : Nat → Int) (h : AAt w a b r n ws) (i : Nat) (hi : i < n) :
  Calls Tryz.prog 140 #[.pointer (some ⟨a, 0, none⟩), .int .i64 ((i : Int) + 1)] w fun e w' => e = .returned (.int .i64 (ws i % 8)) ∧ AAt w' a b r n ws ∧ Kept a b r w w' := by
 have F := h.fits i hi
 go_enter Tryz.func140, Tryz.ntmps140
 go_wp2_with fail
 refine (word_in w a b r n ws h i hi).mono ?_
 rintro e w1 ⟨rfl, h1, k1⟩
 go_wp2_with fail
 refine (state_any _ _ F.1 F.2).mono ?_
 rintro e w2 ⟨rfl, rfl⟩
 go_wp2_with fail
 go_ret
 exact ⟨rfl, h1, k1⟩
end Go.Proofs.YtjnpmipbkiambaaGreatDoor.Ta
namespace Go.Proofs.YtjnpmipbkiambaaGreatDoor.Ta
set_option maxRecDepth 100000
open Go.RowKit
set_option linter.unusedVariables false
set_option maxRecDepth 100000 in
theorem change_lost (w : World) (a b r n : Nat) (ws : Nat → Int) (h : AAt w a b r n ws) (i : Nat) (hi : i < n) (o : Int) (q : Nat) (o0 : 0 ≤ o) (o1 : o < 18446744073709551616) (ho : ws i ≠ o) :
  Calls Tryz.prog 260 #[.pointer (some ⟨a, 0, none⟩), .int .i64 ((i : Int) + 1), .int .u64 o, .int .i64 q] w fun e w' => e = .returned (.bool false) ∧ AAt w' a b r n ws ∧ Kept a b r w w' := by
 have c0 := h.c0
 have hn := h.most
 have H : Hid (AAt w a b r n ws) := h
 have ho' : Hid (ws i ≠ o) := ho
 clear h ho
 have hw1 : IntKind.i64.wrap (i : Int) = (i : Int) := by rw [IntKind.wrap_i64]; omega
 have KC : Hid (∀ v : World, Kept b b r w.drew v → v.cell? ⟨a, 0, none⟩ = some (.pointer (some ⟨b, 0, none⟩))) := fun v k => (k.cell (p := ⟨a, 0, none⟩) H.out.alt H.out.nb H.out.nb H.out.nr).trans c0
 go_enter Tryz.func260, Tryz.ntmps260
 go_wp2_with fail
 go_region_held3 (fun w' => w'.cell? ⟨a, 0, none⟩ = some (.pointer (some ⟨b, 0, none⟩))) (go_keep) ((first | (go_at_call 312; refine (next_any o q _ o0 o1).mono ?_; rintro e v ⟨rfl, rfl⟩) | (go_at_call 311; refine (mcas_lost _ b r n ws i o _ H.out.mem.drew hi ho'.out).mono ?_; rintro e v1 ⟨rfl, h1, k1⟩; have x0 := KC.out v1 k1)))
 go_wp2_with fail
 go_ret
 exact ⟨rfl, H.out.drew.of_mem (b' := 0) (r' := 0) h1 k1, (Kept.refl _ _ _ _).drew.trans k1.up⟩
set_option maxRecDepth 100000 in
theorem change_won (w : World) (a b r n : Nat) (ws : Nat → Int) (h : AAt w a b r n ws) (i : Nat) (hi : i < n) (o : Int) (q : Nat) (ho : ws i = o) (hq : q < 7) (hne : o % 8 ≠ q) :
  Calls Tryz.prog 260 #[.pointer (some ⟨a, 0, none⟩), .int .i64 ((i : Int) + 1), .int .u64 o, .int .i64 q] w fun e w' => e = .returned (.bool true) ∧ AAt w' a b r n (putW ws i (packI q (o / 8 + 1))) ∧ Kept a b r w w' := by
 have c0 := h.c0
 have hn := h.most
 obtain ⟨o0, o1⟩ := h.fits i hi
 have ok := h.ok i hi
 rw [ho] at o0 o1 ok
 obtain ⟨s, hs, hs7⟩ : ∃ s : Nat, o % 8 = s ∧ s < 7 := ⟨(o % 8).toNat, by omega, by omega⟩
 have hsq : s ≠ q := by omega
 obtain ⟨V, hV, V0, V1, V8⟩ : ∃ V, packI q (o / 8 + 1) = V ∧ 0 ≤ V ∧ V < 18446744073709551616 ∧ V % 8 = q := ⟨_, rfl, (packI_bound _ _).1, (packI_bound _ _).2, by rw [packI_state]; omega⟩
 rw [hV]
 have H : Hid (AAt w a b r n ws) := h
 have ho' : Hid (ws i = o) := ho
 have hV' : Hid (packI q (o / 8 + 1) = V) := hV
 have hs8 : Hid (ws i % 8 = s) := by show ws i % 8 = s; rw [ho]; exact hs
 have C1 : Hid (0 < cnt ws s n) := cnt_pos hi hs8.out
 have C2 : Hid (cnt ws q n ≤ n) := cnt_le _ _ _
 have C3 : Hid (cnt ws s n ≤ n) := cnt_le _ _ _
 have hsI : (s : Int) < 7 := by omega
 have hqI : (q : Int) < 7 := by omega
 clear h ho hV hne ok
 have hw1 : IntKind.i64.wrap (i : Int) = (i : Int) := by rw [IntKind.wrap_i64]; omega
 have KC : Hid (∀ v : World, Kept b b r w.drew v → v.cell? ⟨a, 0, none⟩ = some (.pointer (some ⟨b, 0, none⟩))) := fun v k => (k.cell (p := ⟨a, 0, none⟩) H.out.alt H.out.nb H.out.nb H.out.nr).trans c0
 go_enter Tryz.func260, Tryz.ntmps260
 go_wp2_with fail
 go_region_held3 (fun w' => w'.cell? ⟨a, 0, none⟩ = some (.pointer (some ⟨b, 0, none⟩))) (go_keep) ((first | (go_at_call 312; refine (next_any o q _ o0 o1).mono ?_; rintro e v ⟨rfl, rfl⟩; rw [hV'.out]) | (go_at_call 311; refine (mcas_won _ b r n ws i o V H.out.mem.drew hi ho'.out V0 V1).mono ?_; rintro e v1 ⟨rfl, h1, k1⟩; have x0 := KC.out v1 k1)))
 have K : Hid _ := And.intro h1 k1
 have d1 : v1.cell? ⟨a, 1 + s, none⟩ = some (.int .i64 (cnt ws s n)) := (k1.cell (p := ⟨a, 1 + s, none⟩) H.out.alt H.out.nb H.out.nb H.out.nr).trans (H.out.cs' s hs7)
 have d2 : v1.cell? ⟨a, 1 + q, none⟩ = some (.int .i64 (cnt ws q n)) := (k1.cell (p := ⟨a, 1 + q, none⟩) H.out.alt H.out.nb H.out.nb H.out.nr).trans (H.out.cs' q hq)
 have fz : ∀ j, v1.frozen? ⟨a, j, none⟩ = false := fun j => (k1.frozen (p := ⟨a, j, none⟩) H.out.alt H.out.nb H.out.nb H.out.nr).trans (H.out.free j)
 clear h1 k1 c0 x0
 obtain ⟨X, hX, hX'⟩ : ∃ X, IntKind.i64.wrap ((cnt ws s n : Int) - 1) = X ∧ X = (cnt ws s n : Int) - 1 := ⟨_, rfl, by rw [IntKind.wrap_i64]; have := C1.out; have := C3.out; omega⟩
 obtain ⟨Y, hY, hY'⟩ : ∃ Y, IntKind.i64.wrap ((cnt ws q n : Int) + 1) = Y ∧ Y = (cnt ws q n : Int) + 1 := ⟨_, rfl, by rw [IntKind.wrap_i64]; have := C2.out; omega⟩
 have hXY : Hid (X = (cnt ws s n : Int) - 1 ∧ Y = (cnt ws q n : Int) + 1) := ⟨hX', hY'⟩
 have e2 : (v1.setCell ⟨a, 1 + s, none⟩ (.int .i64 X)).cell? ⟨a, 1 + q, none⟩ = some (.int .i64 (cnt ws q n)) := by
  rw [World.cell?_setCell_other (h := by intro h; injection h with h1 h2; omega)]; exact d2
 have hA : Hid (AAt ((v1.setCell ⟨a, 1 + s, none⟩ (.int .i64 X)).setCell ⟨a, 1 + q, none⟩ (.int .i64 Y)) a b r n (putW ws i V)) := by
  show AAt _ a b r n (putW ws i V)
  rw [Nat.add_comm 1 s, Nat.add_comm 1 q]
  exact H.out.drew.turned hi hs8.out V8 hs7 hq hsq K.out.1 K.out.2 X Y hX' hY'
 clear hX' hY'
 go_wp2_with fail
 go_region_with ((go_at_call 202; refine (state_any o _ o0 o1).mono ?_; rw [hs]; rintro e v ⟨rfl, rfl⟩))
 go_wp2_with fail
 go_region
 go_wp2_with fail
 go_ret
 exact ⟨rfl, hA.out.of_blocks rfl rfl rfl, ((((((Kept.refl _ _ _ _).drew.trans K.out.2.up).set _ _ (.inl rfl)).drew).set _ _ (.inl rfl)).drew)⟩
theorem least_some (w : World) (a b r n : Nat) (ws : Nat → Int) (h : AAt w a b r n ws) (i : Nat) (hi : i < n) (h0 : ws i % 8 = 0) (hl : ∀ j, j < i → ws j % 8 ≠ 0) :
  Calls Tryz.prog 259 #[.pointer (some ⟨a, 0, none⟩)] w fun e w' => e = .returned (.int .i64 ((i : Int) + 1)) ∧ AAt w' a b r n ws ∧ Kept a b r w w' := by
 have c1 := h.cs 0 (by omega)
 obtain ⟨C, hC, hC0, hC1⟩ : ∃ C : Nat, cnt ws ((0 : Nat) : Int) n = C ∧ 0 < C ∧ C ≤ n := ⟨_, rfl, cnt_pos hi h0, cnt_le _ _ _⟩
 rw [hC] at c1
 have hn := h.most
 have hC2 : ((C : Int) == 0) = false := by simp; omega
 have H : Hid (AAt w a b r n ws) := h
 have HL : Hid (ws i % 8 = 0 ∧ ∀ j, j < i → ws j % 8 ≠ 0) := ⟨h0, hl⟩
 clear h h0 hl hC
 go_enter Tryz.func259, Tryz.ntmps259
 go_wp2_with fail
 go_loopw [3] (fun x wr => ∃ k : Nat, k ≤ i ∧ x = .int .i64 ((k : Int) + 1) ∧ AAt wr a b r n ws ∧ Kept a b r w wr)
  (fun x _ => (n + 1 : Nat) - (intOf x).toNat)
 case atStart => exact ⟨0, by omega, rfl, H.out, Kept.refl _ _ _ _⟩
 case round =>
  obtain ⟨k, hk, rfl, hA, hK⟩ := hrel
  have k1 : (k : Int) + 1 ≤ (n : Int) := by omega
  clear c1
  go_wp2_with fail
  refine (len_any wr a b r n ws hA).mono ?_
  rintro e w1 ⟨rfl, rfl⟩
  go_wp2_with fail
  refine (state_in _ a b r n ws hA k (by omega)).mono ?_
  rintro e w2 ⟨rfl, hA2, hK2⟩
  by_cases e : k = i
  ·subst e
   rw [HL.out.1]
   go_wp2_with fail
   go_ret
   exact ⟨rfl, hA2, hK.trans hK2⟩
  ·have e2 : (ws k % 8 == 0) = false := by simpa using HL.out.2 k (by omega)
   obtain ⟨S, hS⟩ : ∃ S, ws k % 8 = S := ⟨_, rfl⟩
   rw [hS] at e2 ⊢
   go_wp2_with fail
   go_roundw
   case rel => exact ⟨k + 1, by omega, by go_num, hA2, hK.trans hK2⟩
   case measure => simp [intOf]; omega
theorem can_range {x s : Int} (h : canB x s = true) : ∃ q : Nat, s = q ∧ q < 7 ∧ x ≠ q ∧ 1 ≤ q ∧ x % 8 = x := by
 simp only [canB, Bool.or_eq_true, Bool.and_eq_true, beq_iff_eq] at h
 exact ⟨s.toNat, by omega, by omega, by omega, by omega, by omega⟩
theorem alloc_ok (w : World) (a b r n : Nat) (ws : Nat → Int) (h : AAt w a b r n ws) (s : Int) (hs : canB 0 s = true) (i : Nat) (hi : i < n) (h0 : ws i % 8 = 0) (hl : ∀ j, j < i → ws j % 8 ≠ 0) :
  Calls Tryz.prog 182 #[.pointer (some ⟨a, 0, none⟩), .int .i64 s] w fun e w' => e = .returned (.tuple #[.int .i64 ((i : Int) + 1), .int .i64 0]) ∧ AAt w' a b r n (putW ws i (packI s (ws i / 8 + 1))) ∧ Kept a b r w w' := by
 obtain ⟨q, rfl, hq, hne, _, _⟩ := can_range hs
 have HL : Hid (ws i % 8 = 0 ∧ ∀ j, j < i → ws j % 8 ≠ 0) := ⟨h0, hl⟩
 clear h0 hl
 have hi0 : (((i : Int) + 1) == 0) = false := by simp; omega
 have hn := h.most
 go_enter Tryz.func182, Tryz.ntmps182
 go_wp2_with fail
 refine (can_any 0 q _ (by decide) (wf_i64 (by omega) (by omega))).mono ?_
 rw [hs]
 rintro e w1 ⟨rfl, hb⟩
 go_wp2_with fail
 refine (least_some w1 a b r n ws (h.grew hb) i hi HL.out.1 HL.out.2).mono ?_
 rintro e w2 ⟨rfl, h2, k2⟩
 go_wp2_with fail
 refine (word_in w2 a b r n ws h2 i hi).mono ?_
 rintro e w3 ⟨rfl, h3, k3⟩
 go_wp2_with fail
 refine (change_won w3 a b r n ws h3 i hi (ws i) q rfl hq (by rw [HL.out.1]; omega)).mono ?_
 rintro e w4 ⟨rfl, h4, k4⟩
 go_wp2_with fail
 go_ret2
 exact ⟨rfl, h4, (((Kept.of_below hb).trans k2).trans k3).trans k4⟩
theorem turn_late (w : World) (a b r n : Nat) (ws : Nat → Int) (h : AAt w a b r n ws) (i : Nat) (hi : i < n) (o s : Int) (o0 : 0 ≤ o) (o1 : o < 18446744073709551616) (hc : canB (o % 8) s = true) (ho : ws i ≠ o) :
  Calls Tryz.prog 196 #[.pointer (some ⟨a, 0, none⟩), .int .i64 ((i : Int) + 1), .int .u64 o, .int .i64 s] w fun e w' => e = .returned (.tuple #[.int .u64 0, .int .i64 8]) ∧ AAt w' a b r n ws ∧ Kept a b r w w' := by
 obtain ⟨q, rfl, hq, hne, q1, _⟩ := can_range hc
 have t1 : ¬ (q : Int) ≤ 0 := by omega
 have t2 : ¬ (7 : Int) ≤ (q : Int) := by omega
 have HO : Hid (ws i ≠ o) := ho
 obtain ⟨T, hT, T0, T1⟩ : ∃ T, o % 8 = T ∧ 0 ≤ T ∧ T < 8 := ⟨_, rfl, by omega, by omega⟩
 rw [hT] at hc
 clear ho hne
 go_enter Tryz.func196, Tryz.ntmps196
 go_wp2_with fail
 refine (has_in w a b r n ws h _ (by omega) (by omega)).mono ?_
 rintro e w1 ⟨rfl, rfl⟩
 go_wp2_with fail
 refine (state_any o _ o0 o1).mono ?_
 rw [hT]
 rintro e w2 ⟨rfl, rfl⟩
 go_wp2_with fail
 refine (can_any T q _ (wf_i64 (by omega) (by omega)) (wf_i64 (by omega) (by omega))).mono ?_
 rw [hc]
 rintro e w3 ⟨rfl, hb⟩
 go_wp2_with fail
 refine (change_lost w3 a b r n ws (h.grew hb) i hi o q o0 o1 HO.out).mono ?_
 rintro e w4 ⟨rfl, h4, k4⟩
 go_wp2_with fail
 go_ret2
 exact ⟨rfl, h4, (Kept.of_below hb).trans k4⟩
theorem turn_ok (w : World) (a b r n : Nat) (ws : Nat → Int) (h : AAt w a b r n ws) (i : Nat) (hi : i < n) (o s : Int) (hc : canB (o % 8) s = true) (ho : ws i = o) :
  Calls Tryz.prog 196 #[.pointer (some ⟨a, 0, none⟩), .int .i64 ((i : Int) + 1), .int .u64 o, .int .i64 s] w fun e w' => e = .returned (.tuple #[.int .u64 (packI s (o / 8 + 1)), .int .i64 0]) ∧ AAt w' a b r n (putW ws i (packI s (o / 8 + 1))) ∧ Kept a b r w w' := by
 obtain ⟨q, rfl, hq, hne, q1, _⟩ := can_range hc
 obtain ⟨o0, o1⟩ := h.fits i hi
 rw [ho] at o0 o1
 have t1 : ¬ (q : Int) ≤ 0 := by omega
 have t2 : ¬ (7 : Int) ≤ (q : Int) := by omega
 have HO : Hid (ws i = o ∧ o % 8 ≠ q) := ⟨ho, hne⟩
 obtain ⟨T, hT, T0, T1⟩ : ∃ T, o % 8 = T ∧ 0 ≤ T ∧ T < 8 := ⟨_, rfl, by omega, by omega⟩
 rw [hT] at hc
 clear ho hne
 obtain ⟨V, hV⟩ : ∃ V, packI q (o / 8 + 1) = V := ⟨_, rfl⟩
 rw [hV]
 have HV : Hid (packI q (o / 8 + 1) = V) := hV
 clear hV
 go_enter Tryz.func196, Tryz.ntmps196
 go_wp2_with fail
 refine (has_in w a b r n ws h _ (by omega) (by omega)).mono ?_
 rintro e w1 ⟨rfl, rfl⟩
 go_wp2_with fail
 refine (state_any o _ o0 o1).mono ?_
 rw [hT]
 rintro e w2 ⟨rfl, rfl⟩
 go_wp2_with fail
 refine (can_any T q _ (wf_i64 (by omega) (by omega)) (wf_i64 (by omega) (by omega))).mono ?_
 rw [hc]
 rintro e w3 ⟨rfl, hb⟩
 go_wp2_with fail
 refine (change_won w3 a b r n ws (h.grew hb) i hi o q HO.out.1 hq HO.out.2).mono ?_
 rw [HV.out]
 rintro e w4 ⟨rfl, h4, k4⟩
 go_wp2_with fail
 refine (word_in w4 a b r n _ h4 i hi).mono ?_
 rw [putW_same]
 rintro e w5 ⟨rfl, h5, k5⟩
 go_wp2_with fail
 go_ret2
 exact ⟨rfl, h5, ((Kept.of_below hb).trans k4).trans k5⟩
end Go.Proofs.YtjnpmipbkiambaaGreatDoor.Ta
namespace Go.Proofs.YtjnpmipbkiambaaGreatDoor.Ta
set_option maxRecDepth 100000
open Go.RowKit Go.Lib Go.WideMaps Go.Maps
set_option linter.unusedVariables false
structure Tab (w : World) (B a b r M n : Nat) (v : Value) (T : List TR) (ws : Nat → Int) (fc : Int × Int → Option Value) : Prop where
 head : w.heap[B]? = some (.cells #[.pointer (some ⟨a, 0, none⟩), v, .map (some M)] 184 (0, 0))
 own : OwnG rT w 0 v T
 arn : AAt w a b r n ws
 map : ∃ N, MapG keyP w M fc N
def tf (B a b r M : Nat) (v : Value) (k : Nat) : Prop := k = B ∨ k = a ∨ k = b ∨ k = r ∨ k = M ∨ v.ownBlock = some k
theorem un_cells {w : World} {i j : Nat} {c c' : Array Value} {t t' : TypeId} {z z' : Nat × Nat} (h : w.heap[i]? = some (.cells c t z)) (h' : w.heap[j]? = some (.cells c' t' z')) (ht : t ≠ t') : i ≠ j := fun e => by
 subst e
 rw [h] at h'
 simp only [Option.some.injEq, Obj.cells.injEq] at h'
 exact ht h'.2.1
theorem un_map {w : World} {i j : Nat} {c : Array Value} {t : TypeId} {z : Nat × Nat} {es : Array MapEntry} {q : Nat} (h : w.heap[i]? = some (.cells c t z)) (h' : w.heap[j]? = some (.map es q)) : i ≠ j := fun e => by
 subst e
 rw [h] at h'
 cases h'
variable {w w' : World} {B a b r M n : Nat} {v v' : Value} {T T' : List TR} {ws ws' : Nat → Int} {fc fc' : Int × Int → Option Value}
theorem Tab.ha (h : Tab w B a b r M n v T ws fc) : ∃ cs, w.heap[a]? = some (.cells cs 260 (0, 0)) := by
 obtain ⟨cs, h1, _⟩ := h.arn.head
 exact ⟨cs, h1⟩
theorem Tab.hb (h : Tab w B a b r M n v T ws fc) : ∃ cs, w.heap[b]? = some (.cells cs 257 (0, 0)) := by
 obtain ⟨_, _, _, _, hh⟩ := h.arn.mem.head
 exact ⟨_, hh⟩
theorem Tab.hr (h : Tab w B a b r M n v T ws fc) : ∃ cs, w.heap[r]? = some (.cells cs 29 (0, 0)) := by
 obtain ⟨cs, hh, _⟩ := h.arn.mem.row
 exact ⟨cs, hh⟩
theorem Tab.hM (h : Tab w B a b r M n v T ws fc) : ∃ es q, w.heap[M]? = some (.map es q) := by
 obtain ⟨N, hN⟩ := h.map
 exact hN.isMap
theorem Tab.hg (h : Tab w B a b r M n v T ws fc) {g : Nat} (hg : v.ownBlock = some g) : ∃ cs, w.heap[g]? = some (.cells cs 220 (0, 0)) := h.own.rowT hg
theorem Tab.tfLt (h : Tab w B a b r M n v T ws fc) {k : Nat} (hk : tf B a b r M v k) : k < w.heap.size := by
 rcases hk with rfl | rfl | rfl | rfl | rfl | hk
 ·exact lt_of_block h.head
 ·exact h.arn.alt
 ·exact h.arn.mem.blt
 ·exact h.arn.mem.rlt
 ·obtain ⟨N, hN⟩ := h.map; exact hN.lt
 ·exact (h.own.rowLt hk).2
theorem Tab.fr (h : Tab w B a b r M n v T ws fc) {X : Nat → Prop} (hf : Fr X w w') (hx : ∀ k, tf B a b r M v k → ¬ X k) : Tab w' B a b r M n v T ws fc := by
 have key : ∀ k, tf B a b r M v k → w'.heap[k]? = w.heap[k]? := fun k hk => hf.block k (h.tfLt hk) (hx k hk)
 refine ⟨(key B (.inl rfl)).trans h.head, h.own.of_block (fun k hk => key k (.inr (.inr (.inr (.inr (.inr hk)))))), h.arn.of_blocks (key a (.inr (.inl rfl))) (key b (.inr (.inr (.inl rfl)))) (key r (.inr (.inr (.inr (.inl rfl))))), ?_⟩
 obtain ⟨N, hN⟩ := h.map
 exact ⟨N, hN.of_block (key M (.inr (.inr (.inr (.inr (.inl rfl))))))⟩
theorem Tab.below (h : Tab w B a b r M n v T ws fc) (hw : Below w.heap.size w w') : Tab w' B a b r M n v T ws fc := h.fr (Fr.below (X := fun _ => False) hw) (fun _ _ => id)
theorem Tab.drew (h : Tab w B a b r M n v T ws fc) : Tab w.drew B a b r M n v T ws fc := h.fr (Fr.refl (fun _ => False) w).drew (fun _ _ => id)
theorem Fr.kept {a b r : Nat} {w w' : World} (h : Kept a b r w w') : Fr (fun k => k = a ∨ k = b ∨ k = r) w w' := ⟨h.os, h.tape, h.output, h.size, fun k hk hx => h.block k hk (fun e => hx (.inl e)) (fun e => hx (.inr (.inl e))) (fun e => hx (.inr (.inr e)))⟩
theorem Tab.setA (h : Tab w B a b r M n v T ws fc) (hk : Kept a b r w w') (ha : AAt w' a b r n ws') : Tab w' B a b r M n v T ws' fc := by
 obtain ⟨ca, ha'⟩ := h.ha
 obtain ⟨cb, hb'⟩ := h.hb
 obtain ⟨cr, hr'⟩ := h.hr
 obtain ⟨es, q, hM'⟩ := h.hM
 have f := Fr.kept hk
 refine ⟨(f.block B (lt_of_block h.head) ?_).trans h.head, h.own.of_block fun k hk' => f.block k (h.own.rowLt hk').2 ?_, ha, ?_⟩
 ·rintro (e | e | e)
  ·exact un_cells h.head ha' (by decide) e
  ·exact un_cells h.head hb' (by decide) e
  ·exact un_cells h.head hr' (by decide) e
 ·obtain ⟨cg, hg⟩ := h.hg hk'
  rintro (e | e | e)
  ·exact un_cells hg ha' (by decide) e
  ·exact un_cells hg hb' (by decide) e
  ·exact un_cells hg hr' (by decide) e
 ·obtain ⟨N, hN⟩ := h.map
  refine ⟨N, hN.of_block (f.block M hN.lt ?_)⟩
  rintro (e | e | e)
  ·exact un_map ha' hM' e.symm
  ·exact un_map hb' hM' e.symm
  ·exact un_map hr' hM' e.symm
theorem Tab.setM (h : Tab w B a b r M n v T ws fc) (hg : w.grownBy w' (some M)) {N : Nat} (hm : MapG keyP w' M fc' N) : Tab w' B a b r M n v T ws fc' := by
 obtain ⟨ca, ha'⟩ := h.ha
 obtain ⟨cb, hb'⟩ := h.hb
 obtain ⟨cr, hr'⟩ := h.hr
 obtain ⟨es, q, hM'⟩ := h.hM
 have key : ∀ k, k < w.heap.size → k ≠ M → w'.heap[k]? = w.heap[k]? := fun k hk hn => hg.block k hk (fun e => hn (by injection e))
 refine ⟨(key B (lt_of_block h.head) (un_map h.head hM')).trans h.head, h.own.of_block fun k hk' => key k (h.own.rowLt hk').2 ?_, h.arn.of_blocks (key a h.arn.alt (un_map ha' hM')) (key b h.arn.mem.blt (un_map hb' hM')) (key r h.arn.mem.rlt (un_map hr' hM')), ⟨N, hm⟩⟩
 obtain ⟨cg, hg'⟩ := h.hg hk'
 exact un_map hg' hM'
theorem Tab.setT (h : Tab w B a b r M n v T ws fc) (hf : Fr (fun k => v.ownBlock = some k) w w') (ho : OwnG rT w' 0 v T') : Tab w' B a b r M n v T' ws fc := by
 obtain ⟨ca, ha'⟩ := h.ha
 obtain ⟨cb, hb'⟩ := h.hb
 obtain ⟨cr, hr'⟩ := h.hr
 obtain ⟨es, q, hM'⟩ := h.hM
 refine ⟨(hf.block B (lt_of_block h.head) fun e => ?_).trans h.head, ho, h.arn.of_blocks (hf.block a h.arn.alt fun e => ?_) (hf.block b h.arn.mem.blt fun e => ?_) (hf.block r h.arn.mem.rlt fun e => ?_), ?_⟩
 ·obtain ⟨cg, hg⟩ := h.hg e
  exact un_cells h.head hg (by decide) rfl
 ·obtain ⟨cg, hg⟩ := h.hg e
  exact un_cells ha' hg (by decide) rfl
 ·obtain ⟨cg, hg⟩ := h.hg e
  exact un_cells hb' hg (by decide) rfl
 ·obtain ⟨cg, hg⟩ := h.hg e
  exact un_cells hr' hg (by decide) rfl
 ·obtain ⟨N, hN⟩ := h.map
  refine ⟨N, hN.of_block (hf.block M hN.lt fun e => ?_)⟩
  obtain ⟨cg, hg⟩ := h.hg e
  exact un_map hg hM' rfl
theorem Tab.grow (h : Tab w B a b r M n v T ws fc) (hf : Fr (fun k => v.ownBlock = some k) w w') (ho : OwnG rT w' 0 v' T') : Tab (w'.setCell ⟨B, 1, none⟩ v') B a b r M n v' T' ws fc := by
 obtain ⟨ca, ha'⟩ := h.ha
 obtain ⟨cb, hb'⟩ := h.hb
 obtain ⟨cr, hr'⟩ := h.hr
 obtain ⟨es, q, hM'⟩ := h.hM
 obtain ⟨N, hN⟩ := h.map
 have eB := (hf.block B (lt_of_block h.head) fun e => by
  obtain ⟨cg, hg⟩ := h.hg e
  exact un_cells h.head hg (by decide) rfl).trans h.head
 have ea := (hf.block a h.arn.alt fun e => by
  obtain ⟨cg, hg⟩ := h.hg e
  exact un_cells ha' hg (by decide) rfl)
 have eb := (hf.block b h.arn.mem.blt fun e => by
  obtain ⟨cg, hg⟩ := h.hg e
  exact un_cells hb' hg (by decide) rfl)
 have er := (hf.block r h.arn.mem.rlt fun e => by
  obtain ⟨cg, hg⟩ := h.hg e
  exact un_cells hr' hg (by decide) rfl)
 have eM := (hf.block M hN.lt fun e => by
  obtain ⟨cg, hg⟩ := h.hg e
  exact un_map hg hM' rfl)
 have hs := Fr.setCell (fun k => k = B) w' B 1 v' rfl
 have A' := h.arn.of_blocks ea eb er
 refine ⟨by rw [set_head eB]; rfl, ho.of_block fun k hk => hs.block k (ho.rowLt hk).2 fun e => ?_, A'.of_blocks (hs.block a A'.alt fun e => ?_) (hs.block b A'.mem.blt fun e => ?_) (hs.block r A'.mem.rlt fun e => ?_), ⟨N, (hN.of_block eM).of_block (hs.block M (hN.of_block eM).lt fun e => ?_)⟩⟩
 ·obtain ⟨cg, hg⟩ := ho.rowT hk
  exact un_cells eB hg (by decide) e.symm
 ·exact un_cells h.head ha' (by decide) e.symm
 ·exact un_cells h.head hb' (by decide) e.symm
 ·exact un_cells h.head hr' (by decide) e.symm
 ·exact un_map h.head hM' e.symm
theorem Fr.tb {X : Nat → Prop} {u v w : World} (h : Fr X u v) (b : Below v.heap.size v w) : Fr X u w := h.trans (Fr.below (X := fun _ => False) b) (fun j hj => hj.elim)
theorem Tab.c0 (h : Tab w B a b r M n v T ws fc) : w.cell? ⟨B, 0, none⟩ = some (.pointer (some ⟨a, 0, none⟩)) := by rw [cell_of_row _ _ _ _ _ _ h.head]; rfl
theorem Tab.c1 (h : Tab w B a b r M n v T ws fc) : w.cell? ⟨B, 1, none⟩ = some v := by rw [cell_of_row _ _ _ _ _ _ h.head]; rfl
theorem Tab.c2 (h : Tab w B a b r M n v T ws fc) : w.cell? ⟨B, 2, none⟩ = some (.map (some M)) := by rw [cell_of_row _ _ _ _ _ _ h.head]; rfl
theorem Tab.fz (h : Tab w B a b r M n v T ws fc) (o : Nat) : w.frozen? ⟨B, o, none⟩ = false := by simp [World.frozen?, h.head]
end Go.Proofs.YtjnpmipbkiambaaGreatDoor.Ta

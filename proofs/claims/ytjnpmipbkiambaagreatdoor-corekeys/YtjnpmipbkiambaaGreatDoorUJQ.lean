import Derived.Test.YtjnpmipbkiambaaGreatDoorUJD
import Derived.Deep.OwnRows
import Derived.WalkSmall
namespace Go.Proofs.YtjnpmipbkiambaaGreatDoor.Qu
set_option maxRecDepth 100000
open Go.RowKit Go.Lib Go.Sort
set_option linter.unusedVariables false
structure Pl where
 e : Ent
 v : Nat
 f : Bool
def Pl.zero : Pl := ⟨(0, 0), 0, false⟩
def Pl.cell (p : Pl) : Nat → Value
 | 0 => .int .u64 p.e.1
 | 1 => .int .i64 p.e.2
 | 2 => .int .u64 p.v
 | _ => .bool p.f
def slSet (g : Nat → Pl) (i : Nat) (p : Pl) : Nat → Pl := fun j => if j = i then p else g j
theorem slSet_same (g : Nat → Pl) (i : Nat) (p : Pl) : slSet g i p i = p := by unfold slSet; rw [if_pos rfl]
theorem slSet_ne (g : Nat → Pl) {i j : Nat} (p : Pl) (h : j ≠ i) : slSet g i p j = g j := by unfold slSet; rw [if_neg h]
theorem gr_trans {u v w : World} {row : Option Nat} (h : u.grownBy v row) (g : v.grownBy w row) : u.grownBy w row :=
 ⟨g.os.trans h.os, g.tape.trans h.tape, g.output.trans h.output, Nat.le_trans h.size g.size, fun k hk hne => (g.block k (Nat.lt_of_lt_of_le hk h.size) hne).trans (h.block k hk hne)⟩
theorem gr_set (w : World) (R o : Nat) (u : Value) : w.grownBy (w.setCell ⟨R, o, none⟩ u) (some R) :=
 ⟨rfl, rfl, rfl, by simp [World.setCell], fun k hk hne => Below.heap_setCell w ⟨R, o, none⟩ u k (fun e => hne (by rw [e]))⟩
theorem below_gr {w w' : World} {R b : Nat} (h : w.grownBy w' (some R)) (hb : b ≤ R) (hw : b ≤ w.heap.size) : Below b w w' :=
 ⟨h.os, h.tape, h.output, h.size, fun k hk => h.block k (by omega) (by intro e; injection e with e; omega)⟩
structure Slt (w : World) (B R n : Nat) (g : Nat → Pl) : Prop where
 ne : B ≠ R
 head : w.heap[B]? = some (.cells #[.slice (some ⟨R, 0, none⟩) n n] 247 (0, 0))
 row : w.rowIs R 270 (n * 4) (fun j => (g (j / 4)).cell (j % 4))
 most : n ≤ 8
variable {w w' : World} {B R n : Nat} {g : Nat → Pl}
theorem Slt.c0 (h : Slt w B R n g) : w.cell? ⟨B, 0, none⟩ = some (.slice (some ⟨R, 0, none⟩) n n) := by simp [World.cell?, h.head]
theorem Slt.blt (h : Slt w B R n g) : B < w.heap.size := lt_of_block h.head
theorem Slt.rlt (h : Slt w B R n g) : R < w.heap.size := h.row.lt
theorem Slt.of_blocks (h : Slt w B R n g) (hb : w'.heap[B]? = w.heap[B]?) (hr : w'.heap[R]? = w.heap[R]?) : Slt w' B R n g :=
 ⟨h.ne, hb.trans h.head, h.row.of_block hr, h.most⟩
theorem Slt.below (h : Slt w B R n g) (hw : Below w.heap.size w w') : Slt w' B R n g := h.of_blocks (hw.block B h.blt) (hw.block R h.rlt)
theorem Slt.alloc (h : Slt w B R n g) (o : Obj) : Slt (w.alloc o) B R n g := h.of_blocks (Below.heap_alloc _ _ _ h.blt) (Below.heap_alloc _ _ _ h.rlt)
theorem Slt.drew (h : Slt w B R n g) : Slt w.drew B R n g := ⟨h.ne, h.head, h.row, h.most⟩
theorem Slt.kept {row : Option Nat} (h : Slt w B R n g) (hw : w.grownBy w' row) (h1 : some B ≠ row) (h2 : some R ≠ row) : Slt w' B R n g := h.of_blocks (hw.block B h.blt h1) (hw.block R h.rlt h2)
theorem Slt.congr {g' : Nat → Pl} (h : Slt w B R n g) (e : ∀ i, i < n → g i = g' i) : Slt w B R n g' :=
 ⟨h.ne, h.head, h.row.congr fun j hj => by rw [e _ (by omega)], h.most⟩
theorem Slt.cells (h : Slt w B R n g) {i : Nat} (hi : i < n) {k d : Int} {v : Nat} {f : Bool} (hp : g i = ⟨(k, d), v, f⟩) :
  w.cell? ⟨R, i * 4, none⟩ = some (.int .u64 k) ∧ w.cell? ⟨R, i * 4 + 1, none⟩ = some (.int .i64 d) ∧ w.cell? ⟨R, i * 4 + 2, none⟩ = some (.int .u64 v) ∧ w.cell? ⟨R, i * 4 + 3, none⟩ = some (.bool f) := by
 have h0 := h.row.cell (i := i * 4) (by omega)
 have h1 := h.row.cell (i := i * 4 + 1) (by omega)
 have h2 := h.row.cell (i := i * 4 + 2) (by omega)
 have h3 := h.row.cell (i := i * 4 + 3) (by omega)
 rw [show i * 4 / 4 = i by omega, show i * 4 % 4 = 0 by omega, hp] at h0
 rw [show (i * 4 + 1) / 4 = i by omega, show (i * 4 + 1) % 4 = 1 by omega, hp] at h1
 rw [show (i * 4 + 2) / 4 = i by omega, show (i * 4 + 2) % 4 = 2 by omega, hp] at h2
 rw [show (i * 4 + 3) / 4 = i by omega, show (i * 4 + 3) % 4 = 3 by omega, hp] at h3
 exact ⟨h0, h1, h2, h3⟩
theorem Slt.free (h : Slt w B R n g) (o : Nat) : w.frozen? ⟨R, o, none⟩ = false := h.row.frozen o
theorem Slt.put (h : Slt w B R n g) {i : Nat} (hi : i < n) (k d : Int) (v : Nat) (f : Bool) :
  Slt ((((w.setCell ⟨R, i * 4, none⟩ (.int .u64 k)).setCell ⟨R, i * 4 + 1, none⟩ (.int .i64 d)).setCell ⟨R, i * 4 + 2, none⟩ (.int .u64 v)).setCell ⟨R, i * 4 + 3, none⟩ (.bool f)) B R n (slSet g i ⟨(k, d), v, f⟩) ∧
   w.grownBy ((((w.setCell ⟨R, i * 4, none⟩ (.int .u64 k)).setCell ⟨R, i * 4 + 1, none⟩ (.int .i64 d)).setCell ⟨R, i * 4 + 2, none⟩ (.int .u64 v)).setCell ⟨R, i * 4 + 3, none⟩ (.bool f)) (some R) := by
 have gr := gr_trans (gr_trans (gr_trans (gr_set w R (i * 4) (.int .u64 k)) (gr_set _ R (i * 4 + 1) (.int .i64 d))) (gr_set _ R (i * 4 + 2) (.int .u64 v))) (gr_set _ R (i * 4 + 3) (.bool f))
 refine ⟨⟨h.ne, (gr.block B h.blt (by intro e; injection e with e; exact h.ne e)).trans h.head, ((((h.row.set (i * 4) (.int .u64 k)).set (i * 4 + 1) (.int .i64 d)).set (i * 4 + 2) (.int .u64 v)).set (i * 4 + 3) (.bool f)).congr fun j hj => ?_, h.most⟩, gr⟩
 by_cases e : j / 4 = i
 ·rw [e, slSet_same]
  have : j % 4 = 0 ∨ j % 4 = 1 ∨ j % 4 = 2 ∨ j % 4 = 3 := by omega
  rcases this with m | m | m | m
  ·rw [if_neg (by omega), if_neg (by omega), if_neg (by omega), if_pos (by omega), m]; rfl
  ·rw [if_neg (by omega), if_neg (by omega), if_pos (by omega), m]; rfl
  ·rw [if_neg (by omega), if_pos (by omega), m]; rfl
  ·rw [if_pos (by omega), m]; rfl
 ·rw [slSet_ne g _ e, if_neg (by omega), if_neg (by omega), if_neg (by omega), if_neg (by omega)]
theorem infoPl : ∃ i, Tryz.prog.info? 270 = some i ∧ i.zero = some (.agg #[.int .u64 0, .int .i64 0, .int .u64 0, .bool false]) ∧ i.size = 4 ∧ i.bytes = 32 := by
 have h : (Tryz.prog.info? 270).map (fun i => (i.zero, i.size, i.bytes)) = some (some (.agg #[.int .u64 0, .int .i64 0, .int .u64 0, .bool false]), 4, 32) := by kernel_rfl
 obtain ⟨i, h1, h2⟩ := Option.map_eq_some_iff.1 h
 simp at h2
 exact ⟨i, h1, h2.1, h2.2.1, h2.2.2⟩
theorem slMade (z : Array Value) (n j : Nat) (hj : j < n) : (madeCells z n)[j]? = some (z[j % z.size]!) := by
 unfold madeCells
 simp [hj]
theorem makePl_run (w : World) (n : Nat) (hn : n ≤ 8) :
  ∃ w', (Instr.makeSlice 245 (.int .i64 (n : Int)) (.int .i64 (n : Int))).run Tryz.prog w = .ok (.slice (some ⟨w.heap.size, 0, none⟩) n n) w' ∧ w'.rowIs w.heap.size 270 (n * 4) (fun j => Pl.zero.cell (j % 4)) ∧ Below w.heap.size w w' ∧ w'.heap.size = w.heap.size + 1 := by
 obtain ⟨i, hi, hz, hs, hby⟩ := infoPl
 have hm := run_make (P := Tryz.prog) w 245 270 i _ Tryz.underlying245 hi hz .i64 .i64 n n (by omega) (Int.le_refl _) (by rw [hby]; omega) (by omega)
 simp only [Int.toNat_natCast, hs] at hm
 refine ⟨_, hm, ⟨_, heap_alloc_new w _, by simp [madeCells], fun j hj => ?_⟩, (Below.refl _ _).alloc (Nat.le_refl _) _, by simp⟩
 rw [slMade _ _ _ hj]
 show some ((#[Value.int .u64 0, .int .i64 0, .int .u64 0, .bool false] : Array Value)[j % 4]!) = some (Pl.zero.cell (j % 4))
 have : j % 4 = 0 ∨ j % 4 = 1 ∨ j % 4 = 2 ∨ j % 4 = 3 := by omega
 rcases this with m | m | m | m <;> rw [m] <;> rfl
end Go.Proofs.YtjnpmipbkiambaaGreatDoor.Qu
namespace Go.Proofs.YtjnpmipbkiambaaGreatDoor.Qu
set_option maxRecDepth 100000
open Go.RowKit Go.Lib Go.Sort
set_option linter.unusedVariables false
theorem slNew_out (i : Int) (w : World) (h : i < 1 ∨ 8 < i) :
  Calls Tryz.prog 99 #[.int .i64 i] w fun e w' => e = .returned (.tuple #[.pointer none, .int .i64 1]) ∧ w' = w := by
 rcases h with h | h
 ·go_enter Tryz.func99, Tryz.ntmps99
  go_wp2_with fail
  go_ret2
  exact ⟨rfl, rfl⟩
 ·have h' : ¬ i < 1 := by omega
  go_enter Tryz.func99, Tryz.ntmps99
  go_wp2_with fail
  go_ret2
  exact ⟨rfl, rfl⟩
theorem slNew_in (n : Nat) (w : World) (S : Nat) (hS : w.heap.size = S) (h1 : 1 ≤ n) (h2 : n ≤ 8) :
  Calls Tryz.prog 99 #[.int .i64 n] w fun e w' => e = .returned (.tuple #[.pointer (some ⟨S + 1, 0, none⟩), .int .i64 0]) ∧
   Slt w' (S + 1) S n (fun _ => Pl.zero) ∧ Below S w w' ∧ w'.heap.size = S + 2 := by
 have g1 : ¬ (n : Int) < 1 := by omega
 have g2 : ¬ (8 : Int) < (n : Int) := by omega
 obtain ⟨u, hmk, hr, hb, hz⟩ := makePl_run w n h2
 rw [hS] at hmk hr hb hz
 have fin : Slt (u.alloc (.cells #[.slice (some ⟨S, 0, none⟩) n n] 247)) (S + 1) S n (fun _ => Pl.zero) ∧ Below S w (u.alloc (.cells #[.slice (some ⟨S, 0, none⟩) n n] 247)) ∧ (u.alloc (.cells #[.slice (some ⟨S, 0, none⟩) n n] 247)).heap.size = S + 2 := by
  refine ⟨⟨by omega, by rw [← hz]; exact heap_alloc_new u _, hr.alloc _, h2⟩, hb.alloc (by omega) _, by simp [hz]⟩
 have F : Aside _ := fin
 clear fin hr hb
 go_enter Tryz.func99, Tryz.ntmps99
 go_wp2_with fail
 go_ret2
 exact ⟨by simp, F.out⟩
theorem slAt_in (w : World) (B R n : Nat) (g : Nat → Pl) (i : Nat) (h : Slt w B R n g) (hi : i < n) :
  Calls Tryz.prog 296 #[.pointer (some ⟨B, 0, none⟩), .int .i64 i] w fun e w' => e = .returned (.pointer (some ⟨R, i * 4, none⟩)) ∧ w' = w := by
 have c0 := h.c0
 have h0 : ¬ (i : Int) < 0 := by omega
 have h1 : ¬ (n : Int) ≤ (i : Int) := by omega
 have h2 : (i : Int) < (n : Int) := by omega
 go_enter Tryz.func296, Tryz.ntmps296
 go_wp2_with fail
 go_ret
 exact ⟨by simp, rfl⟩
set_option maxHeartbeats 400000 in
theorem slEmpty_any (w : World) (B R n : Nat) (g : Nat → Pl) (i : Nat) (h : Slt w B R n g) (hi : i < n) (k d : Int) (v : Nat) (f : Bool) (hp : g i = ⟨(k, d), v, f⟩) (hv : v ≤ 1000000) :
  Calls Tryz.prog 249 #[.pointer (some ⟨R, i * 4, none⟩)] w fun e w' => e = .returned (.agg #[.int .u64 k, .int .i64 d]) ∧ Slt w' B R n (slSet g i ⟨(0, 0), v + 1, false⟩) ∧ w.grownBy w' (some R) := by
 obtain ⟨c0, c1, c2, c3⟩ := h.cells hi hp
 have rl := h.rlt
 have f0 := h.free (i * 4)
 have f1 := h.free (i * 4 + 1)
 have f2 := h.free (i * 4 + 2)
 have f3 := h.free (i * 4 + 3)
 have wv : IntKind.u64.wrap ((v : Int) + 1) = (v : Int) + 1 := by rw [IntKind.wrap_u64, Int.emod_eq_of_lt (by omega) (by omega)]
 go_enter Tryz.func249, Tryz.ntmps249
 go_wp2_with fail
 have hs := h.put hi 0 0 (v + 1) false
 rw [show ((v + 1 : Nat) : Int) = (v : Int) + 1 by omega] at hs
 obtain ⟨W, hW⟩ : ∃ W, (((w.setCell ⟨R, i * 4, none⟩ (.int .u64 0)).setCell ⟨R, i * 4 + 1, none⟩ (.int .i64 0)).setCell ⟨R, i * 4 + 2, none⟩ (.int .u64 ((v : Int) + 1))).setCell ⟨R, i * 4 + 3, none⟩ (.bool false) = W := ⟨_, rfl⟩
 have sz : w.heap.size = W.heap.size := by rw [← hW]; simp [World.setCell]
 rw [hW] at hs ⊢
 rw [sz]
 refine bodyPost_ret (v := .agg #[.int .u64 k, .int .i64 d]) (by simp [results, Tryz.results249, go_sem]) rfl ⟨rfl, (hs.1.alloc _).alloc _, gr_trans (gr_trans hs.2 (World.grownBy_alloc _ _ _)) (World.grownBy_alloc _ _ _)⟩
set_option maxHeartbeats 1000000 in
theorem slPut_ok (w : World) (B R n : Nat) (g : Nat → Pl) (i : Nat) (k d : Int) (v : Nat) (h : Slt w B R n g) (hi : i < n) (hf : (g i).f = false) (hv : (g i).v = v) (hm : v ≤ 1000000) :
  Calls Tryz.prog 342 #[.pointer (some ⟨B, 0, none⟩), .int .i64 i, .agg #[.int .u64 k, .int .i64 d]] w fun e w' => e = .returned (.int .i64 0) ∧ Slt w' B R n (slSet g i ⟨(k, d), v + 1, true⟩) ∧ w.grownBy w' (some R) := by
 obtain ⟨k', d', e'⟩ : ∃ k' d', g i = ⟨(k', d'), v, false⟩ := ⟨_, _, by rw [← hf, ← hv]⟩
 obtain ⟨c0, c1, c2, c3⟩ := h.cells hi e'
 have rl := h.rlt
 have f0 := h.free (i * 4)
 have f1 := h.free (i * 4 + 1)
 have f2 := h.free (i * 4 + 2)
 have f3 := h.free (i * 4 + 3)
 have wv : IntKind.u64.wrap ((v : Int) + 1) = (v : Int) + 1 := by rw [IntKind.wrap_u64, Int.emod_eq_of_lt (by omega) (by omega)]
 clear hf hv
 go_enter Tryz.func342, Tryz.ntmps342
 go_wp2_with fail
 refine (slAt_in _ B R n g i (h.alloc _) hi).mono ?_
 rintro e w1 ⟨rfl, rfl⟩
 go_wp2_with fail
 go_region
 go_wp2_with fail
 have hs := h.put hi k d (v + 1) true
 rw [show ((v + 1 : Nat) : Int) = (v : Int) + 1 by omega] at hs
 go_ret
 exact ⟨rfl, (hs.1.alloc _).drew, gr_trans (gr_trans hs.2 (World.grownBy_alloc _ _ _)) ⟨rfl, rfl, rfl, Nat.le_refl _, fun _ _ _ => rfl⟩⟩
theorem slTake_no (w : World) (B R n : Nat) (g : Nat → Pl) (i : Nat) (ver : Int) (h : Slt w B R n g) (hi : i < n) (hf : (g i).f = false ∨ ((g i).v : Int) ≠ ver) :
  Calls Tryz.prog 228 #[.pointer (some ⟨B, 0, none⟩), .int .i64 i, .int .u64 ver] w fun e w' => e = .returned (.tuple #[.agg #[.int .u64 0, .int .i64 0], .bool false]) ∧ Below w.heap.size w w' := by
 obtain ⟨k', d', v', f', e'⟩ : ∃ k' d' v' f', g i = ⟨(k', d'), v', f'⟩ := ⟨_, _, _, _, rfl⟩
 obtain ⟨c0, c1, c2, c3⟩ := h.cells hi e'
 have rl := h.rlt
 rw [e'] at hf
 simp only at hf
 cases f' with
 | false =>
  go_enter Tryz.func228, Tryz.ntmps228
  go_wp2_with fail
  refine (slAt_in _ B R n g i (h.alloc _) hi).mono ?_
  rintro e w1 ⟨rfl, rfl⟩
  go_wp2_with fail
  refine bodyPost_ret (v := .tuple #[.agg #[.int .u64 0, .int .i64 0], .bool false]) (by simp [results, Tryz.results228, go_sem]) rfl ⟨rfl, (Below.refl _ _).alloc (Nat.le_refl _) _⟩
 | true =>
  have hne : ¬ (v' : Int) = ver := by simpa using hf
  have hb : ((v' : Int) == ver) = false := by simpa using hne
  clear hf
  go_enter Tryz.func228, Tryz.ntmps228
  go_wp2_with fail
  refine (slAt_in _ B R n g i (h.alloc _) hi).mono ?_
  rintro e w1 ⟨rfl, rfl⟩
  go_wp2_with fail
  refine bodyPost_ret (v := .tuple #[.agg #[.int .u64 0, .int .i64 0], .bool false]) (by simp [results, Tryz.results228, go_sem]) rfl ⟨rfl, (Below.refl _ _).alloc (Nat.le_refl _) _⟩
theorem gr_new {w u : World} {row : Option Nat} (h : w.grownBy u row) {S o : Nat} (hS : w.heap.size ≤ S) (x : Value) : w.grownBy (u.setCell ⟨S, o, none⟩ x) row :=
 ⟨h.os, h.tape, h.output, by simpa [World.setCell] using h.size, fun k hk hne => (Below.heap_setCell u ⟨S, o, none⟩ x k (by show k ≠ S; omega)).trans (h.block k hk hne)⟩
theorem Slt.setNew {u : World} {B R n : Nat} {g : Nat → Pl} (h : Slt u B R n g) {S o : Nat} (h1 : B ≠ S) (h2 : R ≠ S) (x : Value) : Slt (u.setCell ⟨S, o, none⟩ x) B R n g :=
 h.of_blocks (Below.heap_setCell u ⟨S, o, none⟩ x B h1) (Below.heap_setCell u ⟨S, o, none⟩ x R h2)
theorem slBox {u : World} {S : Nat} {x y : Value} {T : TypeId} (h : u.heap[S]? = some (.cells #[x, y] T (0, 0))) (a b : Value) :
  ((u.setCell ⟨S, 0, none⟩ a).setCell ⟨S, 1, none⟩ b).cell? ⟨S, 0, none⟩ = some a ∧ ((u.setCell ⟨S, 0, none⟩ a).setCell ⟨S, 1, none⟩ b).cell? ⟨S, 1, none⟩ = some b := by
 have h1 : (u.setCell ⟨S, 0, none⟩ a).heap[S]? = some (.cells #[a, y] T (0, 0)) := by simp [World.setCell, Array.getElem?_modify, h]
 have h2 : ((u.setCell ⟨S, 0, none⟩ a).setCell ⟨S, 1, none⟩ b).heap[S]? = some (.cells #[a, b] T (0, 0)) := by
  generalize u.setCell ⟨S, 0, none⟩ a = v at h1 ⊢
  simp [World.setCell, Array.getElem?_modify, h1]
 exact ⟨by rw [cell_of_row _ _ _ _ _ _ h2]; rfl, by rw [cell_of_row _ _ _ _ _ _ h2]; rfl⟩
set_option maxHeartbeats 1000000 in
theorem slTake_ok (w : World) (B R n : Nat) (g : Nat → Pl) (i : Nat) (k d : Int) (v : Nat) (h : Slt w B R n g) (hi : i < n) (hp : g i = ⟨(k, d), v, true⟩) (hm : v ≤ 1000000) :
  Calls Tryz.prog 228 #[.pointer (some ⟨B, 0, none⟩), .int .i64 i, .int .u64 v] w fun e w' => e = .returned (.tuple #[.agg #[.int .u64 k, .int .i64 d], .bool true]) ∧ Slt w' B R n (slSet g i ⟨(0, 0), v + 1, false⟩) ∧ w.grownBy w' (some R) := by
 obtain ⟨c0, c1, c2, c3⟩ := h.cells hi hp
 have rl := h.rlt
 have bl := h.blt
 go_enter Tryz.func228, Tryz.ntmps228
 go_wp2_with fail
 refine (slAt_in _ B R n g i (h.alloc _) hi).mono ?_
 rintro e w1 ⟨rfl, rfl⟩
 go_wp2_with fail
 refine (slEmpty_any _ B R n g i (h.alloc _) hi k d v true hp hm).mono ?_
 rintro e w2 ⟨rfl, s2, g2⟩
 have hb := (g2.block w.heap.size (by simp) (by intro e; injection e with e; omega)).trans (heap_alloc_new w _)
 have y0 : w2.cell? ⟨w.heap.size, 0, none⟩ = some (.int .u64 0) := by rw [cell_of_row _ _ _ _ _ _ hb]; rfl
 have y1 : w2.cell? ⟨w.heap.size, 1, none⟩ = some (.int .i64 0) := by rw [cell_of_row _ _ _ _ _ _ hb]; rfl
 have z0 : w2.frozen? ⟨w.heap.size, 0, none⟩ = false := by simp [World.frozen?, hb]
 have z1 : w2.frozen? ⟨w.heap.size, 1, none⟩ = false := by simp [World.frozen?, hb]
 have gg : w.grownBy w2 (some R) := gr_trans (World.grownBy_alloc _ _ _) g2
 have fs : Aside (Slt ((w2.setCell ⟨w.heap.size, 0, none⟩ (.int .u64 k)).setCell ⟨w.heap.size, 1, none⟩ (.int .i64 d)) B R n (slSet g i ⟨(0, 0), v + 1, false⟩) ∧ w.grownBy ((w2.setCell ⟨w.heap.size, 0, none⟩ (.int .u64 k)).setCell ⟨w.heap.size, 1, none⟩ (.int .i64 d)) (some R)) :=
  ⟨(s2.setNew (by omega) (by omega) _).setNew (by omega) (by omega) _, gr_new (gr_new gg (by omega) _) (by omega) _⟩
 obtain ⟨b0, b1⟩ := slBox hb (.int .u64 k) (.int .i64 d)
 clear hb g2 s2 gg h c0 c1 c2 c3 rl bl hp
 go_wp2_with fail
 refine bodyPost_ret (v := .tuple #[.agg #[.int .u64 k, .int .i64 d], .bool true]) (by simp [results, Tryz.results228, go_sem, b0, b1]) rfl ⟨rfl, fs.out.1, fs.out.2⟩
set_option maxHeartbeats 1000000 in
theorem slGet_in (w : World) (B R n : Nat) (g : Nat → Pl) (i : Nat) (k d : Int) (v : Nat) (f : Bool) (h : Slt w B R n g) (hi : i < n) (hp : g i = ⟨(k, d), v, f⟩) :
  Calls Tryz.prog 227 #[.pointer (some ⟨B, 0, none⟩), .int .i64 i] w fun e w' => e = .returned (.tuple #[.agg #[.int .u64 k, .int .i64 d], .int .u64 v, .bool f]) ∧ Below w.heap.size w w' := by
 obtain ⟨c0, c1, c2, c3⟩ := h.cells hi hp
 have rl := h.rlt
 go_enter Tryz.func227, Tryz.ntmps227
 go_wp2_with fail
 refine (slAt_in _ B R n g i (h.alloc _) hi).mono ?_
 rintro e w1 ⟨rfl, rfl⟩
 go_wp2_with fail
 go_region
 go_wp2_with fail
 refine bodyPost_ret (v := .tuple #[.agg #[.int .u64 k, .int .i64 d], .int .u64 v, .bool f]) (by simp [results, Tryz.results227, go_sem]) rfl ⟨rfl, ((Below.refl _ _).alloc (Nat.le_refl _) _).drew⟩
end Go.Proofs.YtjnpmipbkiambaaGreatDoor.Qu
namespace Go.Proofs.YtjnpmipbkiambaaGreatDoor.Qu
set_option maxRecDepth 100000
open Go.RowKit Go.Lib Go.Sort
set_option linter.unusedVariables false
def slAll (g : Nat → Pl) : Nat → List Ent
 | 0 => []
 | k + 1 => slAll g k ++ (if (g k).f then [(g k).e] else [])
theorem slAll_len (g : Nat → Pl) : ∀ k, (slAll g k).length ≤ k
 | 0 => Nat.le_refl _
 | k + 1 => by
  have := slAll_len g k
  unfold slAll
  rw [List.length_append]
  split <;> simp <;> omega
def slHit (p : Pl) (id : Int) : Bool := p.f && (p.e.2 == id)
set_option maxHeartbeats 2000000 in
set_option maxRecDepth 100000 in
theorem slDrop_none (w : World) (B R n : Nat) (g : Nat → Pl) (id : Int) (h : Slt w B R n g) (hn : ∀ i, i < n → slHit (g i) id = false) :
  Calls Tryz.prog 174 #[.pointer (some ⟨B, 0, none⟩), .int .i64 id] w fun e w' => e = .returned (.bool false) ∧ w' = w := by
 have c0 := h.c0
 have bl := h.blt
 have H : Aside (Slt w B R n g) := h
 have HN : Aside (∀ i, i < n → slHit (g i) id = false) := hn
 have n8 := h.most
 clear h hn
 go_enter Tryz.func174, Tryz.ntmps174
 go_wp2
 go_loopg [12] n (fun kx s12 wr => ∃ k : Nat, s12 = .int .i64 k ∧ k ≤ n ∧ n - k ≤ kx ∧ wr = w)
 case atStart => exact ⟨0, rfl, by omega, by omega, rfl⟩
 case round =>
  obtain ⟨i, rfl, hk, hkx, rfl⟩ := hrel
  by_cases hlt : i < n
  ·have hz : (i : Int) < (n : Int) := by omega
   obtain ⟨k, d, v, f, e'⟩ : ∃ k d v f, g i = ⟨(k, d), v, f⟩ := ⟨_, _, _, _, rfl⟩
   obtain ⟨q0, q1, q2, q3⟩ := H.out.cells hlt e'
   have hh := HN.out i hlt
   rw [e'] at hh
   cases f with
   | false =>
    clear hh
    go_wp2
    go_roundg (n - (i + 1))
    case measure => omega
    case rel => exact ⟨i + 1, by go_num, by omega, Nat.le_refl _, rfl⟩
   | true =>
    have hd : (d == id) = false := by simpa [slHit] using hh
    clear hh
    go_wp2
    go_roundg (n - (i + 1))
    case measure => omega
    case rel => exact ⟨i + 1, by go_num, by omega, Nat.le_refl _, rfl⟩
  ·have hz : ¬ (i : Int) < (n : Int) := by omega
   go_wp2
   go_ret
   exact ⟨rfl, rfl⟩
set_option maxHeartbeats 2000000 in
set_option maxRecDepth 100000 in
theorem slDrop_hit (w : World) (B R n : Nat) (g : Nat → Pl) (j : Nat) (id : Int) (k : Int) (v : Nat) (h : Slt w B R n g) (hj : j < n) (hp : g j = ⟨(k, id), v, true⟩) (hm : v ≤ 1000000) (hn : ∀ i, i < j → slHit (g i) id = false) :
  Calls Tryz.prog 174 #[.pointer (some ⟨B, 0, none⟩), .int .i64 id] w fun e w' => e = .returned (.bool true) ∧ Slt w' B R n (slSet g j ⟨(0, 0), v + 1, false⟩) ∧ w.grownBy w' (some R) := by
 have c0 := h.c0
 have bl := h.blt
 have em := slEmpty_any w B R n g j h hj k id v true hp hm
 have H : Aside (Slt w B R n g) := h
 have HN : Aside (∀ i, i < j → slHit (g i) id = false) := hn
 have HP : Hid (g j = ⟨(k, id), v, true⟩) := hp
 have n8 := h.most
 clear h hn hp
 go_enter Tryz.func174, Tryz.ntmps174
 go_wp2
 go_loopg [12] n (fun kx s12 wr => ∃ i : Nat, s12 = .int .i64 i ∧ i ≤ j ∧ n - i ≤ kx ∧ wr = w)
 case atStart => exact ⟨0, rfl, by omega, by omega, rfl⟩
 case round =>
  obtain ⟨i, rfl, hk, hkx, rfl⟩ := hrel
  have hlt : i < n := by omega
  have hz : (i : Int) < (n : Int) := by omega
  by_cases hij : i = j
  ·subst hij
   obtain ⟨q0, q1, q2, q3⟩ := H.out.cells hlt HP.out
   go_wp2_with fail
   refine em.mono ?_
   rintro e w2 ⟨rfl, s2, g2⟩
   have F : Aside _ := And.intro s2 g2
   clear s2 g2 em
   go_wp2
   go_ret
   exact ⟨rfl, F.out⟩
  ·obtain ⟨k', d', v', f, e'⟩ : ∃ k d v f, g i = ⟨(k, d), v, f⟩ := ⟨_, _, _, _, rfl⟩
   obtain ⟨q0, q1, q2, q3⟩ := H.out.cells hlt e'
   have hh := HN.out i (by omega)
   rw [e'] at hh
   cases f with
   | false =>
    clear hh em
    go_wp2
    go_roundg (n - (i + 1))
    case measure => omega
    case rel => exact ⟨i + 1, by go_num, by omega, Nat.le_refl _, rfl⟩
   | true =>
    have hd : (d' == id) = false := by simpa [slHit] using hh
    clear hh em
    go_wp2
    go_roundg (n - (i + 1))
    case measure => omega
    case rel => exact ⟨i + 1, by go_num, by omega, Nat.le_refl _, rfl⟩
theorem slApp {w : World} {base k : Nat} {r : Option Addr} {t : Nat} {d : List Ent} (x : Ent) (h : OwnE w base (.slice r k t) d) (hl : d.length = k) (hk : k ≤ 100000) (hb : base ≤ w.heap.size) :
  ∃ r' t' w', (Builtin.append_ #[33, 33] 33 #[.slice r k t, .slice (some ⟨w.heap.size, 0, none⟩) 1 1]).run Tryz.prog (w.alloc (.cells #[.int .u64 x.1, .int .i64 x.2] 43)) = .ok (.slice r' (k + 1) t') w' ∧ OwnE w' base (.slice r' (k + 1) t') (d ++ [x]) ∧ Below base w w' := by
 have bv : Below w.heap.size w (w.alloc (.cells #[.int .u64 x.1, .int .i64 x.2] 43)) := (Below.refl _ _).alloc (Nat.le_refl _) _
 obtain ⟨v', w', hr, o, g⟩ := app_run (c := [x]) (h.below bv) (IsL.one w x) (by simp; omega) (Nat.le_trans hb bv.size) 33
 obtain ⟨r', t', e, _⟩ := o.isL
 have e2 : (d ++ [x]).length = k + 1 := by simp [hl]
 rw [e2] at e
 subst e
 exact ⟨r', t', w', hr, o, OwnE.grown (h.below bv) (bv.mono hb) g (Nat.le_trans hb bv.size)⟩
def SlAllIs (w : World) (m : Nat) (d : List Ent) (r : Ending) (w' : World) : Prop := ∃ a cap, r = .returned (.slice a m cap) ∧ OwnE w' w.heap.size (.slice a m cap) d ∧ Below w.heap.size w w'
set_option maxHeartbeats 2000000 in
set_option maxRecDepth 100000 in
theorem slAll_any (w : World) (B R n : Nat) (g : Nat → Pl) (m : Nat) (h : Slt w B R n g) (hm : (slAll g n).length = m) :
  Calls Tryz.prog 119 #[.pointer (some ⟨B, 0, none⟩)] w (SlAllIs w m (slAll g n)) := by
 have c0 := h.c0
 have bl := h.blt
 have H : Aside (Slt w B R n g) := h
 have n8 := h.most
 have HM : Hid _ := hm
 clear h hm
 go_enter Tryz.func119, Tryz.ntmps119
 go_wp2
 go_loopg [3, 5, 11] n (fun kx s3 s5 s11 wr => ∃ (i z : Nat) (r : Option Addr) (t : Nat), s11 = .int .i64 i ∧ s3 = .slice r z t ∧ Hid ((slAll g i).length = z) ∧ i ≤ n ∧ n - i ≤ kx ∧ Aside (OwnE wr w.heap.size (.slice r z t) (slAll g i)) ∧ Aside (Below w.heap.size w wr))
 case atStart => exact ⟨0, 0, none, 0, rfl, rfl, rfl, by omega, by omega, OwnE.nil _ _, Below.refl _ _⟩
 case round =>
  obtain ⟨i, z, r, t, rfl, rfl, HZ, hk, hkx, O, D⟩ := hrel
  have zle : z ≤ 8 := by have h1 := HZ.out; have h2 := slAll_len g i; omega
  have sz := D.out.size
  by_cases hlt : i < n
  ·have hz : (i : Int) < (n : Int) := by omega
   obtain ⟨k, d, v, f, e'⟩ : ∃ k d v f, g i = ⟨(k, d), v, f⟩ := ⟨_, _, _, _, rfl⟩
   have Hr := H.out.below D.out
   obtain ⟨q0, q1, q2, q3⟩ := Hr.cells hlt e'
   have rl := Hr.rlt
   have e1 : slAll g (i + 1) = slAll g i ++ (if f then [(k, d)] else []) := by show slAll g i ++ _ = _; rw [e']
   clear Hr e'
   obtain ⟨u, hu⟩ : ∃ u, wr.alloc (.cells #[.int .u64 k, .int .i64 d, .int .u64 v, .bool f] 270) = u := ⟨_, rfl⟩
   have bu : Below wr.heap.size wr u := by rw [← hu]; exact (Below.refl _ _).alloc (Nat.le_refl _) _
   cases f with
   | false =>
    have E2 : Hid (slAll g (i + 1) = slAll g i) := by show _ = _; rw [e1]; simp
    have O2 : Aside (OwnE (wr.alloc (.cells #[.int .u64 k, .int .i64 d, .int .u64 v, .bool false] 270)) w.heap.size (.slice r z t) (slAll g (i + 1))) := by rw [E2.out, hu]; exact O.out.below bu
    have D2 : Aside (Below w.heap.size w (wr.alloc (.cells #[.int .u64 k, .int .i64 d, .int .u64 v, .bool false] 270))) := by rw [hu]; exact D.out.trans (bu.mono sz)
    clear e1 hu bu O D
    go_wp2
    go_roundg (n - (i + 1))
    case measure => omega
    case rel => exact ⟨i + 1, z, r, t, by go_num, rfl, by rw [E2.out]; exact HZ, by omega, Nat.le_refl _, O2, D2⟩
   | true =>
    have E2 : Hid (slAll g (i + 1) = slAll g i ++ [(k, d)]) := by show _ = _; rw [e1]; simp
    obtain ⟨r', t', w2, hr, o2, b2⟩ := slApp (k, d) (O.out.below bu) HZ.out (by omega) (by have := bu.size; omega)
    have D2 : Aside (Below w.heap.size w w2) := (D.out.trans (bu.mono sz)).trans b2
    have O2 : Aside (OwnE w2 w.heap.size (.slice r' (z + 1) t') (slAll g (i + 1))) := by rw [E2.out]; exact o2
    have HZ2 : Hid ((slAll g (i + 1)).length = z + 1) := by show _ = _; rw [E2.out, List.length_append, HZ.out]; rfl
    have us : u.heap.size = wr.heap.size + 1 := by rw [← hu]; simp
    simp only at hr
    rw [us, ← hu] at hr
    clear us
    clear e1 o2 b2 O D hu bu
    go_wp2_with (at_builtin; refine Lib.wpList_append_run (World.alloc (World.alloc wr _) _) rfl _ _ 33 33 rfl _ _ rfl rfl _ w2 hr ?_)
    go_roundg (n - (i + 1))
    case measure => omega
    case rel => exact ⟨i + 1, z + 1, r', t', by go_num, rfl, HZ2, by omega, Nat.le_refl _, O2, D2⟩
  ·have hz : ¬ (i : Int) < (n : Int) := by omega
   obtain rfl : i = n := by omega
   obtain rfl : z = m := by rw [← HZ.out]; exact HM.out
   go_wp2
   go_ret
   exact ⟨r, t, rfl, O.out, D.out⟩
end Go.Proofs.YtjnpmipbkiambaaGreatDoor.Qu

/- slot: New, at, Threads, empty, Put, Take, Get. -/
import Derived.Test.YtfecobeiibdpcaaSltM
import Derived.Test.YtfecobeiibdpcaaChecked
import Derived.Deep.QuietTactic
import Derived.BigQuiet
import Derived.WalkSmall
namespace Go.Proofs.Ytfecobeiibdpcaa
open Go.RowKit Go.Lib Go.Sort
set_option linter.unusedVariables false

theorem slNew_out (i : Int) (w : World) (h : i < 1 ∨ 8 < i) :
    Calls Try.prog 7 #[.int .i64 i] w fun e w' => e = .returned (.tuple #[.pointer none, .int .i64 1]) ∧ w' = w := by
  rcases h with h | h
  · go_enter Try.func7, Try.ntmps7
    go_wp2_with fail
    go_ret2
    exact ⟨rfl, rfl⟩
  · have h' : ¬ i < 1 := by omega
    go_enter Try.func7, Try.ntmps7
    go_wp2_with fail
    go_ret2
    exact ⟨rfl, rfl⟩
theorem slNew_in (n : Nat) (w : World) (S : Nat) (hS : w.heap.size = S) (h1 : 1 ≤ n) (h2 : n ≤ 8) :
    Calls Try.prog 7 #[.int .i64 n] w fun e w' => e = .returned (.tuple #[.pointer (some ⟨S + 1, 0, none⟩), .int .i64 0]) ∧
      Slt w' (S + 1) S n (fun _ => Pl.zero) ∧ Below S w w' ∧ w'.heap.size = S + 2 := by
  have g1 : ¬ (n : Int) < 1 := by omega
  have g2 : ¬ (8 : Int) < (n : Int) := by omega
  obtain ⟨u, hmk, hr, hb, hz⟩ := makePl_run w n h2
  rw [hS] at hmk hr hb hz
  have fin : Slt (u.alloc (.cells #[.slice (some ⟨S, 0, none⟩) n n] 58)) (S + 1) S n (fun _ => Pl.zero) ∧ Below S w (u.alloc (.cells #[.slice (some ⟨S, 0, none⟩) n n] 58)) ∧ (u.alloc (.cells #[.slice (some ⟨S, 0, none⟩) n n] 58)).heap.size = S + 2 := by
    refine ⟨⟨by omega, by rw [← hz]; exact heap_alloc_new u _, hr.alloc _, h2⟩, hb.alloc (by omega) _, by simp [hz]⟩
  have F : Aside _ := fin
  clear fin hr hb
  go_enter Try.func7, Try.ntmps7
  go_wp2_with fail
  go_ret2
  exact ⟨by simp, F.out⟩
theorem slAt_out (w : World) (B R n : Nat) (g : Nat → Pl) (i : Int) (h : Slt w B R n g) (hi : i < 0 ∨ (n : Int) ≤ i) :
    Calls Try.prog 16 #[.pointer (some ⟨B, 0, none⟩), .int .i64 i] w fun e w' => e = .returned (.pointer none) ∧ w' = w := by
  have c0 := h.c0
  rcases hi with hi | hi
  · go_enter Try.func16, Try.ntmps16
    go_wp2_with fail
    go_ret
    exact ⟨rfl, rfl⟩
  · have h0 : ¬ i < 0 := by omega
    go_enter Try.func16, Try.ntmps16
    go_wp2_with fail
    go_ret
    exact ⟨rfl, rfl⟩
theorem slAt_in (w : World) (B R n : Nat) (g : Nat → Pl) (i : Nat) (h : Slt w B R n g) (hi : i < n) :
    Calls Try.prog 16 #[.pointer (some ⟨B, 0, none⟩), .int .i64 i] w fun e w' => e = .returned (.pointer (some ⟨R, i * 4, none⟩)) ∧ w' = w := by
  have c0 := h.c0
  have h0 : ¬ (i : Int) < 0 := by omega
  have h1 : ¬ (n : Int) ≤ (i : Int) := by omega
  have h2 : (i : Int) < (n : Int) := by omega
  go_enter Try.func16, Try.ntmps16
  go_wp2_with fail
  go_ret
  exact ⟨by simp, rfl⟩
theorem slThreads_any (w : World) (B R n : Nat) (g : Nat → Pl) (h : Slt w B R n g) :
    Calls Try.prog 14 #[.pointer (some ⟨B, 0, none⟩)] w fun e w' => e = .returned (.int .i64 n) ∧ w' = w := by
  have c0 := h.c0
  go_enter Try.func14, Try.ntmps14
  go_wp2_with fail
  go_ret
  exact ⟨rfl, rfl⟩
set_option maxHeartbeats 400000 in
theorem slEmpty_any (w : World) (B R n : Nat) (g : Nat → Pl) (i : Nat) (h : Slt w B R n g) (hi : i < n) (k d : Int) (v : Nat) (f : Bool) (hp : g i = ⟨(k, d), v, f⟩) (hv : v ≤ 1000000) :
    Calls Try.prog 17 #[.pointer (some ⟨R, i * 4, none⟩)] w fun e w' => e = .returned (.agg #[.int .u64 k, .int .i64 d]) ∧ Slt w' B R n (slSet g i ⟨(0, 0), v + 1, false⟩) ∧ w.grownBy w' (some R) := by
  obtain ⟨c0, c1, c2, c3⟩ := h.cells hi hp
  have rl := h.rlt
  have f0 := h.free (i * 4)
  have f1 := h.free (i * 4 + 1)
  have f2 := h.free (i * 4 + 2)
  have f3 := h.free (i * 4 + 3)
  have wv : IntKind.u64.wrap ((v : Int) + 1) = (v : Int) + 1 := by rw [IntKind.wrap_u64, Int.emod_eq_of_lt (by omega) (by omega)]
  go_enter Try.func17, Try.ntmps17
  go_wp2_with fail
  have hs := h.put hi 0 0 (v + 1) false
  rw [show ((v + 1 : Nat) : Int) = (v : Int) + 1 by omega] at hs
  obtain ⟨W, hW⟩ : ∃ W, (((w.setCell ⟨R, i * 4, none⟩ (.int .u64 0)).setCell ⟨R, i * 4 + 1, none⟩ (.int .i64 0)).setCell ⟨R, i * 4 + 2, none⟩ (.int .u64 ((v : Int) + 1))).setCell ⟨R, i * 4 + 3, none⟩ (.bool false) = W := ⟨_, rfl⟩
  have sz : w.heap.size = W.heap.size := by rw [← hW]; simp [World.setCell]
  rw [hW] at hs ⊢
  rw [sz]
  refine bodyPost_ret (v := .agg #[.int .u64 k, .int .i64 d]) (by simp [results, Try.results17, go_sem]) rfl ⟨rfl, (hs.1.alloc _).alloc _, gr_trans (gr_trans hs.2 (World.grownBy_alloc _ _ _)) (World.grownBy_alloc _ _ _)⟩
theorem slPut_out (w : World) (B R n : Nat) (g : Nat → Pl) (i : Int) (k d : Int) (h : Slt w B R n g) (hi : i < 0 ∨ (n : Int) ≤ i) :
    Calls Try.prog 8 #[.pointer (some ⟨B, 0, none⟩), .int .i64 i, .agg #[.int .u64 k, .int .i64 d]] w fun e w' => e = .returned (.int .i64 1) ∧ Below w.heap.size w w' := by
  go_enter Try.func8, Try.ntmps8
  go_wp2_with fail
  refine (slAt_out _ B R n g i (h.alloc _) hi).mono ?_
  rintro e w1 ⟨rfl, rfl⟩
  go_wp2_with fail
  go_ret
  exact ⟨rfl, (Below.refl _ _).alloc (Nat.le_refl _) _⟩
theorem slPut_full (w : World) (B R n : Nat) (g : Nat → Pl) (i : Nat) (k d : Int) (h : Slt w B R n g) (hi : i < n) (hf : (g i).f = true) :
    Calls Try.prog 8 #[.pointer (some ⟨B, 0, none⟩), .int .i64 i, .agg #[.int .u64 k, .int .i64 d]] w fun e w' => e = .returned (.int .i64 7) ∧ Below w.heap.size w w' := by
  obtain ⟨k', d', v', e'⟩ : ∃ k' d' v', g i = ⟨(k', d'), v', true⟩ := ⟨_, _, _, by rw [← hf]⟩
  obtain ⟨c0, c1, c2, c3⟩ := h.cells hi e'
  have rl := h.rlt
  go_enter Try.func8, Try.ntmps8
  go_wp2_with fail
  refine (slAt_in _ B R n g i (h.alloc _) hi).mono ?_
  rintro e w1 ⟨rfl, rfl⟩
  go_wp2_with fail
  go_ret
  exact ⟨rfl, (Below.refl _ _).alloc (Nat.le_refl _) _⟩
set_option maxHeartbeats 1000000 in
theorem slPut_ok (w : World) (B R n : Nat) (g : Nat → Pl) (i : Nat) (k d : Int) (v : Nat) (h : Slt w B R n g) (hi : i < n) (hf : (g i).f = false) (hv : (g i).v = v) (hm : v ≤ 1000000) :
    Calls Try.prog 8 #[.pointer (some ⟨B, 0, none⟩), .int .i64 i, .agg #[.int .u64 k, .int .i64 d]] w fun e w' => e = .returned (.int .i64 0) ∧ Slt w' B R n (slSet g i ⟨(k, d), v + 1, true⟩) ∧ w.grownBy w' (some R) := by
  obtain ⟨k', d', e'⟩ : ∃ k' d', g i = ⟨(k', d'), v, false⟩ := ⟨_, _, by rw [← hf, ← hv]⟩
  obtain ⟨c0, c1, c2, c3⟩ := h.cells hi e'
  have rl := h.rlt
  have f0 := h.free (i * 4)
  have f1 := h.free (i * 4 + 1)
  have f2 := h.free (i * 4 + 2)
  have f3 := h.free (i * 4 + 3)
  have wv : IntKind.u64.wrap ((v : Int) + 1) = (v : Int) + 1 := by rw [IntKind.wrap_u64, Int.emod_eq_of_lt (by omega) (by omega)]
  clear hf hv
  go_enter Try.func8, Try.ntmps8
  go_wp2_with fail
  refine (slAt_in _ B R n g i (h.alloc _) hi).mono ?_
  rintro e w1 ⟨rfl, rfl⟩
  go_wp2_with fail
  go_region
  go_wp2_with fail
  have hs := h.put hi k d (v + 1) true
  rw [show ((v + 1 : Nat) : Int) = (v : Int) + 1 by omega] at hs
  go_ret
  exact ⟨rfl, (hs.1.alloc _).drew, gr_trans (gr_trans hs.2 (World.grownBy_alloc _ _ _)) ⟨rfl, rfl, rfl, Nat.le_refl _, fun _ _ _ => rfl⟩⟩

theorem slTake_out (w : World) (B R n : Nat) (g : Nat → Pl) (i ver : Int) (h : Slt w B R n g) (hi : i < 0 ∨ (n : Int) ≤ i) :
    Calls Try.prog 9 #[.pointer (some ⟨B, 0, none⟩), .int .i64 i, .int .u64 ver] w fun e w' => e = .returned (.tuple #[.agg #[.int .u64 0, .int .i64 0], .bool false]) ∧ Below w.heap.size w w' := by
  go_enter Try.func9, Try.ntmps9
  go_wp2_with fail
  refine (slAt_out _ B R n g i (h.alloc _) hi).mono ?_
  rintro e w1 ⟨rfl, rfl⟩
  go_wp2_with fail
  refine bodyPost_ret (v := .tuple #[.agg #[.int .u64 0, .int .i64 0], .bool false]) (by simp [results, Try.results9, go_sem]) rfl ⟨rfl, (Below.refl _ _).alloc (Nat.le_refl _) _⟩
theorem slTake_no (w : World) (B R n : Nat) (g : Nat → Pl) (i : Nat) (ver : Int) (h : Slt w B R n g) (hi : i < n) (hf : (g i).f = false ∨ ((g i).v : Int) ≠ ver) :
    Calls Try.prog 9 #[.pointer (some ⟨B, 0, none⟩), .int .i64 i, .int .u64 ver] w fun e w' => e = .returned (.tuple #[.agg #[.int .u64 0, .int .i64 0], .bool false]) ∧ Below w.heap.size w w' := by
  obtain ⟨k', d', v', f', e'⟩ : ∃ k' d' v' f', g i = ⟨(k', d'), v', f'⟩ := ⟨_, _, _, _, rfl⟩
  obtain ⟨c0, c1, c2, c3⟩ := h.cells hi e'
  have rl := h.rlt
  rw [e'] at hf
  simp only at hf
  cases f' with
  | false =>
    go_enter Try.func9, Try.ntmps9
    go_wp2_with fail
    refine (slAt_in _ B R n g i (h.alloc _) hi).mono ?_
    rintro e w1 ⟨rfl, rfl⟩
    go_wp2_with fail
    refine bodyPost_ret (v := .tuple #[.agg #[.int .u64 0, .int .i64 0], .bool false]) (by simp [results, Try.results9, go_sem]) rfl ⟨rfl, (Below.refl _ _).alloc (Nat.le_refl _) _⟩
  | true =>
    have hne : ¬ (v' : Int) = ver := by simpa using hf
    have hb : ((v' : Int) == ver) = false := by simpa using hne
    clear hf
    go_enter Try.func9, Try.ntmps9
    go_wp2_with fail
    refine (slAt_in _ B R n g i (h.alloc _) hi).mono ?_
    rintro e w1 ⟨rfl, rfl⟩
    go_wp2_with fail
    refine bodyPost_ret (v := .tuple #[.agg #[.int .u64 0, .int .i64 0], .bool false]) (by simp [results, Try.results9, go_sem]) rfl ⟨rfl, (Below.refl _ _).alloc (Nat.le_refl _) _⟩
/-- A store into what is new. -/
theorem gr_new {w u : World} {row : Option Nat} (h : w.grownBy u row) {S o : Nat} (hS : w.heap.size ≤ S) (x : Value) : w.grownBy (u.setCell ⟨S, o, none⟩ x) row :=
  ⟨h.os, h.tape, h.output, by simpa [World.setCell] using h.size, fun k hk hne => (Below.heap_setCell u ⟨S, o, none⟩ x k (by show k ≠ S; omega)).trans (h.block k hk hne)⟩
theorem Slt.setNew {u : World} {B R n : Nat} {g : Nat → Pl} (h : Slt u B R n g) {S o : Nat} (h1 : B ≠ S) (h2 : R ≠ S) (x : Value) : Slt (u.setCell ⟨S, o, none⟩ x) B R n g :=
  h.of_blocks (Below.heap_setCell u ⟨S, o, none⟩ x B h1) (Below.heap_setCell u ⟨S, o, none⟩ x R h2)
/-- A box of two, set anew. -/
theorem slBox {u : World} {S : Nat} {x y : Value} {T : TypeId} (h : u.heap[S]? = some (.cells #[x, y] T (0, 0))) (a b : Value) :
    ((u.setCell ⟨S, 0, none⟩ a).setCell ⟨S, 1, none⟩ b).cell? ⟨S, 0, none⟩ = some a ∧ ((u.setCell ⟨S, 0, none⟩ a).setCell ⟨S, 1, none⟩ b).cell? ⟨S, 1, none⟩ = some b := by
  have h1 : (u.setCell ⟨S, 0, none⟩ a).heap[S]? = some (.cells #[a, y] T (0, 0)) := by simp [World.setCell, Array.getElem?_modify, h]
  have h2 : ((u.setCell ⟨S, 0, none⟩ a).setCell ⟨S, 1, none⟩ b).heap[S]? = some (.cells #[a, b] T (0, 0)) := by
    generalize u.setCell ⟨S, 0, none⟩ a = v at h1 ⊢
    simp [World.setCell, Array.getElem?_modify, h1]
  exact ⟨by rw [cell_of_row _ _ _ _ _ _ h2]; rfl, by rw [cell_of_row _ _ _ _ _ _ h2]; rfl⟩
set_option maxHeartbeats 1000000 in
theorem slTake_ok (w : World) (B R n : Nat) (g : Nat → Pl) (i : Nat) (k d : Int) (v : Nat) (h : Slt w B R n g) (hi : i < n) (hp : g i = ⟨(k, d), v, true⟩) (hm : v ≤ 1000000) :
    Calls Try.prog 9 #[.pointer (some ⟨B, 0, none⟩), .int .i64 i, .int .u64 v] w fun e w' => e = .returned (.tuple #[.agg #[.int .u64 k, .int .i64 d], .bool true]) ∧ Slt w' B R n (slSet g i ⟨(0, 0), v + 1, false⟩) ∧ w.grownBy w' (some R) := by
  obtain ⟨c0, c1, c2, c3⟩ := h.cells hi hp
  have rl := h.rlt
  have bl := h.blt
  go_enter Try.func9, Try.ntmps9
  go_wp2_with fail
  refine (slAt_in _ B R n g i (h.alloc _) hi).mono ?_
  rintro e w1 ⟨rfl, rfl⟩
  go_wp2_with fail
  refine (slEmpty_any _ B R n g i (h.alloc _) hi k d v true hp hm).mono ?_
  rintro e w2 ⟨rfl, s2, g2⟩
  have hb := (g2.block w.heap.size (by simp) (by intro e; injection e with e; omega)).trans (heap_alloc_new w _)
  have y0 : w2.cell? ⟨w.heap.size, 0, none⟩ = some (.int .u64 0) := by rw [cell_of_row _ _ _ _ _ _ hb]; rfl
  have y1 : w2.cell? ⟨w.heap.size, 1, none⟩ = some (.int .i64 0) := by rw [cell_of_row _ _ _ _ _ _ hb]; rfl
  have z0 : w2.frozen? ⟨w.heap.size, 0, none⟩ = false := by simp [World.frozen?, hb]
  have z1 : w2.frozen? ⟨w.heap.size, 1, none⟩ = false := by simp [World.frozen?, hb]
  have gg : w.grownBy w2 (some R) := gr_trans (World.grownBy_alloc _ _ _) g2
  have fs : Aside (Slt ((w2.setCell ⟨w.heap.size, 0, none⟩ (.int .u64 k)).setCell ⟨w.heap.size, 1, none⟩ (.int .i64 d)) B R n (slSet g i ⟨(0, 0), v + 1, false⟩) ∧ w.grownBy ((w2.setCell ⟨w.heap.size, 0, none⟩ (.int .u64 k)).setCell ⟨w.heap.size, 1, none⟩ (.int .i64 d)) (some R)) :=
    ⟨(s2.setNew (by omega) (by omega) _).setNew (by omega) (by omega) _, gr_new (gr_new gg (by omega) _) (by omega) _⟩
  obtain ⟨b0, b1⟩ := slBox hb (.int .u64 k) (.int .i64 d)
  clear hb g2 s2 gg h c0 c1 c2 c3 rl bl hp
  go_wp2_with fail
  refine bodyPost_ret (v := .tuple #[.agg #[.int .u64 k, .int .i64 d], .bool true]) (by simp [results, Try.results9, go_sem, b0, b1]) rfl ⟨rfl, fs.out.1, fs.out.2⟩
set_option maxHeartbeats 1000000 in
theorem slGet_in (w : World) (B R n : Nat) (g : Nat → Pl) (i : Nat) (k d : Int) (v : Nat) (f : Bool) (h : Slt w B R n g) (hi : i < n) (hp : g i = ⟨(k, d), v, f⟩) :
    Calls Try.prog 10 #[.pointer (some ⟨B, 0, none⟩), .int .i64 i] w fun e w' => e = .returned (.tuple #[.agg #[.int .u64 k, .int .i64 d], .int .u64 v, .bool f]) ∧ Below w.heap.size w w' := by
  obtain ⟨c0, c1, c2, c3⟩ := h.cells hi hp
  have rl := h.rlt
  go_enter Try.func10, Try.ntmps10
  go_wp2_with fail
  refine (slAt_in _ B R n g i (h.alloc _) hi).mono ?_
  rintro e w1 ⟨rfl, rfl⟩
  go_wp2_with fail
  go_region
  go_wp2_with fail
  refine bodyPost_ret (v := .tuple #[.agg #[.int .u64 k, .int .i64 d], .int .u64 v, .bool f]) (by simp [results, Try.results10, go_sem]) rfl ⟨rfl, ((Below.refl _ _).alloc (Nat.le_refl _) _).drew⟩
end Go.Proofs.Ytfecobeiibdpcaa

/- What the calls of package cell answer: contracts. -/
import Derived.Test.YtnphcbogknaadaaMem
import Derived.Test.YtnphcbogknaadaaChecked
import Derived.Deep.QuietTactic
import Derived.BigQuiet
import Derived.WalkSmall
namespace Go.Proofs.Ytnphcbogknaadaa
open Go.RowKit
set_option linter.unusedVariables false

abbrev CAt := At .u64 49 27
theorem infoU64 : (Try.prog.info? 27).map (fun i => (i.zero, i.size, i.bytes)) = some (some (.int .u64 0), 1, 8) := by kernel_rfl

theorem new_out (i : Int) (w : World) (h : i < 1 ∨ 4096 < i) :
    Calls Try.prog 7 #[.int .i64 i] w fun e w' => e = .returned (.tuple #[.pointer none, .int .i64 1]) ∧ w' = w := by
  rcases h with h | h
  · go_enter Try.func7, Try.ntmps7
    go_wp2_with fail
    go_ret2
    exact ⟨rfl, rfl⟩
  · have h' : ¬ i < 1 := by omega
    go_enter Try.func7, Try.ntmps7
    go_wp2_with fail
    go_ret2
    exact ⟨rfl, rfl⟩
theorem new_at (w : World) (n : Nat) (hn : n ≤ 4096) :
    CAt ((w.alloc (.cells (madeCells #[.int .u64 0] n) 27)).alloc (.cells #[.slice (some ⟨w.heap.size, 0, none⟩) n n, .int .u64 0, .int .u64 0, .int .i64 0, .int .i64 0] 49)) (w.heap.size + 1) w.heap.size n Mem.zero := by
  refine ⟨by omega, ?_, (World.rowIs_made w (.int .u64 0) n 27).alloc _, fun i hi => by simp [Mem.zero], hn⟩
  have := heap_alloc_new (w.alloc (.cells (madeCells #[.int .u64 0] n) 27)) (.cells #[.slice (some ⟨w.heap.size, 0, none⟩) n n, .int .u64 0, .int .u64 0, .int .i64 0, .int .i64 0] 49)
  simp at this
  simpa [Mem.zero] using this
theorem new_in (n : Nat) (w : World) (h1 : 1 ≤ n) (h2 : n ≤ 4096) :
    Calls Try.prog 7 #[.int .i64 n] w fun e w' => e = .returned (.tuple #[.pointer (some ⟨w.heap.size + 1, 0, none⟩), .int .i64 0]) ∧
      CAt w' (w.heap.size + 1) w.heap.size n Mem.zero ∧ Below w.heap.size w w' ∧ w'.heap.size = w.heap.size + 2 := by
  have g1 : ¬ (n : Int) < 1 := by omega
  have g2 : ¬ (4096 : Int) < (n : Int) := by omega
  have hmk := run_make_row' (P := Try.prog) 22 27 (.int .u64 0) 8 Try.underlying22 infoU64 rfl .i64 .i64 n (by omega) (by omega)
  have hat := new_at w n h2
  go_enter Try.func7, Try.ntmps7
  go_wp2_with fail
  go_ret2
  exact ⟨rfl, hat, ((Below.refl _ _).alloc (Nat.le_refl _) _).alloc (by simp) _, by simp⟩

theorem reach_out (w : World) (b r n : Nat) (m : Mem) (i c : Int) (h : CAt w b r n m) (hi : i < 0 ∨ (n : Int) ≤ i) :
    Calls Try.prog 21 #[.pointer (some ⟨b, 0, none⟩), .int .i64 i, .int .i64 c] w fun e w' => e = .returned (.bool false) ∧ w' = w := by
  have c0 := h.c0
  rcases hi with hi | hi
  · go_enter Try.func21, Try.ntmps21
    go_wp2_with fail
    go_ret
    exact ⟨rfl, rfl⟩
  · have h0 : ¬ i < 0 := by omega
    go_enter Try.func21, Try.ntmps21
    go_wp2_with fail
    go_ret
    exact ⟨rfl, rfl⟩
theorem reach_in (w : World) (b r n : Nat) (m : Mem) (i : Nat) (c : Int) (h : CAt w b r n m) (hi : i < n) (hs : m.st < 4611686018427387904) :
    Calls Try.prog 21 #[.pointer (some ⟨b, 0, none⟩), .int .i64 i, .int .i64 c] w fun e w' => e = .returned (.bool true) ∧ CAt w' b r n (m.hit i c) ∧ Wrote b r w w' := by
  have c0 := h.c0
  have c1 := h.c1
  have f1 := h.free 1
  have f3 := h.free 3
  have f4 := h.free 4
  have h0 : ¬ (i : Int) < 0 := by omega
  have h1 : ¬ (n : Int) ≤ (i : Int) := by omega
  have c3 := h.c3
  have c4 := h.c4
  go_enter Try.func21, Try.ntmps21
  go_wp2_with fail
  go_ret
  exact ⟨rfl, h.hit i c⟩

theorem load_out (w : World) (b r n : Nat) (m : Mem) (i : Int) (h : CAt w b r n m) (hi : i < 0 ∨ (n : Int) ≤ i) :
    Calls Try.prog 10 #[.pointer (some ⟨b, 0, none⟩), .int .i64 i] w fun e w' => e = .returned (.int .u64 0) ∧ w' = w := by
  go_enter Try.func10, Try.ntmps10
  go_wp2_with fail
  refine (reach_out w b r n m i _ h hi).mono ?_
  rintro e w1 ⟨rfl, rfl⟩
  go_wp2_with fail
  go_ret
  exact ⟨rfl, rfl⟩
theorem load_in (w : World) (b r n : Nat) (m : Mem) (i : Nat) (h : CAt w b r n m) (hi : i < n) (hs : m.st < 4611686018427387904) :
    Calls Try.prog 10 #[.pointer (some ⟨b, 0, none⟩), .int .i64 i] w fun e w' => e = .returned (.int .u64 (m.ws i)) ∧ CAt w' b r n (m.hit i 1) ∧ Wrote b r w w' := by
  have g1 : (i : Int) < (n : Int) := by omega
  go_enter Try.func10, Try.ntmps10
  go_wp2_with fail
  refine (reach_in w b r n m i 1 h hi hs).mono ?_
  rintro e w1 ⟨rfl, h1, hw⟩
  have c0 := h1.c0
  have cw := h1.word hi
  go_wp2_with fail
  go_ret
  exact ⟨rfl, h1, hw⟩
theorem store_out (w : World) (b r n : Nat) (m : Mem) (i v : Int) (h : CAt w b r n m) (hi : i < 0 ∨ (n : Int) ≤ i) :
    Calls Try.prog 13 #[.pointer (some ⟨b, 0, none⟩), .int .i64 i, .int .u64 v] w fun e w' => e = .returned (.tuple #[]) ∧ w' = w := by
  go_enter Try.func13, Try.ntmps13
  go_wp2_with fail
  refine (reach_out w b r n m i _ h hi).mono ?_
  rintro e w1 ⟨rfl, rfl⟩
  go_wp2_with fail
  go_end0
  exact ⟨rfl, rfl⟩
theorem store_in (w : World) (b r n : Nat) (m : Mem) (i : Nat) (v : Int) (h : CAt w b r n m) (hi : i < n) (hs : m.st < 4611686018427387904) (v0 : 0 ≤ v) (v1 : v < 18446744073709551616) :
    Calls Try.prog 13 #[.pointer (some ⟨b, 0, none⟩), .int .i64 i, .int .u64 v] w fun e w' => e = .returned (.tuple #[]) ∧ CAt w' b r n ((m.hit i 2).put i v) ∧ Wrote b r w w' := by
  have g1 : (i : Int) < (n : Int) := by omega
  go_enter Try.func13, Try.ntmps13
  go_wp2_with fail
  refine (reach_in w b r n m i 2 h hi hs).mono ?_
  rintro e w1 ⟨rfl, h1, hw⟩
  have c0 := h1.c0
  have cw := h1.word hi
  have fw := h1.free' i
  go_wp2_with fail
  go_end0
  exact ⟨rfl, (h1.put i v v0 v1).1, hw.trans (h1.put i v v0 v1).2⟩
theorem cas_out (w : World) (b r n : Nat) (m : Mem) (i o v : Int) (h : CAt w b r n m) (hi : i < 0 ∨ (n : Int) ≤ i) :
    Calls Try.prog 9 #[.pointer (some ⟨b, 0, none⟩), .int .i64 i, .int .u64 o, .int .u64 v] w fun e w' => e = .returned (.bool false) ∧ w' = w := by
  go_enter Try.func9, Try.ntmps9
  go_wp2_with fail
  refine (reach_out w b r n m i _ h hi).mono ?_
  rintro e w1 ⟨rfl, rfl⟩
  go_wp2_with fail
  go_ret
  exact ⟨rfl, rfl⟩
theorem cas_lost (w : World) (b r n : Nat) (m : Mem) (i : Nat) (o v : Int) (h : CAt w b r n m) (hi : i < n) (hs : m.st < 4611686018427387904) (ho : m.ws i ≠ o) :
    Calls Try.prog 9 #[.pointer (some ⟨b, 0, none⟩), .int .i64 i, .int .u64 o, .int .u64 v] w fun e w' => e = .returned (.bool false) ∧ CAt w' b r n (m.hit i 3) ∧ Wrote b r w w' := by
  have g1 : (i : Int) < (n : Int) := by omega
  have ho' : (m.ws i == o) = false := by simpa using ho
  go_enter Try.func9, Try.ntmps9
  go_wp2_with fail
  refine (reach_in w b r n m i 3 h hi hs).mono ?_
  rintro e w1 ⟨rfl, h1, hw⟩
  have c0 := h1.c0
  have cw : w1.cell? ⟨r, i, none⟩ = some (.int .u64 (m.ws i)) := h1.word hi
  go_wp2_with fail
  go_ret
  exact ⟨rfl, h1, hw⟩
theorem cas_won (w : World) (b r n : Nat) (m : Mem) (i : Nat) (o v : Int) (h : CAt w b r n m) (hi : i < n) (hs : m.st < 4611686018427387904) (hq : m.wn < 4611686018427387904) (ho : m.ws i = o) (v0 : 0 ≤ v) (v1 : v < 18446744073709551616) :
    Calls Try.prog 9 #[.pointer (some ⟨b, 0, none⟩), .int .i64 i, .int .u64 o, .int .u64 v] w fun e w' => e = .returned (.bool true) ∧ CAt w' b r n (((m.hit i 3).put i v).win) ∧ Wrote b r w w' := by
  have g1 : (i : Int) < (n : Int) := by omega
  go_enter Try.func9, Try.ntmps9
  go_wp2_with fail
  refine (reach_in w b r n m i 3 h hi hs).mono ?_
  rintro e w1 ⟨rfl, h1, hw⟩
  have c0 := h1.c0
  have cw : w1.cell? ⟨r, i, none⟩ = some (.int .u64 o) := by rw [← ho]; exact h1.word hi
  have fw := h1.free' i
  obtain ⟨h2, hw2⟩ := h1.put i v v0 v1
  have c2 : (w1.setCell ⟨r, i, none⟩ (.int .u64 v)).cell? ⟨b, 2, none⟩ = some (.int .u64 m.wn) := h2.c2
  have f2 := h2.free 2
  have h3 := h2.win
  clear ho
  go_wp2_with fail
  go_ret
  exact ⟨rfl, h3.1, hw.trans (hw2.trans h3.2)⟩
theorem add_out (w : World) (b r n : Nat) (m : Mem) (i v : Int) (h : CAt w b r n m) (hi : i < 0 ∨ (n : Int) ≤ i) :
    Calls Try.prog 8 #[.pointer (some ⟨b, 0, none⟩), .int .i64 i, .int .u64 v] w fun e w' => e = .returned (.int .u64 0) ∧ w' = w := by
  go_enter Try.func8, Try.ntmps8
  go_wp2_with fail
  refine (reach_out w b r n m i _ h hi).mono ?_
  rintro e w1 ⟨rfl, rfl⟩
  go_wp2_with fail
  go_ret
  exact ⟨rfl, rfl⟩
theorem add_in (w : World) (b r n : Nat) (m : Mem) (i : Nat) (v : Int) (h : CAt w b r n m) (hi : i < n) (hs : m.st < 4611686018427387904) :
    Calls Try.prog 8 #[.pointer (some ⟨b, 0, none⟩), .int .i64 i, .int .u64 v] w fun e w' => e = .returned (.int .u64 ((m.ws i + v) % 18446744073709551616)) ∧
      CAt w' b r n ((m.hit i 4).put i ((m.ws i + v) % 18446744073709551616)) ∧ Wrote b r w w' := by
  have g1 : (i : Int) < (n : Int) := by omega
  obtain ⟨X, hX⟩ : ∃ X, m.ws i = X := ⟨_, rfl⟩
  obtain ⟨Y, hY, hW⟩ : ∃ Y, (X + v) % 18446744073709551616 = Y ∧ IntKind.u64.wrap (X + v) = Y := ⟨_, rfl, by rw [IntKind.wrap_u64]⟩
  have y0 : 0 ≤ Y := by omega
  have y1 : Y < 18446744073709551616 := by omega
  rw [hX, hY]
  go_enter Try.func8, Try.ntmps8
  go_wp2_with fail
  refine (reach_in w b r n m i 4 h hi hs).mono ?_
  rintro e w1 ⟨rfl, h1, hw⟩
  have c0 := h1.c0
  have cw : w1.cell? ⟨r, i, none⟩ = some (.int .u64 X) := by rw [← hX]; exact h1.word hi
  have fw := h1.free' i
  obtain ⟨h2, hw2⟩ := h1.put i Y y0 y1
  have d0 := h2.c0
  have dw : (w1.setCell ⟨r, i, none⟩ (.int .u64 Y)).cell? ⟨r, i, none⟩ = some (.int .u64 Y) := by simpa using h2.word hi
  clear hX hY
  go_wp2_with fail
  go_ret
  exact ⟨rfl, h2, hw.trans hw2⟩
theorem steps_any (w : World) (b r n : Nat) (m : Mem) (h : CAt w b r n m) (hs : m.st < 4611686018427387904) :
    Calls Try.prog 14 #[.pointer (some ⟨b, 0, none⟩)] w fun e w' => e = .returned (.int .i64 m.st) ∧ w' = w := by
  have c1 := h.c1
  go_enter Try.func14, Try.ntmps14
  go_wp2_with fail
  go_ret
  exact ⟨rfl, rfl⟩
theorem wins_any (w : World) (b r n : Nat) (m : Mem) (h : CAt w b r n m) (hs : m.wn < 4611686018427387904) :
    Calls Try.prog 11 #[.pointer (some ⟨b, 0, none⟩)] w fun e w' => e = .returned (.int .i64 m.wn) ∧ w' = w := by
  have c1 := h.c2
  go_enter Try.func11, Try.ntmps11
  go_wp2_with fail
  go_ret
  exact ⟨rfl, rfl⟩
theorem len_any (w : World) (b r n : Nat) (m : Mem) (h : CAt w b r n m) :
    Calls Try.prog 15 #[.pointer (some ⟨b, 0, none⟩)] w fun e w' => e = .returned (.int .i64 n) ∧ w' = w := by
  have c1 := h.c0
  go_enter Try.func15, Try.ntmps15
  go_wp2_with fail
  go_ret
  exact ⟨rfl, rfl⟩
theorem last_any (w : World) (b r n : Nat) (m : Mem) (h : CAt w b r n m) :
    Calls Try.prog 16 #[.pointer (some ⟨b, 0, none⟩)] w fun e w' => e = .returned (.tuple #[.int .i64 m.lw, .int .i64 m.lk, .bool (m.lk != 0)]) ∧ ∃ q, w' = w.drewN q := by
  have c3 := h.c3
  have c4 := h.c4
  go_enter Try.func16, Try.ntmps16
  go_wp2_with fail
  go_quiet (fail)
  go_wp2_with fail
  go_ret3
  exact ⟨rfl, _, rfl⟩
end Go.Proofs.Ytnphcbogknaadaa

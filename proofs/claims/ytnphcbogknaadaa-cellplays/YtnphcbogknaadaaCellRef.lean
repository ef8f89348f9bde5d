/- What the document's own memory (vergerref3) answers: contracts. -/
import Derived.Test.YtnphcbogknaadaaCell
import Derived.BigRegion
namespace Go.Proofs.Ytnphcbogknaadaa
open Go.RowKit
set_option linter.unusedVariables false

abbrev RAt := At .i64 41 27
theorem rnew_at (w : World) (n : Nat) (hn : n ≤ 4096) :
    RAt ((w.alloc (.cells (madeCells #[.int .u64 0] n) 27)).alloc (.cells #[.slice (some ⟨w.heap.size, 0, none⟩) n n, .int .i64 0, .int .i64 0, .int .i64 0, .int .i64 0] 41)) (w.heap.size + 1) w.heap.size n Mem.zero := by
  refine ⟨by omega, ?_, (World.rowIs_made w (.int .u64 0) n 27).alloc _, fun i hi => by simp [Mem.zero], hn⟩
  have := heap_alloc_new (w.alloc (.cells (madeCells #[.int .u64 0] n) 27)) (.cells #[.slice (some ⟨w.heap.size, 0, none⟩) n n, .int .i64 0, .int .i64 0, .int .i64 0, .int .i64 0] 41)
  simp at this
  simpa [Mem.zero] using this
theorem rreach_out (w : World) (b r n : Nat) (m : Mem) (i c : Int) (h : RAt w b r n m) (hi : i < 0 ∨ (n : Int) ≤ i) :
    Calls Try.prog 22 #[.pointer (some ⟨b, 0, none⟩), .int .i64 i, .int .i64 c] w fun e w' => e = .returned (.bool false) ∧ w' = w := by
  have c0 := h.c0
  rcases hi with hi | hi
  · go_enter Try.func22, Try.ntmps22
    go_wp2_with fail
    go_ret
    exact ⟨rfl, rfl⟩
  · have h0 : ¬ i < 0 := by omega
    go_enter Try.func22, Try.ntmps22
    go_wp2_with fail
    go_ret
    exact ⟨rfl, rfl⟩
theorem rreach_in (w : World) (b r n : Nat) (m : Mem) (i : Nat) (c : Int) (h : RAt w b r n m) (hi : i < n) (hs : m.st < 4611686018427387904) :
    Calls Try.prog 22 #[.pointer (some ⟨b, 0, none⟩), .int .i64 i, .int .i64 c] w fun e w' => e = .returned (.bool true) ∧ RAt w' b r n (m.hit i c) ∧ Wrote b r w w' := by
  have c0 := h.c0
  have c1 := h.c1
  have f1 := h.free 1
  have f3 := h.free 3
  have f4 := h.free 4
  have h0 : ¬ (i : Int) < 0 := by omega
  have h1 : ¬ (n : Int) ≤ (i : Int) := by omega
  have c3 := h.c3
  have c4 := h.c4
  go_enter Try.func22, Try.ntmps22
  go_wp2_with fail
  go_ret
  exact ⟨rfl, h.hit i c⟩

theorem rload_out (w : World) (b r n : Nat) (m : Mem) (i : Int) (h : RAt w b r n m) (hi : i < 0 ∨ (n : Int) ≤ i) :
    Calls Try.prog 17 #[.pointer (some ⟨b, 0, none⟩), .int .i64 i] w fun e w' => e = .returned (.int .u64 0) ∧ w' = w := by
  go_enter Try.func17, Try.ntmps17
  go_wp2_with fail
  refine (rreach_out w b r n m i _ h hi).mono ?_
  rintro e w1 ⟨rfl, rfl⟩
  go_wp2_with fail
  go_ret
  exact ⟨rfl, rfl⟩
theorem rload_in (w : World) (b r n : Nat) (m : Mem) (i : Nat) (h : RAt w b r n m) (hi : i < n) (hs : m.st < 4611686018427387904) :
    Calls Try.prog 17 #[.pointer (some ⟨b, 0, none⟩), .int .i64 i] w fun e w' => e = .returned (.int .u64 (m.ws i)) ∧ RAt w' b r n (m.hit i 1) ∧ Wrote b r w w' := by
  have g1 : (i : Int) < (n : Int) := by omega
  go_enter Try.func17, Try.ntmps17
  go_wp2_with fail
  refine (rreach_in w b r n m i 1 h hi hs).mono ?_
  rintro e w1 ⟨rfl, h1, hw⟩
  have c0 := h1.c0
  have cw := h1.word hi
  go_wp2_with fail
  go_ret
  exact ⟨rfl, h1, hw⟩
theorem rstore_out (w : World) (b r n : Nat) (m : Mem) (i v : Int) (h : RAt w b r n m) (hi : i < 0 ∨ (n : Int) ≤ i) :
    Calls Try.prog 18 #[.pointer (some ⟨b, 0, none⟩), .int .i64 i, .int .u64 v] w fun e w' => e = .returned (.tuple #[]) ∧ w' = w := by
  go_enter Try.func18, Try.ntmps18
  go_wp2_with fail
  refine (rreach_out w b r n m i _ h hi).mono ?_
  rintro e w1 ⟨rfl, rfl⟩
  go_wp2_with fail
  go_end0
  exact ⟨rfl, rfl⟩
theorem rstore_in (w : World) (b r n : Nat) (m : Mem) (i : Nat) (v : Int) (h : RAt w b r n m) (hi : i < n) (hs : m.st < 4611686018427387904) (v0 : 0 ≤ v) (v1 : v < 18446744073709551616) :
    Calls Try.prog 18 #[.pointer (some ⟨b, 0, none⟩), .int .i64 i, .int .u64 v] w fun e w' => e = .returned (.tuple #[]) ∧ RAt w' b r n ((m.hit i 2).put i v) ∧ Wrote b r w w' := by
  have g1 : (i : Int) < (n : Int) := by omega
  go_enter Try.func18, Try.ntmps18
  go_wp2_with fail
  refine (rreach_in w b r n m i 2 h hi hs).mono ?_
  rintro e w1 ⟨rfl, h1, hw⟩
  have c0 := h1.c0
  have cw := h1.word hi
  have fw := h1.free' i
  go_wp2_with fail
  go_end0
  exact ⟨rfl, (h1.put i v v0 v1).1, hw.trans (h1.put i v v0 v1).2⟩
theorem rcas_out (w : World) (b r n : Nat) (m : Mem) (i o v : Int) (h : RAt w b r n m) (hi : i < 0 ∨ (n : Int) ≤ i) :
    Calls Try.prog 19 #[.pointer (some ⟨b, 0, none⟩), .int .i64 i, .int .u64 o, .int .u64 v] w fun e w' => e = .returned (.bool false) ∧ w' = w := by
  go_enter Try.func19, Try.ntmps19
  go_wp2_with fail
  refine (rreach_out w b r n m i _ h hi).mono ?_
  rintro e w1 ⟨rfl, rfl⟩
  go_wp2_with fail
  go_ret
  exact ⟨rfl, rfl⟩
theorem rcas_lost (w : World) (b r n : Nat) (m : Mem) (i : Nat) (o v : Int) (h : RAt w b r n m) (hi : i < n) (hs : m.st < 4611686018427387904) (ho : m.ws i ≠ o) :
    Calls Try.prog 19 #[.pointer (some ⟨b, 0, none⟩), .int .i64 i, .int .u64 o, .int .u64 v] w fun e w' => e = .returned (.bool false) ∧ RAt w' b r n (m.hit i 3) ∧ Wrote b r w w' := by
  have g1 : (i : Int) < (n : Int) := by omega
  have ho' : (m.ws i == o) = false := by simpa using ho
  go_enter Try.func19, Try.ntmps19
  go_wp2_with fail
  refine (rreach_in w b r n m i 3 h hi hs).mono ?_
  rintro e w1 ⟨rfl, h1, hw⟩
  have c0 := h1.c0
  have cw : w1.cell? ⟨r, i, none⟩ = some (.int .u64 (m.ws i)) := h1.word hi
  go_wp2_with fail
  go_ret
  exact ⟨rfl, h1, hw⟩
theorem rcas_won (w : World) (b r n : Nat) (m : Mem) (i : Nat) (o v : Int) (h : RAt w b r n m) (hi : i < n) (hs : m.st < 4611686018427387904) (hq : m.wn < 4611686018427387904) (ho : m.ws i = o) (v0 : 0 ≤ v) (v1 : v < 18446744073709551616) :
    Calls Try.prog 19 #[.pointer (some ⟨b, 0, none⟩), .int .i64 i, .int .u64 o, .int .u64 v] w fun e w' => e = .returned (.bool true) ∧ RAt w' b r n (((m.hit i 3).put i v).win) ∧ Wrote b r w w' := by
  have g1 : (i : Int) < (n : Int) := by omega
  go_enter Try.func19, Try.ntmps19
  go_wp2_with fail
  refine (rreach_in w b r n m i 3 h hi hs).mono ?_
  rintro e w1 ⟨rfl, h1, hw⟩
  have c0 := h1.c0
  have cw : w1.cell? ⟨r, i, none⟩ = some (.int .u64 o) := by rw [← ho]; exact h1.word hi
  have fw := h1.free' i
  obtain ⟨h2, hw2⟩ := h1.put i v v0 v1
  have c2 : (w1.setCell ⟨r, i, none⟩ (.int .u64 v)).cell? ⟨b, 2, none⟩ = some (.int .i64 m.wn) := h2.c2
  have f2 := h2.free 2
  have h3 := h2.win
  clear ho
  go_wp2_with fail
  go_ret
  exact ⟨rfl, h3.1, hw.trans (hw2.trans h3.2)⟩
theorem radd_out (w : World) (b r n : Nat) (m : Mem) (i v : Int) (h : RAt w b r n m) (hi : i < 0 ∨ (n : Int) ≤ i) :
    Calls Try.prog 20 #[.pointer (some ⟨b, 0, none⟩), .int .i64 i, .int .u64 v] w fun e w' => e = .returned (.int .u64 0) ∧ w' = w := by
  go_enter Try.func20, Try.ntmps20
  go_wp2_with fail
  refine (rreach_out w b r n m i _ h hi).mono ?_
  rintro e w1 ⟨rfl, rfl⟩
  go_wp2_with fail
  go_ret
  exact ⟨rfl, rfl⟩
theorem radd_in (w : World) (b r n : Nat) (m : Mem) (i : Nat) (v : Int) (h : RAt w b r n m) (hi : i < n) (hs : m.st < 4611686018427387904) :
    Calls Try.prog 20 #[.pointer (some ⟨b, 0, none⟩), .int .i64 i, .int .u64 v] w fun e w' => e = .returned (.int .u64 ((m.ws i + v) % 18446744073709551616)) ∧
      RAt w' b r n ((m.hit i 4).put i ((m.ws i + v) % 18446744073709551616)) ∧ Wrote b r w w' := by
  have g1 : (i : Int) < (n : Int) := by omega
  obtain ⟨X, hX⟩ : ∃ X, m.ws i = X := ⟨_, rfl⟩
  obtain ⟨Y, hY, hW⟩ : ∃ Y, (X + v) % 18446744073709551616 = Y ∧ IntKind.u64.wrap (X + v) = Y := ⟨_, rfl, by rw [IntKind.wrap_u64]⟩
  have y0 : 0 ≤ Y := by omega
  have y1 : Y < 18446744073709551616 := by omega
  rw [hX, hY]
  go_enter Try.func20, Try.ntmps20
  go_wp2_with fail
  refine (rreach_in w b r n m i 4 h hi hs).mono ?_
  rintro e w1 ⟨rfl, h1, hw⟩
  have c0 := h1.c0
  have cw : w1.cell? ⟨r, i, none⟩ = some (.int .u64 X) := by rw [← hX]; exact h1.word hi
  have fw := h1.free' i
  obtain ⟨h2, hw2⟩ := h1.put i Y y0 y1
  have d0 := h2.c0
  have dw : (w1.setCell ⟨r, i, none⟩ (.int .u64 Y)).cell? ⟨r, i, none⟩ = some (.int .u64 Y) := by simpa using h2.word hi
  clear hX hY
  go_wp2_with fail
  go_region
  go_wp2_with fail
  go_ret
  exact ⟨rfl, h2.drew, (hw.trans hw2).drew⟩
end Go.Proofs.Ytnphcbogknaadaa

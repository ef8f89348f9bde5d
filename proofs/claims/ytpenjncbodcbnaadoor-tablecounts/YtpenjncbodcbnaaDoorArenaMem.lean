/- What the calls of package cell answer that an arena wants: contracts, the counters whatever they are. -/
import Derived.Test.YtpenjncbodcbnaaDoorWm
import Derived.Test.YtpenjncbodcbnaaDoorChecked
import Derived.Deep.QuietTactic
import Derived.BigQuiet
import Derived.WalkSmall
namespace Go.Proofs.YtpenjncbodcbnaaDoor
open Go.RowKit
set_option linter.unusedVariables false

abbrev WAt := WMem 85 29
theorem infoU64 : (Tryd.prog.info? 29).map (fun i => (i.zero, i.size, i.bytes)) = some (some (.int .u64 0), 1, 8) := by kernel_rfl

theorem mnew_at (w : World) (n : Nat) (hn : n ≤ 4096) :
    WAt ((w.alloc (.cells (madeCells #[.int .u64 0] n) 29)).alloc (.cells #[.slice (some ⟨w.heap.size, 0, none⟩) n n, .int .u64 0, .int .u64 0, .int .i64 0, .int .i64 0] 85)) (w.heap.size + 1) w.heap.size n (fun _ => 0) := by
  refine ⟨by omega, ⟨0, 0, 0, 0, ?_⟩, (World.rowIs_made w (.int .u64 0) n 29).alloc _, fun i hi => by simp, hn⟩
  have := heap_alloc_new (w.alloc (.cells (madeCells #[.int .u64 0] n) 29)) (.cells #[.slice (some ⟨w.heap.size, 0, none⟩) n n, .int .u64 0, .int .u64 0, .int .i64 0, .int .i64 0] 85)
  simpa using this
theorem mnew_in (n : Nat) (w : World) (h1 : 1 ≤ n) (h2 : n ≤ 4096) :
    Calls Tryd.prog 27 #[.int .i64 n] w fun e w' => e = .returned (.tuple #[.pointer (some ⟨w.heap.size + 1, 0, none⟩), .int .i64 0]) ∧
      WAt w' (w.heap.size + 1) w.heap.size n (fun _ => 0) ∧ Below w.heap.size w w' ∧ w'.heap.size = w.heap.size + 2 := by
  have g1 : ¬ (n : Int) < 1 := by omega
  have g2 : ¬ (4096 : Int) < (n : Int) := by omega
  have hmk := run_make_row' (P := Tryd.prog) 39 29 (.int .u64 0) 8 Tryd.underlying39 infoU64 rfl .i64 .i64 n (by omega) (by omega)
  have hat := mnew_at w n h2
  go_enter Tryd.func27, Tryd.ntmps27
  go_wp2_with fail
  go_ret2
  exact ⟨rfl, hat, ((Below.refl _ _).alloc (Nat.le_refl _) _).alloc (by simp) _, by simp⟩

theorem mreach_out (w : World) (b r n : Nat) (ws : Nat → Int) (i c : Int) (h : WAt w b r n ws) (hi : i < 0 ∨ (n : Int) ≤ i) :
    Calls Tryd.prog 43 #[.pointer (some ⟨b, 0, none⟩), .int .i64 i, .int .i64 c] w fun e w' => e = .returned (.bool false) ∧ w' = w := by
  have c0 := h.c0
  rcases hi with hi | hi
  · go_enter Tryd.func43, Tryd.ntmps43
    go_wp2_with fail
    go_ret
    exact ⟨rfl, rfl⟩
  · have h0 : ¬ i < 0 := by omega
    go_enter Tryd.func43, Tryd.ntmps43
    go_wp2_with fail
    go_ret
    exact ⟨rfl, rfl⟩
theorem mreach_in (w : World) (b r n : Nat) (ws : Nat → Int) (i : Nat) (c : Int) (h : WAt w b r n ws) (hi : i < n) :
    Calls Tryd.prog 43 #[.pointer (some ⟨b, 0, none⟩), .int .i64 i, .int .i64 c] w fun e w' => e = .returned (.bool true) ∧ WAt w' b r n ws ∧ Kept b b r w w' := by
  have c0 := h.c0
  obtain ⟨s, q, l, k, c1, c2, c3, c4⟩ := h.cells
  have f1 := h.free 1
  have f3 := h.free 3
  have f4 := h.free 4
  have h0 : ¬ (i : Int) < 0 := by omega
  have h1 : ¬ (n : Int) ≤ (i : Int) := by omega
  have H : Hid (WAt w b r n ws) := h
  obtain ⟨X, hX⟩ : ∃ X, IntKind.u64.wrap (s + 1) = X := ⟨_, rfl⟩
  go_enter Tryd.func43, Tryd.ntmps43
  go_wp2_with fail
  go_ret
  exact ⟨rfl, ((H.out.u1 _).u3 _).u4 _, (((Kept.refl _ _ _ _).set _ _ (.inl rfl)).set _ _ (.inl rfl)).set _ _ (.inl rfl)⟩

theorem mload_out (w : World) (b r n : Nat) (ws : Nat → Int) (i : Int) (h : WAt w b r n ws) (hi : i < 0 ∨ (n : Int) ≤ i) :
    Calls Tryd.prog 35 #[.pointer (some ⟨b, 0, none⟩), .int .i64 i] w fun e w' => e = .returned (.int .u64 0) ∧ w' = w := by
  go_enter Tryd.func35, Tryd.ntmps35
  go_wp2_with fail
  refine (mreach_out w b r n ws i _ h hi).mono ?_
  rintro e w1 ⟨rfl, rfl⟩
  go_wp2_with fail
  go_ret
  exact ⟨rfl, rfl⟩
theorem mload_in (w : World) (b r n : Nat) (ws : Nat → Int) (i : Nat) (h : WAt w b r n ws) (hi : i < n) :
    Calls Tryd.prog 35 #[.pointer (some ⟨b, 0, none⟩), .int .i64 i] w fun e w' => e = .returned (.int .u64 (ws i)) ∧ WAt w' b r n ws ∧ Kept b b r w w' := by
  have g1 : (i : Int) < (n : Int) := by omega
  go_enter Tryd.func35, Tryd.ntmps35
  go_wp2_with fail
  refine (mreach_in w b r n ws i 1 h hi).mono ?_
  rintro e w1 ⟨rfl, h1, hw⟩
  have c0 := h1.c0
  have cw := h1.word hi
  go_wp2_with fail
  go_ret
  exact ⟨rfl, h1, hw⟩
theorem mcas_lost (w : World) (b r n : Nat) (ws : Nat → Int) (i : Nat) (o v : Int) (h : WAt w b r n ws) (hi : i < n) (ho : ws i ≠ o) :
    Calls Tryd.prog 41 #[.pointer (some ⟨b, 0, none⟩), .int .i64 i, .int .u64 o, .int .u64 v] w fun e w' => e = .returned (.bool false) ∧ WAt w' b r n ws ∧ Kept b b r w w' := by
  have g1 : (i : Int) < (n : Int) := by omega
  have ho' : (ws i == o) = false := by simpa using ho
  go_enter Tryd.func41, Tryd.ntmps41
  go_wp2_with fail
  refine (mreach_in w b r n ws i 3 h hi).mono ?_
  rintro e w1 ⟨rfl, h1, hw⟩
  have c0 := h1.c0
  have cw := h1.word hi
  go_wp2_with fail
  go_ret
  exact ⟨rfl, h1, hw⟩
theorem mcas_won (w : World) (b r n : Nat) (ws : Nat → Int) (i : Nat) (o v : Int) (h : WAt w b r n ws) (hi : i < n) (ho : ws i = o) (v0 : 0 ≤ v) (v1 : v < 18446744073709551616) :
    Calls Tryd.prog 41 #[.pointer (some ⟨b, 0, none⟩), .int .i64 i, .int .u64 o, .int .u64 v] w fun e w' => e = .returned (.bool true) ∧ WAt w' b r n (putW ws i v) ∧ Kept b b r w w' := by
  have g1 : (i : Int) < (n : Int) := by omega
  go_enter Tryd.func41, Tryd.ntmps41
  go_wp2_with fail
  refine (mreach_in w b r n ws i 3 h hi).mono ?_
  rintro e w1 ⟨rfl, h1, hw⟩
  have c0 := h1.c0
  have cw : w1.cell? ⟨r, i, none⟩ = some (.int .u64 o) := by rw [← ho]; exact h1.word hi
  have fw := h1.free' i
  have h2 := h1.put i v v0 v1
  obtain ⟨s, q, l, k, c1, c2, c3, c4⟩ := h2.cells
  have f2 := h2.free 2
  clear ho c1 c3 c4
  have H : Hid _ := And.intro h2 hw
  clear h2 hw h h1
  go_wp2_with fail
  go_ret
  exact ⟨rfl, H.out.1.u2 _, (H.out.2.set _ _ (.inr (.inr rfl))).set _ _ (.inl rfl)⟩
theorem mlen_any (w : World) (b r n : Nat) (ws : Nat → Int) (h : WAt w b r n ws) :
    Calls Tryd.prog 30 #[.pointer (some ⟨b, 0, none⟩)] w fun e w' => e = .returned (.int .i64 n) ∧ w' = w := by
  have c1 := h.c0
  go_enter Tryd.func30, Tryd.ntmps30
  go_wp2_with fail
  go_ret
  exact ⟨rfl, rfl⟩
end Go.Proofs.YtpenjncbodcbnaaDoor

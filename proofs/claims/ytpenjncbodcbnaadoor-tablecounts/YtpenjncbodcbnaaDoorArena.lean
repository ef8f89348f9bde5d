/- What the calls of package arena answer: contracts. -/
import Derived.Test.YtpenjncbodcbnaaDoorArenaMem
import Derived.Test.YtpenjncbodcbnaaDoorWordCore
import Derived.Deep.RegionHeld3
import Derived.BigRegion
namespace Go.Proofs.YtpenjncbodcbnaaDoor
open Go.RowKit
set_option linter.unusedVariables false

abbrev AAt := Arn 77 85 29
theorem Kept.up {a b r : Nat} {w w' : World} (h : Kept b b r w w') : Kept a b r w w' := ⟨h.os, h.tape, h.output, h.size, fun k h0 h1 h2 h3 => h.block k h0 h2 h2 h3⟩
theorem wf_i64 {x : Int} (h0 : -9223372036854775808 ≤ x) (h1 : x ≤ 9223372036854775807) : (Lit.int .i64 x).wf = true := by
  simp [Lit.wf, IntKind.min, IntKind.max, IntKind.bits, IntKind.signed]
  omega

theorem cnt_zero (s n : Nat) (hs : s < 7) : (cnt (fun _ => 0) s n : Int) = if s = 0 then (n : Int) else 0 := by
  by_cases e : s = 0
  · subst e
    have : cnt (fun _ => 0) ((0 : Nat) : Int) n = n := cnt_all fun i hi => rfl
    rw [if_pos rfl, this]
  · have : cnt (fun _ => 0) s n = 0 := cnt_none fun i hi => by
      show (0 : Int) % 8 ≠ s
      omega
    simp [e, this]
theorem new_out (i : Int) (w : World) (h : i < 1 ∨ 1000 < i) :
    Calls Tryd.prog 15 #[.int .i64 i] w fun e w' => e = .returned (.tuple #[.pointer none, .int .i64 1]) ∧ w' = w := by
  rcases h with h | h
  · go_enter Tryd.func15, Tryd.ntmps15
    go_wp2_with fail
    go_ret2
    exact ⟨rfl, rfl⟩
  · have h' : ¬ i < 1 := by omega
    go_enter Tryd.func15, Tryd.ntmps15
    go_wp2_with fail
    go_ret2
    exact ⟨rfl, rfl⟩
theorem new_at (w w1 : World) (n : Nat) (h1 : 1 ≤ n) (h2 : n ≤ 1000) (h : WAt w1 (w.heap.size + 1) w.heap.size n (fun _ => 0)) (z : w1.heap.size = w.heap.size + 2) :
    AAt (w1.alloc (.cells #[.pointer (some ⟨w.heap.size + 1, 0, none⟩), .int .i64 n, .int .i64 0, .int .i64 0, .int .i64 0, .int .i64 0, .int .i64 0, .int .i64 0] 77)) (w.heap.size + 2) (w.heap.size + 1) w.heap.size n (fun _ => 0) := by
  have hh := heap_alloc_new w1 (.cells #[.pointer (some ⟨w.heap.size + 1, 0, none⟩), .int .i64 n, .int .i64 0, .int .i64 0, .int .i64 0, .int .i64 0, .int .i64 0, .int .i64 0] 77)
  rw [z] at hh
  refine ⟨by omega, by omega, ⟨_, hh, rfl, rfl, fun s hs => ?_⟩, h.of_blocks (Below.heap_alloc _ _ _ h.blt) (Below.heap_alloc _ _ _ h.rlt), fun i hi => by simp, h1, h2⟩
  · rw [cnt_zero s n hs]
    have : s = 0 ∨ s = 1 ∨ s = 2 ∨ s = 3 ∨ s = 4 ∨ s = 5 ∨ s = 6 := by omega
    rcases this with rfl | rfl | rfl | rfl | rfl | rfl | rfl <;> rfl
theorem new_in (n : Nat) (w : World) (h1 : 1 ≤ n) (h2 : n ≤ 1000) :
    Calls Tryd.prog 15 #[.int .i64 n] w fun e w' => e = .returned (.tuple #[.pointer (some ⟨w.heap.size + 2, 0, none⟩), .int .i64 0]) ∧
      AAt w' (w.heap.size + 2) (w.heap.size + 1) w.heap.size n (fun _ => 0) ∧ Below w.heap.size w w' ∧ w'.heap.size = w.heap.size + 3 := by
  have g1 : ¬ (n : Int) < 1 := by omega
  have g2 : ¬ (1000 : Int) < (n : Int) := by omega
  go_enter Tryd.func15, Tryd.ntmps15
  go_wp2_with fail
  refine (mnew_in n w h1 (by omega)).mono ?_
  rintro e w1 ⟨rfl, hm, hb, hz⟩
  have hA : Hid _ := new_at w w1 n h1 h2 hm hz
  have hB : Hid (Below w.heap.size w w1) := hb
  clear hm hb
  go_wp2_with fail
  go_ret2
  exact ⟨rfl, hA.out, hB.out.alloc (by omega) _, by simp [hz]⟩

theorem len_any (w : World) (a b r n : Nat) (ws : Nat → Int) (h : AAt w a b r n ws) :
    Calls Tryd.prog 17 #[.pointer (some ⟨a, 0, none⟩)] w fun e w' => e = .returned (.int .i64 n) ∧ w' = w := by
  have c0 := h.c0
  go_enter Tryd.func17, Tryd.ntmps17
  go_wp2_with fail
  refine (mlen_any w b r n ws h.mem).mono ?_
  rintro e w1 ⟨rfl, rfl⟩
  go_wp2_with fail
  go_ret
  exact ⟨rfl, rfl⟩
theorem has_in (w : World) (a b r n : Nat) (ws : Nat → Int) (h : AAt w a b r n ws) (x : Int) (x1 : 1 ≤ x) (x2 : x ≤ n) :
    Calls Tryd.prog 34 #[.pointer (some ⟨a, 0, none⟩), .int .i64 x] w fun e w' => e = .returned (.bool true) ∧ w' = w := by
  go_enter Tryd.func34, Tryd.ntmps34
  go_wp2_with fail
  refine (len_any w a b r n ws h).mono ?_
  rintro e w1 ⟨rfl, rfl⟩
  go_wp2_with fail
  go_ret
  exact ⟨rfl, rfl⟩
theorem has_out (w : World) (a b r n : Nat) (ws : Nat → Int) (h : AAt w a b r n ws) (x : Int) (hx : x < 1 ∨ (n : Int) < x) :
    Calls Tryd.prog 34 #[.pointer (some ⟨a, 0, none⟩), .int .i64 x] w fun e w' => e = .returned (.bool false) ∧ w' = w := by
  by_cases x1 : x < 1
  · have x1' : ¬ 1 ≤ x := by omega
    clear hx
    go_enter Tryd.func34, Tryd.ntmps34
    go_wp2_with fail
    go_ret
    exact ⟨rfl, rfl⟩
  · have x1' : 1 ≤ x := by omega
    have x2' : ¬ x ≤ (n : Int) := by omega
    clear hx
    go_enter Tryd.func34, Tryd.ntmps34
    go_wp2_with fail
    refine (len_any w a b r n ws h).mono ?_
    rintro e w1 ⟨rfl, rfl⟩
    go_wp2_with fail
    go_ret
    exact ⟨ret_bool (by simp; omega), rfl⟩
theorem word_in (w : World) (a b r n : Nat) (ws : Nat → Int) (h : AAt w a b r n ws) (i : Nat) (hi : i < n) :
    Calls Tryd.prog 25 #[.pointer (some ⟨a, 0, none⟩), .int .i64 ((i : Int) + 1)] w fun e w' => e = .returned (.int .u64 (ws i)) ∧ AAt w' a b r n ws ∧ Kept a b r w w' := by
  have c0 := h.c0
  have hn := h.most
  go_enter Tryd.func25, Tryd.ntmps25
  go_wp2_with fail
  refine (mload_in w b r n ws i h.mem hi).mono ?_
  rintro e w1 ⟨rfl, h1, k1⟩
  have H : Hid _ := And.intro (h.of_mem (b' := 0) (r' := 0) h1 k1) (k1.up (a := a))
  clear h1 k1
  go_wp2_with fail
  go_ret
  exact ⟨rfl, H.out⟩
theorem word_out (w : World) (a b r n : Nat) (ws : Nat → Int) (h : AAt w a b r n ws) (x : Int) (hx : x < 1 ∨ (n : Int) < x) (x0 : -9223372036854775808 ≤ x) (x9 : x ≤ 9223372036854775807) :
    Calls Tryd.prog 25 #[.pointer (some ⟨a, 0, none⟩), .int .i64 x] w fun e w' => e = .returned (.int .u64 0) ∧ w' = w := by
  have c0 := h.c0
  have hn := h.most
  by_cases e : x = -9223372036854775808
  · subst e
    go_enter Tryd.func25, Tryd.ntmps25
    go_wp2_with fail
    refine (mload_out w b r n ws _ h.mem (.inr (by rw [show wrap64 (-9223372036854775809) = 9223372036854775807 by kernel_rfl]; omega))).mono ?_
    rintro e w1 ⟨rfl, rfl⟩
    go_wp2_with fail
    go_ret
    exact ⟨rfl, rfl⟩
  · have x0' : -9223372036854775808 < x := by omega
    have hx' : Hid (x < 1 ∨ (n : Int) < x) := hx
    clear hx e
    go_enter Tryd.func25, Tryd.ntmps25
    go_wp2_with fail
    refine (mload_out w b r n ws _ h.mem (by have := hx'.out; omega)).mono ?_
    rintro e w1 ⟨rfl, rfl⟩
    go_wp2_with fail
    go_ret
    exact ⟨rfl, rfl⟩
theorem state_in (w : World) (a b r n : Nat) (ws : Nat → Int) (h : AAt w a b r n ws) (i : Nat) (hi : i < n) :
    Calls Tryd.prog 23 #[.pointer (some ⟨a, 0, none⟩), .int .i64 ((i : Int) + 1)] w fun e w' => e = .returned (.int .i64 (ws i % 8)) ∧ AAt w' a b r n ws ∧ Kept a b r w w' := by
  have F := h.fits i hi
  go_enter Tryd.func23, Tryd.ntmps23
  go_wp2_with fail
  refine (word_in w a b r n ws h i hi).mono ?_
  rintro e w1 ⟨rfl, h1, k1⟩
  go_wp2_with fail
  refine (state_any _ _ F.1 F.2).mono ?_
  rintro e w2 ⟨rfl, rfl⟩
  go_wp2_with fail
  go_ret
  exact ⟨rfl, h1, k1⟩
theorem state_out (w : World) (a b r n : Nat) (ws : Nat → Int) (h : AAt w a b r n ws) (x : Int) (hx : x < 1 ∨ (n : Int) < x) (x0 : -9223372036854775808 ≤ x) (x9 : x ≤ 9223372036854775807) :
    Calls Tryd.prog 23 #[.pointer (some ⟨a, 0, none⟩), .int .i64 x] w fun e w' => e = .returned (.int .i64 0) ∧ w' = w := by
  go_enter Tryd.func23, Tryd.ntmps23
  go_wp2_with fail
  refine (word_out w a b r n ws h x hx x0 x9).mono ?_
  rintro e w1 ⟨rfl, rfl⟩
  go_wp2_with fail
  refine (state_any 0 _ (by omega) (by omega)).mono ?_
  rintro e w2 ⟨rfl, rfl⟩
  go_wp2_with fail
  go_ret
  exact ⟨rfl, rfl⟩
end Go.Proofs.YtpenjncbodcbnaaDoor

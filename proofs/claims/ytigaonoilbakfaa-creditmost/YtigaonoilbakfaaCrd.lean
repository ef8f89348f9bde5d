/- Credits in the heap, and what the calls of package credit answer. -/
import Derived.Test.YtigaonoilbakfaaCrM
import Derived.Deep.RegionHeld3
import Derived.BigRegion
namespace Go.Proofs.Ytigaonoilbakfaa
open Go.RowKit
set_option linter.unusedVariables false

/-- At block a lie credits: n in all, their memory at b, its row at r; o are out, m were out at most. -/
structure Cr (w : World) (a b r : Nat) (n o m : Nat) : Prop where
  nb : a ≠ b
  nr : a ≠ r
  head : w.heap[a]? = some (.cells #[.int .i64 n, .pointer (some ⟨b, 0, none⟩)] 40 (0, 0))
  mem : ∃ ws, WAt w b r 2 ws ∧ ws 0 = o ∧ ws 1 = m
  om : o ≤ m
  mn : m ≤ n
  most : n ≤ 64

variable {w w' : World} {a b r n o m : Nat}
theorem Cr.c0 (h : Cr w a b r n o m) : w.cell? ⟨a, 0, none⟩ = some (.int .i64 n) := by simp [World.cell?, h.head]
theorem Cr.c1 (h : Cr w a b r n o m) : w.cell? ⟨a, 1, none⟩ = some (.pointer (some ⟨b, 0, none⟩)) := by simp [World.cell?, h.head]
theorem Cr.alt (h : Cr w a b r n o m) : a < w.heap.size := lt_of_block h.head
theorem Cr.blt (h : Cr w a b r n o m) : b < w.heap.size := by obtain ⟨ws, h1, _⟩ := h.mem; exact h1.blt
theorem Cr.rlt (h : Cr w a b r n o m) : r < w.heap.size := by obtain ⟨ws, h1, _⟩ := h.mem; exact h1.rlt
theorem Cr.of_blocks (h : Cr w a b r n o m) (ha : w'.heap[a]? = w.heap[a]?) (hb : w'.heap[b]? = w.heap[b]?) (hr : w'.heap[r]? = w.heap[r]?) : Cr w' a b r n o m := by
  obtain ⟨ws, h1, h2, h3⟩ := h.mem
  exact ⟨h.nb, h.nr, ha.trans h.head, ⟨ws, h1.of_blocks hb hr, h2, h3⟩, h.om, h.mn, h.most⟩
theorem Cr.drew (h : Cr w a b r n o m) : Cr w.drew a b r n o m := h.of_blocks rfl rfl rfl
theorem Cr.drewN (h : Cr w a b r n o m) (q : Nat) : Cr (w.drewN q) a b r n o m := h.of_blocks rfl rfl rfl
theorem Cr.grew (h : Cr w a b r n o m) (hw : Below w.heap.size w w') : Cr w' a b r n o m := h.of_blocks (hw.block a h.alt) (hw.block b h.blt) (hw.block r h.rlt)
/-- The memory was turned, and nothing else. -/
theorem Cr.turn (h : Cr w a b r n o m) (hk : Kept b b r w w') {ws : Nat → Int} {o' m' : Nat} (hm : WAt w' b r 2 ws) (h0 : ws 0 = o') (h1 : ws 1 = m') (g1 : o' ≤ m') (g2 : m' ≤ n) : Cr w' a b r n o' m' :=
  ⟨h.nb, h.nr, (hk.block a h.alt h.nb h.nb h.nr).trans h.head, ⟨ws, hm, h0, h1⟩, g1, g2, h.most⟩

theorem new_no (x : Int) (w : World) (h : x < 1 ∨ 64 < x) :
    Calls Try.prog 5 #[.int .i64 x] w fun e w' => e = .returned (.tuple #[.pointer none, .int .i64 1]) ∧ w' = w := by
  rcases h with h | h
  · go_enter Try.func5, Try.ntmps5
    go_wp2_with fail
    go_ret2
    exact ⟨rfl, rfl⟩
  · have h' : ¬ x < 1 := by omega
    go_enter Try.func5, Try.ntmps5
    go_wp2_with fail
    go_ret2
    exact ⟨rfl, rfl⟩
theorem new_any (n : Nat) (w : World) (h1 : 1 ≤ n) (h2 : n ≤ 64) :
    Calls Try.prog 5 #[.int .i64 n] w fun e w' => e = .returned (.tuple #[.pointer (some ⟨w.heap.size + 2, 0, none⟩), .int .i64 0]) ∧ Cr w' (w.heap.size + 2) (w.heap.size + 1) w.heap.size n 0 0 ∧ Below w.heap.size w w' ∧ w'.heap.size = w.heap.size + 3 := by
  have g1 : ¬ (n : Int) < 1 := by omega
  have g2 : ¬ (64 : Int) < (n : Int) := by omega
  go_enter Try.func5, Try.ntmps5
  go_wp2_with fail
  refine (mnew_in 2 w (by omega) (by omega)).mono ?_
  rintro e w1 ⟨rfl, hm, bl, sz⟩
  go_wp2_with fail
  go_ret2
  refine ⟨rfl, ⟨by omega, by omega, ?_, ⟨fun _ => 0, hm.of_blocks (Below.heap_alloc _ _ _ hm.blt) (Below.heap_alloc _ _ _ hm.rlt), rfl, rfl⟩, by omega, by omega, h2⟩, bl.alloc (by omega) _, by simp [sz]⟩
  have := heap_alloc_new w1 (.cells #[.int .i64 n, .pointer (some ⟨w.heap.size + 1, 0, none⟩)] 40)
  rw [sz] at this
  exact this

theorem count0 (w : World) (h : Cr w a b r n o m) :
    Calls Try.prog 15 #[.pointer (some ⟨a, 0, none⟩), .int .i64 0] w fun e w' => e = .returned (.int .i64 o) ∧ Cr w' a b r n o m ∧ Kept b b r w w' := by
  obtain ⟨ws, h1, h2, h3⟩ := h.mem
  have c1 := h.c1
  have q1 := h.om
  have q2 := h.mn
  have q3 := h.most
  have H : Hid _ := h
  clear h
  go_enter Try.func15, Try.ntmps15
  go_wp2_with fail
  refine (mload_in w b r 2 ws 0 h1 (by omega)).mono ?_
  rintro e w1 ⟨rfl, h4, hk⟩
  rw [h2]
  have HK : Hid _ := And.intro h4 hk
  clear h1 h4 hk
  go_wp2_with fail
  go_ret
  exact ⟨rfl, H.out.turn HK.out.2 HK.out.1 h2 h3 q1 q2, HK.out.2⟩
theorem count1 (w : World) (h : Cr w a b r n o m) :
    Calls Try.prog 15 #[.pointer (some ⟨a, 0, none⟩), .int .i64 1] w fun e w' => e = .returned (.int .i64 m) ∧ Cr w' a b r n o m ∧ Kept b b r w w' := by
  obtain ⟨ws, h1, h2, h3⟩ := h.mem
  have c1 := h.c1
  have q1 := h.om
  have q2 := h.mn
  have q3 := h.most
  have H : Hid _ := h
  clear h
  go_enter Try.func15, Try.ntmps15
  go_wp2_with fail
  refine (mload_in w b r 2 ws 1 h1 (by omega)).mono ?_
  rintro e w1 ⟨rfl, h4, hk⟩
  rw [h3]
  have HK : Hid _ := And.intro h4 hk
  clear h1 h4 hk
  go_wp2_with fail
  go_ret
  exact ⟨rfl, H.out.turn HK.out.2 HK.out.1 h2 h3 q1 q2, HK.out.2⟩
theorem out_any (w : World) (h : Cr w a b r n o m) :
    Calls Try.prog 6 #[.pointer (some ⟨a, 0, none⟩)] w fun e w' => e = .returned (.int .i64 o) ∧ Cr w' a b r n o m ∧ Kept b b r w w' := by
  have H : Hid _ := h
  clear h
  go_enter Try.func6, Try.ntmps6
  go_wp2_with fail
  refine (count0 w H.out).mono ?_
  rintro e w1 ⟨rfl, h4, hk⟩
  have HK : Hid _ := And.intro h4 hk
  clear h4 hk
  go_wp2_with fail
  go_ret
  exact ⟨rfl, HK.out.1, HK.out.2⟩
theorem most_any (w : World) (h : Cr w a b r n o m) :
    Calls Try.prog 9 #[.pointer (some ⟨a, 0, none⟩)] w fun e w' => e = .returned (.int .i64 m) ∧ Cr w' a b r n o m ∧ Kept b b r w w' := by
  have H : Hid _ := h
  clear h
  go_enter Try.func9, Try.ntmps9
  go_wp2_with fail
  refine (count1 w H.out).mono ?_
  rintro e w1 ⟨rfl, h4, hk⟩
  have HK : Hid _ := And.intro h4 hk
  clear h4 hk
  go_wp2_with fail
  go_ret
  exact ⟨rfl, HK.out.1, HK.out.2⟩
theorem free_any (w : World) (h : Cr w a b r n o m) :
    Calls Try.prog 10 #[.pointer (some ⟨a, 0, none⟩)] w fun e w' => e = .returned (.int .i64 ((n : Int) - o)) ∧ Cr w' a b r n o m ∧ Kept b b r w w' := by
  have c0 := h.c0
  have q1 := h.om
  have q2 := h.mn
  have q3 := h.most
  have H : Hid _ := h.drew
  have wr : IntKind.i64.wrap ((n : Int) - o) = (n : Int) - o := by rw [IntKind.wrap_i64]; omega
  clear h
  go_enter Try.func10, Try.ntmps10
  go_wp2_with fail
  go_region_held3 (fun w' => w'.cell? ⟨a, 0, none⟩ = some (.int .i64 n)) (go_keep) ((go_at_call 6; refine (out_any _ H.out).mono ?_; rintro e v1 ⟨rfl, h4, hk⟩; have d0 := h4.c0))
  have HK : Hid _ := And.intro h4 hk
  clear h4 hk
  go_wp2_with fail
  go_ret
  exact ⟨rfl, HK.out.1, ((Kept.refl b b r w).drew).trans HK.out.2⟩
end Go.Proofs.Ytigaonoilbakfaa

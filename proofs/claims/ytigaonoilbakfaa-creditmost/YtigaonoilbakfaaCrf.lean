/- What the document fixes (awake), and the document's own credits. -/
import Derived.Test.YtigaonoilbakfaaCre
import Derived.BigRegion
namespace Go.Proofs.Ytigaonoilbakfaa
open Go.RowKit
set_option linter.unusedVariables false
variable {w w' : World} {a b r n o m : Nat}

theorem awake_any (w : World) : Calls Try.prog 11 #[] w fun e w' => e = .returned (.bool true) ∧ Below w.heap.size w w' := by
  go_enter Try.func11, Try.ntmps11
  go_wp2_with fail
  refine (new_any 1 w (by omega) (by omega)).mono ?_
  rintro e w1 ⟨rfl, h1, b1, s1⟩
  obtain ⟨S, hS⟩ : ∃ S, w.heap.size = S := ⟨_, rfl⟩
  rw [hS] at h1 b1 s1 ⊢
  have P1 := take_ok w1 h1 (by omega)
  have B1 : Hid (Below S w w1 ∧ S + 3 ≤ w1.heap.size) := ⟨b1, by omega⟩
  clear h1 b1 s1
  go_wp2_with fail
  refine P1.mono ?_
  rintro e w2 ⟨rfl, h2, k2⟩
  have B2 : Hid (Below S w w2 ∧ S + 3 ≤ w2.heap.size) := ⟨k2.below B1.out.1 (by have := B1.out.2; omega) (by omega) (by omega) (by omega), Nat.le_trans B1.out.2 k2.size⟩
  have P2 := take_no w2 h2
  clear P1 h2 k2 B1
  go_wp2_with fail
  refine P2.mono ?_
  rintro e w3 ⟨rfl, h3, k3⟩
  have B3 : Hid (Below S w w3 ∧ S + 3 ≤ w3.heap.size) := ⟨k3.below B2.out.1 (by have := B2.out.2; omega) (by omega) (by omega) (by omega), Nat.le_trans B2.out.2 k3.size⟩
  have P3 := give_ok (o := 0) w3 h3
  clear P2 h3 k3 B2
  go_wp2_with fail
  refine P3.mono ?_
  rintro e w4 ⟨rfl, h4, k4⟩
  have B4 : Hid (Below S w w4 ∧ S + 3 ≤ w4.heap.size) := ⟨k4.below B3.out.1 (by have := B3.out.2; omega) (by omega) (by omega) (by omega), Nat.le_trans B3.out.2 k4.size⟩
  have P4 := take_ok w4 h4 (by omega)
  clear P3 h4 k4 B3
  go_wp2_with fail
  refine P4.mono ?_
  rintro e w5 ⟨rfl, h5, k5⟩
  have B5 : Hid (Below S w w5 ∧ S + 3 ≤ w5.heap.size) := ⟨k5.below B4.out.1 (by have := B4.out.2; omega) (by omega) (by omega) (by omega), Nat.le_trans B4.out.2 k5.size⟩
  have P5 := give_ok (o := 0) w5 h5
  clear P4 h5 k5 B4
  go_wp2_with fail
  refine P5.mono ?_
  rintro e w6 ⟨rfl, h6, k6⟩
  have B6 : Hid (Below S w w6 ∧ S + 3 ≤ w6.heap.size) := ⟨k6.below B5.out.1 (by have := B5.out.2; omega) (by omega) (by omega) (by omega), Nat.le_trans B5.out.2 k6.size⟩
  have P6 := give_no w6 h6
  clear P5 h6 k6 B5
  go_wp2_with fail
  refine P6.mono ?_
  rintro e w7 ⟨rfl, h7, k7⟩
  have B7 : Hid (Below S w w7) := k7.below B6.out.1 (by have := B6.out.2; omega) (by omega) (by omega) (by omega)
  clear P6 h7 k7 B6
  go_wp2_with fail
  go_ret
  exact ⟨rfl, by rw [hS]; exact B7.out⟩

/-- At block c lie the document's credits. -/
structure RCr (w : World) (c n o m : Nat) : Prop where
  head : w.heap[c]? = some (.cells #[.int .i64 n, .int .i64 o, .int .i64 m] 34 (0, 0))
/-- Nothing but block c has turned. -/
structure Only (c : Nat) (w w' : World) : Prop where
  os : w'.os = w.os
  tape : w'.tape = w.tape
  output : w'.output = w.output
  size : w'.heap.size = w.heap.size
  block : ∀ k, k ≠ c → w'.heap[k]? = w.heap[k]?
theorem Only.refl (c : Nat) (w : World) : Only c w w := ⟨rfl, rfl, rfl, rfl, fun _ _ => rfl⟩
theorem Only.set {c : Nat} {u v : World} (h : Only c u v) (i : Nat) (x : Value) : Only c u (v.setCell ⟨c, i, none⟩ x) :=
  ⟨h.os, h.tape, h.output, by simp [World.setCell, h.size], fun k hk => (Below.heap_setCell _ _ _ _ hk).trans (h.block k hk)⟩
theorem Only.drewN {c : Nat} {u v : World} (h : Only c u v) (q : Nat) : Only c u (v.drewN q) := ⟨h.os, h.tape, h.output, h.size, h.block⟩
theorem Only.drew {c : Nat} {u v : World} (h : Only c u v) : Only c u v.drew := ⟨h.os, h.tape, h.output, h.size, h.block⟩
theorem Only.below {c B : Nat} {u w w' : World} (h : Only c w w') (hu : Below B u w) (hc : B ≤ c) : Below B u w' :=
  hu.trans ⟨h.os, h.tape, h.output, by rw [h.size]; omega, fun k hk => h.block k (by omega)⟩
theorem Cr.only {c : Nat} (h : Cr w a b r n o m) (hw : Only c w w') (h1 : a ≠ c) (h2 : b ≠ c) (h3 : r ≠ c) : Cr w' a b r n o m := h.of_blocks (hw.block a h1) (hw.block b h2) (hw.block r h3)
variable {c : Nat}
theorem RCr.c0 (h : RCr w c n o m) : w.cell? ⟨c, 0, none⟩ = some (.int .i64 n) := by simp [World.cell?, h.head]
theorem RCr.c1 (h : RCr w c n o m) : w.cell? ⟨c, 1, none⟩ = some (.int .i64 o) := by simp [World.cell?, h.head]
theorem RCr.c2 (h : RCr w c n o m) : w.cell? ⟨c, 2, none⟩ = some (.int .i64 m) := by simp [World.cell?, h.head]
theorem RCr.free (h : RCr w c n o m) (i : Nat) : w.frozen? ⟨c, i, none⟩ = false := by simp [World.frozen?, h.head]
theorem RCr.clt (h : RCr w c n o m) : c < w.heap.size := lt_of_block h.head
theorem RCr.drew (h : RCr w c n o m) : RCr w.drew c n o m := ⟨h.head⟩
theorem RCr.drewN (h : RCr w c n o m) (q : Nat) : RCr (w.drewN q) c n o m := ⟨h.head⟩
theorem RCr.set1 (h : RCr w c n o m) (o' : Nat) : RCr (w.setCell ⟨c, 1, none⟩ (.int .i64 o')) c n o' m := ⟨by rw [set_head h.head]; simp⟩
theorem RCr.set2 (h : RCr w c n o m) (m' : Nat) : RCr (w.setCell ⟨c, 2, none⟩ (.int .i64 m')) c n o m' := ⟨by rw [set_head h.head]; simp⟩
theorem RCr.kept (h : RCr w c n o m) (hk : Kept b b r w w') (h1 : c ≠ b) (h2 : c ≠ r) : RCr w' c n o m := ⟨(hk.block c h.clt h1 h1 h2).trans h.head⟩
theorem rtake_no (w : World) (h : RCr w c n n m) :
    Calls Try.prog 12 #[.pointer (some ⟨c, 0, none⟩)] w fun e w' => e = .returned (.bool false) ∧ RCr w' c n n m ∧ Only c w w' := by
  have c0 := h.c0
  have c1 := h.c1
  have H : Hid _ := h
  clear h
  go_enter Try.func12, Try.ntmps12
  go_wp2_with fail
  go_quiet (fail)
  go_wp2_with fail
  go_ret
  exact ⟨rfl, H.out.drewN _, (Only.refl _ _).drewN _⟩
theorem rtake_ok (w : World) (h : RCr w c n o m) (ho : o < n) (hn : n ≤ 64) :
    Calls Try.prog 12 #[.pointer (some ⟨c, 0, none⟩)] w fun e w' => e = .returned (.bool true) ∧ RCr w' c n (o + 1) (max m (o + 1)) ∧ Only c w w' := by
  have c0 := h.c0
  have c1 := h.c1
  have c2 := h.c2
  have f1 := h.free 1
  have f2 := h.free 2
  have hz : ((o : Int) == n) = false := by simp; omega
  have H : Hid _ := h
  clear h
  obtain ⟨p, hp⟩ : ∃ p, o + 1 = p := ⟨_, rfl⟩
  rw [hp]
  have wp : IntKind.i64.wrap ((o : Int) + 1) = (p : Int) := by rw [IntKind.wrap_i64]; omega
  obtain ⟨K, hK⟩ : ∃ K : Nat, K = max m p := ⟨_, rfl⟩
  have hmax := maxI 3 #[3, 3] (m : Int) (p : Int) K (by omega)
  have hKh : Hid _ := hK
  clear hK
  go_enter Try.func12, Try.ntmps12
  go_wp2_with fail
  go_quiet (fail)
  go_wp2_with fail
  go_region
  go_wp2_with fail
  go_ret
  refine ⟨rfl, ?_, ?_⟩
  · rw [← hKh.out]
    exact (((H.out.drewN _).set1 p).set2 K).drew
  · exact ((((Only.refl _ _).drewN _).set _ _).set _ _).drew
theorem rgive_no (w : World) (h : RCr w c n 0 m) :
    Calls Try.prog 13 #[.pointer (some ⟨c, 0, none⟩)] w fun e w' => e = .returned (.int .i64 7) ∧ RCr w' c n 0 m ∧ Only c w w' := by
  have c1 : w.cell? ⟨c, 1, none⟩ = some (.int .i64 0) := h.c1
  have H : Hid _ := h
  clear h
  go_enter Try.func13, Try.ntmps13
  go_wp2_with fail
  go_ret
  exact ⟨rfl, H.out, Only.refl _ _⟩
theorem rgive_ok (w : World) (h : RCr w c n (o + 1) m) (ho : o < 64) :
    Calls Try.prog 13 #[.pointer (some ⟨c, 0, none⟩)] w fun e w' => e = .returned (.int .i64 0) ∧ RCr w' c n o m ∧ Only c w w' := by
  obtain ⟨p, hp⟩ : ∃ p, o + 1 = p := ⟨_, rfl⟩
  rw [hp] at h
  have c1 := h.c1
  have f1 := h.free 1
  have hz : ((p : Int) == 0) = false := by simp; omega
  have wp : IntKind.i64.wrap ((p : Int) - 1) = (o : Int) := by rw [IntKind.wrap_i64]; omega
  have wq : (p : Int) - 1 = (o : Int) := by omega
  have H : Hid _ := h
  clear h hp
  go_enter Try.func13, Try.ntmps13
  go_wp2_with fail
  go_ret
  exact ⟨rfl, H.out.set1 _, (Only.refl _ _).set _ _⟩
end Go.Proofs.Ytigaonoilbakfaa

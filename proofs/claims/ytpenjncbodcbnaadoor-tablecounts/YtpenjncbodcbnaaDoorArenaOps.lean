/- What the calls of package arena answer that turn it: contracts. -/
import Derived.Test.YtpenjncbodcbnaaDoorArena
namespace Go.Proofs.YtpenjncbodcbnaaDoor
open Go.RowKit
set_option linter.unusedVariables false

set_option maxRecDepth 100000 in
theorem change_lost (w : World) (a b r n : Nat) (ws : Nat → Int) (h : AAt w a b r n ws) (i : Nat) (hi : i < n) (o : Int) (q : Nat) (o0 : 0 ≤ o) (o1 : o < 18446744073709551616) (ho : ws i ≠ o) :
    Calls Tryd.prog 32 #[.pointer (some ⟨a, 0, none⟩), .int .i64 ((i : Int) + 1), .int .u64 o, .int .i64 q] w fun e w' => e = .returned (.bool false) ∧ AAt w' a b r n ws ∧ Kept a b r w w' := by
  have c0 := h.c0
  have hn := h.most
  have H : Hid (AAt w a b r n ws) := h
  have ho' : Hid (ws i ≠ o) := ho
  clear h ho
  have hw1 : IntKind.i64.wrap (i : Int) = (i : Int) := by rw [IntKind.wrap_i64]; omega
  have KC : Hid (∀ v : World, Kept b b r w.drew v → v.cell? ⟨a, 0, none⟩ = some (.pointer (some ⟨b, 0, none⟩))) := fun v k => (k.cell (p := ⟨a, 0, none⟩) H.out.alt H.out.nb H.out.nb H.out.nr).trans c0
  go_enter Tryd.func32, Tryd.ntmps32
  go_wp2_with fail
  go_region_held3 (fun w' => w'.cell? ⟨a, 0, none⟩ = some (.pointer (some ⟨b, 0, none⟩))) (go_keep) ((first | (go_at_call 42; refine (next_any o q _ o0 o1).mono ?_; rintro e v ⟨rfl, rfl⟩) | (go_at_call 41; refine (mcas_lost _ b r n ws i o _ H.out.mem.drew hi ho'.out).mono ?_; rintro e v1 ⟨rfl, h1, k1⟩; have x0 := KC.out v1 k1)))
  go_wp2_with fail
  go_ret
  exact ⟨rfl, H.out.drew.of_mem (b' := 0) (r' := 0) h1 k1, (Kept.refl _ _ _ _).drew.trans k1.up⟩
set_option maxRecDepth 100000 in
theorem change_won (w : World) (a b r n : Nat) (ws : Nat → Int) (h : AAt w a b r n ws) (i : Nat) (hi : i < n) (o : Int) (q : Nat) (ho : ws i = o) (hq : q < 7) (hne : o % 8 ≠ q) :
    Calls Tryd.prog 32 #[.pointer (some ⟨a, 0, none⟩), .int .i64 ((i : Int) + 1), .int .u64 o, .int .i64 q] w fun e w' => e = .returned (.bool true) ∧ AAt w' a b r n (putW ws i (packI q (o / 8 + 1))) ∧ Kept a b r w w' := by
  have c0 := h.c0
  have hn := h.most
  obtain ⟨o0, o1⟩ := h.fits i hi
  have ok := h.ok i hi
  rw [ho] at o0 o1 ok
  obtain ⟨s, hs, hs7⟩ : ∃ s : Nat, o % 8 = s ∧ s < 7 := ⟨(o % 8).toNat, by omega, by omega⟩
  have hsq : s ≠ q := by omega
  obtain ⟨V, hV, V0, V1, V8⟩ : ∃ V, packI q (o / 8 + 1) = V ∧ 0 ≤ V ∧ V < 18446744073709551616 ∧ V % 8 = q := ⟨_, rfl, (packI_bound _ _).1, (packI_bound _ _).2, by rw [packI_state]; omega⟩
  rw [hV]
  have H : Hid (AAt w a b r n ws) := h
  have ho' : Hid (ws i = o) := ho
  have hV' : Hid (packI q (o / 8 + 1) = V) := hV
  have hs8 : Hid (ws i % 8 = s) := by show ws i % 8 = s; rw [ho]; exact hs
  have C1 : Hid (0 < cnt ws s n) := cnt_pos hi hs8.out
  have C2 : Hid (cnt ws q n ≤ n) := cnt_le _ _ _
  have C3 : Hid (cnt ws s n ≤ n) := cnt_le _ _ _
  have hsI : (s : Int) < 7 := by omega
  have hqI : (q : Int) < 7 := by omega
  clear h ho hV hne ok
  have hw1 : IntKind.i64.wrap (i : Int) = (i : Int) := by rw [IntKind.wrap_i64]; omega
  have KC : Hid (∀ v : World, Kept b b r w.drew v → v.cell? ⟨a, 0, none⟩ = some (.pointer (some ⟨b, 0, none⟩))) := fun v k => (k.cell (p := ⟨a, 0, none⟩) H.out.alt H.out.nb H.out.nb H.out.nr).trans c0
  go_enter Tryd.func32, Tryd.ntmps32
  go_wp2_with fail
  go_region_held3 (fun w' => w'.cell? ⟨a, 0, none⟩ = some (.pointer (some ⟨b, 0, none⟩))) (go_keep) ((first | (go_at_call 42; refine (next_any o q _ o0 o1).mono ?_; rintro e v ⟨rfl, rfl⟩; rw [hV'.out]) | (go_at_call 41; refine (mcas_won _ b r n ws i o V H.out.mem.drew hi ho'.out V0 V1).mono ?_; rintro e v1 ⟨rfl, h1, k1⟩; have x0 := KC.out v1 k1)))
  have K : Hid _ := And.intro h1 k1
  have d1 : v1.cell? ⟨a, 1 + s, none⟩ = some (.int .i64 (cnt ws s n)) := (k1.cell (p := ⟨a, 1 + s, none⟩) H.out.alt H.out.nb H.out.nb H.out.nr).trans (H.out.cs' s hs7)
  have d2 : v1.cell? ⟨a, 1 + q, none⟩ = some (.int .i64 (cnt ws q n)) := (k1.cell (p := ⟨a, 1 + q, none⟩) H.out.alt H.out.nb H.out.nb H.out.nr).trans (H.out.cs' q hq)
  have fz : ∀ j, v1.frozen? ⟨a, j, none⟩ = false := fun j => (k1.frozen (p := ⟨a, j, none⟩) H.out.alt H.out.nb H.out.nb H.out.nr).trans (H.out.free j)
  clear h1 k1 c0 x0
  obtain ⟨X, hX, hX'⟩ : ∃ X, IntKind.i64.wrap ((cnt ws s n : Int) - 1) = X ∧ X = (cnt ws s n : Int) - 1 := ⟨_, rfl, by rw [IntKind.wrap_i64]; have := C1.out; have := C3.out; omega⟩
  obtain ⟨Y, hY, hY'⟩ : ∃ Y, IntKind.i64.wrap ((cnt ws q n : Int) + 1) = Y ∧ Y = (cnt ws q n : Int) + 1 := ⟨_, rfl, by rw [IntKind.wrap_i64]; have := C2.out; omega⟩
  have hXY : Hid (X = (cnt ws s n : Int) - 1 ∧ Y = (cnt ws q n : Int) + 1) := ⟨hX', hY'⟩
  have e2 : (v1.setCell ⟨a, 1 + s, none⟩ (.int .i64 X)).cell? ⟨a, 1 + q, none⟩ = some (.int .i64 (cnt ws q n)) := by
    rw [World.cell?_setCell_other (h := by intro h; injection h with h1 h2; omega)]; exact d2
  have hA : Hid (AAt ((v1.setCell ⟨a, 1 + s, none⟩ (.int .i64 X)).setCell ⟨a, 1 + q, none⟩ (.int .i64 Y)) a b r n (putW ws i V)) := by
    show AAt _ a b r n (putW ws i V)
    rw [Nat.add_comm 1 s, Nat.add_comm 1 q]
    exact H.out.drew.turned hi hs8.out V8 hs7 hq hsq K.out.1 K.out.2 X Y hX' hY'
  clear hX' hY'
  go_wp2_with fail
  go_region_with ((go_at_call 33; refine (state_any o _ o0 o1).mono ?_; rw [hs]; rintro e v ⟨rfl, rfl⟩))
  go_wp2_with fail
  go_region
  go_wp2_with fail
  go_ret
  exact ⟨rfl, hA.out.of_blocks rfl rfl rfl, ((((((Kept.refl _ _ _ _).drew.trans K.out.2.up).set _ _ (.inl rfl)).drew).set _ _ (.inl rfl)).drew)⟩
theorem least_none (w : World) (a b r n : Nat) (ws : Nat → Int) (h : AAt w a b r n ws) (hn : ∀ i, i < n → ws i % 8 ≠ 0) :
    Calls Tryd.prog 31 #[.pointer (some ⟨a, 0, none⟩)] w fun e w' => e = .returned (.int .i64 0) ∧ w' = w := by
  have c1 := h.cs 0 (by omega)
  rw [show ((0 : Nat) : Int) = 0 from rfl, cnt_none hn] at c1
  clear hn
  go_enter Tryd.func31, Tryd.ntmps31
  go_wp2_with fail
  go_ret
  exact ⟨rfl, rfl⟩
theorem least_some (w : World) (a b r n : Nat) (ws : Nat → Int) (h : AAt w a b r n ws) (i : Nat) (hi : i < n) (h0 : ws i % 8 = 0) (hl : ∀ j, j < i → ws j % 8 ≠ 0) :
    Calls Tryd.prog 31 #[.pointer (some ⟨a, 0, none⟩)] w fun e w' => e = .returned (.int .i64 ((i : Int) + 1)) ∧ AAt w' a b r n ws ∧ Kept a b r w w' := by
  have c1 := h.cs 0 (by omega)
  obtain ⟨C, hC, hC0, hC1⟩ : ∃ C : Nat, cnt ws ((0 : Nat) : Int) n = C ∧ 0 < C ∧ C ≤ n := ⟨_, rfl, cnt_pos hi h0, cnt_le _ _ _⟩
  rw [hC] at c1
  have hn := h.most
  have hC2 : ((C : Int) == 0) = false := by simp; omega
  have H : Hid (AAt w a b r n ws) := h
  have HL : Hid (ws i % 8 = 0 ∧ ∀ j, j < i → ws j % 8 ≠ 0) := ⟨h0, hl⟩
  clear h h0 hl hC
  go_enter Tryd.func31, Tryd.ntmps31
  go_wp2_with fail
  go_loopw [3] (fun x wr => ∃ k : Nat, k ≤ i ∧ x = .int .i64 ((k : Int) + 1) ∧ AAt wr a b r n ws ∧ Kept a b r w wr)
    (fun x _ => (n + 1 : Nat) - (intOf x).toNat)
  case atStart => exact ⟨0, by omega, rfl, H.out, Kept.refl _ _ _ _⟩
  case round =>
    obtain ⟨k, hk, rfl, hA, hK⟩ := hrel
    have k1 : (k : Int) + 1 ≤ (n : Int) := by omega
    clear c1
    go_wp2_with fail
    refine (len_any wr a b r n ws hA).mono ?_
    rintro e w1 ⟨rfl, rfl⟩
    go_wp2_with fail
    refine (state_in _ a b r n ws hA k (by omega)).mono ?_
    rintro e w2 ⟨rfl, hA2, hK2⟩
    by_cases e : k = i
    · subst e
      rw [HL.out.1]
      go_wp2_with fail
      go_ret
      exact ⟨rfl, hA2, hK.trans hK2⟩
    · have e2 : (ws k % 8 == 0) = false := by simpa using HL.out.2 k (by omega)
      obtain ⟨S, hS⟩ : ∃ S, ws k % 8 = S := ⟨_, rfl⟩
      rw [hS] at e2 ⊢
      go_wp2_with fail
      go_roundw
      case rel => exact ⟨k + 1, by omega, by go_num, hA2, hK.trans hK2⟩
      case measure => simp [intOf]; omega
theorem alloc_bad (w : World) (a b r n : Nat) (ws : Nat → Int) (h : AAt w a b r n ws) (s : Int) (wf : (Lit.int .i64 s).wf = true) (hs : canB 0 s = false) :
    Calls Tryd.prog 20 #[.pointer (some ⟨a, 0, none⟩), .int .i64 s] w fun e w' => e = .returned (.tuple #[.int .i64 0, .int .i64 1]) ∧ AAt w' a b r n ws ∧ Kept a b r w w' := by
  go_enter Tryd.func20, Tryd.ntmps20
  go_wp2_with fail
  refine (can_any 0 s _ (by decide) wf).mono ?_
  rw [hs]
  rintro e w1 ⟨rfl, hb⟩
  go_wp2_with fail
  go_ret2
  exact ⟨rfl, h.grew hb, Kept.of_below hb⟩
theorem alloc_many (w : World) (a b r n : Nat) (ws : Nat → Int) (h : AAt w a b r n ws) (s : Int) (wf : (Lit.int .i64 s).wf = true) (hs : canB 0 s = true) (hn : ∀ i, i < n → ws i % 8 ≠ 0) :
    Calls Tryd.prog 20 #[.pointer (some ⟨a, 0, none⟩), .int .i64 s] w fun e w' => e = .returned (.tuple #[.int .i64 0, .int .i64 65]) ∧ AAt w' a b r n ws ∧ Kept a b r w w' := by
  have HN : Hid (∀ i, i < n → ws i % 8 ≠ 0) := hn
  clear hn
  go_enter Tryd.func20, Tryd.ntmps20
  go_wp2_with fail
  refine (can_any 0 s _ (by decide) wf).mono ?_
  rw [hs]
  rintro e w1 ⟨rfl, hb⟩
  go_wp2_with fail
  refine (least_none w1 a b r n ws (h.grew hb) HN.out).mono ?_
  rintro e w2 ⟨rfl, rfl⟩
  go_wp2_with fail
  go_ret2
  exact ⟨rfl, h.grew hb, Kept.of_below hb⟩
theorem can_range {x s : Int} (h : canB x s = true) : ∃ q : Nat, s = q ∧ q < 7 ∧ x ≠ q ∧ 1 ≤ q ∧ x % 8 = x := by
  simp only [canB, Bool.or_eq_true, Bool.and_eq_true, beq_iff_eq] at h
  exact ⟨s.toNat, by omega, by omega, by omega, by omega, by omega⟩
theorem alloc_ok (w : World) (a b r n : Nat) (ws : Nat → Int) (h : AAt w a b r n ws) (s : Int) (hs : canB 0 s = true) (i : Nat) (hi : i < n) (h0 : ws i % 8 = 0) (hl : ∀ j, j < i → ws j % 8 ≠ 0) :
    Calls Tryd.prog 20 #[.pointer (some ⟨a, 0, none⟩), .int .i64 s] w fun e w' => e = .returned (.tuple #[.int .i64 ((i : Int) + 1), .int .i64 0]) ∧ AAt w' a b r n (putW ws i (packI s (ws i / 8 + 1))) ∧ Kept a b r w w' := by
  obtain ⟨q, rfl, hq, hne, _, _⟩ := can_range hs
  have HL : Hid (ws i % 8 = 0 ∧ ∀ j, j < i → ws j % 8 ≠ 0) := ⟨h0, hl⟩
  clear h0 hl
  have hi0 : (((i : Int) + 1) == 0) = false := by simp; omega
  have hn := h.most
  go_enter Tryd.func20, Tryd.ntmps20
  go_wp2_with fail
  refine (can_any 0 q _ (by decide) (wf_i64 (by omega) (by omega))).mono ?_
  rw [hs]
  rintro e w1 ⟨rfl, hb⟩
  go_wp2_with fail
  refine (least_some w1 a b r n ws (h.grew hb) i hi HL.out.1 HL.out.2).mono ?_
  rintro e w2 ⟨rfl, h2, k2⟩
  go_wp2_with fail
  refine (word_in w2 a b r n ws h2 i hi).mono ?_
  rintro e w3 ⟨rfl, h3, k3⟩
  go_wp2_with fail
  refine (change_won w3 a b r n ws h3 i hi (ws i) q rfl hq (by rw [HL.out.1]; omega)).mono ?_
  rintro e w4 ⟨rfl, h4, k4⟩
  go_wp2_with fail
  go_ret2
  exact ⟨rfl, h4, (((Kept.of_below hb).trans k2).trans k3).trans k4⟩
theorem turn_arg (w : World) (a b r n : Nat) (ws : Nat → Int) (h : AAt w a b r n ws) (x o s : Int) (hx : x < 1 ∨ (n : Int) < x ∨ s < 1 ∨ 6 < s) :
    Calls Tryd.prog 24 #[.pointer (some ⟨a, 0, none⟩), .int .i64 x, .int .u64 o, .int .i64 s] w fun e w' => e = .returned (.tuple #[.int .u64 0, .int .i64 1]) ∧ w' = w := by
  by_cases hi : 1 ≤ x ∧ x ≤ n
  · obtain ⟨x1, x2⟩ := hi
    have hs : s < 1 ∨ (¬ s < 1 ∧ 6 < s) := by omega
    clear hx
    rcases hs with hs | ⟨hs1, hs⟩
    · have s1 : s ≤ 0 := by omega
      go_enter Tryd.func24, Tryd.ntmps24
      go_wp2_with fail
      refine (has_in w a b r n ws h x x1 x2).mono ?_
      rintro e w1 ⟨rfl, rfl⟩
      go_wp2_with fail
      go_ret2
      exact ⟨rfl, rfl⟩
    · have s1 : ¬ s ≤ 0 := by omega
      have s2 : 7 ≤ s := by omega
      go_enter Tryd.func24, Tryd.ntmps24
      go_wp2_with fail
      refine (has_in w a b r n ws h x x1 x2).mono ?_
      rintro e w1 ⟨rfl, rfl⟩
      go_wp2_with fail
      go_ret2
      exact ⟨rfl, rfl⟩
  · go_enter Tryd.func24, Tryd.ntmps24
    go_wp2_with fail
    refine (has_out w a b r n ws h x (by omega)).mono ?_
    rintro e w1 ⟨rfl, rfl⟩
    go_wp2_with fail
    go_ret2
    exact ⟨rfl, rfl⟩
theorem turn_state (w : World) (a b r n : Nat) (ws : Nat → Int) (h : AAt w a b r n ws) (i : Nat) (hi : i < n) (o s : Int) (o0 : 0 ≤ o) (o1 : o < 18446744073709551616) (s1 : 1 ≤ s) (s6 : s ≤ 6) (hc : canB (o % 8) s = false) :
    Calls Tryd.prog 24 #[.pointer (some ⟨a, 0, none⟩), .int .i64 ((i : Int) + 1), .int .u64 o, .int .i64 s] w fun e w' => e = .returned (.tuple #[.int .u64 0, .int .i64 7]) ∧ AAt w' a b r n ws ∧ Kept a b r w w' := by
  have t1 : ¬ s ≤ 0 := by omega
  have t2 : ¬ 7 ≤ s := by omega
  obtain ⟨T, hT, T0, T1⟩ : ∃ T, o % 8 = T ∧ 0 ≤ T ∧ T < 8 := ⟨_, rfl, by omega, by omega⟩
  rw [hT] at hc
  go_enter Tryd.func24, Tryd.ntmps24
  go_wp2_with fail
  refine (has_in w a b r n ws h _ (by omega) (by omega)).mono ?_
  rintro e w1 ⟨rfl, rfl⟩
  go_wp2_with fail
  refine (state_any o _ o0 o1).mono ?_
  rw [hT]
  rintro e w2 ⟨rfl, rfl⟩
  go_wp2_with fail
  refine (can_any T s _ (wf_i64 (by omega) (by omega)) (wf_i64 (by omega) (by omega))).mono ?_
  rw [hc]
  rintro e w3 ⟨rfl, hb⟩
  go_wp2_with fail
  go_ret2
  exact ⟨rfl, h.grew hb, Kept.of_below hb⟩
theorem turn_late (w : World) (a b r n : Nat) (ws : Nat → Int) (h : AAt w a b r n ws) (i : Nat) (hi : i < n) (o s : Int) (o0 : 0 ≤ o) (o1 : o < 18446744073709551616) (hc : canB (o % 8) s = true) (ho : ws i ≠ o) :
    Calls Tryd.prog 24 #[.pointer (some ⟨a, 0, none⟩), .int .i64 ((i : Int) + 1), .int .u64 o, .int .i64 s] w fun e w' => e = .returned (.tuple #[.int .u64 0, .int .i64 8]) ∧ AAt w' a b r n ws ∧ Kept a b r w w' := by
  obtain ⟨q, rfl, hq, hne, q1, _⟩ := can_range hc
  have t1 : ¬ (q : Int) ≤ 0 := by omega
  have t2 : ¬ (7 : Int) ≤ (q : Int) := by omega
  have HO : Hid (ws i ≠ o) := ho
  obtain ⟨T, hT, T0, T1⟩ : ∃ T, o % 8 = T ∧ 0 ≤ T ∧ T < 8 := ⟨_, rfl, by omega, by omega⟩
  rw [hT] at hc
  clear ho hne
  go_enter Tryd.func24, Tryd.ntmps24
  go_wp2_with fail
  refine (has_in w a b r n ws h _ (by omega) (by omega)).mono ?_
  rintro e w1 ⟨rfl, rfl⟩
  go_wp2_with fail
  refine (state_any o _ o0 o1).mono ?_
  rw [hT]
  rintro e w2 ⟨rfl, rfl⟩
  go_wp2_with fail
  refine (can_any T q _ (wf_i64 (by omega) (by omega)) (wf_i64 (by omega) (by omega))).mono ?_
  rw [hc]
  rintro e w3 ⟨rfl, hb⟩
  go_wp2_with fail
  refine (change_lost w3 a b r n ws (h.grew hb) i hi o q o0 o1 HO.out).mono ?_
  rintro e w4 ⟨rfl, h4, k4⟩
  go_wp2_with fail
  go_ret2
  exact ⟨rfl, h4, (Kept.of_below hb).trans k4⟩
theorem turn_ok (w : World) (a b r n : Nat) (ws : Nat → Int) (h : AAt w a b r n ws) (i : Nat) (hi : i < n) (o s : Int) (hc : canB (o % 8) s = true) (ho : ws i = o) :
    Calls Tryd.prog 24 #[.pointer (some ⟨a, 0, none⟩), .int .i64 ((i : Int) + 1), .int .u64 o, .int .i64 s] w fun e w' => e = .returned (.tuple #[.int .u64 (packI s (o / 8 + 1)), .int .i64 0]) ∧ AAt w' a b r n (putW ws i (packI s (o / 8 + 1))) ∧ Kept a b r w w' := by
  obtain ⟨q, rfl, hq, hne, q1, _⟩ := can_range hc
  obtain ⟨o0, o1⟩ := h.fits i hi
  rw [ho] at o0 o1
  have t1 : ¬ (q : Int) ≤ 0 := by omega
  have t2 : ¬ (7 : Int) ≤ (q : Int) := by omega
  have HO : Hid (ws i = o ∧ o % 8 ≠ q) := ⟨ho, hne⟩
  obtain ⟨T, hT, T0, T1⟩ : ∃ T, o % 8 = T ∧ 0 ≤ T ∧ T < 8 := ⟨_, rfl, by omega, by omega⟩
  rw [hT] at hc
  clear ho hne
  obtain ⟨V, hV⟩ : ∃ V, packI q (o / 8 + 1) = V := ⟨_, rfl⟩
  rw [hV]
  have HV : Hid (packI q (o / 8 + 1) = V) := hV
  clear hV
  go_enter Tryd.func24, Tryd.ntmps24
  go_wp2_with fail
  refine (has_in w a b r n ws h _ (by omega) (by omega)).mono ?_
  rintro e w1 ⟨rfl, rfl⟩
  go_wp2_with fail
  refine (state_any o _ o0 o1).mono ?_
  rw [hT]
  rintro e w2 ⟨rfl, rfl⟩
  go_wp2_with fail
  refine (can_any T q _ (wf_i64 (by omega) (by omega)) (wf_i64 (by omega) (by omega))).mono ?_
  rw [hc]
  rintro e w3 ⟨rfl, hb⟩
  go_wp2_with fail
  refine (change_won w3 a b r n ws (h.grew hb) i hi o q HO.out.1 hq HO.out.2).mono ?_
  rw [HV.out]
  rintro e w4 ⟨rfl, h4, k4⟩
  go_wp2_with fail
  refine (word_in w4 a b r n _ h4 i hi).mono ?_
  rw [putW_same]
  rintro e w5 ⟨rfl, h5, k5⟩
  go_wp2_with fail
  go_ret2
  exact ⟨rfl, h5, ((Kept.of_below hb).trans k4).trans k5⟩
end Go.Proofs.YtpenjncbodcbnaaDoor

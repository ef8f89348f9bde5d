/- What the document's own arena (vergerref3) answers: contracts. -/
import Derived.Test.YtcaeakddcanamaaArenaOps
import Derived.Test.YtcaeakddcanamaaWordCoreRef
namespace Go.Proofs.Ytcaeakddcanamaa
open Go.RowKit
set_option linter.unusedVariables false

/-- At block a lies the document's arena of n ids, its row at r. -/
structure RA (w : World) (a r n : Nat) (ws : Nat → Int) : Prop where
  ne : a ≠ r
  head : w.heap[a]? = some (.cells #[.slice (some ⟨r, 0, none⟩) n n] 42 (0, 0))
  row : w.rowIs r 28 n (fun i => .int .u64 (ws i))
  fits : ∀ i, i < n → 0 ≤ ws i ∧ ws i < 18446744073709551616
  most : n ≤ 1000

variable {w w' : World} {a r n : Nat} {ws : Nat → Int}
theorem RA.c0 (h : RA w a r n ws) : w.cell? ⟨a, 0, none⟩ = some (.slice (some ⟨r, 0, none⟩) n n) := by simp [World.cell?, h.head]
theorem RA.word (h : RA w a r n ws) {i : Nat} (hi : i < n) : w.cell? ⟨r, i, none⟩ = some (.int .u64 (ws i)) := h.row.cell hi
theorem RA.free (h : RA w a r n ws) (i : Nat) : w.frozen? ⟨r, i, none⟩ = false := h.row.frozen i
theorem RA.alt (h : RA w a r n ws) : a < w.heap.size := lt_of_block h.head
theorem RA.rlt (h : RA w a r n ws) : r < w.heap.size := h.row.lt
theorem RA.of_blocks (h : RA w a r n ws) (ha : w'.heap[a]? = w.heap[a]?) (hr : w'.heap[r]? = w.heap[r]?) : RA w' a r n ws :=
  ⟨h.ne, ha.trans h.head, h.row.of_block hr, h.fits, h.most⟩
theorem RA.kept {a' b' r' : Nat} (h : RA w a r n ws) (hk : Kept a' b' r' w w') (h1 : a ≠ a') (h2 : a ≠ b') (h3 : a ≠ r') (h4 : r ≠ a') (h5 : r ≠ b') (h6 : r ≠ r') : RA w' a r n ws :=
  h.of_blocks (hk.block a h.alt h1 h2 h3) (hk.block r h.rlt h4 h5 h6)
theorem RA.put (h : RA w a r n ws) (i : Nat) (v : Int) (h0 : 0 ≤ v) (h1 : v < 18446744073709551616) : RA (w.setCell ⟨r, i, none⟩ (.int .u64 v)) a r n (putW ws i v) := by
  refine ⟨h.ne, ?_, (h.row.set i (.int .u64 v)).congr fun j hj => ?_, fun j hj => ?_, h.most⟩
  · rw [Below.heap_setCell _ _ _ _ h.ne]
    exact h.head
  · by_cases e : j = i <;> simp [putW, e]
  · by_cases e : j = i
    · simp [putW, e, h0, h1]
    · simpa [putW, e] using h.fits j hj

theorem rword_in (w : World) (a r n : Nat) (ws : Nat → Int) (h : RA w a r n ws) (i : Nat) (hi : i < n) :
    Calls Try.prog 18 #[.pointer (some ⟨a, 0, none⟩), .int .i64 ((i : Int) + 1)] w fun e w' => e = .returned (.int .u64 (ws i)) ∧ w' = w := by
  have c0 := h.c0
  have cw := h.word hi
  have hn := h.most
  have g0 : ¬ (i : Int) + 1 < 1 := by omega
  have g1 : ¬ (n : Int) < (i : Int) + 1 := by omega
  have g2 : (i : Int) < (n : Int) := by omega
  go_enter Try.func18, Try.ntmps18
  go_wp2_with fail
  go_ret
  exact ⟨rfl, rfl⟩
theorem rword_out (w : World) (a r n : Nat) (ws : Nat → Int) (h : RA w a r n ws) (x : Int) (hx : x < 1 ∨ (n : Int) < x) :
    Calls Try.prog 18 #[.pointer (some ⟨a, 0, none⟩), .int .i64 x] w fun e w' => e = .returned (.int .u64 0) ∧ w' = w := by
  have c0 := h.c0
  by_cases x1 : x < 1
  · clear hx
    go_enter Try.func18, Try.ntmps18
    go_wp2_with fail
    go_ret
    exact ⟨rfl, rfl⟩
  · have x2 : (n : Int) < x := by omega
    clear hx
    go_enter Try.func18, Try.ntmps18
    go_wp2_with fail
    go_ret
    exact ⟨rfl, rfl⟩
theorem ralloc_bad (w : World) (a r n : Nat) (ws : Nat → Int) (h : RA w a r n ws) (s : Int) (hs : canB 0 s = false) :
    Calls Try.prog 16 #[.pointer (some ⟨a, 0, none⟩), .int .i64 s] w fun e w' => e = .returned (.tuple #[.int .i64 0, .int .i64 1]) ∧ w' = w := by
  go_enter Try.func16, Try.ntmps16
  go_wp2_with fail
  refine (rcan_any 0 s _).mono ?_
  rw [hs]
  rintro e w1 ⟨rfl, rfl⟩
  go_wp2_with fail
  go_ret2
  exact ⟨rfl, rfl⟩
theorem ralloc_many (w : World) (a r n : Nat) (ws : Nat → Int) (h : RA w a r n ws) (s : Int) (hs : canB 0 s = true) (hn : ∀ i, i < n → ws i % 8 ≠ 0) :
    Calls Try.prog 16 #[.pointer (some ⟨a, 0, none⟩), .int .i64 s] w fun e w' => e = .returned (.tuple #[.int .i64 0, .int .i64 65]) ∧ w' = w := by
  have HN : Hid (∀ i, i < n → ws i % 8 ≠ 0) := hn
  have c0 := h.c0
  have hm := h.most
  clear hn
  go_enter Try.func16, Try.ntmps16
  go_wp2_with fail
  refine (rcan_any 0 s _).mono ?_
  rw [hs]
  rintro e w1 ⟨rfl, rfl⟩
  go_wp2_with fail
  go_loopw [6] (fun x wr => ∃ k : Nat, k ≤ n ∧ x = .int .i64 k ∧ wr = w1) (fun x _ => n - (intOf x).toNat)
  case atStart => exact ⟨0, by omega, rfl, rfl⟩
  case round =>
    obtain ⟨k, hk, rfl, rfl⟩ := hrel
    by_cases e : k < n
    · have e' : (k : Int) < (n : Int) := by omega
      have cw := h.word e
      have F := h.fits k e
      have HK := HN.out k e
      obtain ⟨U, hU⟩ : ∃ U, ws k = U := ⟨_, rfl⟩
      rw [hU] at cw F HK
      go_wp2_with fail
      refine (rstate_any U _ F.1 F.2).mono ?_
      obtain ⟨T, hT⟩ : ∃ T, U % 8 = T := ⟨_, rfl⟩
      have hT2 : (T == 0) = false := by rw [← hT]; simpa using HK
      rw [hT]
      rintro e w2 ⟨rfl, rfl⟩
      clear hT HK
      go_wp2_with fail
      go_roundw
      case rel => exact ⟨k + 1, by omega, by go_num, trivial⟩
      case measure => simp [intOf]; omega
    · have e' : ¬ (k : Int) < (n : Int) := by omega
      go_wp2_with fail
      go_ret2
      exact ⟨rfl, rfl⟩
set_option maxHeartbeats 4000000 in
theorem ralloc_ok (w : World) (a r n : Nat) (ws : Nat → Int) (h : RA w a r n ws) (s : Int) (hs : canB 0 s = true) (i : Nat) (hi : i < n) (h0 : ws i % 8 = 0) (hl : ∀ j, j < i → ws j % 8 ≠ 0) :
    Calls Try.prog 16 #[.pointer (some ⟨a, 0, none⟩), .int .i64 s] w fun e w' => e = .returned (.tuple #[.int .i64 ((i : Int) + 1), .int .i64 0]) ∧ RA w' a r n (putW ws i (packI s (ws i / 8 + 1))) ∧ Kept r r r w w' := by
  have HL : Hid (∀ j, j < i → ws j % 8 ≠ 0) := hl
  have c0 := h.c0
  have hm := h.most
  obtain ⟨U, hU⟩ : ∃ U, ws i = U := ⟨_, rfl⟩
  obtain ⟨V, hV, V0, V1⟩ : ∃ V, packI s (U / 8 + 1) = V ∧ 0 ≤ V ∧ V < 18446744073709551616 := ⟨_, rfl, (packI_bound _ _).1, (packI_bound _ _).2⟩
  rw [hU, hV]
  have F' : Hid (0 ≤ U ∧ U < 18446744073709551616) := by
    show 0 ≤ U ∧ U < 18446744073709551616
    rw [← hU]; exact h.fits i hi
  have cwi := h.word hi
  rw [hU] at cwi h0
  have U8 : Hid (U % 8 = 0) := h0
  have hV' : Hid (packI s (U / 8 + 1) = V) := hV
  have HP : Hid _ := h.put i V V0 V1
  have fz := h.free i
  clear h0 hl hU hV
  go_enter Try.func16, Try.ntmps16
  go_wp2_with fail
  refine (rcan_any 0 s _).mono ?_
  rw [hs]
  rintro e w1 ⟨rfl, rfl⟩
  go_wp2_with fail
  go_loopw [6] (fun x wr => ∃ k : Nat, k ≤ i ∧ x = .int .i64 k ∧ wr = w1) (fun x _ => n - (intOf x).toNat)
  case atStart => exact ⟨0, by omega, rfl, rfl⟩
  case round =>
    obtain ⟨k, hk, rfl, rfl⟩ := hrel
    have e : k < n := by omega
    have e' : (k : Int) < (n : Int) := by omega
    have cw := h.word e
    have F := h.fits k e
    by_cases hki : k = i
    · subst hki
      clear cw F
      go_wp2_with fail
      refine (rstate_any U _ F'.out.1 F'.out.2).mono ?_
      rw [U8.out]
      rintro e w2 ⟨rfl, rfl⟩
      go_wp2_with fail
      go_region_with ((go_at_call 32; refine (rnext_any U s _ F'.out.1 F'.out.2).mono ?_; rw [hV'.out]; rintro e v ⟨rfl, rfl⟩))
      all_goals
        go_wp2_with fail
        go_ret2
        exact ⟨rfl, HP.out.of_blocks rfl rfl, ((Kept.refl _ _ _ _).set _ _ (.inl rfl)).drew⟩
    · clear cwi
      have HK := HL.out k (by omega)
      obtain ⟨U, hU⟩ : ∃ U, ws k = U := ⟨_, rfl⟩
      rw [hU] at cw F HK
      go_wp2_with fail
      refine (rstate_any U _ F.1 F.2).mono ?_
      obtain ⟨T, hT⟩ : ∃ T, U % 8 = T := ⟨_, rfl⟩
      have hT2 : (T == 0) = false := by rw [← hT]; simpa using HK
      rw [hT]
      rintro e w2 ⟨rfl, rfl⟩
      clear hT HK
      go_wp2_with fail
      go_roundw
      case rel => exact ⟨k + 1, by omega, by go_num, trivial⟩
      case measure => simp [intOf]; omega
theorem rturn_arg (w : World) (a r n : Nat) (ws : Nat → Int) (h : RA w a r n ws) (x o s : Int) (hx : x < 1 ∨ (n : Int) < x ∨ s < 1 ∨ 6 < s) :
    Calls Try.prog 19 #[.pointer (some ⟨a, 0, none⟩), .int .i64 x, .int .u64 o, .int .i64 s] w fun e w' => e = .returned (.tuple #[.int .u64 0, .int .i64 1]) ∧ w' = w := by
  have c0 := h.c0
  have hx' : x < 1 ∨ (¬ x < 1 ∧ (n : Int) < x) ∨ (¬ x < 1 ∧ ¬ (n : Int) < x ∧ s < 1) ∨ (¬ x < 1 ∧ ¬ (n : Int) < x ∧ ¬ s < 1 ∧ 6 < s) := by omega
  clear hx
  rcases hx' with h1 | ⟨h1, h2⟩ | ⟨h1, h2, h3⟩ | ⟨h1, h2, h3, h4⟩
  all_goals
    go_enter Try.func19, Try.ntmps19
    go_wp2_with fail
    go_ret2
    exact ⟨rfl, rfl⟩
theorem rturn_state (w : World) (a r n : Nat) (ws : Nat → Int) (h : RA w a r n ws) (i : Nat) (hi : i < n) (o s : Int) (o0 : 0 ≤ o) (o1 : o < 18446744073709551616) (s1 : 1 ≤ s) (s6 : s ≤ 6) (hc : canB (o % 8) s = false) :
    Calls Try.prog 19 #[.pointer (some ⟨a, 0, none⟩), .int .i64 ((i : Int) + 1), .int .u64 o, .int .i64 s] w fun e w' => e = .returned (.tuple #[.int .u64 0, .int .i64 7]) ∧ w' = w := by
  have c0 := h.c0
  have hn := h.most
  have g0 : ¬ (i : Int) + 1 < 1 := by omega
  have g1 : ¬ (n : Int) < (i : Int) + 1 := by omega
  have t1 : ¬ s < 1 := by omega
  have t2 : ¬ 6 < s := by omega
  go_enter Try.func19, Try.ntmps19
  go_wp2_with fail
  refine (rstate_any o _ o0 o1).mono ?_
  rintro e w2 ⟨rfl, rfl⟩
  go_wp2_with fail
  refine (rcan_any (o % 8) s _).mono ?_
  rw [hc]
  rintro e w3 ⟨rfl, rfl⟩
  go_wp2_with fail
  go_ret2
  exact ⟨rfl, rfl⟩
theorem rturn_late (w : World) (a r n : Nat) (ws : Nat → Int) (h : RA w a r n ws) (i : Nat) (hi : i < n) (o s : Int) (o0 : 0 ≤ o) (o1 : o < 18446744073709551616) (s1 : 1 ≤ s) (s6 : s ≤ 6) (hc : canB (o % 8) s = true) (ho : ws i ≠ o) :
    Calls Try.prog 19 #[.pointer (some ⟨a, 0, none⟩), .int .i64 ((i : Int) + 1), .int .u64 o, .int .i64 s] w fun e w' => e = .returned (.tuple #[.int .u64 0, .int .i64 8]) ∧ w' = w := by
  have c0 := h.c0
  have hn := h.most
  have cw := h.word hi
  obtain ⟨U, hU⟩ : ∃ U, ws i = U := ⟨_, rfl⟩
  rw [hU] at cw ho
  have ho' : (U == o) = false := by simpa using ho
  have g0 : ¬ (i : Int) + 1 < 1 := by omega
  have g1 : ¬ (n : Int) < (i : Int) + 1 := by omega
  have g2 : (i : Int) < (n : Int) := by omega
  have t1 : ¬ s < 1 := by omega
  have t2 : ¬ 6 < s := by omega
  go_enter Try.func19, Try.ntmps19
  go_wp2_with fail
  refine (rstate_any o _ o0 o1).mono ?_
  rintro e w2 ⟨rfl, rfl⟩
  go_wp2_with fail
  refine (rcan_any (o % 8) s _).mono ?_
  rw [hc]
  rintro e w3 ⟨rfl, rfl⟩
  go_wp2_with fail
  go_ret2
  exact ⟨rfl, rfl⟩
theorem rturn_ok (w : World) (a r n : Nat) (ws : Nat → Int) (h : RA w a r n ws) (i : Nat) (hi : i < n) (o s : Int) (s1 : 1 ≤ s) (s6 : s ≤ 6) (hc : canB (o % 8) s = true) (ho : ws i = o) :
    Calls Try.prog 19 #[.pointer (some ⟨a, 0, none⟩), .int .i64 ((i : Int) + 1), .int .u64 o, .int .i64 s] w fun e w' => e = .returned (.tuple #[.int .u64 (packI s (o / 8 + 1)), .int .i64 0]) ∧ RA w' a r n (putW ws i (packI s (o / 8 + 1))) ∧ Kept r r r w w' := by
  have c0 := h.c0
  have hn := h.most
  have cw := h.word hi
  have fz := h.free i
  obtain ⟨o0, o1⟩ := h.fits i hi
  rw [ho] at cw o0 o1
  have g0 : ¬ (i : Int) + 1 < 1 := by omega
  have g1 : ¬ (n : Int) < (i : Int) + 1 := by omega
  have g2 : (i : Int) < (n : Int) := by omega
  have t1 : ¬ s < 1 := by omega
  have t2 : ¬ 6 < s := by omega
  have hw1 : IntKind.i64.wrap (i : Int) = (i : Int) := by rw [IntKind.wrap_i64]; omega
  obtain ⟨V, hV, V0, V1⟩ : ∃ V, packI s (o / 8 + 1) = V ∧ 0 ≤ V ∧ V < 18446744073709551616 := ⟨_, rfl, (packI_bound _ _).1, (packI_bound _ _).2⟩
  rw [hV]
  have HP := h.put i V V0 V1
  have d0 := HP.c0
  have dw := HP.word hi
  rw [putW_same] at dw
  have HP' : Hid _ := HP
  have hV' : Hid (packI s (o / 8 + 1) = V) := hV
  clear hV ho HP h
  go_enter Try.func19, Try.ntmps19
  go_wp2_with fail
  refine (rstate_any o _ o0 o1).mono ?_
  rintro e w2 ⟨rfl, rfl⟩
  go_wp2_with fail
  refine (rcan_any (o % 8) s _).mono ?_
  rw [hc]
  rintro e w3 ⟨rfl, rfl⟩
  go_wp2_with fail
  go_region_with ((go_at_call 32; refine (rnext_any o s _ o0 o1).mono ?_; rw [hV'.out]; rintro e v ⟨rfl, rfl⟩))
  all_goals
    go_wp2_with fail
    go_ret2
    exact ⟨rfl, HP'.out.of_blocks rfl rfl, ((Kept.refl _ _ _ _).set _ _ (.inl rfl)).drew⟩
theorem rfree_arg (w : World) (a r n : Nat) (ws : Nat → Int) (h : RA w a r n ws) (x : Int) (hx : x < 1 ∨ (n : Int) < x) :
    Calls Try.prog 17 #[.pointer (some ⟨a, 0, none⟩), .int .i64 x] w fun e w' => e = .returned (.int .i64 1) ∧ w' = w := by
  have c0 := h.c0
  have hx' : x < 1 ∨ (¬ x < 1 ∧ (n : Int) < x) := by omega
  clear hx
  rcases hx' with h1 | ⟨h1, h2⟩
  all_goals
    go_enter Try.func17, Try.ntmps17
    go_wp2_with fail
    go_ret
    exact ⟨rfl, rfl⟩
theorem rfree_state (w : World) (a r n : Nat) (ws : Nat → Int) (h : RA w a r n ws) (i : Nat) (hi : i < n) (ho : overB (ws i % 8) = false) :
    Calls Try.prog 17 #[.pointer (some ⟨a, 0, none⟩), .int .i64 ((i : Int) + 1)] w fun e w' => e = .returned (.int .i64 7) ∧ w' = w := by
  have c0 := h.c0
  have hn := h.most
  have cw := h.word hi
  obtain ⟨o0, o1⟩ := h.fits i hi
  have g0 : ¬ (i : Int) + 1 < 1 := by omega
  have g1 : ¬ (n : Int) < (i : Int) + 1 := by omega
  have g2 : (i : Int) < (n : Int) := by omega
  go_enter Try.func17, Try.ntmps17
  go_wp2_with fail
  refine (rstate_any (ws i) _ o0 o1).mono ?_
  rintro e w2 ⟨rfl, rfl⟩
  go_wp2_with fail
  refine (rover_any _ _).mono ?_
  rw [ho]
  rintro e w3 ⟨rfl, rfl⟩
  go_wp2_with fail
  go_ret
  exact ⟨rfl, rfl⟩
theorem rfree_ok (w : World) (a r n : Nat) (ws : Nat → Int) (h : RA w a r n ws) (i : Nat) (hi : i < n) (ho : overB (ws i % 8) = true) :
    Calls Try.prog 17 #[.pointer (some ⟨a, 0, none⟩), .int .i64 ((i : Int) + 1)] w fun e w' => e = .returned (.int .i64 0) ∧ RA w' a r n (putW ws i (packI 0 (ws i / 8 + 1))) ∧ Kept r r r w w' := by
  have c0 := h.c0
  have hn := h.most
  have cw := h.word hi
  have fz := h.free i
  obtain ⟨o0, o1⟩ := h.fits i hi
  obtain ⟨U, hU⟩ : ∃ U, ws i = U := ⟨_, rfl⟩
  rw [hU] at cw o0 o1 ho ⊢
  have g0 : ¬ (i : Int) + 1 < 1 := by omega
  have g1 : ¬ (n : Int) < (i : Int) + 1 := by omega
  have g2 : (i : Int) < (n : Int) := by omega
  have hw1 : IntKind.i64.wrap (i : Int) = (i : Int) := by rw [IntKind.wrap_i64]; omega
  obtain ⟨V, hV, V0, V1⟩ : ∃ V, packI 0 (U / 8 + 1) = V ∧ 0 ≤ V ∧ V < 18446744073709551616 := ⟨_, rfl, (packI_bound _ _).1, (packI_bound _ _).2⟩
  rw [hV]
  have HP' : Hid _ := h.put i V V0 V1
  have hV' : Hid (packI 0 (U / 8 + 1) = V) := hV
  clear hV hU h
  go_enter Try.func17, Try.ntmps17
  go_wp2_with fail
  refine (rstate_any U _ o0 o1).mono ?_
  rintro e w2 ⟨rfl, rfl⟩
  go_wp2_with fail
  refine (rover_any _ _).mono ?_
  rw [ho]
  rintro e w3 ⟨rfl, rfl⟩
  go_wp2_with fail
  go_region_with ((go_at_call 32; refine (rnext_any U 0 _ o0 o1).mono ?_; rw [hV'.out]; rintro e v ⟨rfl, rfl⟩))
  all_goals
    go_wp2_with fail
    go_ret
    exact ⟨rfl, HP'.out.of_blocks rfl rfl, ((Kept.refl _ _ _ _).set _ _ (.inl rfl)).drew⟩
theorem rcount_any (w : World) (a r n : Nat) (ws : Nat → Int) (h : RA w a r n ws) (s : Int) :
    Calls Try.prog 21 #[.pointer (some ⟨a, 0, none⟩), .int .i64 s] w fun e w' => e = .returned (.int .i64 (cnt ws s n)) ∧ w' = w := by
  have c0 := h.c0
  have hm := h.most
  go_enter Try.func21, Try.ntmps21
  go_wp2_with fail
  go_loopw [5, 6] (fun c x wr => ∃ (k C : Nat), k ≤ n ∧ C = cnt ws s k ∧ c = .int .i64 C ∧ x = .int .i64 k ∧ wr = w) (fun _ x _ => n - (intOf x).toNat)
  case atStart => exact ⟨0, 0, by omega, rfl, rfl, rfl, rfl⟩
  case round =>
    obtain ⟨k, C, hk, hC, rfl, rfl, rfl⟩ := hrel
    have hCk : C ≤ k := by rw [hC]; exact cnt_le _ _ _
    have HC : Hid (C = cnt ws s k) := hC
    clear hC
    by_cases e : k < n
    · have e' : (k : Int) < (n : Int) := by omega
      have cw := h.word e
      have F := h.fits k e
      obtain ⟨U, hU⟩ : ∃ U, ws k = U := ⟨_, rfl⟩
      rw [hU] at cw F
      by_cases hT : U % 8 = s
      · go_wp2_with fail
        refine (rstate_any U _ F.1 F.2).mono ?_
        rw [hT]
        rintro e w2 ⟨rfl, rfl⟩
        have HT : Hid (U % 8 = s) := hT
        clear hT
        go_wp2_with fail
        go_roundw
        case rel => exact ⟨k + 1, C + 1, by omega, by simp only [cnt, hU, HT.out, if_true, ← HC.out], by go_num, by go_num, trivial⟩
        case measure => simp [intOf]; omega
      · go_wp2_with fail
        refine (rstate_any U _ F.1 F.2).mono ?_
        obtain ⟨T, hT1⟩ : ∃ T, U % 8 = T := ⟨_, rfl⟩
        have HT : Hid (¬ U % 8 = s) := hT
        have hT2 : (T == s) = false := by rw [← hT1]; simpa using hT
        rw [hT1]
        rintro e w2 ⟨rfl, rfl⟩
        clear hT hT1
        go_wp2_with fail
        go_roundw
        case rel => exact ⟨k + 1, C, by omega, by simp only [cnt, hU, HT.out, if_false, ← HC.out, Nat.add_zero], by go_num, by go_num, trivial⟩
        case measure => simp [intOf]; omega
    · have e' : ¬ (k : Int) < (n : Int) := by omega
      obtain rfl : k = n := by omega
      go_wp2_with fail
      go_ret
      exact ⟨by rw [← HC.out]; rfl, rfl⟩
end Go.Proofs.Ytcaeakddcanamaa

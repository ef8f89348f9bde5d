/- queue: a thread that is none: Settle, Put, Relaxed. -/
import Derived.Test.YtdcacbjmbfppeaaGreatQ7
namespace Go.Proofs.YtdcacbjmbfppeaaGreat
open Go.RowKit Go.Lib Go.Sort
set_option linter.unusedVariables false

theorem slGet_out (w : World) (B R n : Nat) (g : Nat → Pl) (i : Int) (h : Slt w B R n g) (hi : i < 0 ∨ (n : Int) ≤ i) :
    Calls Tryz.prog 32 #[.pointer (some ⟨B, 0, none⟩), .int .i64 i] w fun e w' => e = .returned (.tuple #[.agg #[.int .u64 0, .int .i64 0], .int .u64 0, .bool false]) ∧ Below w.heap.size w w' := by
  go_enter Tryz.func32, Tryz.ntmps32
  go_wp2_with fail
  refine (slAt_out _ B R n g i (h.alloc _) hi).mono ?_
  rintro e w1 ⟨rfl, rfl⟩
  go_wp2_with fail
  refine bodyPost_ret (v := .tuple #[.agg #[.int .u64 0, .int .i64 0], .int .u64 0, .bool false]) (by simp [results, Tryz.results32, go_sem]) rfl ⟨rfl, (Below.refl _ _).alloc (Nat.le_refl _) _⟩
set_option maxHeartbeats 2000000 in
set_option maxRecDepth 100000 in
theorem settle_out (w : World) (base : Nat) (A : QAd) (T K : Nat) (s : QSt) (t : Int) (h : Que w base A T K s) (ht : t < 0 ∨ (T : Int) ≤ t) :
    Calls Tryz.prog 10 #[ptr A.B, .int .i64 t] w fun r w' => r = .returned (.bool false) ∧ Below w.heap.size w w' := by
  obtain ⟨ra, sa, h⟩ := h
  obtain ⟨c0, c1, c2, c3, c4⟩ := h.fix.cells
  have gt := slGet_out w A.SB A.SR T s.g t h.slt ht
  have H : Aside (QueA w base A T K s ra sa) := h
  have HT : Aside (t < 0 ∨ (T : Int) ≤ t) := ht
  clear h c0 c2 c3 c4 ht
  go_enter Tryz.func10, Tryz.ntmps10
  go_wp2_with fail
  refine gt.mono ?_
  rintro r w1 ⟨rfl, b1⟩
  have h1 := H.out.below b1
  obtain ⟨_, d1, _, _, _⟩ := h1.fix.cells
  have bl := h1.fix.blt
  obtain ⟨u, hu⟩ : ∃ u, w1.alloc (.cells #[.int .u64 0, .int .i64 0] 34) = u := ⟨_, rfl⟩
  have bu : Below w1.heap.size w1 u := by rw [← hu]; exact (Below.refl _ _).alloc (Nat.le_refl _) _
  have tk := slTake_out u A.SB A.SR T s.g t 0 (h1.below bu).slt HT.out
  have BU : Aside (Below w.heap.size w u) := b1.trans (bu.mono b1.size)
  have HU : Hid _ := hu
  clear hu bu b1 h1 gt c1
  go_wp2_with fail
  rw [HU.out]
  refine tk.mono ?_
  rintro r w2 ⟨rfl, b2⟩
  have B2 : Aside (Below w.heap.size w w2) := BU.out.trans (b2.mono BU.out.size)
  clear b2 tk d1 bl
  go_wp2
  go_ret
  exact ⟨rfl, B2.out.alloc B2.out.size _⟩
set_option maxHeartbeats 2000000 in
set_option maxRecDepth 100000 in
theorem put_out (w : World) (base : Nat) (A : QAd) (T K : Nat) (s : QSt) (t k d : Int) (h : Que w base A T K s) (ht : t < 0 ∨ (T : Int) ≤ t) :
    Calls Tryz.prog 9 #[ptr A.B, .int .i64 t, .agg #[.int .u64 k, .int .i64 d]] w fun r w' => r = .returned (.int .i64 1) ∧ Below w.heap.size w w' := by
  obtain ⟨S, hS⟩ : ∃ S, w.heap.size = S := ⟨_, rfl⟩
  obtain ⟨u, hu⟩ : ∃ u, w.alloc (.cells #[.int .u64 k, .int .i64 d] 34) = u := ⟨_, rfl⟩
  have bu : Below w.heap.size w u := by rw [← hu]; exact (Below.refl _ _).alloc (Nat.le_refl _) _
  have us : u.heap[S]? = some (.cells #[.int .u64 k, .int .i64 d] 34 (0, 0)) := by rw [← hu, ← hS]; exact heap_alloc_new w _
  have hq := h.below bu
  have st := settle_out u base A T K s t hq ht
  have Q : Aside (Que u base A T K s) := hq
  have US : Aside (u.heap[S]? = some (.cells #[.int .u64 k, .int .i64 d] 34 (0, 0))) := us
  have HT : Aside (t < 0 ∨ (T : Int) ≤ t) := ht
  have BU : Aside (Below w.heap.size w u) := bu
  have HU : Hid _ := hu
  clear h hu bu us hq ht
  go_enter Tryz.func9, Tryz.ntmps9
  go_wp2_with fail
  rw [HU.out]
  refine st.mono ?_
  rintro r w1 ⟨rfl, b1⟩
  have Q1 : Aside (Que w1 base A T K s) := Q.out.below b1
  have u1 := (b1.block S (lt_of_block US.out)).trans US.out
  have U1 : Aside (w1.heap[S]? = some (.cells #[.int .u64 k, .int .i64 d] 34 (0, 0))) := u1
  have B1 : Aside (Below w.heap.size w w1) := BU.out.trans (b1.mono BU.out.size)
  have KC : Aside (∀ W : World, Below w1.heap.size w1 W → W.cell? ⟨A.B, 1, none⟩ = some (ptr A.SB) ∧ W.cell? ⟨S, 0, none⟩ = some (.int .u64 k) ∧ W.cell? ⟨S, 1, none⟩ = some (.int .i64 d)) := fun W hW => by
    obtain ⟨ra, sa, h1⟩ := Q1.out.below hW
    have u2 := (hW.block S (lt_of_block U1.out)).trans U1.out
    exact ⟨h1.fix.cells.2.1, (ent0 u2).1, (ent0 u2).2⟩
  have hb0 : Below w1.heap.size w1 w1 := Below.refl _ _
  have hb1 : Below w1.heap.size w1 w1.drew := hb0.drew
  have sp : Calls Tryz.prog 31 #[ptr A.SB, .int .i64 t, .agg #[.int .u64 k, .int .i64 d]] w1.drew fun e w' => e = .returned (.int .i64 1) ∧ Below w1.drew.heap.size w1.drew w' := by
    obtain ⟨ra, sa, h1⟩ := Q1.out.below hb1
    exact slPut_out w1.drew A.SB A.SR T s.g t k d h1.slt HT.out
  have mx := mixed
  clear st b1 u1
  go_wp2_with fail
  go_region_held3 (fun W => W.cell? ⟨A.B, 1, none⟩ = some (ptr A.SB) ∧ W.cell? ⟨S, 0, none⟩ = some (.int .u64 k) ∧ W.cell? ⟨S, 1, none⟩ = some (.int .i64 d)) (first | with_reducible exact KC.out _ hb0 | with_reducible exact KC.out _ hb1 | with_reducible exact KC.out _ hb2)
    ((go_at_call 31; (with_reducible refine Calls.mono sp ?_); rintro r w2 ⟨rfl, d2⟩; have hb2 : Below w1.heap.size w1 w2 := hb1.trans (d2.mono hb1.size)))
  have B2 : Aside (Below w.heap.size w w2) := B1.out.trans (hb2.mono B1.out.size)
  clear sp d2 hb0 hb1 hb2
  go_wp2
  go_ret
  exact ⟨rfl, B2.out⟩
set_option maxHeartbeats 2000000 in
theorem relaxed_out (w : World) (base : Nat) (A : QAd) (T K : Nat) (s : QSt) (t dr : Int) (h : Que w base A T K s) (ht : t < 0 ∨ (T : Int) ≤ t) :
    Calls Tryz.prog 18 #[ptr A.B, .int .i64 t, .int .u64 dr] w (EntIs w (0, 0) false) := by
  obtain ⟨ra, sa, h⟩ := h
  obtain ⟨c0, c1, c2, c3, c4⟩ := h.fix.cells
  have bl := h.fix.blt
  clear h c0 c1 c3 c4
  rcases ht with ht | ht
  · have d0 : decide (t < 0) = true := decide_eq_true ht
    go_enter Tryz.func18, Tryz.ntmps18
    go_wp2_with fail
    refine bodyPost_ret (v := .tuple #[.agg #[.int .u64 0, .int .i64 0], .bool false]) (by simp [results, Tryz.results18, go_sem]) rfl ⟨rfl, ?_⟩
    exact (Below.refl _ _).alloc (Nat.le_refl _) _
  · have h0 : ¬ t < 0 := by omega
    have d0 : decide (t < 0) = false := decide_eq_false h0
    have d1 : decide ((T : Int) ≤ t) = true := decide_eq_true ht
    go_enter Tryz.func18, Tryz.ntmps18
    go_wp2_with fail
    refine bodyPost_ret (v := .tuple #[.agg #[.int .u64 0, .int .i64 0], .bool false]) (by simp [results, Tryz.results18, go_sem]) rfl ⟨rfl, ?_⟩
    exact (Below.refl _ _).alloc (Nat.le_refl _) _
end Go.Proofs.YtdcacbjmbfppeaaGreat

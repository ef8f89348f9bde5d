/- shared: what all have, in the heap; New, Snap, Swap. -/
import Derived.Test.YtboccihcomaaoaaShrE
namespace Go.Proofs.Ytboccihcomaaoaa
open Go.RowKit Go.Lib Go.Sort
set_option linter.unusedVariables false

/-- What all have, at B: its version, and blocks that hold these lists. -/
def Shr (w : World) (B v : Nat) (ls : List (List Ent)) : Prop :=
  ∃ (a : Option Addr) (n cap : Nat), w.heap[B]? = some (.cells #[.int .u64 v, .slice a n cap] 69 (0, 0)) ∧ Bls w (B + 1) a n cap ls
theorem Shr.below {w w' : World} {B v : Nat} {ls : List (List Ent)} (h : Shr w B v ls) (hw : Below w.heap.size w w') : Shr w' B v ls := by
  obtain ⟨a, n, cap, h1, h2⟩ := h
  exact ⟨a, n, cap, (hw.block B (lt_of_block h1)).trans h1, h2.below hw⟩
theorem Shr.lt {w : World} {B v : Nat} {ls : List (List Ent)} (h : Shr w B v ls) : B < w.heap.size := by
  obtain ⟨a, n, cap, h1, h2⟩ := h
  exact lt_of_block h1
theorem shr0 {w : World} {B : Nat} {x y : Value} {T : TypeId} (h : w.heap[B]? = some (.cells #[x, y] T (0, 0))) : w.cell? ⟨B, 0, none⟩ = some x := by rw [cell_of_row _ _ _ _ _ _ h]; rfl
theorem shr1 {w : World} {B : Nat} {x y : Value} {T : TypeId} (h : w.heap[B]? = some (.cells #[x, y] T (0, 0))) : w.cell? ⟨B, 1, none⟩ = some y := by rw [cell_of_row _ _ _ _ _ _ h]; rfl
theorem shrf {w : World} {B : Nat} {x y : Value} {T : TypeId} (h : w.heap[B]? = some (.cells #[x, y] T (0, 0))) (o : Nat) : w.frozen? ⟨B, o, none⟩ = false := by simp [World.frozen?, h]
theorem shr_set1 {w : World} {B : Nat} {x y : Value} {T : TypeId} (h : w.heap[B]? = some (.cells #[x, y] T (0, 0))) (u : Value) : (w.setCell ⟨B, 1, none⟩ u).heap[B]? = some (.cells #[x, u] T (0, 0)) := by
  rw [setCell_eq_setRow w B 1 _ T (0, 0) u h]
  exact setRow_heap w B _ _ T (0, 0) h
theorem shr_set0 {w : World} {B : Nat} {x y : Value} {T : TypeId} (h : w.heap[B]? = some (.cells #[x, y] T (0, 0))) (u : Value) : (w.setCell ⟨B, 0, none⟩ u).heap[B]? = some (.cells #[u, y] T (0, 0)) := by
  rw [setCell_eq_setRow w B 0 _ T (0, 0) u h]
  exact setRow_heap w B _ _ T (0, 0) h

theorem two_set_other {w : World} {S B : Nat} (h : B ≠ S) (x y : Value) (o : Nat) : ((w.setCell ⟨S, 0, none⟩ x).setCell ⟨S, 1, none⟩ y).cell? ⟨B, o, none⟩ = w.cell? ⟨B, o, none⟩ :=
  World.cell?_of_block (a := ⟨B, o, none⟩) ((Below.heap_setCell (w.setCell ⟨S, 0, none⟩ x) ⟨S, 1, none⟩ y B h).trans (Below.heap_setCell w ⟨S, 0, none⟩ x B h))

set_option maxHeartbeats 400000 in
theorem snew_any (w : World) : Calls Try.prog 8 #[] w fun r w' => r = .returned (.pointer (some ⟨w.heap.size, 0, none⟩)) ∧ w' = w.alloc (.cells #[.int .u64 0, .slice none 0 0] 69) := by
  go_enter Try.func8, Try.ntmps8
  go_wp2
  go_ret
  exact ⟨rfl, rfl⟩
theorem shr_new (w : World) : Shr (w.alloc (.cells #[.int .u64 0, .slice none 0 0] 69)) w.heap.size 0 [] :=
  ⟨none, 0, 0, heap_alloc_new w _, [], rfl, rfl, RowB.nil _ _ _⟩

/-- What Snap tells. -/
def SnapIs (w : World) (v n : Nat) (ls : List (List Ent)) (r : Ending) (w' : World) : Prop := ∃ a cap, r = .returned (.agg #[.int .u64 v, .slice a n cap]) ∧ Bls w' w.heap.size a n cap ls ∧ Below w.heap.size w w'

set_option maxHeartbeats 2000000 in
set_option maxRecDepth 100000 in
theorem snap_any (B v n : Nat) (ls : List (List Ent)) (w : World) (h : Shr w B v ls) (hn : ls.length = n) (hl : n ≤ 100000) (hd : ∀ d ∈ ls, d.length ≤ 1000000) :
    Calls Try.prog 9 #[.pointer (some ⟨B, 0, none⟩)] w (SnapIs w v n ls) := by
  obtain ⟨a, n', cap, hB, hr⟩ := h
  obtain ⟨hn2, hc1, hc2⟩ := hr.len
  obtain rfl : n' = n := by omega
  obtain ⟨S, hS⟩ : ∃ S, w.heap.size = S := ⟨_, rfl⟩
  obtain ⟨u, hu⟩ : ∃ u, w.alloc (.cells #[.int .u64 0, .slice none 0 0] 30) = u := ⟨_, rfl⟩
  have bu : Below w.heap.size w u := by rw [← hu]; exact (Below.refl _ _).alloc (Nat.le_refl _) _
  have HU : Hid _ := hu
  have us : u.heap.size = S + 1 := by rw [← hu, ← hS]; simp
  have hBs : B < S := by rw [← hS]; exact lt_of_block hB
  have hBu := (bu.block B (lt_of_block hB)).trans hB
  have uS : u.heap[S]? = some (.cells #[.int .u64 0, .slice none 0 0] 30 (0, 0)) := by rw [← hu, ← hS]; exact heap_alloc_new w _
  have cp : ∀ W, Below u.heap.size u W → Calls Try.prog 29 #[.slice a n' cap] W (CopiedB W n' ls) := fun W hW => copied_any a n' cap ls W (hr.raw.below (bu.trans (hW.mono bu.size))) hn hl hd
  have CP : Aside (∀ W, Below u.heap.size u W → Calls Try.prog 29 #[.slice a n' cap] W (CopiedB W n' ls)) := cp
  have KC : Aside (∀ W, Below u.heap.size u W → W.cell? ⟨B, 0, none⟩ = some (.int .u64 v) ∧ W.cell? ⟨B, 1, none⟩ = some (.slice a n' cap) ∧ W.cell? ⟨S, 0, none⟩ = some (.int .u64 0) ∧ W.cell? ⟨S, 1, none⟩ = some (.slice none 0 0) ∧ W.frozen? ⟨S, 0, none⟩ = false ∧ W.frozen? ⟨S, 1, none⟩ = false) := fun W hW => by
    have h1 := (hW.block B (by omega)).trans hBu
    have h2 := (hW.block S (by omega)).trans uS
    exact ⟨shr0 h1, shr1 h1, shr0 h2, shr1 h2, shrf h2 0, shrf h2 1⟩
  have hb0 : Below u.heap.size u u := Below.refl _ _
  have hb1 : Below u.heap.size u u.drew := hb0.drew
  have BU : Aside (Below w.heap.size w u) := bu
  have US : Aside (u.heap[S]? = some (.cells #[.int .u64 0, .slice none 0 0] 30 (0, 0))) := uS
  have nBS : ¬ B = S := by omega
  have mx := mixed
  clear hr hB hu bu cp uS hBu
  go_enter Try.func9, Try.ntmps9
  go_wp2_with fail
  rw [HU.out]
  obtain ⟨j0, j1, i0, i1, f0, f1⟩ := KC.out u hb0
  go_region_held3 (fun v' => v'.cell? ⟨B, 0, none⟩ = some (.int .u64 v) ∧ v'.cell? ⟨B, 1, none⟩ = some (.slice a n' cap)) (first | exact ⟨(KC.out _ hb0).1, (KC.out _ hb0).2.1⟩ | exact ⟨(KC.out _ hb1).1, (KC.out _ hb1).2.1⟩ | exact ⟨(KC.out _ hb2).1, (KC.out _ hb2).2.1⟩ | exact ⟨(two_set_other nBS _ _ _).trans (KC.out _ hb2).1, (two_set_other nBS _ _ _).trans (KC.out _ hb2).2.1⟩)
    ((go_at_call 29; (with_reducible refine Calls.mono (CP.out _ hb1) ?_); rintro r w2 ⟨x, y, rfl, o2, d2⟩; have hb2 : Below u.heap.size u w2 := hb1.trans (d2.mono hb1.size); obtain ⟨q0, q1, q2, q3, q4, q5⟩ := KC.out _ hb2))
  have s2 : w2.heap[S]? = some (.cells #[.int .u64 0, .slice none 0 0] 30 (0, 0)) := (hb2.block S (by omega)).trans US.out
  have s3 := shr_set1 (shr_set0 s2 (.int .u64 v)) (.slice x n' y)
  have g3 : w2.grownBy ((w2.setCell ⟨S, 0, none⟩ (.int .u64 v)).setCell ⟨S, 1, none⟩ (.slice x n' y)) (some S) := grown_trans (grown_set w2 S 0 _) (grown_set _ S 1 _)
  have o3 := (o2.grown g3 (by show S < u.heap.size; omega)).low (b' := w.heap.size) (by show _ ≤ u.heap.size; omega)
  have b3 : Below w.heap.size w ((w2.setCell ⟨S, 0, none⟩ (.int .u64 v)).setCell ⟨S, 1, none⟩ (.slice x n' y)) := (BU.out.trans (hb2.mono BU.out.size)).trans (below_of_grown g3 (by omega) (by have := hb2.size; omega))
  obtain ⟨W, hW⟩ : ∃ W, (w2.setCell ⟨S, 0, none⟩ (.int .u64 v)).setCell ⟨S, 1, none⟩ (.slice x n' y) = W := ⟨_, rfl⟩
  rw [hW] at s3 o3 b3
  have O3 : Aside (Bls W w.heap.size x n' y ls) := o3
  have B3 : Aside (Below w.heap.size w W) := b3
  have HW : Hid _ := hW
  have e0 := shr0 s3
  have e1 := shr1 s3
  clear o3 b3 s2 s3 g3 hW q0 q1 q2 q3 q4 q5 o2 d2 hb2 hb0 hb1 i0 i1 f0 f1 j0 j1
  rw [HW.out]
  go_wp2
  refine bodyPost_ret (v := .agg #[.int .u64 v, .slice x n' y]) (by simp [results, Try.results9, go_sem, e0, e1]) rfl ⟨x, y, rfl, O3.out, B3.out⟩

set_option maxHeartbeats 400000 in
theorem swap_old (B v old : Nat) (ls : List (List Ent)) (a : Option Addr) (n cap : Nat) (w : World) (h : Shr w B v ls) (hv : v ≠ old) :
    Calls Try.prog 21 #[.pointer (some ⟨B, 0, none⟩), .int .u64 old, .slice a n cap] w fun r w' => r = .returned (.bool false) ∧ w' = w := by
  obtain ⟨a0, n0, cap0, hB, hr⟩ := h
  have y0 := shr0 hB
  have t : ((v : Int) == (old : Int)) = false := by simp; omega
  have t2 : ¬ (v : Int) = (old : Int) := by omega
  clear hr hB
  go_enter Try.func21, Try.ntmps21
  go_wp2
  go_ret
  exact ⟨rfl, rfl⟩

set_option maxHeartbeats 400000 in
theorem swap_bad (B v : Nat) (ls : List (List Ent)) (a : Option Addr) (n cap : Nat) (xs : List (Int × List Ent)) (w : World) (h : Shr w B v ls) (hx : RawB w a xs) (hn : xs.length = n) (hl : n ≤ 100000) (hd : ∀ x ∈ xs, x.2.length ≤ 1000000) (hk : xs.all okX = false) :
    Calls Try.prog 21 #[.pointer (some ⟨B, 0, none⟩), .int .u64 v, .slice a n cap] w fun r w' => r = .returned (.bool false) ∧ Below w.heap.size w w' := by
  have ok := allOk_any a cap xs w hx (by omega) hd
  rw [hn, hk] at ok
  obtain ⟨a0, n0, cap0, hB, hr⟩ := h
  have y0 := shr0 hB
  clear hr hB hx hd hk hn
  go_enter Try.func21, Try.ntmps21
  go_wp2_with fail
  refine ok.mono ?_
  rintro r w1 ⟨rfl, b1⟩
  have B1 : Aside (Below w.heap.size w w1) := b1
  clear ok b1
  go_wp2
  go_ret
  exact ⟨rfl, B1.out⟩

theorem okX_lvs {xs : List (Int × List Ent)} (h : xs.all okX = true) : xs = lvs (xs.map Prod.snd) ∧ ∀ d ∈ xs.map Prod.snd, Srt d := by
  induction xs with
  | nil => exact ⟨rfl, fun d hd => by simp at hd⟩
  | cons x r ih =>
    rw [List.all_cons, Bool.and_eq_true] at h
    obtain ⟨i1, i2⟩ := ih h.2
    have h1 := h.1
    unfold okX at h1
    rw [Bool.and_eq_true, decide_eq_true_iff, srtB_iff] at h1
    refine ⟨?_, fun d hd => ?_⟩
    · rw [List.map_cons]
      show x :: r = ((lv x.2 : Int), x.2) :: lvs (r.map Prod.snd)
      rw [← i1]
      congr 1
      exact Prod.ext h1.1 rfl
    · rw [List.map_cons] at hd
      rcases List.mem_cons.1 hd with rfl | hd
      · exact h1.2
      · exact i2 d hd
theorem lvs_ok {ls : List (List Ent)} (h : ∀ d ∈ ls, Srt d) : (lvs ls).all okX = true := by
  induction ls with
  | nil => rfl
  | cons d r ih =>
    show (okX ((lv d : Int), d) && (lvs r).all okX) = true
    rw [Bool.and_eq_true]
    refine ⟨?_, ih fun x hx => h x (by simp [hx])⟩
    unfold okX
    rw [Bool.and_eq_true, decide_eq_true_iff, srtB_iff]
    exact ⟨rfl, h d (by simp)⟩

set_option maxHeartbeats 1000000 in
theorem swap_any (B v : Nat) (ls ks : List (List Ent)) (a : Option Addr) (n cap : Nat) (w : World) (h : Shr w B v ls) (hv : v ≤ 1000000) (hx : RawB w a (lvs ks)) (hs : ∀ d ∈ ks, Srt d) (hn : ks.length = n) (hl : n ≤ 100000) (hd : ∀ d ∈ ks, d.length ≤ 1000000) :
    Calls Try.prog 21 #[.pointer (some ⟨B, 0, none⟩), .int .u64 v, .slice a n cap] w fun r w' => r = .returned (.bool true) ∧ Shr w' B (v + 1) ks ∧ w.grownBy w' (some B) := by
  have ok := allOk_any a cap (lvs ks) w hx (by rw [lvs_len]; omega) (fun x hx => by
    obtain ⟨d, hd', rfl⟩ := List.mem_map.1 hx
    exact hd d hd')
  rw [lvs_len, hn, lvs_ok hs] at ok
  obtain ⟨a0, n0, cap0, hB, hr⟩ := h
  have y0 := shr0 hB
  have cp : ∀ W, Below w.heap.size w W → Calls Try.prog 29 #[.slice a n cap] W (CopiedB W n ks) := fun W hW => copied_any a n cap ks W (hx.below hW) hn hl hd
  have HB : Aside (w.heap[B]? = some (.cells #[.int .u64 v, .slice a0 n0 cap0] 69 (0, 0))) := hB
  have CP : Aside (∀ W, Below w.heap.size w W → Calls Try.prog 29 #[.slice a n cap] W (CopiedB W n ks)) := cp
  have wv : IntKind.u64.wrap ((v : Int) + 1) = (v : Int) + 1 := by rw [IntKind.wrap_u64, Int.emod_eq_of_lt (by omega) (by omega)]
  clear hr hB hx hd hs hn cp
  go_enter Try.func21, Try.ntmps21
  go_wp2_with fail
  refine ok.mono ?_
  rintro r w1 ⟨rfl, b1⟩
  have B1 : Aside (Below w.heap.size w w1) := b1
  have cc := CP.out w1 b1
  clear ok b1
  go_wp2_with fail
  refine cc.mono ?_
  rintro r w2 ⟨x, y, rfl, o2, d2⟩
  have b2 : Below w.heap.size w w2 := B1.out.trans (d2.mono B1.out.size)
  have h2 := (b2.block B (lt_of_block HB.out)).trans HB.out
  have k0 := shr0 h2
  have k1 := shr1 h2
  have f0 := shrf h2 0
  have f1 := shrf h2 1
  have h3 := shr_set1 h2 (.slice x n y)
  have k30 := shr0 h3
  have f30 := shrf h3 0
  have h4 := shr_set0 h3 (.int .u64 ((v : Int) + 1))
  have g2 : w2.grownBy ((w2.setCell ⟨B, 1, none⟩ (.slice x n y)).setCell ⟨B, 0, none⟩ (.int .u64 ((v : Int) + 1))) (some B) := grown_trans (grown_set w2 B 1 _) (grown_set _ B 0 _)
  have BS : B < w1.heap.size := Nat.lt_of_lt_of_le (lt_of_block HB.out) B1.out.size
  have FIN : Aside (Shr ((w2.setCell ⟨B, 1, none⟩ (.slice x n y)).setCell ⟨B, 0, none⟩ (.int .u64 ((v : Int) + 1))) B (v + 1) ks ∧ w.grownBy ((w2.setCell ⟨B, 1, none⟩ (.slice x n y)).setCell ⟨B, 0, none⟩ (.int .u64 ((v : Int) + 1))) (some B)) :=
    ⟨⟨x, n, y, h4, (o2.grown g2 BS).low (by omega)⟩, grown_trans (grown_of_below b2 _) g2⟩
  clear h2 h3 h4 g2 o2 d2 b2 cc
  go_wp2
  go_ret
  exact ⟨rfl, FIN.out.1, FIN.out.2⟩
end Go.Proofs.Ytboccihcomaaoaa

/- A row of events as far as it was read: what it is, how it lies in the heap; what only reads of it. -/
import Derived.Test.YtpenojbfeocjaaaDoorHiM
import Derived.Deep.RegionHeld3
import Derived.Deep.LoopGhost
import Derived.Deep.Fields
import Derived.BigRegion
import Derived.Deep.DeepCutAuto
import Derived.Deep.CutBlock
namespace Go.Proofs.YtpenojbfeocjaaaDoor
open Go.RowKit Go.Lib Go.WideMaps Go.Maps
set_option linter.unusedVariables false
set_option maxRecDepth 10000

/-- What was read: the last event of each ID, those that are ready, how many were made, claims, the tick, whether closed. -/
structure RwR where
  f : Int → Option EvR
  g : Nat × Nat → Option (Nat × Int)
  made : Int
  cl : Nat
  now : Nat
  shut : Bool
def rw0 : RwR := ⟨fun _ => none, fun _ => none, 0, 0, 0, false⟩
def enV (x : Nat × Int) : Value := .agg #[.int .u64 x.1, .int .i64 x.2]
def u64 (i : Int) : Nat := (i % 18446744073709551616).toNat
/-- It lies in the heap: its box at R, its maps at L and M; each has at most c entries. -/
structure RowI (w : World) (R L M : Nat) (s : RwR) (c : Nat) : Prop where
  hb : w.heap[R]? = some (.cells #[.map (some L), .map (some M), .int .i64 s.made, .int .u64 s.cl, .int .u64 s.now, .bool s.shut] 55 (0, 0))
  ml : ∃ n, n ≤ c ∧ MapG keyI w L (fun i => (s.f i).map evV) n
  mr : ∃ n, n ≤ c ∧ MapG keyP w M (fun p => (s.g p).map enV) n
  ne : L ≠ M
  cl : s.cl ≤ c
  rg : -4611686018427387904 ≤ s.made ∧ s.made ≤ 4611686018427387904
section
variable {w w' : World} {R L M c : Nat} {s : RwR}
theorem RowI.lt (h : RowI w R L M s c) : R < w.heap.size ∧ L < w.heap.size ∧ M < w.heap.size := by
  obtain ⟨n, _, h1⟩ := h.ml
  obtain ⟨m, _, h2⟩ := h.mr
  exact ⟨lt_of_block h.hb, h1.lt, h2.lt⟩
theorem RowI.below (h : RowI w R L M s c) (hb : Below w.heap.size w w') : RowI w' R L M s c := by
  obtain ⟨l1, l2, l3⟩ := h.lt
  obtain ⟨n, a1, a2⟩ := h.ml
  obtain ⟨m, b1, b2⟩ := h.mr
  exact ⟨(hb.block R l1).trans h.hb, ⟨n, a1, a2.of_block (hb.block L l2)⟩, ⟨m, b1, b2.of_block (hb.block M l3)⟩, h.ne, h.cl, h.rg⟩
theorem RowI.cells (h : RowI w R L M s c) : w.cell? ⟨R, 0, none⟩ = some (.map (some L)) ∧ w.cell? ⟨R, 1, none⟩ = some (.map (some M)) ∧ w.cell? ⟨R, 2, none⟩ = some (.int .i64 s.made) ∧
    w.cell? ⟨R, 3, none⟩ = some (.int .u64 s.cl) ∧ w.cell? ⟨R, 4, none⟩ = some (.int .u64 s.now) ∧ w.cell? ⟨R, 5, none⟩ = some (.bool s.shut) := by
  refine ⟨?_, ?_, ?_, ?_, ?_, ?_⟩ <;> rw [cell_of_row _ _ _ _ _ _ h.hb] <;> rfl
theorem RowI.frozen (h : RowI w R L M s c) (o : Nat) : w.frozen? ⟨R, o, none⟩ = false := by simp [World.frozen?, h.hb]
end

/-! ## within, mayBe, newRow, placeOf, entryOf -/
theorem within_any (n lo hi : Int) (w : World) : Calls Tryd.prog 20 #[.int .i64 n, .int .i64 lo, .int .i64 hi] w fun r w' => r = .returned (.bool (decide (lo ≤ n) && decide (n ≤ hi))) ∧ w' = w := by
  by_cases h1 : lo ≤ n
  · have h1' : n ≥ lo := h1
    by_cases h2 : n ≤ hi
    · go_enter Tryd.func20, Tryd.ntmps20
      go_wp2
      go_ret
      exact ⟨by rw [decide_eq_true h1, decide_eq_true h2]; rfl, rfl⟩
    · go_enter Tryd.func20, Tryd.ntmps20
      go_wp2
      go_ret
      have e : decide (n ≤ hi) = false := decide_eq_false (by omega)
      exact ⟨by rw [e]; rfl, rfl⟩
  · have h1' : ¬ n ≥ lo := h1
    go_enter Tryd.func20, Tryd.ntmps20
    go_wp2
    go_ret
    have e : decide (lo ≤ n) = false := decide_eq_false (by omega)
    exact ⟨by rw [e]; rfl, rfl⟩
theorem within_yes {n lo hi : Int} (h1 : lo ≤ n) (h2 : n ≤ hi) (w : World) : Calls Tryd.prog 20 #[.int .i64 n, .int .i64 lo, .int .i64 hi] w fun r w' => r = .returned (.bool true) ∧ w' = w := by
  have := within_any n lo hi w
  rw [decide_eq_true h1, decide_eq_true h2] at this
  exact this
theorem within_is {n lo hi : Int} {b : Bool} (h : (decide (lo ≤ n) && decide (n ≤ hi)) = b) (w : World) : Calls Tryd.prog 20 #[.int .i64 n, .int .i64 lo, .int .i64 hi] w fun r w' => r = .returned (.bool b) ∧ w' = w := by
  have := within_any n lo hi w
  rw [h] at this
  exact this
set_option maxHeartbeats 2000000 in
theorem mayBe_yes {t k c : Int} (t1 : 1 ≤ t) (t2 : t ≤ 8) (k1 : 0 ≤ k) (k2 : k ≤ 16) (c1 : 1 ≤ c) (c2 : c ≤ 64) (w : World) : Calls Tryd.prog 9 #[.agg #[.int .i64 t, .int .i64 k, .int .i64 c]] w fun r w' => r = .returned (.bool true) ∧ Below w.heap.size w w' := by
  obtain ⟨X, hX⟩ : ∃ X, w.heap.size = X := ⟨_, rfl⟩
  obtain ⟨u1, hu1⟩ : ∃ u, w.alloc (.cells #[.int .i64 t, .int .i64 k, .int .i64 c] 23) = u := ⟨_, rfl⟩
  have B : Aside (Below w.heap.size w u1) := by show Below _ _ _; rw [← hu1]; exact bel1 _ _
  have d0 : u1.cell? ⟨X, 0, none⟩ = some (.int .i64 t) := by rw [← hu1, ← hX, cell_fresh]; rfl
  have d1 : u1.cell? ⟨X, 1, none⟩ = some (.int .i64 k) := by rw [← hu1, ← hX, cell_fresh]; rfl
  have d2 : u1.cell? ⟨X, 2, none⟩ = some (.int .i64 c) := by rw [← hu1, ← hX, cell_fresh]; rfl
  have HX : Aside _ := hX
  have HU : Aside _ := hu1
  clear hX hu1
  go_enter Tryd.func9, Tryd.ntmps9
  go_upto_region 1 with fail
  rw [HU.out, HX.out]
  go_wp2_with fail
  refine (within_yes t1 t2 _).mono ?_
  rintro r w1 ⟨rfl, rfl⟩
  go_wp2_with fail
  refine (within_yes k1 k2 _).mono ?_
  rintro r w1 ⟨rfl, rfl⟩
  go_wp2_with fail
  refine (within_yes c1 c2 _).mono ?_
  rintro r w1 ⟨rfl, rfl⟩
  go_wp2_with fail
  go_ret
  exact ⟨rfl, B.out⟩
theorem makeL (w : World) : (Instr.makeMap 53 none).run Tryd.prog w = .ok (.map (some w.heap.size)) (w.alloc (.map #[] 0)) := by
  simp [Instr.makeMap, go_sem]
theorem makeR (w : World) : (Instr.makeMap 50 none).run Tryd.prog w = .ok (.map (some w.heap.size)) (w.alloc (.map #[] 0)) := by
  simp [Instr.makeMap, go_sem]
theorem newRow_any (w : World) : Calls Tryd.prog 10 #[] w fun r w' => ∃ R L M, r = .returned (.pointer (some ⟨R, 0, none⟩)) ∧ RowI w' R L M rw0 0 ∧ Below w.heap.size w w' ∧ w.heap.size ≤ R ∧ w.heap.size ≤ L ∧ w.heap.size ≤ M := by
  have h1 := makeL
  have h2 := makeR
  obtain ⟨L, hL⟩ : ∃ L, w.heap.size = L := ⟨_, rfl⟩
  obtain ⟨u1, hu1⟩ : ∃ u, w.alloc (.map #[] 0) = u := ⟨_, rfl⟩
  obtain ⟨M, hM⟩ : ∃ L, u1.heap.size = L := ⟨_, rfl⟩
  obtain ⟨u2, hu2⟩ : ∃ u, u1.alloc (.map #[] 0) = u := ⟨_, rfl⟩
  obtain ⟨R, hR⟩ : ∃ L, u2.heap.size = L := ⟨_, rfl⟩
  obtain ⟨u3, hu3⟩ : ∃ u, u2.alloc (.cells #[.map (some L), .map (some M), .int .i64 0, .int .u64 0, .int .u64 0, .bool false] 55) = u := ⟨_, rfl⟩
  have b1 : Below w.heap.size w u1 := by rw [← hu1]; exact bel1 _ _
  have b2 : Below u1.heap.size u1 u2 := by rw [← hu2]; exact bel1 _ _
  have b3 : Below u2.heap.size u2 u3 := by rw [← hu3]; exact bel1 _ _
  have s1 : u1.heap.size = w.heap.size + 1 := by rw [← hu1, alloc_sz]
  have s2 : u2.heap.size = u1.heap.size + 1 := by rw [← hu2, alloc_sz]
  have m1 : MapG keyI u1 L (fun _ => none) 0 := by rw [← hu1, ← hL]; exact MapG.made keyI w
  have m2 : MapG keyP u2 M (fun _ => none) 0 := by rw [← hu2, ← hM]; exact MapG.made keyP u1
  have I : Aside (RowI u3 R L M rw0 0) := ⟨by rw [← hu3, ← hR]; exact heap_alloc_new u2 _, ⟨0, Nat.le_refl _, (m1.of_block (b2.block L (by omega))).of_block (b3.block L (by omega))⟩, ⟨0, Nat.le_refl _, m2.of_block (b3.block M (by omega))⟩, by omega, Nat.le_refl _, by decide, by decide⟩
  have B : Aside (Below w.heap.size w u3 ∧ w.heap.size ≤ R ∧ w.heap.size ≤ L ∧ w.heap.size ≤ M) := ⟨Below.tr (Below.tr b1 b2) b3, by omega, by omega, by omega⟩
  have H1 : Aside _ := hu1
  have H2 : Aside _ := hu2
  have H3 : Aside _ := hu3
  have H4 : Aside _ := hL
  have H5 : Aside _ := hM
  have H6 : Aside _ := hR
  have eM : w.heap.size + 1 = M := by omega
  have eR : w.heap.size + 1 + 1 = R := by omega
  have EM : Aside _ := eM
  have ER : Aside _ := eR
  clear hu1 hu2 hu3 hL hM hR b1 b2 b3 s1 s2 m1 m2 eM eR
  go_enter Tryd.func10, Tryd.ntmps10
  go_wp2
  go_ret
  have eW : ((w.alloc (.map #[] 0)).alloc (.map #[] 0)).alloc (.cells #[.map (some w.heap.size), .map (some (w.heap.size + 1)), .int .i64 0, .int .u64 0, .int .u64 0, .bool false] 55) = u3 := by
    rw [EM.out, H4.out, H1.out, H2.out, H3.out]
  refine ⟨R, L, M, ?_, ?_⟩
  · show Ending.returned (.pointer (some ⟨w.heap.size + 1 + 1, 0, none⟩)) = _
    rw [ER.out]
  · rw [eW]
    exact ⟨I.out, B.out⟩

theorem u64_wrap (i : Int) : IntKind.u64.wrap i = (u64 i : Int) := by
  rw [IntKind.wrap_u64]
  unfold u64
  omega
theorem placeOf_any (y : Nat) (i : Int) (w : World) : Calls Tryd.prog 32 #[.int .u64 y, .int .i64 i] w fun r w' => r = .returned (prV (y, u64 i)) ∧ Below w.heap.size w w' := by
  have hz := u64_wrap i
  obtain ⟨z, hzz⟩ : ∃ z, u64 i = z := ⟨_, rfl⟩
  rw [hzz] at hz
  have HZ : Aside _ := hzz
  clear hzz
  go_enter Tryd.func32, Tryd.ntmps32
  go_wp2
  have r0 := cell_fresh w #[.int .u64 y, .int .u64 z] 52 0
  have r1 := cell_fresh w #[.int .u64 y, .int .u64 z] 52 1
  refine bodyPost_ret (v := .agg #[.int .u64 y, .int .u64 z]) (by simp [results, Tryd.results32, go_sem, r0, r1]) rfl ⟨by rw [HZ.out]; rfl, bel1 _ _⟩
theorem entryOf_any (e : EvR) (w : World) : Calls Tryd.prog 14 #[evV e] w fun r w' => r = .returned (enV (e.y, e.i)) ∧ Below w.heap.size w w' := by
  unfold evV
  go_enter Tryd.func14, Tryd.ntmps14
  go_wp2
  have r0 := cell_fresh (w.alloc (.cells #[.int .i64 e.k, .int .i64 e.t, .int .i64 e.i, .int .u64 e.y, .int .u64 e.c, .int .u64 e.n] 27)) #[.int .u64 e.y, .int .i64 e.i] 42 0
  have r1 := cell_fresh (w.alloc (.cells #[.int .i64 e.k, .int .i64 e.t, .int .i64 e.i, .int .u64 e.y, .int .u64 e.c, .int .u64 e.n] 27)) #[.int .u64 e.y, .int .i64 e.i] 42 1
  rw [alloc_sz] at r0 r1
  refine bodyPost_ret (v := .agg #[.int .u64 e.y, .int .i64 e.i]) (by simp [results, Tryd.results14, go_sem, r0, r1]) rfl ⟨rfl, ?_⟩
  exact Below.tr (bel1 _ _) (bel1 _ _)
end Go.Proofs.YtpenojbfeocjaaaDoor

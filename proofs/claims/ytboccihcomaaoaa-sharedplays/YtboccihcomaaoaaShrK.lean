/- Adds one behind the other; awake of layer 8. -/
import Derived.Test.YtboccihcomaaoaaShrX
namespace Go.Proofs.Ytboccihcomaaoaa
open Go.RowKit Go.Lib Go.Sort
set_option linter.unusedVariables false

theorem aw8 : addS [] [(4, 1), (2, 2), (9, 3)] = [[(2, 2), (4, 1), (9, 3)]] := by
  have s : sortE [((4 : Int), (1 : Int)), (2, 2), (9, 3)] = [(2, 2), (4, 1), (9, 3)] := (sortE_of ((srtB_iff _).1 (by decide)) (by decide)).symm
  unfold addS
  rw [if_neg (by simp), s, laidS_end rfl]
  rfl
theorem aw8_srt : sortE [[((2 : Int), (2 : Int)), (4, 1), (9, 3)]].flatten = [(2, 2), (4, 1), (9, 3)] := by
  show sortE [((2 : Int), (2 : Int)), (4, 1), (9, 3)] = _
  exact sortE_id ((srtB_iff _).1 (by decide))

set_option maxHeartbeats 4000000 in
set_option maxRecDepth 100000 in
theorem sawake_any (w : World) : Calls Try.prog 16 #[] w fun e w' => e = .returned (.bool true) ∧ Below w.heap.size w w' := by
  obtain ⟨B, hB⟩ : ∃ B, w.heap.size = B := ⟨_, rfl⟩
  have HB : Hid _ := hB
  have nw := snew_any w
  rw [hB] at nw
  obtain ⟨u0, hu0⟩ : ∃ u, w.alloc (.cells #[.int .u64 0, .slice none 0 0] 69) = u := ⟨_, rfl⟩
  have HU0 : Hid _ := hu0
  have s0 : Shr u0 B 0 [] := by rw [← hu0, ← hB]; exact shr_new w
  have b0 : Below B w u0 := by rw [← hu0]; exact (Below.refl _ _).alloc (by omega) _
  obtain ⟨S, hS⟩ : ∃ S, u0.heap.size = S := ⟨_, rfl⟩
  obtain ⟨u, hu⟩ : ∃ u, u0.alloc (.cells #[.int .u64 4, .int .i64 1, .int .u64 2, .int .i64 2, .int .u64 9, .int .i64 3] 37) = u := ⟨_, rfl⟩
  have HU : Hid _ := hu
  have L : IsL u (some ⟨S, 0, none⟩) 3 [(4, 1), (2, 2), (9, 3)] := by
    have o : OwnE u 0 (.slice (some ⟨S, 0, none⟩) 3 3) [(4, 1), (2, 2), (9, 3)] := by
      rw [← hu, ← hS]
      exact World.ownsRow_lit u0 #[.int .u64 4, .int .i64 1, .int .u64 2, .int .i64 2, .int .u64 9, .int .i64 3] 3 (Nat.zero_le _) (by unfold maxLen; omega) rfl
    exact o.is
  have bu : Below u0.heap.size u0 u := by rw [← hu]; exact (Below.refl _ _).alloc (Nat.le_refl _) _
  have ad := sadd_some B 0 [] (some ⟨S, 0, none⟩) 3 3 [(4, 1), (2, 2), (9, 3)] u (s0.below bu) L rfl (by omega) (by simp) (by simp) (fun d hd => by simp at hd) (by omega)
  rw [aw8] at ad
  have sB0 : B ≤ u0.heap.size := by have := b0.size; omega
  have BU : Aside (Below B w u) := b0.trans (bu.mono sB0)
  clear hu0 hu L bu b0 s0
  go_enter Try.func16, Try.ntmps16
  go_wp2_with fail
  refine nw.mono ?_
  rintro r w1_ ⟨rfl, rfl⟩
  rw [HU0.out]
  go_wp2_with fail
  rw [HU.out]
  refine ad.mono ?_
  rintro r w1 ⟨rfl, s1, g1⟩
  have S1 : Aside (Shr w1 B 1 [[(2, 2), (4, 1), (9, 3)]]) := s1
  have b1 : Below B w w1 := BU.out.trans (below_of_grown g1 (Nat.le_refl _) (by have := BU.out.size; omega))
  have B1 : Aside (Below B w w1) := b1
  have cd := cand_any B 1 [[(2, 2), (4, 1), (9, 3)]] 0 77 w1 s1 (by decide) (by omega) (by decide) (2, 2) (by
    rw [aw8_srt]
    rfl)
  clear s1 g1 b1 ad nw
  go_wp2_with fail
  refine cd.mono ?_
  rintro r w2 ⟨rfl, b2⟩
  obtain ⟨T2, hT2⟩ : ∃ T, w2.heap.size = T := ⟨_, rfl⟩
  obtain ⟨v2, hv2⟩ : ∃ v, w2.alloc (.cells #[.int .u64 2, .int .i64 2] 37) = v := ⟨_, rfl⟩
  have HV2 : Hid _ := hv2
  have bv2 : Below w2.heap.size w2 v2 := by rw [← hv2]; exact (Below.refl _ _).alloc (Nat.le_refl _) _
  have b12 : Below w1.heap.size w1 v2 := b2.trans (bv2.mono b2.size)
  have S2 : Aside (Shr v2 B 1 [[(2, 2), (4, 1), (9, 3)]]) := S1.out.below b12
  have sB1 : B ≤ w1.heap.size := by have := B1.out.size; omega
  have B2 : Aside (Below B w v2) := B1.out.trans (b12.mono sB1)
  have e2 : v2.heap[T2]? = some (.cells #[.int .u64 2, .int .i64 2] 37 (0, 0)) := by rw [← hv2, ← hT2]; exact heap_alloc_new w2 _
  have E2 : Aside (v2.heap[T2]? = some (.cells #[.int .u64 2, .int .i64 2] 37 (0, 0))) := e2
  have sn := snap_any B 1 1 [[(2, 2), (4, 1), (9, 3)]] v2 S2.out rfl (by omega) (fun d hd => by simp at hd; subst hd; simp)
  clear hv2 bv2 b12 b2 cd e2 S1 B1 BU
  go_wp2_with fail
  rw [HV2.out]
  refine sn.mono ?_
  rintro r w3 ⟨a3, c3, rfl, l3, b3⟩
  obtain ⟨T3, hT3⟩ : ∃ T, w3.heap.size = T := ⟨_, rfl⟩
  obtain ⟨v3, hv3⟩ : ∃ v, w3.alloc (.cells #[.int .u64 1, .slice a3 1 c3] 30) = v := ⟨_, rfl⟩
  have HV3 : Hid _ := hv3
  have bv3 : Below w3.heap.size w3 v3 := by rw [← hv3]; exact (Below.refl _ _).alloc (Nat.le_refl _) _
  have b23 : Below v2.heap.size v2 v3 := b3.trans (bv3.mono b3.size)
  have i0 := shr0 ((b3.block T2 (lt_of_block E2.out)).trans E2.out)
  have T23 : T2 < T3 := by rw [← hT3]; exact Nat.lt_of_lt_of_le (lt_of_block E2.out) b3.size
  have nT : ¬ T2 = T3 := by omega
  have sB2 : B ≤ v2.heap.size := by have := B2.out.size; omega
  have B3 : Aside (Below B w v3) := B2.out.trans (b23.mono sB2)
  have ln := slen_any B 1 [[(2, 2), (4, 1), (9, 3)]] v3 (S2.out.below b23) (by decide)
  have k0 : v3.cell? ⟨T3, 0, none⟩ = some (.int .u64 1) := by rw [← hv3, ← hT3]; exact cell_new w3 _ _ 0
  have k1 : v3.cell? ⟨T3, 1, none⟩ = some (.slice a3 1 c3) := by rw [← hv3, ← hT3]; exact cell_new w3 _ _ 1
  have k2 : v3.cell? ⟨T2, 0, none⟩ = some (.int .u64 2) := (bv3.cell (p := ⟨T2, 0, none⟩) (by show T2 < _; omega)).trans i0
  simp only [List.flatten_cons, List.flatten_nil, List.append_nil, List.length_cons, List.length_nil, Nat.zero_add, Nat.reduceAdd] at ln
  clear hv3 bv3 b23 b3 l3 sn S2 B2 E2
  go_wp2_with fail
  try rw [HV3.out]
  refine ln.mono ?_
  rintro r w4 ⟨rfl, b4⟩
  have sB3 : B ≤ v3.heap.size := by have := B3.out.size; omega
  have B4 : Aside (Below B w w4) := B3.out.trans (b4.mono sB3)
  clear b4 ln
  go_wp2
  go_ret
  exact ⟨rfl, by first | exact B4.out | (rw [HB.out]; exact B4.out)⟩
end Go.Proofs.Ytboccihcomaaoaa

/- The document's Shared: Candidate. -/
import Derived.Test.YtboccihcomaaoaaShrQ
namespace Go.Proofs.Ytboccihcomaaoaa
open Go.RowKit Go.Lib Go.Sort
set_option linter.unusedVariables false

set_option maxHeartbeats 1000000 in
theorem rcand_any (S v : Nat) (ls : List (List Ent)) (k : Int) (dr : Nat) (w : World) (h : RShr w S v ls) (hsum : ls.flatten.length ≤ 9000) (hk : -9223372036854775808 ≤ k ∧ k ≤ 9223372036854775807) (hdr : dr < 18446744073709551616) (hp : 0 < ls.flatten.length) (x : Ent) (hx : (sortE ls.flatten)[dr % drawN k ls.flatten.length]? = some x) :
    Calls Try.prog 25 #[.pointer (some ⟨S + 1, 0, none⟩), .int .i64 k, .int .u64 dr] w (CandIs w x true) := by
  obtain ⟨Z, hZ⟩ : ∃ Z, w.heap.size = Z := ⟨_, rfl⟩
  obtain ⟨u, hu⟩ : ∃ u, w.alloc (.cells #[.int .u64 0, .int .i64 0] 37) = u := ⟨_, rfl⟩
  have HU : Hid _ := hu
  have bu : Below w.heap.size w u := by rw [← hu]; exact (Below.refl _ _).alloc (Nat.le_refl _) _
  have us : u.heap.size = Z + 1 := by rw [← hu, ← hZ]; simp
  have uS : u.heap[Z]? = some (.cells #[.int .u64 0, .int .i64 0] 37 (0, 0)) := by rw [← hu, ← hZ]; exact heap_alloc_new w _
  have hS1 : S + 1 < Z := by rw [← hZ]; exact h.lt
  obtain ⟨a, n, cap, bs, hbs, hB, hr⟩ := h
  have i1 := shr1 hB
  have ib := (hr.below bu).isBs
  rw [hbs] at ib
  have hln : ls.length = n := by rw [← hbs, List.length_map, hr.len]
  obtain ⟨T, hT⟩ : ∃ T, ls.flatten.length = T := ⟨_, rfl⟩
  have w9 : IntKind.i64.wrap (max (min k 1073741824) 0 + 1) = (max (min k 1073741824) 0 + 1) := by rw [IntKind.wrap_i64]; omega
  have nS : ¬ S + 1 = Z := by omega
  have sl := sortE_len ls.flatten
  rw [hT] at hx hsum hp sl
  obtain ⟨J, hJ⟩ : ∃ J, drawN k T = J := ⟨_, rfl⟩
  have hJ2 : wth (max (min k 1073741824) 0 + 1) T = J := by rw [← hJ]; unfold drawN wth; omega
  have pv := refPivotN (cap := cap) (n := (max (min k 1073741824) 0 + 1)) ib hln hT (by omega) hJ2 rfl
  have j0 : 0 < J := by rw [← hJ]; unfold drawN; omega
  have jT : J ≤ T := by rw [← hJ]; unfold drawN; omega
  rw [hJ] at hx
  have dJ : dr % J < J := Nat.mod_lt _ j0
  obtain ⟨R, hR⟩ : ∃ R, dr % J = R := ⟨_, rfl⟩
  rw [hR] at hx dJ
  have hx2 : ((sortE ls.flatten).take J)[R]? = some x := by rw [List.getElem?_take, if_pos dJ]; exact hx
  have w1 : IntKind.u64.wrap (J : Int) = (J : Int) := by rw [IntKind.wrap_u64, Int.emod_eq_of_lt (by omega) (by omega)]
  have w2 : Int.emod (dr : Int) (J : Int) = (R : Int) := by rw [← hR]; rfl
  have w3 : Int.tmod (dr : Int) (J : Int) = (R : Int) := by rw [← hR]; rfl
  have w4 : (dr : Int) % (J : Int) = (R : Int) := by rw [← hR]; rfl
  have w5 : IntKind.u64.wrap (R : Int) = (R : Int) := by rw [IntKind.wrap_u64, Int.emod_eq_of_lt (by omega) (by omega)]
  have w10 : IntKind.i64.wrap (R : Int) = (R : Int) := by rw [IntKind.wrap_i64]; omega
  have w6 : ¬ (J : Int) = 0 := by omega
  have w7 : ((J : Int) == 0) = false := by simp; omega
  have w8 : (R : Int) < (J : Int) := by omega
  have US : Aside (u.heap[Z]? = some (.cells #[.int .u64 0, .int .i64 0] 37 (0, 0))) := uS
  have BU : Aside (Below w.heap.size w u) := bu
  have HX : Hid _ := hx2
  clear hx hx2 hu bu uS hT hR hJ hJ2 sl hr hbs hB ib
  go_enter Try.func25, Try.ntmps25
  go_wp2_with fail
  rw [HU.out]
  with_reducible refine Calls.mono pv ?_
  rintro r w2_ ⟨fa, fc, rfl, l2, b2u⟩
  obtain ⟨b, off, rfl, hb, c0, c1⟩ := l2.elem R x HX.out
  have s2 : w2_.heap[Z]? = some (.cells #[.int .u64 0, .int .i64 0] 37 (0, 0)) := (b2u.block Z (by omega)).trans US.out
  have e0 := shr0 s2
  have e1 := shr1 s2
  have f0 := shrf s2 0
  have f1' := shrf s2 1
  have s3 := ent_set s2 (.int .u64 x.1) (.int .i64 x.2)
  have g3 : w2_.grownBy ((w2_.setCell ⟨Z, 0, none⟩ (.int .u64 x.1)).setCell ⟨Z, 1, none⟩ (.int .i64 x.2)) (some Z) := grown_trans (grown_set w2_ Z 0 _) (grown_set _ Z 1 _)
  have b3 : Below w.heap.size w ((w2_.setCell ⟨Z, 0, none⟩ (.int .u64 x.1)).setCell ⟨Z, 1, none⟩ (.int .i64 x.2)) := (BU.out.trans (b2u.mono BU.out.size)).trans (below_of_grown g3 (by omega) (by have := b2u.size; omega))
  have y0 := shr0 s3
  have y1 := shr1 s3
  have B3 : Aside (Below w.heap.size w ((w2_.setCell ⟨Z, 0, none⟩ (.int .u64 x.1)).setCell ⟨Z, 1, none⟩ (.int .i64 x.2))) := b3
  clear l2 b2u pv s2 s3 g3 b3 HX US BU
  go_wp2
  refine bodyPost_ret (v := .tuple #[.agg #[.int .u64 x.1, .int .i64 x.2], .bool true]) (by simp [results, Try.results25, go_sem, y0, y1]) rfl ⟨rfl, B3.out⟩

set_option maxHeartbeats 1000000 in
theorem rcand_none (S v : Nat) (ls : List (List Ent)) (k : Int) (dr : Nat) (w : World) (h : RShr w S v ls) (hsum : ls.flatten.length ≤ 9000) (hk : -9223372036854775808 ≤ k ∧ k ≤ 9223372036854775807) (hp : ls.flatten.length = 0) :
    Calls Try.prog 25 #[.pointer (some ⟨S + 1, 0, none⟩), .int .i64 k, .int .u64 dr] w (CandIs w (0, 0) false) := by
  obtain ⟨Z, hZ⟩ : ∃ Z, w.heap.size = Z := ⟨_, rfl⟩
  obtain ⟨u, hu⟩ : ∃ u, w.alloc (.cells #[.int .u64 0, .int .i64 0] 37) = u := ⟨_, rfl⟩
  have HU : Hid _ := hu
  have bu : Below w.heap.size w u := by rw [← hu]; exact (Below.refl _ _).alloc (Nat.le_refl _) _
  have us : u.heap.size = Z + 1 := by rw [← hu, ← hZ]; simp
  have uS : u.heap[Z]? = some (.cells #[.int .u64 0, .int .i64 0] 37 (0, 0)) := by rw [← hu, ← hZ]; exact heap_alloc_new w _
  have hS1 : S + 1 < Z := by rw [← hZ]; exact h.lt
  obtain ⟨a, n, cap, bs, hbs, hB, hr⟩ := h
  have i1 := shr1 hB
  have ib := (hr.below bu).isBs
  rw [hbs] at ib
  have hln : ls.length = n := by rw [← hbs, List.length_map, hr.len]
  obtain ⟨T, hT⟩ : ∃ T, ls.flatten.length = T := ⟨_, rfl⟩
  have w9 : IntKind.i64.wrap (max (min k 1073741824) 0 + 1) = (max (min k 1073741824) 0 + 1) := by rw [IntKind.wrap_i64]; omega
  have nS : ¬ S + 1 = Z := by omega
  rw [hT] at hp
  have pv := refPivotN (cap := cap) (n := (max (min k 1073741824) 0 + 1)) (K := 0) ib hln hT (by omega) (by unfold wth; omega) rfl
  have US : Aside (u.heap[Z]? = some (.cells #[.int .u64 0, .int .i64 0] 37 (0, 0))) := uS
  have BU : Aside (Below w.heap.size w u) := bu
  clear hu bu uS hr hbs hB ib hT hp
  go_enter Try.func25, Try.ntmps25
  go_wp2_with fail
  rw [HU.out]
  with_reducible refine Calls.mono pv ?_
  rintro r w2_ ⟨fa, fc, rfl, l2, b2u⟩
  have s2 : w2_.heap[Z]? = some (.cells #[.int .u64 0, .int .i64 0] 37 (0, 0)) := (b2u.block Z (by omega)).trans US.out
  have e0 := shr0 s2
  have e1 := shr1 s2
  have f0 := shrf s2 0
  have f1' := shrf s2 1
  have s3 := ent_set s2 (.int .u64 0) (.int .i64 0)
  have g3 : w2_.grownBy ((w2_.setCell ⟨Z, 0, none⟩ (.int .u64 0)).setCell ⟨Z, 1, none⟩ (.int .i64 0)) (some Z) := grown_trans (grown_set w2_ Z 0 _) (grown_set _ Z 1 _)
  have b3 : Below w.heap.size w ((w2_.setCell ⟨Z, 0, none⟩ (.int .u64 0)).setCell ⟨Z, 1, none⟩ (.int .i64 0)) := (BU.out.trans (b2u.mono BU.out.size)).trans (below_of_grown g3 (by omega) (by have := b2u.size; omega))
  have y0 := shr0 s3
  have y1 := shr1 s3
  have B3 : Aside (Below w.heap.size w ((w2_.setCell ⟨Z, 0, none⟩ (.int .u64 0)).setCell ⟨Z, 1, none⟩ (.int .i64 0))) := b3
  clear l2 b2u pv s2 s3 g3 b3 US BU
  go_wp2
  refine bodyPost_ret (v := .tuple #[.agg #[.int .u64 0, .int .i64 0], .bool false]) (by simp [results, Try.results25, go_sem, y0, y1]) rfl ⟨rfl, B3.out⟩
end Go.Proofs.Ytboccihcomaaoaa

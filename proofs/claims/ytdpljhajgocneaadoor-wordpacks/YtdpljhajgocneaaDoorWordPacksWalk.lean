/- The walk of 'WordPacks'. -/
import Derived.Test.YtdpljhajgocneaaDoorWords
namespace Go.Proofs.YtdpljhajgocneaaDoor
open Go.RowKit
set_option linter.unusedVariables false
set_option maxHeartbeats 400000 in
theorem wordPacks_walk (s v x : Int) (w : World) (ws : (Lit.int .i64 s).wf = true) (wv : (Lit.int .u64 v).wf = true) (wx : (Lit.int .u64 x).wf = true) (hN : Named w ∧ 0 < w.heap.size) :
    Calls Tryd.prog 6 #[.int .i64 s, .int .u64 v, .int .u64 x] w fun e w' => e = .returned (.bool true) ∧ Below w.heap.size w w' := by
  obtain ⟨v1, v2⟩ := bounds_u64 wv
  obtain ⟨x1, x2⟩ := bounds_u64 wx
  obtain ⟨hN, h0⟩ := hN
  obtain ⟨p1, p2⟩ := packI_bound s v
  have hS : bits .and .i64 s 7 = s % 8 := and7_i64 s
  have hV : bits .and .u64 v 2305843009213693951 = v % 2305843009213693952 := and61_u64 v v1 v2
  have h1 : packI s v % 8 = s % 8 := packI_state s v
  have h2 : packI s v / 8 = v % 2305843009213693952 := packI_version s v
  have h3 : packI (x % 8) (x / 8) = x := packI_again x x1 x2
  clear ws wv wx
  go_enter Tryd.func6, Tryd.ntmps6
  go_wp2_with fail
  refine (pack_any _ _ _).mono ?_
  rintro e w1 ⟨rfl, rfl⟩
  go_wp2_with fail
  refine (rpack_any _ _ _).mono ?_
  rintro e w1 ⟨rfl, rfl⟩
  go_wp2_with fail
  refine (state_any _ _ p1 p2).mono ?_
  rintro e w1 ⟨rfl, rfl⟩
  go_wp2_with fail
  refine (version_any _ _).mono ?_
  rintro e w1 ⟨rfl, rfl⟩
  go_wp2_with fail
  refine (state_any _ _ x1 x2).mono ?_
  rintro e w1 ⟨rfl, rfl⟩
  go_wp2_with fail
  refine (rstate_any _ _ x1 x2).mono ?_
  rintro e w1 ⟨rfl, rfl⟩
  go_wp2_with fail
  refine (version_any _ _).mono ?_
  rintro e w1 ⟨rfl, rfl⟩
  go_wp2_with fail
  refine (rversion_any _ _).mono ?_
  rintro e w1 ⟨rfl, rfl⟩
  go_wp2_with fail
  refine (ok_any _ _ x1 x2).mono ?_
  rintro e w1 ⟨rfl, rfl⟩
  go_wp2_with fail
  refine (rstate_any _ _ x1 x2).mono ?_
  rintro e w1 ⟨rfl, rfl⟩
  go_wp2_with fail
  refine (next_any _ _ _ x1 x2).mono ?_
  rintro e w1 ⟨rfl, rfl⟩
  go_wp2_with fail
  refine (rnext_any _ _ _ x1 x2).mono ?_
  rintro e w1 ⟨rfl, rfl⟩
  go_wp2_with fail
  refine (state_any _ _ x1 x2).mono ?_
  rintro e w1 ⟨rfl, rfl⟩
  go_wp2_with fail
  refine (version_any _ _).mono ?_
  rintro e w1 ⟨rfl, rfl⟩
  go_wp2_with fail
  refine (pack_any _ _ _).mono ?_
  rintro e w1 ⟨rfl, rfl⟩
  rw [h3]
  go_wp2_with fail
  refine (awake_any _ hN).mono ?_
  rintro e w1 ⟨rfl, hb⟩
  go_wp2_with fail
  go_ret
  exact ⟨rfl, hb⟩
end Go.Proofs.YtdpljhajgocneaaDoor

/- Puts one behind the other; awake of layer 7. -/
import Derived.Test.YtchephglapnloaaLsmN
namespace Go.Proofs.Ytchephglapnloaa
open Go.RowKit Go.Lib Go.Sort
set_option linter.unusedVariables false

/-- f 0, f 1, .. put one behind the other. -/
def putUp (f : Nat → Ent) : Nat → List (List Ent)
  | 0 => []
  | k + 1 => putL (putUp f k) (f k)
theorem putUp_fall (f : Nat → Ent) : ∀ k, Fall (putUp f k)
  | 0 => Fall.nil
  | k + 1 => putL_fall (putUp_fall f k) (f k)
theorem putUp_perm (f : Nat → Ent) : ∀ k, (putUp f k).flatten.Perm ((List.range k).map f)
  | 0 => List.Perm.refl _
  | k + 1 => by
    rw [List.range_succ, List.map_append]
    exact (putL_perm _ _).trans ((putUp_perm f k).append_right _)
theorem putUp_len (f : Nat → Ent) (k : Nat) : (putUp f k).flatten.length = k := by rw [(putUp_perm f k).length_eq]; simp
theorem putUp_count (f : Nat → Ent) (k : Nat) : (putUp f k).length ≤ k := by
  have := (putUp_fall f k).count
  rw [putUp_len] at this
  exact this

def awf (k : Nat) : Ent := (9 - ((k : Int) + 1), (k : Int) + 1)
theorem aw3 : putUp awf 3 = [[(7, 2), (8, 1)], [(6, 3)]] := by
  have h1 : putUp awf 1 = [[(8, 1)]] := rfl
  have s2 : sortE ([(8, 1)] ++ [(7, 2)]) = [(7, 2), (8, 1)] := (sortE_of ((srtB_iff _).1 (by decide)) (by decide)).symm
  have h2 : putUp awf 2 = [[(7, 2), (8, 1)]] := by
    show putL (putUp awf 1) (7, 2) = _
    rw [h1]
    show layL ([] ++ [[(8, 1)]]) [(7, 2)] = _
    rw [layL_eq (ls := []) (x := [(8, 1)]) (b := [(7, 2)]) rfl, s2]
    rfl
  show putL (putUp awf 2) (6, 3) = _
  rw [h2]
  show layL ([] ++ [[(7, 2), (8, 1)]]) [(6, 3)] = _
  have l2 : lv [(7, 2), (8, 1)] = 1 := lvl_uniq (by decide) (.inr (by decide))
  have l1 : lv [(6, 3)] = 0 := lvl_zero (by decide)
  rw [layL_gt (by rw [l1, l2]; omega)]
  rfl
theorem aw3_lv : lv [(7, 2), (8, 1)] = 1 ∧ lv [(6, 3)] = 0 := ⟨lvl_uniq (by decide) (.inr (by decide)), lvl_zero (by decide)⟩
theorem aw3_srt : sortE [((7 : Int), (2 : Int)), (8, 1), (6, 3)] = [(6, 3), (7, 2), (8, 1)] := (sortE_of ((srtB_iff _).1 (by decide)) (by decide)).symm

set_option maxHeartbeats 4000000 in
set_option maxRecDepth 100000 in
theorem lawake_any (w : World) : Calls Try.prog 15 #[] w fun e w' => e = .returned (.bool true) ∧ Below w.heap.size w w' := by
  obtain ⟨S, hS⟩ : ∃ S, w.heap.size = S := ⟨_, rfl⟩
  have HS : Hid _ := hS
  have nw := lnew_any w
  have L0 : Aside (Lsm (w.alloc (.cells #[.slice none 0 0] 60)) S S []) := by rw [← hS]; exact lsm_new w _ (Nat.le_refl _)
  have D0 : Aside (Below S w (w.alloc (.cells #[.slice none 0 0] 60))) := by rw [← hS]; exact (Below.refl _ _).alloc (Nat.le_refl _) _
  rw [hS] at nw
  go_enter Try.func15, Try.ntmps15
  go_wp2_with fail
  refine nw.mono ?_
  rintro r w1 ⟨rfl, rfl⟩
  generalize w.alloc (.cells #[.slice none 0 0] 60) = w1 at L0 D0 ⊢
  clear nw
  go_wp2_with fail
  go_loopg [2] 4 (fun kx s2 wr => ∃ (k : Nat), s2 = .int .i64 ((k : Int) + 1) ∧ k ≤ 3 ∧ 4 - k ≤ kx ∧ Aside (Lsm wr S S (putUp awf k)) ∧ Aside (Below S w wr))
  case atStart => exact ⟨0, rfl, by omega, by omega, L0, D0⟩
  case round =>
    clear L0 D0
    obtain ⟨k, rfl, hk, hkx, L, D⟩ := hrel
    have sz := D.out.size
    by_cases hlt : k < 3
    · have hz : (k : Int) + 1 ≤ 3 := by omega
      have q1 : IntKind.u64.wrap (9 - ((k : Int) + 1)) = 9 - ((k : Int) + 1) := by rw [IntKind.wrap_u64, Int.emod_eq_of_lt (by omega) (by omega)]
      have pt := lput_any S S (putUp awf k) (awf k) wr L.out (by have := putUp_count awf k; omega) (by rw [putUp_len]; omega) (by omega)
      unfold awf at pt
      simp only at pt
      go_wp2_with fail
      refine pt.mono ?_
      rintro r w2 ⟨rfl, t2⟩
      have L2 : Aside (Lsm w2 S S (putUp awf (k + 1))) := t2.1
      have D2 : Aside (Below S w w2) := D.out.trans t2.2.1
      clear t2 pt L D
      go_wp2
      go_roundg (4 - (k + 1))
      case measure => omega
      case rel => exact ⟨k + 1, by go_num, by omega, Nat.le_refl _, L2, D2⟩
    · obtain rfl : k = 3 := by omega
      have hf := putUp_fall awf 3
      rw [aw3] at L hf
      have hz : ¬ (3 : Int) + 1 ≤ 3 := by omega
      have mn := lmin_any S S _ wr L.out hf (by simp)
      have HF : Aside (Fall [[(7, 2), (8, 1)], [(6, 3)]]) := hf
      clear hf
      go_wp2_with fail
      refine mn.mono ?_
      rintro r w2 ⟨F, x, rfl, hF, d2⟩
      have hx : F = true ∧ x = (6, 3) := by
        rcases hF with ⟨_, h, _⟩ | ⟨h, t, ht⟩
        · simp at h
        · refine ⟨h, ?_⟩
          rw [show ([[((7 : Int), (2 : Int)), (8, 1)], [(6, 3)]] : List (List Ent)).flatten = [(7, 2), (8, 1), (6, 3)] from rfl, aw3_srt] at ht
          simp at ht
          exact ht.1.symm
      obtain ⟨rfl, rfl⟩ := hx
      clear hF mn
      obtain ⟨R, hR⟩ : ∃ R, w2.heap.size = R := ⟨_, rfl⟩
      obtain ⟨v2, hv2⟩ : ∃ v, w2.alloc (.cells #[.int .u64 6, .int .i64 3] 28) = v := ⟨_, rfl⟩
      have bv2 : Below w2.heap.size w2 v2 := by rw [← hv2]; exact (Below.refl _ _).alloc (Nat.le_refl _) _
      have HV2 : Hid _ := hv2
      have x2 : v2.cell? ⟨R, 0, none⟩ = some (.int .u64 6) := by rw [← hv2, ← hR]; exact (Box2.new w2 (.int .u64 6) (.int .i64 3) 28).c0
      have rl : R < v2.heap.size := by rw [← hv2, ← hR]; simp
      have L2 : Aside (Lsm v2 S S [[(7, 2), (8, 1)], [(6, 3)]]) := (L.out.below d2).below bv2
      have D2 : Aside (Below S w v2) := (D.out.trans (d2.mono (by omega))).trans (bv2.mono (by have := d2.size; omega))
      have lvs := llevels_any S S _ v2 L2.out (by simp)
      obtain ⟨G, hG⟩ : ∃ G, v2.heap.size = G := ⟨_, rfl⟩
      rw [hG] at lvs
      simp only [List.length_cons, List.length_nil, Nat.zero_add, Nat.reduceAdd] at lvs
      have sG : S ≤ G := by have := D2.out.size; omega
      clear bv2 hv2 d2 D
      go_wp2_with fail
      rw [HV2.out]
      refine lvs.mono ?_
      rintro r w3 ⟨rfl, lv3, d3⟩
      have d3' : Below v2.heap.size v2 w3 := by rw [hG]; exact d3
      have i0 := (lv3.at (i := 0) (by simp))
      have i1 := (lv3.at (i := 1) (by simp))
      simp only [List.getElem_cons_zero, List.getElem_cons_succ, aw3_lv] at i0 i1
      obtain ⟨i0, sG3⟩ := i0
      have i1 := i1.1
      have x3 : w3.cell? ⟨R, 0, none⟩ = some (.int .u64 6) := (d3'.cell (p := ⟨R, 0, none⟩) rl).trans x2
      have L3 : Aside (Lsm w3 S S [[(7, 2), (8, 1)], [(6, 3)]]) := L2.out.below d3'
      have D3 : Aside (Below S w w3) := D2.out.trans (d3'.mono (by omega))
      have ck := lcheck_any S S _ w3 L3.out HF.out (by simp) (by simp)
      clear lvs d3 d3' lv3 x2 L2 D2
      go_wp2_with fail
      refine ck.mono ?_
      rintro r w4 ⟨rfl, d4⟩
      have L4 : Aside (Lsm w4 S S [[(7, 2), (8, 1)], [(6, 3)]]) := L3.out.below d4
      have D4 : Aside (Below S w w4) := D3.out.trans (d4.mono (by have := D3.out.size; omega))
      have ln := llen_any S S _ w4 L4.out (by simp)
      rw [show (([[((7 : Int), (2 : Int)), (8, 1)], [(6, 3)]] : List (List Ent)).flatten.length : Int) = 3 from rfl] at ln
      clear ck d4
      go_wp2_with fail
      refine ln.mono ?_
      rintro r w5 ⟨rfl, d5⟩
      have D5 : Aside (Below S w w5) := D4.out.trans (d5.mono (by have := D4.out.size; omega))
      clear ln d5
      go_wp2
      go_ret
      exact ⟨rfl, by rw [HS.out]; exact D5.out⟩
end Go.Proofs.Ytchephglapnloaa

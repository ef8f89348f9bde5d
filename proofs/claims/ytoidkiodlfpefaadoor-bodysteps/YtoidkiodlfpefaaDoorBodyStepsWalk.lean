/- 'BodySteps': the walk. -/
import Derived.Test.YtoidkiodlfpefaaDoorBdT
import Derived.Test.YtoidkiodlfpefaaDoorBdW
import Derived.Test.YtoidkiodlfpefaaDoorMask
namespace Go.Proofs.YtoidkiodlfpefaaDoor
open Go.RowKit Go.Lib Go.Shelf Go.Sort
set_option linter.unusedVariables false
set_option maxRecDepth 10000

/-- The ops of the law: one of them a panic, if its place is there. -/
def stO (A : Nat) (i : Nat) : OpR := if i = A then (5, 0, 0) else (2, ((i % 8 : Nat) : Int), 0)
def stL (A I : Nat) : List OpR := (List.range I).map (stO A)
theorem stL_len (A I : Nat) : (stL A I).length = I := by unfold stL; simp
theorem stL_next (A I : Nat) : stL A (I + 1) = stL A I ++ [stO A I] := by unfold stL; rw [List.range_succ, List.map_append]; rfl
theorem stO_ok (A i : Nat) : okO (stO A i) = true := by
  unfold stO
  split
  · decide
  · rw [okO_doc]; omega
theorem stL_ok {A I : Nat} (h : I ≤ 16) : okL (stL A I) = true := by
  unfold okL
  rw [stL_len, decide_eq_true h, Bool.true_and]
  refine List.all_eq_true.2 fun x hx => ?_
  obtain ⟨i, _, rfl⟩ := List.mem_map.1 hx
  exact stO_ok A i
theorem stO_kind (A i : Nat) : (decide ((stO A i).1 = 5)) = decide (i = A) := by
  unfold stO
  by_cases h : i = A
  · rw [if_pos h, decide_eq_true h]; rfl
  · rw [if_neg h, decide_eq_false h]; rfl
theorem stL_get (A I i : Nat) (h : i < (stL A I).length) : (stL A I)[i] = stO A i := by
  simp [stL]
theorem stL_stp (A I : Nat) : (stp (stL A I) : Int) = (min I (A + 1) : Nat) := by
  by_cases h : A < I
  · have := firstStp (d := stL A I) (z := (A : Int)) (.inr ⟨A, by rw [stL_len]; exact h, rfl, by rw [stL_get]; exact (stO_kind A A).trans (decide_eq_true rfl), fun i hi => by rw [stL_get]; exact (stO_kind A i).trans (decide_eq_false (by omega))⟩)
    rw [this, if_neg (by omega)]
    omega
  · have := firstStp (d := stL A I) (z := -1) (.inl ⟨rfl, fun i hi => by rw [stL_get]; rw [stL_len] at hi; exact (stO_kind A i).trans (decide_eq_false (by omega))⟩)
    rw [this, if_pos (by omega), stL_len]
    omega
set_option maxHeartbeats 1600000 in
set_option maxRecDepth 100000 in
theorem bodySteps_walk (n a : Int) (w : World) (wn : (Lit.int .i64 n).wf = true) (wa : (Lit.int .i64 a).wf = true) (hN : Tb w) :
    Calls Tryd.prog 4 #[.int .i64 n, .int .i64 a] w fun r w' => r = .returned (.bool true) ∧ Below w.heap.size w w' := by
  have mk1 := mask_i64 n 8 255 256 (by omega) (by decide) (by decide)
  have mk2 := mask_i64 a 5 31 32 (by omega) (by decide) (by decide)
  obtain ⟨K, hK, hK1⟩ : ∃ K : Nat, n % 256 = (K : Int) ∧ K < 256 := ⟨(n % 256).toNat, by omega, by omega⟩
  obtain ⟨A, hA, hA1⟩ : ∃ A : Nat, a % 32 = (A : Int) ∧ A < 32 := ⟨(a % 32).toNat, by omega, by omega⟩
  rw [hK] at mk1
  rw [hA] at mk2
  obtain ⟨M, hM, hM1⟩ : ∃ M : Nat, (K : Int) % 17 = (M : Int) ∧ M ≤ 16 := ⟨K % 17, by omega, by omega⟩
  have TB : Aside (Tb w) := hN
  have mk3 : ∀ I : Nat, bits .and .i64 (I : Int) 7 = ((I % 8 : Nat) : Int) := fun I => by
    rw [mask_i64 (I : Int) 3 7 8 (by omega) (by decide) (by decide)]; omega
  clear hN hK hA wn wa
  go_enter Tryd.func4, Tryd.ntmps4
  go_wp2_with fail
  rw [hM]
  go_loopg [5, 6] M (fun kx s5 s6 wr => ∃ I : Nat, s6 = .int .i64 I ∧ I ≤ M ∧ M - I ≤ kx ∧ Aside (OwnG rO wr w.heap.size s5 (stL A I)) ∧ Aside (Below w.heap.size w wr))
  case atStart => exact ⟨0, rfl, by omega, by omega, OwnG.nil rO w _, Below.refl _ w⟩
  case round =>
    obtain ⟨I, rfl, hI, hkx, OW, G⟩ := hrel
    by_cases hlt : I < M
    · have hz : (I : Int) < (M : Int) := by omega
      have mI := mk3 I
      by_cases hA' : I = A
      · subst hA'
        obtain ⟨v7, w7, hr7, o7, b7⟩ := own_push (OW.out.below (bel1 wr (.cells #[.int .i64 5, .int .i64 0, .int .i64 0] 23))) (5, 0, 0) (by rw [stL_len]; omega) (Nat.le_trans G.out.size (bel1 wr _).size)
        rw [alloc_sz] at hr7
        have e5 : stO I I = (5, 0, 0) := if_pos rfl
        have O7 : Aside (OwnG rO w7 w.heap.size v7 (stL I (I + 1))) := by
          show OwnG rO w7 w.heap.size v7 (stL I (I + 1))
          rw [stL_next, e5]; exact o7
        have G7 : Aside (Below w.heap.size w w7) := (Below.tr G.out (bel1 _ _)).trans b7
        clear o7 b7 OW G mk3
        go_wp2_with (at_builtin; refine wpList_app _ rfl _ _ 24 rfl _ _ rfl rfl v7 w7 hr7 ?_; clear hr7)
        go_roundg (M - (I + 1))
        case measure => omega
        case rel => exact ⟨I + 1, by go_num, by omega, Nat.le_refl _, O7, G7⟩
      · have hA2 : ¬ (I : Int) = (A : Int) := by omega
        have hA3 : ((I : Int) == (A : Int)) = false := by rw [beq_eq_false_iff_ne]; exact hA2
        obtain ⟨q, hq⟩ : ∃ q : Int, ((I % 8 : Nat) : Int) = q := ⟨_, rfl⟩
        rw [hq] at mI
        obtain ⟨v7, w7, hr7, o7, b7⟩ := own_push (OW.out.below (bel1 wr (.cells #[.int .i64 2, .int .i64 q, .int .i64 0] 23))) (2, q, 0) (by rw [stL_len]; omega) (Nat.le_trans G.out.size (bel1 wr _).size)
        rw [alloc_sz] at hr7
        have e5 : stO A I = (2, q, 0) := (if_neg hA').trans (by rw [hq])
        have O7 : Aside (OwnG rO w7 w.heap.size v7 (stL A (I + 1))) := by
          show OwnG rO w7 w.heap.size v7 (stL A (I + 1))
          rw [stL_next, e5]; exact o7
        have G7 : Aside (Below w.heap.size w w7) := (Below.tr G.out (bel1 _ _)).trans b7
        clear o7 b7 OW G mk3 hq
        go_wp2_with (at_builtin; refine wpList_app _ rfl _ _ 24 rfl _ _ rfl rfl v7 w7 hr7 ?_; clear hr7)
        go_roundg (M - (I + 1))
        case measure => omega
        case rel => exact ⟨I + 1, by go_num, by omega, Nat.le_refl _, O7, G7⟩
    · have hz : ¬ (I : Int) < (M : Int) := by omega
      have e0 : I = M := by omega
      subst e0
      obtain ⟨d, hd⟩ : ∃ d, stL A I = d := ⟨_, rfl⟩
      have hok : okL d = true := by rw [← hd]; exact stL_ok hM1
      obtain ⟨S, hS⟩ : ∃ S : Nat, min I (A + 1) = S := ⟨_, rfl⟩
      have hst : stp d = S := by
        have := stL_stp A I
        rw [hd, hS] at this
        omega
      have hdl : d.length = I := by rw [← hd, stL_len]
      have OW' := OW.out
      rw [hd] at OW'
      obtain ⟨a', cap', hv, L⟩ := OW'.isG
      rw [hdl] at hv
      subst hv
      obtain ⟨k1, k2⟩ := code_txt hok
      have tq := text_any a' cap' d wr L (TB.out.below G.out)
      unfold TextIs at tq
      rw [hok, if_pos rfl, if_pos rfl, hdl] at tq
      have hmin := minI 3 #[3, 3] (I : Int) ((A : Int) + 1) (S : Int) (by omega)
      have L0 : Aside (IsG rO wr a' cap' d) := L
      have HK : Aside (okL d = true ∧ stp d = S ∧ d.length = I ∧ codeL (txtL d) = 0 ∧ opsL (txtL d) = d) := ⟨hok, hst, hdl, k1, k2⟩
      have G0 : Aside (Below w.heap.size w wr) := G.out
      clear OW OW' hd hok hS hst hdl k1 k2 L G
      go_wp2_with fail
      refine tq.mono ?_
      rintro r w1 ⟨⟨s, rfl, hs⟩, b1⟩
      have B1 : Aside (Below wr.heap.size wr w1) := b1
      have pq := parse_any s (txtL d) hs w1 ((TB.out.below G0.out).below b1)
      unfold ParseIs at pq
      rw [HK.out.2.2.2.1, HK.out.2.2.2.2] at pq
      clear tq hs b1
      go_wp2_with fail
      refine pq.mono ?_
      rintro r w2 ⟨v2, rfl, o2, b2⟩
      obtain ⟨a2, c2, rfl, L2⟩ := o2.isG
      have B2 : Aside (Below wr.heap.size wr w2) := Below.tr B1.out b2
      have LL : Aside (IsG rO w2 a2 c2 d) := L2
      have q := ok_any a' cap' d w2 (L0.out.below B2.out) ((TB.out.below G0.out).below B2.out)
      rw [HK.out.1, HK.out.2.2.1] at q
      have hdl : d.length = I := HK.out.2.2.1
      rw [hdl]
      clear pq o2 b2 L2 hdl
      go_wp2_with fail
      refine q.mono ?_
      rintro r w3 ⟨rfl, b3⟩
      have B3 : Aside (Below w2.heap.size w2 w3) := b3
      clear q b3
      have q := steps_any a' cap' d w3 ((L0.out.below B2.out).below B3.out)
      rw [HK.out.2.1, HK.out.2.2.1] at q
      go_wp2_with fail
      refine q.mono ?_
      rintro r w4 ⟨rfl, b4⟩
      have B4 : Aside (Below w2.heap.size w2 w4) := Below.tr B3.out b4
      clear q b4
      have q := same_any a' a2 cap' c2 d d w4 ((L0.out.below B2.out).below B4.out) (LL.out.below B4.out)
      rw [decide_eq_true (rfl : d = d), HK.out.2.2.1] at q
      go_wp2_with fail
      refine q.mono ?_
      rintro r w5 ⟨rfl, b5⟩
      have B5 : Aside (Below w2.heap.size w2 w5) := Below.tr B4.out b5
      clear q b5
      have q := steps_any a2 c2 d w5 (LL.out.below B5.out)
      rw [HK.out.2.1, HK.out.2.2.1] at q
      go_wp2_with fail
      refine q.mono ?_
      rintro r w6 ⟨rfl, b6⟩
      have B6 : Aside (Below w2.heap.size w2 w6) := Below.tr B5.out b6
      clear q b6
      have q := steps_any a' cap' d w6 ((L0.out.below B2.out).below B6.out)
      rw [HK.out.2.1, HK.out.2.2.1] at q
      go_wp2_with fail
      refine q.mono ?_
      rintro r w7 ⟨rfl, b7⟩
      have B7 : Aside (Below w2.heap.size w2 w7) := Below.tr B6.out b7
      clear q b7
      have BW : Aside (Below w.heap.size w w7) := Below.tr (Below.tr G0.out B2.out) B7.out
      have q := awake_any w7 (TB.out.below BW.out)
      go_wp2_with fail
      refine q.mono ?_
      rintro r w8 ⟨rfl, b8⟩
      go_wp2
      go_ret
      exact ⟨rfl, Below.tr BW.out b8⟩

end Go.Proofs.YtoidkiodlfpefaaDoor

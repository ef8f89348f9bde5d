/- 'BodyBounds': the walk. -/
import Derived.Test.YtoidkiodlfpefaaDoorBdT
import Derived.Test.YtoidkiodlfpefaaDoorBdE
import Derived.Test.YtoidkiodlfpefaaDoorBdW
import Derived.Test.YtoidkiodlfpefaaDoorMask
namespace Go.Proofs.YtoidkiodlfpefaaDoor
open Go.RowKit Go.Lib Go.Shelf Go.Sort
set_option linter.unusedVariables false
set_option maxRecDepth 10000

theorem repl_ok {o : OpR} {bad : Bool} (h : okO o = !bad) (M : Nat) : okL (List.replicate M o) = (decide (M ≤ 16) && (!bad || decide (M = 0))) := by
  unfold okL
  rw [List.length_replicate]
  congr 1
  cases M with
  | zero => simp
  | succ M =>
    rw [List.all_replicate, h]
    simp
theorem repl_next (o : OpR) (I : Nat) : List.replicate (I + 1) o = List.replicate I o ++ [o] := List.replicate_succ'
set_option maxHeartbeats 1600000 in
set_option maxRecDepth 100000 in
theorem bodyBounds_walk (n k : Int) (up : Bool) (w : World) (wn : (Lit.int .i64 n).wf = true) (wk : (Lit.int .i64 k).wf = true) (hN : Tb w) :
    Calls Tryd.prog 3 #[.int .i64 n, .int .i64 k, .bool up] w fun r w' => r = .returned (.bool true) ∧ Below w.heap.size w w' := by
  have mk1 := mask_i64 n 5 31 32 (by omega) (by decide) (by decide)
  have mk2 := mask_i64 k 2 3 4 (by omega) (by decide) (by decide)
  obtain ⟨M, hM, hM1⟩ : ∃ M : Nat, n % 32 = (M : Int) ∧ M < 32 := ⟨(n % 32).toNat, by omega, by omega⟩
  obtain ⟨Q, hQ, hQ1⟩ : ∃ Q : Int, k % 4 = Q ∧ (Q = 0 ∨ Q = 1 ∨ Q = 2 ∨ Q = 3) := ⟨k % 4, rfl, by omega⟩
  rw [hM] at mk1
  rw [hQ] at mk2
  have TB : Aside (Tb w) := hN
  clear hN hM hQ wn wk
  go_enter Tryd.func3, Tryd.ntmps3
  go_upto_block 0 with fail
  go_cut [8] (fun s8 wx => ∃ (o : OpR) (bad : Bool), s8 = .bool bad ∧ okO o = !bad ∧ wx.heap[w.heap.size]? = some (.cells #[.int .i64 o.1, .int .i64 o.2.1, .int .i64 o.2.2] 23 (0, 0)) ∧ Below w.heap.size w wx)
  case first =>
    rcases hQ1 with rfl | rfl | rfl | rfl
    · cases up with
      | false =>
        go_wp2
        go_meet
        exact ⟨(2, 7, 0), false, rfl, by decide, heap_alloc_new _ _, bel1 _ _⟩
      | true =>
        go_wp2
        go_meet
        exact ⟨(2, 8, 0), true, rfl, by decide, heap_alloc_new _ _, bel1 _ _⟩
    · cases up with
      | false =>
        go_wp2
        go_meet
        exact ⟨(3, 0, 1000000), false, rfl, by decide, heap_alloc_new _ _, bel1 _ _⟩
      | true =>
        go_wp2
        go_meet
        exact ⟨(3, 0, 1000001), true, rfl, by decide, heap_alloc_new _ _, bel1 _ _⟩
    · cases up with
      | false =>
        go_wp2
        go_meet
        exact ⟨(4, 1000, 0), false, rfl, by decide, heap_alloc_new _ _, bel1 _ _⟩
      | true =>
        go_wp2
        go_meet
        exact ⟨(4, 1001, 0), true, rfl, by decide, heap_alloc_new _ _, bel1 _ _⟩
    · cases up with
      | false =>
        go_wp2
        go_meet
        exact ⟨(5, 0, 0), false, rfl, by decide, heap_alloc_new _ _, bel1 _ _⟩
      | true =>
        go_wp2
        go_meet
        exact ⟨(5, 0, 0), false, rfl, by decide, heap_alloc_new _ _, bel1 _ _⟩
  case rest =>
    obtain ⟨o, bad, rfl, hob, hbx, bx⟩ := hcut
    have HB : Aside (wc.heap[w.heap.size]? = some (.cells #[.int .i64 o.1, .int .i64 o.2.1, .int .i64 o.2.2] 23 (0, 0))) := hbx
    have BX : Aside (Below w.heap.size w wc) := bx
    have HO : Aside (okO o = !bad) := hob
    have sx : w.heap.size < wc.heap.size := lt_of_block hbx
    clear hbx bx hob mk2 hQ1
    go_wp2_with fail
    go_loopg [9, 10] M (fun kx s9 s10 wr => ∃ I : Nat, s10 = .int .i64 I ∧ I ≤ M ∧ M - I ≤ kx ∧ Aside (OwnG rO wr wc.heap.size s9 (List.replicate I o)) ∧ Aside (Below wc.heap.size wc wr))
    case atStart => exact ⟨0, rfl, by omega, by omega, OwnG.nil rO wc _, Below.refl _ wc⟩
    case round =>
      obtain ⟨I, rfl, hI, hkx, OW, G⟩ := hrel
      by_cases hlt : I < M
      · have hz : (I : Int) < (M : Int) := by omega
        obtain ⟨⟨c0, c1, c2⟩, _⟩ := cells3 ((G.out.block _ sx).trans HB.out)
        obtain ⟨v7, w7, hr7, o7, b7⟩ := own_push OW.out o (by rw [List.length_replicate]; omega) G.out.size
        have O7 : Aside (OwnG rO w7 wc.heap.size v7 (List.replicate (I + 1) o)) := by
          show OwnG rO w7 wc.heap.size v7 (List.replicate (I + 1) o)
          rw [repl_next]; exact o7
        have G7 : Aside (Below wc.heap.size wc w7) := G.out.trans b7
        clear o7 b7 OW G
        go_wp2_with (at_builtin; refine wpList_app _ rfl _ _ 24 rfl _ _ rfl rfl v7 w7 hr7 ?_; clear hr7)
        go_roundg (M - (I + 1))
        case measure => omega
        case rel => exact ⟨I + 1, by go_num, by omega, Nat.le_refl _, O7, G7⟩
      · have hz : ¬ (I : Int) < (M : Int) := by omega
        have e0 : I = M := by omega
        subst e0
        obtain ⟨d, hd⟩ : ∃ d, List.replicate I o = d := ⟨_, rfl⟩
        have hok := repl_ok HO.out I
        rw [hd] at hok
        obtain ⟨OKB, hOKB⟩ : ∃ b, okL d = b := ⟨_, rfl⟩
        have hdl : d.length = I := by rw [← hd, List.length_replicate]
        have OW' := OW.out
        rw [hd] at OW'
        obtain ⟨a', cap', hv, L⟩ := OW'.isG
        rw [hdl] at hv
        subst hv
        have L0 : Aside (IsG rO wr a' cap' d) := L
        have BW : Aside (Below w.heap.size w wr) := Below.tr BX.out G.out
        have HE : Aside (OKB = (decide (I ≤ 16) && (!bad || decide (I = 0)))) := by
          show OKB = _
          rw [← hOKB]; exact hok
        have HOKB : Hid _ := hOKB
        have HDL : Hid _ := hdl
        clear OW OW' L G hok hd hOKB hdl HB BX HO sx
        go_upto_region 23 with fail
        go_cut [11] (fun s11 wx => s11 = .bool OKB ∧ wx = wr)
        case first =>
          have he := HE.out
          clear HE
          by_cases h16 : I ≤ 16
          · have h16' : (I : Int) ≤ 16 := by omega
            rw [decide_eq_true h16, Bool.true_and] at he
            cases bad with
            | false =>
              have he2 : OKB = true := he
              clear HOKB he
              subst he2
              go_wp2
              go_meet
              exact ⟨rfl, rfl⟩
            | true =>
              by_cases hI0 : I = 0
              · have he2 : OKB = true := by rw [he, decide_eq_true hI0]; rfl
                clear HOKB he
                subst he2
                have hI0' : (I : Int) = 0 := by omega
                have hI0'' : ((I : Int) == 0) = true := by rw [hI0']; rfl
                clear hI0 hI0'
                go_wp2
                go_meet
                exact ⟨rfl, rfl⟩
              · have he2 : OKB = false := by rw [he, decide_eq_false hI0]; rfl
                clear HOKB he
                subst he2
                have hI0' : ¬ (I : Int) = 0 := by omega
                have hI0'' : ((I : Int) == 0) = false := by rw [beq_eq_false_iff_ne]; exact hI0'
                go_wp2
                go_meet
                exact ⟨rfl, rfl⟩
          · have h16' : ¬ (I : Int) ≤ 16 := by omega
            rw [decide_eq_false h16, Bool.false_and] at he
            clear HOKB
            subst he
            go_wp2
            go_meet
            exact ⟨rfl, rfl⟩
        case rest =>
          obtain ⟨rfl, rfl⟩ := hcut
          have tq := text_any a' cap' d wc L0.out (TB.out.below BW.out)
          unfold TextIs at tq
          rw [HOKB.out, HDL.out] at tq
          have q0 : Aside (∀ W : World, Below wc.heap.size wc W → Calls Tryd.prog 8 #[.slice a' I cap'] W fun r w' => r = .returned (.bool OKB) ∧ Below W.heap.size W w') := fun W hW => by
            have := ok_any a' cap' d W (L0.out.below hW) ((TB.out.below BW.out).below hW)
            rw [HOKB.out, HDL.out] at this
            exact this
          clear HE
          cases OKB with
          | false =>
            rw [if_neg (by simp), if_neg (by simp)] at tq
            go_wp2_with fail
            refine tq.mono ?_
            rintro r w1 ⟨⟨s, rfl, hs⟩, b1⟩
            have q := q0.out w1 b1
            have B1 : Aside (Below wc.heap.size wc w1) := b1
            clear tq hs b1 q0
            go_wp2_with fail
            refine q.mono ?_
            rintro r w2 ⟨rfl, b2⟩
            have B2 : Aside (Below w.heap.size w w2) := Below.tr BW.out (Below.tr B1.out b2)
            have aq := awake_any w2 (TB.out.below B2.out)
            clear q b2
            go_wp2_with fail
            refine aq.mono ?_
            rintro r w3 ⟨rfl, b3⟩
            go_wp2
            go_ret
            exact ⟨rfl, Below.tr B2.out b3⟩
          | true =>
            rw [if_pos rfl, if_pos rfl] at tq
            have hok : okL d = true := HOKB.out
            obtain ⟨k1, k2⟩ := code_txt hok
            have k3 := code_end hok
            have k4 := code_blank hok
            have hl := txtL_len hok
            go_wp2_with fail
            refine tq.mono ?_
            rintro r w1 ⟨⟨s, rfl, hs⟩, b1⟩
            have q := q0.out w1 b1
            have B1 : Aside (Below wc.heap.size wc w1) := b1
            have hsz : s.size ≤ 368 := by rw [size_eq, hs]; exact hl
            have HS : Hid _ := hs
            clear tq hs b1 q0 hok hl
            go_wp2_with fail
            refine q.mono ?_
            rintro r w2 ⟨rfl, b2⟩
            have B2 : Aside (Below wc.heap.size wc w2) := Below.tr B1.out b2
            have pq := parse_any s (txtL d) HS.out w2 ((TB.out.below BW.out).below B2.out)
            unfold ParseIs at pq
            rw [k1, k2] at pq
            clear q b2 k1 k2
            go_wp2_with fail
            refine pq.mono ?_
            rintro r w3 ⟨v3, rfl, o3, b3⟩
            obtain ⟨a3, c3, rfl, L3⟩ := o3.isG
            have B3 : Aside (Below wc.heap.size wc w3) := Below.tr B2.out b3
            have LL : Aside (IsG rO w3 a3 c3 d) := L3
            have pq2 := parse_any (s ++ ⟨#[59]⟩) (txtL d ++ [59]) (by simp [HS.out]) w3 ((TB.out.below BW.out).below B3.out)
            unfold ParseIs at pq2
            rw [k3] at pq2
            have z1 : ¬ 9223372036854775807 < s.size + 1 := by omega
            have z2 : ¬ 9223372036854775807 < 1 + s.size := by omega
            clear pq o3 b3 L3 k3
            go_wp2_with fail
            refine pq2.mono ?_
            rintro r w4 ⟨v4, rfl, o4, b4⟩
            have B4 : Aside (Below w3.heap.size w3 w4) := b4
            have pq3 := parse_any (⟨#[32]⟩ ++ s) (32 :: txtL d) (by simp [HS.out]) w4 (((TB.out.below BW.out).below B3.out).below b4)
            unfold ParseIs at pq3
            rw [k4] at pq3
            clear pq2 o4 b4 k4
            go_wp2_with fail
            refine pq3.mono ?_
            rintro r w5 ⟨v5, rfl, o5, b5⟩
            have B5 : Aside (Below w3.heap.size w3 w5) := Below.tr B4.out b5
            have sq := sameB_any a3 a' c3 cap' d d w5 (LL.out.below B5.out) ((L0.out.below B3.out).below B5.out)
            rw [decide_eq_true (rfl : d = d), HDL.out] at sq
            rw [HDL.out]
            clear pq3 o5 b5
            go_wp2_with fail
            refine sq.mono ?_
            rintro r w6 ⟨rfl, b6⟩
            have B6 : Aside (Below w.heap.size w w6) := Below.tr BW.out (Below.tr B3.out (Below.tr B5.out b6))
            have aq := awake_any w6 (TB.out.below B6.out)
            clear sq b6
            go_wp2_with fail
            refine aq.mono ?_
            rintro r w7 ⟨rfl, b7⟩
            go_wp2
            go_ret
            exact ⟨rfl, Below.tr B6.out b7⟩

end Go.Proofs.YtoidkiodlfpefaaDoor

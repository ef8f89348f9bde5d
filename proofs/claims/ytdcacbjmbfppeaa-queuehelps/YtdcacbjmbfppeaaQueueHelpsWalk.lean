/- The walk of 'QueueHelps'. -/
import Derived.Test.YtdcacbjmbfppeaaQHp
import Derived.Deep.DeepCutAuto
import Derived.Deep.Cut
namespace Go.Proofs.Ytdcacbjmbfppeaa
open Go.RowKit Go.Lib Go.Sort
set_option linter.unusedVariables false

set_option maxHeartbeats 8000000 in
set_option maxRecDepth 100000 in
theorem queueHelps_walk (a x c : Int) (w : World) (wa : (Lit.int .i64 a).wf = true) (wb : (Lit.int .i64 x).wf = true) (wcc : (Lit.int .i64 c).wf = true) :
    Calls Try.prog 4 #[.int .i64 a, .int .i64 x, .int .i64 c] w fun r w' => r = .returned (.bool true) ∧ Below w.heap.size w w' := by
  obtain ⟨S, hS⟩ : ∃ S, w.heap.size = S := ⟨_, rfl⟩
  obtain ⟨X, hX, X8⟩ : ∃ N : Nat, bits .and .i64 (a.tmod 7) 7 = (N : Int) ∧ N < 8 := by
    have := mask_i64 (a.tmod 7) 3 7 8 (by omega) rfl rfl
    exact ⟨((a.tmod 7) % 8).toNat, by rw [this]; omega, by omega⟩
  obtain ⟨C, hC, C8⟩ : ∃ N : Nat, bits .and .i64 c 255 = (N : Int) ∧ N < 256 := by
    have := mask_i64 c 8 255 256 (by omega) rfl rfl
    exact ⟨(c % 256).toNat, by rw [this]; omega, by omega⟩
  have wX : IntKind.i64.wrap ((X : Int) + 2) = (X : Int) + 2 := by rw [IntKind.wrap_i64]; omega
  obtain ⟨T, hT, h2, h8⟩ : ∃ n : Nat, (if 8 < (X : Int) + 2 then 3 else (X : Int) + 2) = (n : Int) ∧ 2 ≤ n ∧ n ≤ 8 := by
    split
    · exact ⟨3, rfl, by omega, by omega⟩
    · exact ⟨X + 2, by omega, by omega, by omega⟩
  have n2 : ¬ (X : Int) + 2 < 2 := by omega
  have HS : Hid _ := hS
  clear wa wb wcc
  go_enter Try.func4, Try.ntmps4
  go_upto_region 2 with fail
  go_cut [26] (fun v wr => v = .bool (decide (8 < (X : Int) + 2)) ∧ wr = w)
  case first =>
    by_cases h20 : 8 < (X : Int) + 2
    · go_wp2_with fail
      go_meet
      exact ⟨by simp [h20], rfl⟩
    · go_wp2_with fail
      go_meet
      exact ⟨by simp [h20], rfl⟩
  case rest =>
    obtain ⟨rfl, rfl⟩ := hcut
    go_upto_if 26 with fail
    go_cut [0] (fun v wr => v = .int .i64 T ∧ wr = wc)
    case first =>
      by_cases h20 : 8 < (X : Int) + 2
      · simp only [h20, if_true] at hT
        go_wp2_with fail
        go_meet
        exact ⟨by rw [← hT], rfl⟩
      · simp only [h20, if_false] at hT
        go_wp2_with fail
        go_meet
        exact ⟨by rw [← hT], rfl⟩
    case rest =>
      obtain ⟨rfl, rfl⟩ := hcut
      clear hT hX wX n2
      rename World => w
      have nw := qnew_in T 16 w (by omega) h8 (by omega)
      obtain ⟨who, hwho⟩ : ∃ who, C % T = who := ⟨_, rfl⟩
      have whoT : who < T := by rw [← hwho]; exact Nat.mod_lt _ (by omega)
      have rw0 : (C : Int).tmod (T : Int) = (who : Int) := by rw [Int.tmod_eq_emod_of_nonneg (by omega), ← hwho, Int.natCast_emod]
      have tn : ¬ ((T : Int) = 0) := by omega
      clear hwho
      go_wp2_with fail
      refine nw.mono ?_
      rintro r w1 ⟨A, rfl, q1, b1⟩
      rw [hS] at q1 b1
      have I0 : Aside (∃ s, Que w1 S A T 16 s ∧ HpI x T 0 s) := ⟨newQ, q1, hp_new x T⟩
      have B0 : Aside (Below S w w1) := b1
      clear nw q1 b1 hS
      go_wp2_with fail
      clear hC rw0
      go_loopg [9] T (fun kx s9 wr => ∃ (t : Nat), s9 = .int .i64 t ∧ t ≤ T ∧ T - t ≤ kx ∧ Aside (∃ s, Que wr S A T 16 s ∧ HpI x T t s) ∧ Aside (Below S w wr))
      case atStart => exact ⟨0, rfl, by omega, by omega, I0, B0⟩
      case round =>
        clear I0 B0
        obtain ⟨t, rfl, ht, hkx, I, B⟩ := hrel
        obtain ⟨s, q, hp⟩ := I.out
        have Sw : S ≤ wr.heap.size := by have := B.out.size; have := HS.out; omega
        by_cases hlt : t < T
        · have hz : (t : Int) < (T : Int) := by omega
          have t64 : (t : Int) ≤ 64 := by omega
          have t0 : (0 : Int) ≤ (t : Int) := by omega
          have tt : ((t : Int)).toNat = t := by omega
          obtain ⟨Y, hY, Y2, hY1, hY0⟩ := hpBit x t
          cases hb : hpB x t with
          | true =>
            rw [hb] at hY0
            have w50 : IntKind.i64.wrap (50 + (t : Int)) = 50 + (t : Int) := by rw [IntKind.wrap_i64]; omega
            have u50 : IntKind.u64.wrap (50 + (t : Int)) = 50 + (t : Int) := by rw [IntKind.wrap_u64, Int.emod_eq_of_lt (by omega) (by omega)]
            have wt : IntKind.i64.wrap ((t : Int) + 1) = (t : Int) + 1 := by rw [IntKind.wrap_i64]; omega
            obtain ⟨d1, d2, d3⟩ := hp_put hp hb hlt
            have p1 := put_in wr S A T 16 (2 * t) s t (50 + (t : Int)) ((t : Int) + 1) q hp.2 (by omega) (by omega) hlt Sw
            obtain ⟨s2, hs2⟩ : ∃ s2, putQ 16 s t (hpE t) = s2 := ⟨_, rfl⟩
            rw [hs2] at d1 d2 d3
            rw [show putQ 16 s t (50 + (t : Int), (t : Int) + 1) = s2 from hs2] at p1
            have D1 : Aside (QOk 16 T (2 * t + 1) s2) := d1
            have D2 : Hid ((s2.g t).f = true) := d2
            have D3 : Aside (HpI x T (t + 1) (settleQ 16 s2 t)) := d3
            clear d1 d2 d3 q I hp hb hs2 hY1
            go_wp2_with fail
            refine p1.mono ?_
            rintro r w2 ⟨rfl, q2, wt2⟩
            have B2 : Aside (Below S w w2) := B.out.trans wt2.low
            have Sw2 : S ≤ w2.heap.size := Nat.le_trans Sw wt2.size
            have st := settle_in w2 S A T 16 (2 * t + 1) s2 t true q2 D1.out (by omega) (by omega) hlt D2.out Sw2
            clear p1 q2 wt2
            go_wp2_with fail
            refine st.mono ?_
            rintro r w3 ⟨rfl, q3, wt3⟩
            have B3 : Aside (Below S w w3) := B2.out.trans wt3.low
            have I3 : Aside (∃ s, Que w3 S A T 16 s ∧ HpI x T (t + 1) s) := ⟨_, q3, D3.out⟩
            clear st q3 wt3
            go_wp2
            go_roundg (T - (t + 1))
            case measure => omega
            case rel => exact ⟨t + 1, by go_num, by omega, Nat.le_refl _, I3, B3⟩
          | false =>
            rw [hb] at hY0
            have I3 : Aside (∃ s, Que wr S A T 16 s ∧ HpI x T (t + 1) s) := ⟨s, q, hp_skip hp hb⟩
            clear hb hY1 q hp I
            go_wp2
            go_roundg (T - (t + 1))
            case measure => omega
            case rel => exact ⟨t + 1, by go_num, by omega, Nat.le_refl _, I3, B⟩
        · have hz : ¬ (t : Int) < (T : Int) := by omega
          rw [show t = T by omega] at hp
          have p1 := put_in wr S A T 16 (2 * T) s who 1 99 q hp.2 (by omega) (by omega) whoT Sw
          have HP : Aside (HpI x T T s) := hp
          have OK5 : Aside (QOk 16 T (2 * T + 1) (hpS s who)) := (hp_last hp whoT).2
          clear q I hp
          obtain ⟨wo, hwo⟩ : ∃ y, y = wr := ⟨_, rfl⟩
          subst hwo
          go_wp2_with fail
          refine p1.mono ?_
          rintro r w5 ⟨rfl, q5, wt5⟩
          have Q5 : Aside (Que w5 S A T 16 (hpS s who)) := q5
          have B5 : Aside (Below S w w5) := B.out.trans wt5.low
          have S5 : S ≤ w5.heap.size := Nat.le_trans Sw wt5.size
          clear p1 q5 wt5
          go_wp2_with fail
          go_loopg [10, 11] T (fun kx s10 s11 wr => ∃ (i : Nat), s11 = .int .i64 i ∧ s10 = .int .i64 99 ∧ i ≤ T ∧ T - i ≤ kx ∧ wr = w5 ∧ Aside (∀ k, k < i → hpB x ((who + k) % T) = false))
          case atStart => exact ⟨0, rfl, rfl, by omega, by omega, rfl, (fun k hk => absurd hk (by omega) : ∀ k, k < 0 → hpB x ((who + k) % T) = false)⟩
          case round =>
            obtain ⟨i, rfl, rfl, hi, hkx2, rfl, NO⟩ := hrel
            by_cases hil : i < T
            · have hz2 : (i : Int) < (T : Int) := by omega
              obtain ⟨p, hp⟩ : ∃ p, (who + i) % T = p := ⟨_, rfl⟩
              have pT : p < T := by rw [← hp]; exact Nat.mod_lt _ (by omega)
              have rp : ((who : Int) + (i : Int)).tmod (T : Int) = (p : Int) := by rw [show (who : Int) + (i : Int) = ((who + i : Nat) : Int) by omega, Int.tmod_eq_emod_of_nonneg (by omega), ← hp, Int.natCast_emod]
              have ww : IntKind.i64.wrap ((who : Int) + (i : Int)) = (who : Int) + (i : Int) := by rw [IntKind.wrap_i64]; omega
              have p64 : (p : Int) ≤ 64 := by omega
              have p0 : (0 : Int) ≤ (p : Int) := by omega
              have pp : ((p : Int)).toNat = p := by omega
              obtain ⟨Y, hY, Y2, hY1, hY0⟩ := hpBit x p
              cases hb : hpB x p with
              | true =>
                rw [hb] at hY1
                have wp : IntKind.i64.wrap ((p : Int) + 1) = (p : Int) + 1 := by rw [IntKind.wrap_i64]; omega
                have fz : hpF x T who = (p : Int) + 1 := by
                  have e : hpW x T who = some i := find_range hil (by show hpB x ((who + i) % T) = true; rw [hp]; exact hb) NO.out
                  unfold hpF
                  rw [e]
                  show (((who + i) % T : Nat) : Int) + 1 = _
                  rw [hp]
                clear hb hY0 hp
                obtain ⟨rl1, rl2⟩ := hp_relax HP.out whoT 7
                obtain ⟨x1, hx1⟩ : ∃ x, (relaxQ (hpS s who) T 16 who 7).1.1 = x := ⟨_, rfl⟩
                have rx := relaxed_in wr S A T 16 (2 * T + 1) (hpS s who) who 7 Q5.out OK5.out (by omega) (by omega) whoT h8 (by omega)
                unfold EntIs at rx
                rw [hx1, rl1, rl2, fz] at rx
                clear hx1 rl1 rl2
                go_wp2_with fail
                refine rx.mono ?_
                rintro r w6 ⟨rfl, d6⟩
                obtain ⟨R, hR⟩ : ∃ R, w6.heap.size = R := ⟨_, rfl⟩
                obtain ⟨u, hu⟩ : ∃ u, w6.alloc (.cells #[.int .u64 x1, .int .i64 ((p : Int) + 1)] 29) = u := ⟨_, rfl⟩
                have bu : Below w6.heap.size w6 u := by rw [← hu]; exact (Below.refl _ _).alloc (Nat.le_refl _) _
                have us : u.heap[R]? = some (.cells #[.int .u64 x1, .int .i64 ((p : Int) + 1)] 29 (0, 0)) := by rw [← hu, ← hR]; exact heap_alloc_new w6 _
                have d5u : Below wr.heap.size wr u := d6.trans (bu.mono d6.size)
                have BU : Aside (Below S w u) := B5.out.trans (d5u.mono S5)
                have le := qleast_any u S A T 16 (2 * T + 1) (hpS s who) (Q5.out.below d5u) OK5.out (by omega) (by omega) (by omega) h8
                obtain ⟨le1, le2⟩ := hp_least HP.out whoT
                rw [le1, le2] at le
                have LE : Calls Try.prog 17 #[ptr A.B] u fun r w' => r = .returned (.tuple #[.agg #[.int .u64 1, .int .i64 99], .bool true]) ∧ Below u.heap.size u w' := le
                have HU : Hid _ := hu
                have US : Aside (u.heap[R]? = some (.cells #[.int .u64 x1, .int .i64 ((p : Int) + 1)] 29 (0, 0))) := us
                clear rx le le1 le2 d6 bu hu us d5u
                go_wp2_with fail
                rw [HU.out]
                refine LE.mono ?_
                rintro r w7 ⟨rfl, d7⟩
                have r7 := (d7.block R (lt_of_block US.out)).trans US.out
                obtain ⟨R7, hR7⟩ : ∃ R, w7.heap.size = R := ⟨_, rfl⟩
                have Rl : R < w7.heap.size := lt_of_block r7
                have RR : ¬ R = R7 := by omega
                have Rl2 : R < R7 := by omega
                obtain ⟨y0, y1⟩ := ent0 r7
                have S7 : S ≤ w7.heap.size := by have := BU.out.size; have := d7.size; have := HS.out; omega
                have B7 : Aside (Below S w (w7.alloc (.cells #[.int .u64 1, .int .i64 99] 29))) := (BU.out.trans (d7.mono (by have := BU.out.size; have := HS.out; omega))).alloc S7 _
                have aw := qawake_any (w7.alloc (.cells #[.int .u64 1, .int .i64 99] 29))
                clear LE d7 r7
                go_wp2_with fail
                refine aw.mono ?_
                rintro r w8 ⟨rfl, d8⟩
                have B8 : Aside (Below S w w8) := B7.out.trans (d8.mono (by simp; omega))
                clear aw d8
                go_wp2
                go_ret
                exact ⟨rfl, by rw [HS.out]; exact B8.out⟩
              | false =>
                rw [hb] at hY1
                have NO2 : Aside (∀ k, k < i + 1 → hpB x ((who + k) % T) = false) := fun k hk => by
                  by_cases e : k = i
                  · rw [e, hp]; exact hb
                  · exact NO.out k (by omega)
                clear hb hY0 hp
                go_wp2
                go_roundg (T - (i + 1))
                case measure => omega
                case rel => exact ⟨i + 1, by go_num, rfl, by omega, Nat.le_refl _, rfl, NO2⟩
            · have hz2 : ¬ (i : Int) < (T : Int) := by omega
              have fz : hpF x T who = 99 := by
                have e : hpW x T who = none := find_range_none fun k hk => NO.out k (by omega)
                unfold hpF
                rw [e]
              obtain ⟨rl1, rl2⟩ := hp_relax HP.out whoT 7
              obtain ⟨x1, hx1⟩ : ∃ x, (relaxQ (hpS s who) T 16 who 7).1.1 = x := ⟨_, rfl⟩
              have rx := relaxed_in wr S A T 16 (2 * T + 1) (hpS s who) who 7 Q5.out OK5.out (by omega) (by omega) whoT h8 (by omega)
              unfold EntIs at rx
              rw [hx1, rl1, rl2, fz] at rx
              clear hx1 rl1 rl2
              go_wp2_with fail
              refine rx.mono ?_
              rintro r w6 ⟨rfl, d6⟩
              obtain ⟨R, hR⟩ : ∃ R, w6.heap.size = R := ⟨_, rfl⟩
              obtain ⟨u, hu⟩ : ∃ u, w6.alloc (.cells #[.int .u64 x1, .int .i64 (99)] 29) = u := ⟨_, rfl⟩
              have bu : Below w6.heap.size w6 u := by rw [← hu]; exact (Below.refl _ _).alloc (Nat.le_refl _) _
              have us : u.heap[R]? = some (.cells #[.int .u64 x1, .int .i64 (99)] 29 (0, 0)) := by rw [← hu, ← hR]; exact heap_alloc_new w6 _
              have d5u : Below wr.heap.size wr u := d6.trans (bu.mono d6.size)
              have BU : Aside (Below S w u) := B5.out.trans (d5u.mono S5)
              have le := qleast_any u S A T 16 (2 * T + 1) (hpS s who) (Q5.out.below d5u) OK5.out (by omega) (by omega) (by omega) h8
              obtain ⟨le1, le2⟩ := hp_least HP.out whoT
              rw [le1, le2] at le
              have LE : Calls Try.prog 17 #[ptr A.B] u fun r w' => r = .returned (.tuple #[.agg #[.int .u64 1, .int .i64 99], .bool true]) ∧ Below u.heap.size u w' := le
              have HU : Hid _ := hu
              have US : Aside (u.heap[R]? = some (.cells #[.int .u64 x1, .int .i64 (99)] 29 (0, 0))) := us
              clear rx le le1 le2 d6 bu hu us d5u
              go_wp2_with fail
              rw [HU.out]
              refine LE.mono ?_
              rintro r w7 ⟨rfl, d7⟩
              have r7 := (d7.block R (lt_of_block US.out)).trans US.out
              obtain ⟨R7, hR7⟩ : ∃ R, w7.heap.size = R := ⟨_, rfl⟩
              have Rl : R < w7.heap.size := lt_of_block r7
              have RR : ¬ R = R7 := by omega
              have Rl2 : R < R7 := by omega
              obtain ⟨y0, y1⟩ := ent0 r7
              have S7 : S ≤ w7.heap.size := by have := BU.out.size; have := d7.size; have := HS.out; omega
              have B7 : Aside (Below S w (w7.alloc (.cells #[.int .u64 1, .int .i64 99] 29))) := (BU.out.trans (d7.mono (by have := BU.out.size; have := HS.out; omega))).alloc S7 _
              have aw := qawake_any (w7.alloc (.cells #[.int .u64 1, .int .i64 99] 29))
              clear LE d7 r7
              go_wp2_with fail
              refine aw.mono ?_
              rintro r w8 ⟨rfl, d8⟩
              have B8 : Aside (Below S w w8) := B7.out.trans (d8.mono (by simp; omega))
              clear aw d8
              go_wp2
              go_ret
              exact ⟨rfl, by rw [HS.out]; exact B8.out⟩
end Go.Proofs.Ytdcacbjmbfppeaa

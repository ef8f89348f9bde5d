/- The walk of 'QueueStrict'. -/
import Derived.Test.YtdcacbjmbfppeaaQSp
import Derived.Test.YtdcacbjmbfppeaaQO
namespace Go.Proofs.Ytdcacbjmbfppeaa
open Go.RowKit Go.Lib Go.Sort
set_option linter.unusedVariables false

/-- What was taken last, in its box. -/
def StL (zs : List Int) (m i LB : Nat) (w : World) : Prop := ∃ l1 l2, w.heap[LB]? = some (.cells #[.int .u64 l1, .int .i64 l2] 29 (0, 0)) ∧ ((i = 0 ∧ l2 = 0) ∨ ∃ h : i - 1 < (stD zs m).length, (stD zs m)[i - 1] = (l1, l2)) ∧ (0 < i ∨ l2 = 0)
theorem fr_set2 (w : World) (B : Nat) (a b : Value) : Fr (fun k => k = B) w ((w.setCell ⟨B, 0, none⟩ a).setCell ⟨B, 1, none⟩ b) :=
  ⟨by simp [World.setCell], fun k hk hx => by
    have e : ¬ B = k := fun e => hx e.symm
    simp [World.setCell, Array.getElem?_modify, e]⟩
theorem st_len {zs : List Int} {n : Nat} {s : QSt} (h : StJ zs n n s) : lenQ s 1 = 0 := by
  have v := h.1
  have sh0 : (stD zs n).drop n = [] := List.drop_eq_nil_of_le (by rw [stD_len]; exact Nat.le_refl _)
  rw [sh0] at v
  rw [v.lenQ, flatN_nil]; rfl
set_option maxHeartbeats 8000000 in
set_option maxRecDepth 100000 in
theorem queueStrict_walk (a0 : Option Addr) (len0 cap0 : Nat) (zs : List Int) (dz : Int) (w : World) (h0 : IsRow .u64 w a0 len0 cap0 zs) (wd : (Lit.int .u64 dz).wf = true) :
    Calls Try.prog 6 #[.slice a0 len0 cap0, .int .u64 dz] w fun r w' => r = .returned (.bool true) ∧ Below w.heap.size w w' := by
  obtain ⟨S, hS⟩ : ∃ S, w.heap.size = S := ⟨_, rfl⟩
  obtain ⟨D0, rfl, hD0⟩ : ∃ d : Nat, dz = (d : Int) ∧ d < 18446744073709551616 := by
    simp [Lit.wf, IntKind.min, IntKind.max, IntKind.bits, IntKind.signed] at wd
    exact ⟨dz.toNat, by omega, by omega⟩
  have hl0 := h0.len_le
  have H0 : Aside (IsRow .u64 w a0 len0 cap0 zs) := h0
  obtain ⟨n, hn, n60, nl⟩ : ∃ N : Nat, min (len0 : Int) 60 = (N : Int) ∧ N ≤ 60 ∧ N ≤ len0 := ⟨min len0 60, by omega, by omega, by omega⟩
  have nw := qnew_in 1 0 w (by omega) (by omega) (by omega)
  have HS : Hid _ := hS
  clear wd h0
  go_enter Try.func6, Try.ntmps6
  go_wp2_with fail
  refine nw.mono ?_
  rintro r wA ⟨A, rfl, q1, b1⟩
  rw [hS] at q1 b1
  have I0 : Aside (∃ s, Que wA S A 1 0 s ∧ StI zs 0 s) := ⟨newQ, q1, st_new zs⟩
  have B0 : Aside (Below S w wA) := b1
  clear nw q1 b1 hS
  go_wp2_with fail
  clear hn
  go_loopg [8] n (fun kx s8 wr => ∃ (i : Nat), s8 = .int .i64 i ∧ i ≤ n ∧ n - i ≤ kx ∧ Aside (∃ s, Que wr S A 1 0 s ∧ StI zs i s) ∧ Aside (Below S w wr))
  case atStart => exact ⟨0, rfl, by omega, by omega, I0, B0⟩
  case round =>
    clear I0 B0
    obtain ⟨i, rfl, hi, hkx, I, B⟩ := hrel
    obtain ⟨s, q, di⟩ := I.out
    have Sw : S ≤ wr.heap.size := by have := B.out.size; have := HS.out; omega
    by_cases hlt : i < n
    · have hz : (i : Int) < (n : Int) := by omega
      have hz0 : (i : Int) < (len0 : Int) := by omega
      obtain ⟨b, off, ha, hb, hc, _⟩ := H0.out.at (show i < len0 by omega)
      have hc2 := (B.out.cell (p := ⟨b, off + i, none⟩) (by show b < S; have := HS.out; omega)).trans hc
      obtain ⟨z, hzz⟩ : ∃ z, zs.getD i 0 = z := ⟨_, rfl⟩
      rw [hzz] at hc2
      have i1w : IntKind.i64.wrap ((i : Int) + 1) = (i : Int) + 1 := by rw [IntKind.wrap_i64]; omega
      obtain ⟨d1, d2, d3⟩ := st_put di
      have e0 : stE zs i = (z, (i : Int) + 1) := by unfold stE; rw [hzz]
      rw [e0] at d1 d2 d3
      have p1 := put_in wr S A 1 0 (2 * i) s 0 z ((i : Int) + 1) q di.2 (by omega) (by omega) (by omega) Sw
      have D1 : Aside (QOk 0 1 (2 * i + 1) (putQ 0 s 0 (z, (i : Int) + 1))) := d1
      have D2 : Hid (((putQ 0 s 0 (z, (i : Int) + 1)).g 0).f = true) := d2
      have D3 : Aside (StI zs (i + 1) (settleQ 0 (putQ 0 s 0 (z, (i : Int) + 1)) 0)) := d3
      clear di d1 d2 d3 q I hzz e0 hc
      subst ha
      go_wp2_with fail
      refine p1.mono ?_
      rintro r w2 ⟨rfl, q2, wt2⟩
      have B2 : Aside (Below S w w2) := B.out.trans wt2.low
      have Sw2 : S ≤ w2.heap.size := Nat.le_trans Sw wt2.size
      have st := settle_in w2 S A 1 0 (2 * i + 1) (putQ 0 s 0 (z, (i : Int) + 1)) 0 true q2 D1.out (by omega) (by omega) (by omega) D2.out Sw2
      clear p1 q2 wt2 hc2
      go_wp2_with fail
      refine st.mono ?_
      rintro r w3 ⟨rfl, q3, wt3⟩
      have B3 : Aside (Below S w w3) := B2.out.trans wt3.low
      have I3 : Aside (∃ s, Que w3 S A 1 0 s ∧ StI zs (i + 1) s) := ⟨_, q3, D3.out⟩
      clear st q3 wt3
      go_wp2
      go_roundg (n - (i + 1))
      case measure => omega
      case rel => exact ⟨i + 1, by go_num, by omega, Nat.le_refl _, I3, B3⟩
    · have hz : ¬ (i : Int) < (n : Int) := by omega
      obtain rfl : i = n := by omega
      obtain ⟨wo, hwo⟩ : ∃ x, x = wr := ⟨_, rfl⟩
      subst hwo
      obtain ⟨LB, hLB⟩ : ∃ R, wo.heap.size = R := ⟨_, rfl⟩
      obtain ⟨u0, hu0⟩ : ∃ u, wo.alloc (.cells #[.int .u64 0, .int .i64 0] 29) = u := ⟨_, rfl⟩
      have bu0 : Below wo.heap.size wo u0 := by rw [← hu0]; exact (Below.refl _ _).alloc (Nat.le_refl _) _
      have us0 : u0.heap[LB]? = some (.cells #[.int .u64 0, .int .i64 0] 29 (0, 0)) := by rw [← hu0, ← hLB]; exact heap_alloc_new wo _
      have LS : S ≤ LB := by omega
      have I1 : Aside (∃ s, Que u0 S A 1 0 s ∧ StJ zs i 0 s) := ⟨s, q.below bu0, st_j di⟩
      have B1 : Aside (Below S w u0) := B.out.trans (bu0.mono Sw)
      have L1 : Aside (StL zs i 0 LB u0) := ⟨0, 0, us0, .inl ⟨rfl, rfl⟩, .inr rfl⟩
      have HU0 : Hid _ := hu0
      clear hu0 bu0 us0 q di I
      obtain ⟨m, hm⟩ : ∃ m, m = i := ⟨_, rfl⟩
      subst hm
      go_wp2_with fail
      rw [HU0.out]
      clear HU0
      go_loopg [10] m (fun kx s10 wr => ∃ (i : Nat), s10 = .int .i64 i ∧ i ≤ m ∧ m - i ≤ kx ∧ Aside (∃ s, Que wr S A 1 0 s ∧ StJ zs m i s) ∧ Aside (Below S w wr) ∧ Aside (StL zs m i LB wr))
      case atStart => exact ⟨0, rfl, by omega, by omega, I1, B1, L1⟩
      case round =>
        clear I1 B1 L1
        obtain ⟨i, rfl, hi, hkx, I, B, L⟩ := hrel
        obtain ⟨s, q, sj⟩ := I.out
        obtain ⟨l1, l2, hl, ll, l0⟩ := L.out
        have Sw : S ≤ wr.heap.size := by have := B.out.size; have := HS.out; omega
        by_cases hlt : i < m
        · have hz : (i : Int) < (m : Int) := by omega
          obtain ⟨D, hD, hD1⟩ : ∃ D : Nat, IntKind.u64.wrap ((D0 : Int) + (i : Int)) = (D : Int) ∧ D < 18446744073709551616 := ⟨(D0 + i) % 18446744073709551616, by rw [IntKind.wrap_u64]; omega, by omega⟩
          have ui : IntKind.u64.wrap (i : Int) = (i : Int) := by rw [IntKind.wrap_u64, Int.emod_eq_of_lt (by omega) (by omega)]
          have iL : i < (stD zs m).length := by rw [stD_len]; exact hlt
          have rx := relaxed_in wr S A 1 0 (2 * m + 2 * i) s 0 D q sj.2 (by omega) (by omega) (by omega) (by omega) hD1
          rw [st_relax sj D iL] at rx
          obtain ⟨t1, t2, t3, t4⟩ := st_take sj iL
          have rest := st_rest' ll l0
          have lss : 0 < i → ltE (l1, l2) (stD zs m)[i] = true := fun h0 => by
            rcases ll with ⟨h, _⟩ | ⟨h, e⟩
            · omega
            · rw [← e]
              have := st_less (zs := zs) (n := m) (i := i - 1) (by rw [show i - 1 + 1 = i by omega]; exact iL)
              simp only [show i - 1 + 1 = i by omega] at this
              exact this
          obtain ⟨x, hx⟩ : ∃ x, (stD zs m)[i] = x := ⟨_, rfl⟩
          have HX : Hid ((stD zs m)[i] = x) := hx
          rw [hx] at rx t1 t2 t3 t4 lss
          obtain ⟨x1, x2⟩ := x
          have rx' : Calls Try.prog 16 #[ptr A.B, .int .i64 0, .int .u64 D] wr fun r w' => r = .returned (.tuple #[.agg #[.int .u64 x1, .int .i64 x2], .bool true]) ∧ Below wr.heap.size wr w' := rx
          have OKJ : Aside (QOk 0 1 (2 * m + 2 * i) s) := sj.2
          have TK1 : Hid ((firstHit s 1 x2).isSome = true) := t1
          have OK1 : Aside (QOk 0 1 (2 * m + 2 * i + 1) (takeQ s 1 x2)) := t2
          have TK2 : Hid ((firstHit (takeQ s 1 x2) 1 x2).isSome = false) := t3
          have SJ2 : Aside (StJ zs m (i + 1) (takeQ (takeQ s 1 x2) 1 x2)) := t4
          have RST : Aside (∀ y ∈ (stD zs m).drop (i + 1), y.2 ≠ l2) := rest
          have LSS : Aside (0 < i → ltE (l1, l2) (x1, x2) = true) := lss
          have Q : Aside (Que wr S A 1 0 s) := q
          have HL : Aside (wr.heap[LB]? = some (.cells #[.int .u64 l1, .int .i64 l2] 29 (0, 0))) := hl
          clear rx hx q sj hl ll l0 t1 t2 t3 t4 rest lss I L
          go_wp2_with fail
          refine rx'.mono ?_
          rintro r w4 ⟨rfl, d4⟩
          obtain ⟨R, hR⟩ : ∃ R, w4.heap.size = R := ⟨_, rfl⟩
          obtain ⟨u, hu⟩ : ∃ u, w4.alloc (.cells #[.int .u64 x1, .int .i64 x2] 29) = u := ⟨_, rfl⟩
          have bu : Below w4.heap.size w4 u := by rw [← hu]; exact (Below.refl _ _).alloc (Nat.le_refl _) _
          have us : u.heap[R]? = some (.cells #[.int .u64 x1, .int .i64 x2] 29 (0, 0)) := by rw [← hu, ← hR]; exact heap_alloc_new w4 _
          have bru : Below wr.heap.size wr u := d4.trans (bu.mono d4.size)
          have QU : Aside (Que u S A 1 0 s) := Q.out.below bru
          have BU : Aside (Below S w u) := B.out.trans (bru.mono Sw)
          have SU : S ≤ u.heap.size := Nat.le_trans Sw bru.size
          have lu := (bru.block LB (lt_of_block HL.out)).trans HL.out
          obtain ⟨y0, y1⟩ := ent0 us
          obtain ⟨v0, v1⟩ := ent0 lu
          have RU : Aside (u.heap[R]? = some (.cells #[.int .u64 x1, .int .i64 x2] 29 (0, 0))) := us
          have LU : Aside (u.heap[LB]? = some (.cells #[.int .u64 l1, .int .i64 l2] 29 (0, 0))) := lu
          have l4 := (d4.block LB (lt_of_block HL.out)).trans HL.out
          obtain ⟨m0, m1⟩ := ent0 l4
          have Lr := lt_of_block l4
          have nS : ¬ LB = w4.heap.size := by omega
          have nR : ¬ LB = R := by omega
          have n0 := (cell_old w4 (.cells #[.int .u64 x1, .int .i64 x2] 29) 0 (b := LB) Lr).trans m0
          have n1 := (cell_old w4 (.cells #[.int .u64 x1, .int .i64 x2] 29) 1 (b := LB) Lr).trans m1
          have HU : Hid _ := hu
          clear hu bu us bru d4 rx' lu l4
          by_cases hi0 : 0 < i
          · have hi1 : (0 : Int) < (i : Int) := by omega
            have le := refLess_any (l1, l2) (x1, x2) u
            rw [LSS.out hi0] at le
            go_wp2_with fail
            rw [HU.out]
            go_wp2_with fail
            refine le.mono ?_
            rintro r wP ⟨rfl, g5⟩
            have bP := g5.below
            have qP := QU.out.below bP
            have BP : Aside (Below S w wP) := BU.out.trans (bP.mono SU)
            have SP : S ≤ wP.heap.size := Nat.le_trans SU bP.size
            have rP := (bP.block R (lt_of_block RU.out)).trans RU.out
            have lP := (bP.block LB (lt_of_block LU.out)).trans LU.out
            obtain ⟨c0, c1⟩ := ent0 rP
            have RP : Aside (wP.heap[R]? = some (.cells #[.int .u64 x1, .int .i64 x2] 29 (0, 0))) := rP
            have LP : Aside (wP.heap[LB]? = some (.cells #[.int .u64 l1, .int .i64 l2] 29 (0, 0))) := lP
            clear le g5 bP rP lP y0 y1 v0 v1
            have tk := take_any wP S A 1 0 (2 * m + 2 * i) s x2 qP OKJ.out (by omega) (by omega) (by omega) (by omega) SP
            rw [TK1.out] at tk
            clear qP
            go_wp2_with fail
            refine tk.mono ?_
            rintro r w6 ⟨rfl, q6, wt6⟩
            have r6 := wt6.block RP.out mq_ent
            have l6 := wt6.block LP.out mq_ent
            have S6 : S ≤ w6.heap.size := Nat.le_trans SP wt6.size
            have B6 : Aside (Below S w w6) := BP.out.trans wt6.low
            obtain ⟨f0, f1⟩ := ent0 r6
            have R6 : Aside (w6.heap[R]? = some (.cells #[.int .u64 x1, .int .i64 x2] 29 (0, 0))) := r6
            have L6 : Aside (w6.heap[LB]? = some (.cells #[.int .u64 l1, .int .i64 l2] 29 (0, 0))) := l6
            have tk2 := take_any w6 S A 1 0 (2 * m + 2 * i + 1) (takeQ s 1 x2) x2 q6 OK1.out (by omega) (by omega) (by omega) (by omega) S6
            rw [TK2.out] at tk2
            clear tk q6 wt6 r6 l6
            go_wp2_with fail
            refine tk2.mono ?_
            rintro r w7 ⟨rfl, q7, wt7⟩
            have r7 := wt7.block R6.out mq_ent
            have l7 := wt7.block L6.out mq_ent
            have B7 : Aside (Below S w w7) := B6.out.trans wt7.low
            obtain ⟨g0, g1⟩ := ent0 r7
            obtain ⟨k0, k1⟩ := ent0 l7
            have k2 := entf l7 0
            have k3 := entf l7 1
            have Ll : LB < w7.heap.size := lt_of_block l7
            have l8 := entSet2 l7 (.int .u64 x1) (.int .i64 x2)
            obtain ⟨w8, hw8⟩ : ∃ x, (w7.setCell ⟨LB, 0, none⟩ (.int .u64 x1)).setCell ⟨LB, 1, none⟩ (.int .i64 x2) = x := ⟨_, rfl⟩
            rw [hw8] at l8
            have b78 : Below S w7 w8 := by
              rw [← hw8]
              exact ((Below.refl _ _).setCell (by show S ≤ LB; exact LS) _).setCell (by show S ≤ LB; exact LS) _
            have f78 : Fr (fun k => k = LB) w7 w8 := by
              rw [← hw8]
              exact fr_set2 _ _ _ _
            have I8 : Aside (∃ s, Que w8 S A 1 0 s ∧ StJ zs m (i + 1) s) := ⟨_, q7.box SJ2.out.1 f78 l7 l8 (fun _ _ x hx => by simp at hx) RST.out, SJ2.out⟩
            have B8 : Aside (Below S w w8) := B7.out.trans b78
            have L8 : Aside (StL zs m (i + 1) LB w8) := ⟨x1, x2, l8, .inr ⟨iL, HX.out⟩, .inl (by omega)⟩
            have HW8 : Hid _ := hw8
            clear tk2 q7 wt7 r7 l7 l8 hw8 b78 f78
            go_wp2
            rw [HW8.out]
            go_roundg (m - (i + 1))
            case measure => omega
            case rel => exact ⟨i + 1, by go_num, by omega, Nat.le_refl _, I8, B8, L8⟩
          · have hi1 : ¬ (0 : Int) < (i : Int) := by omega
            obtain ⟨wP, hwP⟩ : ∃ x, x = u := ⟨_, rfl⟩
            subst hwP
            have qP := QU.out
            have BP : Aside (Below S w wP) := BU.out
            have SP : S ≤ wP.heap.size := SU
            have RP : Aside (wP.heap[R]? = some (.cells #[.int .u64 x1, .int .i64 x2] 29 (0, 0))) := RU.out
            have LP : Aside (wP.heap[LB]? = some (.cells #[.int .u64 l1, .int .i64 l2] 29 (0, 0))) := LU.out
            have tk := take_any wP S A 1 0 (2 * m + 2 * i) s x2 qP OKJ.out (by omega) (by omega) (by omega) (by omega) SP
            rw [TK1.out] at tk
            clear qP
            go_wp2_with fail
            rw [HU.out]
            refine tk.mono ?_
            rintro r w6 ⟨rfl, q6, wt6⟩
            have r6 := wt6.block RP.out mq_ent
            have l6 := wt6.block LP.out mq_ent
            have S6 : S ≤ w6.heap.size := Nat.le_trans SP wt6.size
            have B6 : Aside (Below S w w6) := BP.out.trans wt6.low
            obtain ⟨f0, f1⟩ := ent0 r6
            have R6 : Aside (w6.heap[R]? = some (.cells #[.int .u64 x1, .int .i64 x2] 29 (0, 0))) := r6
            have L6 : Aside (w6.heap[LB]? = some (.cells #[.int .u64 l1, .int .i64 l2] 29 (0, 0))) := l6
            have tk2 := take_any w6 S A 1 0 (2 * m + 2 * i + 1) (takeQ s 1 x2) x2 q6 OK1.out (by omega) (by omega) (by omega) (by omega) S6
            rw [TK2.out] at tk2
            clear tk q6 wt6 r6 l6
            go_wp2_with fail
            refine tk2.mono ?_
            rintro r w7 ⟨rfl, q7, wt7⟩
            have r7 := wt7.block R6.out mq_ent
            have l7 := wt7.block L6.out mq_ent
            have B7 : Aside (Below S w w7) := B6.out.trans wt7.low
            obtain ⟨g0, g1⟩ := ent0 r7
            obtain ⟨k0, k1⟩ := ent0 l7
            have k2 := entf l7 0
            have k3 := entf l7 1
            have Ll : LB < w7.heap.size := lt_of_block l7
            have l8 := entSet2 l7 (.int .u64 x1) (.int .i64 x2)
            obtain ⟨w8, hw8⟩ : ∃ x, (w7.setCell ⟨LB, 0, none⟩ (.int .u64 x1)).setCell ⟨LB, 1, none⟩ (.int .i64 x2) = x := ⟨_, rfl⟩
            rw [hw8] at l8
            have b78 : Below S w7 w8 := by
              rw [← hw8]
              exact ((Below.refl _ _).setCell (by show S ≤ LB; exact LS) _).setCell (by show S ≤ LB; exact LS) _
            have f78 : Fr (fun k => k = LB) w7 w8 := by
              rw [← hw8]
              exact fr_set2 _ _ _ _
            have I8 : Aside (∃ s, Que w8 S A 1 0 s ∧ StJ zs m (i + 1) s) := ⟨_, q7.box SJ2.out.1 f78 l7 l8 (fun _ _ x hx => by simp at hx) RST.out, SJ2.out⟩
            have B8 : Aside (Below S w w8) := B7.out.trans b78
            have L8 : Aside (StL zs m (i + 1) LB w8) := ⟨x1, x2, l8, .inr ⟨iL, HX.out⟩, .inl (by omega)⟩
            have HW8 : Hid _ := hw8
            clear tk2 q7 wt7 r7 l7 l8 hw8 b78 f78
            go_wp2
            rw [HW8.out]
            go_roundg (m - (i + 1))
            case measure => omega
            case rel => exact ⟨i + 1, by go_num, by omega, Nat.le_refl _, I8, B8, L8⟩
        · have hz : ¬ (i : Int) < (m : Int) := by omega
          obtain rfl : i = m := by omega
          have rx := relaxed_in wr S A 1 0 (2 * i + 2 * i) s 0 D0 q sj.2 (by omega) (by omega) (by omega) (by omega) hD0
          rw [st_end sj D0] at rx
          have rx' : Calls Try.prog 16 #[ptr A.B, .int .i64 0, .int .u64 D0] wr fun r w' => r = .returned (.tuple #[.agg #[.int .u64 0, .int .i64 0], .bool false]) ∧ Below wr.heap.size wr w' := rx
          have le := st_len sj
          have LE : Hid _ := le
          have OK : Aside (QOk 0 1 (2 * i + 2 * i) s) := sj.2
          have Q : Aside (Que wr S A 1 0 s) := q
          clear rx le q sj I L hl ll l0
          go_wp2_with fail
          refine rx'.mono ?_
          rintro r w4 ⟨rfl, d4⟩
          obtain ⟨u, hu⟩ : ∃ u, w4.alloc (.cells #[.int .u64 0, .int .i64 0] 29) = u := ⟨_, rfl⟩
          have bu : Below w4.heap.size w4 u := by rw [← hu]; exact (Below.refl _ _).alloc (Nat.le_refl _) _
          have bru : Below wr.heap.size wr u := d4.trans (bu.mono d4.size)
          have BU : Aside (Below S w u) := B.out.trans (bru.mono Sw)
          have SU : S ≤ u.heap.size := Nat.le_trans Sw bru.size
          have ln := qlen_any u S A 1 0 (2 * i + 2 * i) s (Q.out.below bru) OK.out (by omega) (by omega) (by omega)
          rw [LE.out] at ln
          have HU : Hid _ := hu
          clear hu bu bru d4 rx'
          go_wp2_with fail
          rw [HU.out]
          refine ln.mono ?_
          rintro r w5 ⟨rfl, d5⟩
          have B5 : Aside (Below S w w5) := BU.out.trans (d5.mono SU)
          have S5 : S ≤ w5.heap.size := Nat.le_trans SU d5.size
          have aw := qawake_any w5
          clear ln d5
          go_wp2_with fail
          refine aw.mono ?_
          rintro r w6 ⟨rfl, d6⟩
          have B6 : Aside (Below S w w6) := B5.out.trans (d6.mono S5)
          clear aw d6
          go_wp2
          go_ret
          exact ⟨rfl, by rw [HS.out]; exact B6.out⟩
end Go.Proofs.Ytdcacbjmbfppeaa

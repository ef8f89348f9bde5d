/- The walk of 'QueueNear'. -/
import Derived.Test.YtdcacbjmbfppeaaGreatQNp
import Derived.Test.YtdcacbjmbfppeaaGreatQA
import Derived.Test.YtdcacbjmbfppeaaGreatQW
import Derived.Test.YtdcacbjmbfppeaaGreatQIn
import Derived.Test.YtdcacbjmbfppeaaGreatMask
import Derived.Deep.LoopGhost
import Derived.Deep.CutBlock
import Derived.Deep.DeepCutAuto
import Derived.Deep.RegionHeld3
namespace Go.Proofs.YtdcacbjmbfppeaaGreat
open Go.RowKit Go.Lib Go.Sort
set_option linter.unusedVariables false

theorem mq_op : ¬ MQ 32 := by unfold MQ; decide
theorem box5 {w : World} {O : Nat} {a b c d e : Value} {U : TypeId} (h : w.heap[O]? = some (.cells #[a, b, c, d, e] U (0, 0))) :
    w.cell? ⟨O, 0, none⟩ = some a ∧ w.cell? ⟨O, 1, none⟩ = some b ∧ w.cell? ⟨O, 2, none⟩ = some c ∧ w.cell? ⟨O, 3, none⟩ = some d ∧ w.cell? ⟨O, 4, none⟩ = some e := by
  refine ⟨?_, ?_, ?_, ?_, ?_⟩ <;> (rw [cell_of_row _ _ _ _ _ _ h]; rfl)
/-- What stands there behind i rounds. -/
structure NrM (w : World) (S : Nat) (A : QAd) (T K i : Nat) (wx : World) : Prop where
  que : ∃ s, Que wx S A T K s ∧ NrI T K i s
  low : Below S w wx
theorem NrM.on {w : World} {S : Nat} {A : QAd} {T K i : Nat} {wx wy : World} (h : NrM w S A T K i wx) (hS : S ≤ wx.heap.size) (hb : Below wx.heap.size wx wy) : NrM w S A T K i wy := by
  obtain ⟨s, q, k⟩ := h.que
  exact ⟨⟨s, q.below hb, k⟩, h.low.trans (hb.mono hS)⟩

set_option maxHeartbeats 8000000 in
set_option maxRecDepth 100000 in
theorem queueNear_walk (a b : Int) (a2 : Option Addr) (len2 cap2 : Nat) (Z : Nat → Nat → Int) (dz : Int) (w : World) (wa : (Lit.int .i64 a).wf = true) (wb : (Lit.int .i64 b).wf = true) (h2 : IsRecs opKs w a2 len2 Z) (wd : (Lit.int .u64 dz).wf = true) :
    Calls Tryz.prog 4 #[.int .i64 a, .int .i64 b, .slice a2 len2 cap2, .int .u64 dz] w fun r w' => r = .returned (.bool true) ∧ Below w.heap.size w w' := by
  obtain ⟨S, hS⟩ : ∃ S, w.heap.size = S := ⟨_, rfl⟩
  obtain ⟨T1, hT1, T18⟩ : ∃ N : Nat, bits .and .i64 a 7 = (N : Int) ∧ N < 8 := by
    have := mask_i64 a 3 7 8 (by omega) rfl rfl
    exact ⟨(a % 8).toNat, by rw [this]; omega, by omega⟩
  obtain ⟨K, hK0, K15⟩ : ∃ N : Nat, bits .and .i64 b 15 = (N : Int) ∧ N < 16 := by
    have := mask_i64 b 4 15 16 (by omega) rfl rfl
    exact ⟨(b % 16).toNat, by rw [this]; omega, by omega⟩
  obtain ⟨T, hT⟩ : ∃ N : Nat, T1 + 1 = N := ⟨_, rfl⟩
  obtain ⟨D0, rfl, hD0⟩ : ∃ d : Nat, dz = (d : Int) ∧ d < 18446744073709551616 := by
    simp [Lit.wf, IntKind.min, IntKind.max, IntKind.bits, IntKind.signed] at wd
    exact ⟨dz.toNat, by omega, by omega⟩
  have h1 : 1 ≤ T := by omega
  have h8 : T ≤ 8 := by omega
  have hK : K ≤ 16 := by omega
  have hT2 : IntKind.i64.wrap ((T1 : Int) + 1) = (T : Int) := by rw [IntKind.wrap_i64]; omega
  have hl2 := h2.len_le
  have H2 : Aside (IsRecs opKs w a2 len2 Z) := h2
  have nw := qnew_in T K w h1 h8 hK
  have HS : Hid _ := hS
  clear wa wb wd hT h2
  go_enter Tryz.func4, Tryz.ntmps4
  go_wp2_with fail
  refine nw.mono ?_
  rintro r w1 ⟨A, rfl, q1, b1⟩
  rw [hS] at q1 b1
  have K0 : Aside (NrM w S A T K 0 w1) := ⟨⟨newQ, q1, nr_new T K⟩, b1⟩
  clear nw q1 b1 hT1 hT2 hK0 hS
  go_wp2_with fail
  go_loopg [11] 61 (fun kx s11 wx => ∃ (i : Nat), s11 = .int .i64 i ∧ i ≤ 60 ∧ 61 - i ≤ kx ∧ Aside (NrM w S A T K i wx))
  case atStart => exact ⟨0, rfl, by omega, by omega, K0⟩
  case round =>
    clear K0
    obtain ⟨i, rfl, hi, hix, P⟩ := hrel
    obtain ⟨wo, hwo⟩ : ∃ x : World, x = wr := ⟨_, rfl⟩
    subst hwo
    have Sw : S ≤ wo.heap.size := by have := P.out.low.size; have := HS.out; omega
    by_cases hlt : i < len2 ∧ i < 60
    · obtain ⟨hl1, hl3⟩ := hlt
      have hz1 : (i : Int) < (len2 : Int) := by omega
      have hz2 : (i : Int) < 60 := by omega
      have hz3 : decide ((i : Int) < (len2 : Int)) = true := decide_eq_true hz1
      obtain ⟨dw, hdw, dw1⟩ : ∃ d : Nat, Z i 4 = (d : Int) ∧ d < 18446744073709551616 := by
        obtain ⟨_, _, _, _, hc⟩ := H2.out.elem i hl1
        have wd := (hc 4 .u64 rfl).2
        simp [Lit.wf, IntKind.min, IntKind.max, IntKind.bits, IntKind.signed] at wd
        exact ⟨(Z i 4).toNat, by omega, by omega⟩
      obtain ⟨b, off, ha, hb, c0, c1, c2, c3, c4⟩ := H2.out.five hl1
      rw [HS.out] at hb
      have c0' := (P.out.low.cell (p := ⟨b, off + i * 5, none⟩) hb).trans c0
      have c1' := (P.out.low.cell (p := ⟨b, off + i * 5 + 1, none⟩) hb).trans c1
      have c2' := (P.out.low.cell (p := ⟨b, off + i * 5 + 2, none⟩) hb).trans c2
      have c3' := (P.out.low.cell (p := ⟨b, off + i * 5 + 3, none⟩) hb).trans c3
      have c4' := (P.out.low.cell (p := ⟨b, off + i * 5 + 4, none⟩) hb).trans c4
      obtain ⟨kind, hkind⟩ : ∃ z, Z i 0 = z := ⟨_, rfl⟩
      obtain ⟨tz, htz⟩ : ∃ z, Z i 1 = z := ⟨_, rfl⟩
      obtain ⟨iz, hiz⟩ : ∃ z, Z i 2 = z := ⟨_, rfl⟩
      obtain ⟨ky, hky⟩ : ∃ z, Z i 3 = z := ⟨_, rfl⟩
      rw [hkind] at c0'
      rw [htz] at c1'
      rw [hiz] at c2'
      rw [hky] at c3'
      rw [hdw] at c4'
      subst ha
      clear c0 c1 c2 c3 c4 hb hkind htz hiz hky hdw
      obtain ⟨O, hO⟩ : ∃ O, wo.heap.size = O := ⟨_, rfl⟩
      obtain ⟨u, hu⟩ : ∃ u, wo.alloc (.cells #[.int .i64 kind, .int .i64 tz, .int .i64 iz, .int .u64 ky, .int .u64 dw] 32) = u := ⟨_, rfl⟩
      have bu : Below wo.heap.size wo u := by rw [← hu]; exact (Below.refl _ _).alloc (Nat.le_refl _) _
      have XO : Aside (u.heap[O]? = some (.cells #[.int .i64 kind, .int .i64 tz, .int .i64 iz, .int .u64 ky, .int .u64 dw] 32 (0, 0))) := by rw [← hu, ← hO]; exact heap_alloc_new wo _
      have PU : Aside (NrM w S A T K i u) := P.out.on Sw bu
      have Su : S ≤ u.heap.size := Nat.le_trans Sw bu.size
      have HU : Hid _ := hu
      obtain ⟨X, hX, X1⟩ : ∃ X : Nat, bits .and .i64 tz 7 = (X : Int) ∧ X < 8 := by
        have := mask_i64 tz 3 7 8 (by omega) rfl rfl
        exact ⟨(tz % 8).toNat, by rw [this]; omega, by omega⟩
      obtain ⟨t, ht⟩ : ∃ t, X % T = t := ⟨_, rfl⟩
      have tT : t < T := by rw [← ht]; exact Nat.mod_lt _ (by omega)
      have ww4 : (X : Int) % (T : Int) = (t : Int) := by rw [← ht]; rfl
      have ww3 : Int.tmod (X : Int) (T : Int) = (t : Int) := by rw [← ht]; rfl
      have ww6 : ¬ (T : Int) = 0 := by omega
      have ww7 : ((T : Int) == 0) = false := by simp; omega
      have ww8 : ¬ T = 0 := by omega
      clear hu bu P ht
      go_upto_block 2 with fail
      rw [HU.out]
      try rw [hO]
      clear c0' c1' c2' c3' c4' hO HU
      obtain ⟨y0, y1, y2, y3, y4⟩ := box5 XO.out
      · obtain ⟨s, q, nr⟩ := PU.out.que
        have lo : Aside (Below S w u) := PU.out.low
        have ok := nr_ok nr
        by_cases k01 : kind = 0 ∨ kind = 1
        · have i1w : IntKind.i64.wrap ((i : Int) + 1) = (i : Int) + 1 := by rw [IntKind.wrap_i64]; omega
          have p1 := put_in u S A T K i s t ky ((i : Int) + 1) q ok (by omega) hK tT Su
          have k2 : Aside (NrI T K (i + 1) (putQ K s t (ky, (i : Int) + 1))) := nr_put nr tT hK ky
          clear q nr ok PU
          rcases k01 with k0 | k0
          · subst k0
            as_aux_lemma =>
              go_wp2_with fail
              refine p1.mono ?_
              rintro r_ w8 ⟨rfl, q8, g8⟩
              have M : Aside (NrM w S A T K (i + 1) w8) := ⟨⟨_, q8, k2.out⟩, lo.out.trans g8.low⟩
              clear q8 g8 p1 y0 y1 y2 y3 y4
              go_wp2
              go_roundg (61 - (i + 1))
              case measure => omega
              case rel => exact ⟨i + 1, by go_num, by omega, Nat.le_refl _, M⟩
          · subst k0
            as_aux_lemma =>
              go_wp2_with fail
              refine p1.mono ?_
              rintro r_ w8 ⟨rfl, q8, g8⟩
              have M : Aside (NrM w S A T K (i + 1) w8) := ⟨⟨_, q8, k2.out⟩, lo.out.trans g8.low⟩
              clear q8 g8 p1 y0 y1 y2 y3 y4
              go_wp2
              go_roundg (61 - (i + 1))
              case measure => omega
              case rel => exact ⟨i + 1, by go_num, by omega, Nat.le_refl _, M⟩
        · have m0 : ¬ kind = 0 := fun h => k01 (.inl h)
          have m1 : ¬ kind = 1 := fun h => k01 (.inr h)
          clear k01
          by_cases k2 : kind = 2
          · subst k2
            as_aux_lemma =>
              obtain ⟨f, hf⟩ : ∃ f, (s.g t).f = f := ⟨_, rfl⟩
              have st := settle_in u S A T K i s t f q ok (by omega) hK tT hf Su
              have k2 : Aside (NrI T K (i + 1) (settleQ K s t)) := nr_settle nr tT hK
              clear q nr ok PU hf
              go_wp2_with fail
              refine st.mono ?_
              rintro r w8 ⟨rfl, q8, g8⟩
              have M : Aside (NrM w S A T K (i + 1) w8) := ⟨⟨_, q8, k2.out⟩, lo.out.trans g8.low⟩
              clear st q8 g8 y0 y1 y2 y3 y4
              go_wp2
              go_roundg (61 - (i + 1))
              case measure => omega
              case rel => exact ⟨i + 1, by go_num, by omega, Nat.le_refl _, M⟩
          · have rx := relaxed_in u S A T K i s t dw q ok (by omega) hK tT h8 dw1
            have nx := nr_relax nr tT dw
            obtain ⟨⟨⟨x1, x2⟩, f⟩, hx⟩ : ∃ x, relaxQ s T K t dw = x := ⟨_, rfl⟩
            rw [hx] at rx nx
            have OK : Aside (QOk K T i s) := ok
            have Q : Aside (Que u S A T K s) := q
            clear hx nr ok PU q
            rcases nx with ⟨e, nx⟩ | ⟨e, nx1, nx⟩
            · as_aux_lemma =>
                simp only at e
                subst e
                have NX : Aside (NrI T K (i + 1) s) := nx
                have rx' : Calls Tryz.prog 18 #[ptr A.B, .int .i64 t, .int .u64 dw] u fun r w' => r = .returned (.tuple #[.agg #[.int .u64 x1, .int .i64 x2], .bool false]) ∧ Below u.heap.size u w' := rx
                clear rx nx
                go_wp2_with fail
                refine rx'.mono ?_
                rintro r w4 ⟨rfl, d4⟩
                have M : Aside (∀ o, NrM w S A T K (i + 1) (w4.alloc o)) := fun o => by
                  have d5 := d4.alloc d4.size o
                  exact ⟨⟨_, Q.out.below d5, NX.out⟩, lo.out.trans (d5.mono Su)⟩
                clear d4 rx' y0 y1 y2 y3 y4
                go_wp2
                go_roundg (61 - (i + 1))
                case measure => omega
                case rel => exact ⟨i + 1, by go_num, by omega, Nat.le_refl _, M.out _⟩
            · as_aux_lemma =>
                simp only at e nx1 nx
                subst e
                have NX : Aside (NrI T K (i + 1) (takeQ s T x2)) := nx
                have NX1 : Hid ((firstHit s T x2).isSome = true) := nx1
                have rx' : Calls Tryz.prog 18 #[ptr A.B, .int .i64 t, .int .u64 dw] u fun r w' => r = .returned (.tuple #[.agg #[.int .u64 x1, .int .i64 x2], .bool true]) ∧ Below u.heap.size u w' := rx
                clear rx nx nx1
                go_wp2_with fail
                refine rx'.mono ?_
                rintro r w4 ⟨rfl, d4⟩
                obtain ⟨R, hR⟩ : ∃ R, w4.heap.size = R := ⟨_, rfl⟩
                obtain ⟨v, hv⟩ : ∃ u, w4.alloc (.cells #[.int .u64 x1, .int .i64 x2] 34) = u := ⟨_, rfl⟩
                have bv : Below u.heap.size u v := by rw [← hv]; exact d4.alloc d4.size _
                have vs : v.heap[R]? = some (.cells #[.int .u64 x1, .int .i64 x2] 34 (0, 0)) := by rw [← hv, ← hR]; exact heap_alloc_new w4 _
                obtain ⟨z0, z1⟩ := ent0 vs
                have Sv : S ≤ v.heap.size := Nat.le_trans Su bv.size
                have tk := take_any v S A T K i s x2 (Q.out.below bv) OK.out (by omega) hK h1 h8 Sv
                rw [NX1.out] at tk
                have lo2 : Aside (Below S w v) := lo.out.trans (bv.mono Su)
                have HV : Hid _ := hv
                clear hv bv vs d4 rx' y0 y1 y2 y3 y4
                go_wp2_with fail
                rw [HV.out]
                refine tk.mono ?_
                rintro r w8 ⟨rfl, q8, g8⟩
                have M : Aside (NrM w S A T K (i + 1) w8) := ⟨⟨_, q8, NX.out⟩, lo2.out.trans g8.low⟩
                clear tk q8 g8
                go_wp2
                go_roundg (61 - (i + 1))
                case measure => omega
                case rel => exact ⟨i + 1, by go_num, by omega, Nat.le_refl _, M⟩
    · obtain ⟨s, q, nr⟩ := P.out.que
      have ok := nr_ok nr
      obtain ⟨n, hn⟩ : ∃ n, (listsQ s T).flatten.length = n := ⟨_, rfl⟩
      have nl := nr_len nr
      have al := qall_any wo S A T K i s n q ok (by omega) hK h1 h8 (by omega) hn
      obtain ⟨D, hD⟩ : ∃ D, sortE (listsQ s T).flatten = D := ⟨_, rfl⟩
      have dl : D.length = n := by rw [← hD, sortE_len]; exact hn
      rw [hD] at al
      have Q : Aside (Que wo S A T K s) := q
      have OK : Aside (QOk K T i s) := ok
      have LOW : Aside (Below S w wo) := P.out.low
      have EN : Aside (∀ t, t < T → (relaxQ s T K t D0).2 = decide (0 < n) ∧ ((relaxQ s T K t D0).2 = true → smal D (relaxQ s T K t D0).1 ≤ T * K + T ∧ hasL D (relaxQ s T K t D0).1.2 = true) ∧ (s.ls t).flatten.length ≤ K) := fun t ht => by
        have := nr_end nr ht D0
        rw [hD, hn] at this
        exact this
      have DL : Hid (D.length = n) := dl
      obtain ⟨M0, hM0⟩ : ∃ m, T * K = m := ⟨_, rfl⟩
      have mm : M0 ≤ 128 := by rw [← hM0]; exact Nat.mul_le_mul h8 hK
      have hM1 : (T : Int) * (K : Int) = (M0 : Int) := by rw [← hM0]; push_cast; rfl
      have hM2 : IntKind.i64.wrap ((T : Int) * (K : Int)) = (M0 : Int) := by rw [hM1, IntKind.wrap_i64]; omega
      have hM3 : IntKind.i64.wrap ((M0 : Int) + (T : Int)) = (M0 : Int) + (T : Int) := by rw [IntKind.wrap_i64]; omega
      rw [hM0] at EN
      have nn : n ≤ 60 := by rw [← hn]; omega
      clear hM0 q ok nr hn hD dl P nl
      by_cases hz1 : (i : Int) < (len2 : Int)
      · have hz3 : decide ((i : Int) < (len2 : Int)) = true := decide_eq_true hz1
        have hz2 : ¬ (i : Int) < 60 := by omega
        go_wp2_with fail
        refine al.mono ?_
        rintro r w4 ⟨a4, c4, rfl, o4, b4⟩
        have il : IsL w4 a4 c4 D := by rw [← DL.out] at o4; exact o4.is
        have IL : Aside (IsL w4 a4 c4 D) := il
        have Q4 : Aside (Que w4 S A T K s) := Q.out.below b4
        have S4 : S ≤ w4.heap.size := Nat.le_trans Sw b4.size
        have L4 : Aside (Below S w w4) := LOW.out.trans (b4.mono Sw)
        clear al o4 b4 il Q LOW
        go_wp2_with fail
        go_loopg [17] T (fun kx s17 wx => ∃ (t : Nat), s17 = .int .i64 t ∧ t ≤ T ∧ T - t ≤ kx ∧ Aside (Below w4.heap.size w4 wx))
        case atStart => exact ⟨0, rfl, by omega, by omega, Below.refl _ _⟩
        case round =>
          obtain ⟨t, rfl, ht, htx, DY⟩ := hrel
          have szy := DY.out.size
          by_cases hlt4 : t < T
          · have hy4 : (t : Int) < (T : Int) := by omega
            have qy := Q4.out.below DY.out
            have rx := relaxed_in wr S A T K i s t D0 qy OK.out (by omega) hK hlt4 h8 hD0
            obtain ⟨e1, e2, e3⟩ := EN.out t hlt4
            obtain ⟨⟨⟨x1, x2⟩, f⟩, hx⟩ : ∃ x, relaxQ s T K t D0 = x := ⟨_, rfl⟩
            rw [hx] at rx e1 e2
            simp only at e1 e2
            obtain ⟨l, hl⟩ : ∃ l, (s.ls t).flatten.length = l := ⟨_, rfl⟩
            have HL : Hid _ := hl
            rw [hl] at e3
            have lK : ¬ (K : Int) < (l : Int) := by omega
            have rx' : Calls Tryz.prog 18 #[ptr A.B, .int .i64 t, .int .u64 D0] wr fun r w' => r = .returned (.tuple #[.agg #[.int .u64 x1, .int .i64 x2], .bool f]) ∧ Below wr.heap.size wr w' := rx
            clear rx hx qy hl
            by_cases n0 : 0 < n
            · rw [decide_eq_true n0] at e1
              subst e1
              obtain ⟨sm, ha⟩ := e2 rfl
              have SM : Aside (smal D (x1, x2) ≤ M0 + T) := sm
              have HA : Hid (hasL D x2 = true) := ha
              obtain ⟨sn, hsn⟩ : ∃ m, smal D (x1, x2) = m := ⟨_, rfl⟩
              have snl : ¬ (M0 : Int) + (T : Int) < (sn : Int) := by rw [hsn] at sm; omega
              have HSN : Hid _ := hsn
              have n1 : (0 : Int) < (n : Int) := by omega
              have n2 : decide ((0 : Int) < (n : Int)) = true := decide_eq_true n1
              clear e2 sm ha hsn
              go_wp2_with fail
              refine rx'.mono ?_
              rintro r w5 ⟨rfl, d5⟩
              obtain ⟨R, hR⟩ : ∃ R, w5.heap.size = R := ⟨_, rfl⟩
              obtain ⟨v, hv⟩ : ∃ u, w5.alloc (.cells #[.int .u64 x1, .int .i64 x2] 34) = u := ⟨_, rfl⟩
              have bv : Below wr.heap.size wr v := by rw [← hv]; exact d5.alloc d5.size _
              have vs : v.heap[R]? = some (.cells #[.int .u64 x1, .int .i64 x2] 34 (0, 0)) := by rw [← hv, ← hR]; exact heap_alloc_new w5 _
              have DV : Aside (Below w4.heap.size w4 v) := DY.out.trans (bv.mono szy)
              obtain ⟨z0, z1⟩ := ent0 vs
              have VS : Aside (v.heap[R]? = some (.cells #[.int .u64 x1, .int .i64 x2] 34 (0, 0))) := vs
              have pl := refPlace_any a4 c4 D (x1, x2) v (IL.out.below DV.out)
              rw [DL.out, HSN.out] at pl
              have HV : Hid _ := hv
              clear hv bv vs d5 rx'
              go_wp2_with fail
              rw [HV.out]
              refine pl.mono ?_
              rintro r w6 ⟨rfl, g6⟩
              have v6 := (g6.below.block R (lt_of_block VS.out)).trans VS.out
              obtain ⟨p0, p1⟩ := ent0 v6
              have D6 : Aside (Below w4.heap.size w4 w6) := DV.out.trans (g6.below.mono DV.out.size)
              have hs := has_any a4 c4 D x2 w6 (IL.out.below D6.out)
              rw [DL.out, HA.out] at hs
              clear pl g6 v6
              go_wp2_with fail
              refine hs.mono ?_
              rintro r w7 ⟨rfl, hw7⟩
              subst hw7
              have lc := qlocal_in w7 S A T K i s t l (Q4.out.below D6.out) OK.out hK hlt4 h8 HL.out
              clear hs
              go_wp2_with fail
              refine lc.mono ?_
              rintro r w8 ⟨a8, c8, rfl, o8, d8⟩
              have D8 : Aside (Below w4.heap.size w4 w8) := D6.out.trans (d8.mono D6.out.size)
              clear lc o8 d8
              go_wp2
              go_roundg (T - (t + 1))
              case measure => omega
              case rel => exact ⟨t + 1, by go_num, by omega, Nat.le_refl _, D8⟩
            · rw [decide_eq_false n0] at e1
              subst e1
              have n1 : ¬ (0 : Int) < (n : Int) := by omega
              have n2 : decide ((0 : Int) < (n : Int)) = false := decide_eq_false n1
              clear e2
              go_wp2_with fail
              refine rx'.mono ?_
              rintro r w5 ⟨rfl, d5⟩
              obtain ⟨v, hv⟩ : ∃ u, w5.alloc (.cells #[.int .u64 x1, .int .i64 x2] 34) = u := ⟨_, rfl⟩
              have bv : Below wr.heap.size wr v := by rw [← hv]; exact d5.alloc d5.size _
              have DV : Aside (Below w4.heap.size w4 v) := DY.out.trans (bv.mono szy)
              have lc := qlocal_in v S A T K i s t l (Q4.out.below DV.out) OK.out hK hlt4 h8 HL.out
              have HV : Hid _ := hv
              clear hv bv d5 rx'
              go_wp2_with fail
              rw [HV.out]
              refine lc.mono ?_
              rintro r w8 ⟨a8, c8, rfl, o8, d8⟩
              have D8 : Aside (Below w4.heap.size w4 w8) := DV.out.trans (d8.mono DV.out.size)
              clear lc o8 d8
              go_wp2
              go_roundg (T - (t + 1))
              case measure => omega
              case rel => exact ⟨t + 1, by go_num, by omega, Nat.le_refl _, D8⟩
          · have hy4 : ¬ (t : Int) < (T : Int) := by omega
            have L5 : Aside (Below S w wr) := L4.out.trans (DY.out.mono S4)
            have S5 : S ≤ wr.heap.size := Nat.le_trans S4 szy
            have aw := qawake_any wr
            clear DY
            go_wp2_with fail
            refine aw.mono ?_
            rintro r_ w9 ⟨rfl, b9⟩
            have D9 : Aside (Below S w w9) := L5.out.trans (b9.mono S5)
            clear aw b9
            go_wp2
            go_ret
            exact ⟨rfl, by first | exact D9.out | (rw [HS.out]; exact D9.out)⟩
      · have hz3 : decide ((i : Int) < (len2 : Int)) = false := decide_eq_false hz1
        go_wp2_with fail
        refine al.mono ?_
        rintro r w4 ⟨a4, c4, rfl, o4, b4⟩
        have il : IsL w4 a4 c4 D := by rw [← DL.out] at o4; exact o4.is
        have IL : Aside (IsL w4 a4 c4 D) := il
        have Q4 : Aside (Que w4 S A T K s) := Q.out.below b4
        have S4 : S ≤ w4.heap.size := Nat.le_trans Sw b4.size
        have L4 : Aside (Below S w w4) := LOW.out.trans (b4.mono Sw)
        clear al o4 b4 il Q LOW
        go_wp2_with fail
        go_loopg [17] T (fun kx s17 wx => ∃ (t : Nat), s17 = .int .i64 t ∧ t ≤ T ∧ T - t ≤ kx ∧ Aside (Below w4.heap.size w4 wx))
        case atStart => exact ⟨0, rfl, by omega, by omega, Below.refl _ _⟩
        case round =>
          obtain ⟨t, rfl, ht, htx, DY⟩ := hrel
          have szy := DY.out.size
          by_cases hlt4 : t < T
          · have hy4 : (t : Int) < (T : Int) := by omega
            have qy := Q4.out.below DY.out
            have rx := relaxed_in wr S A T K i s t D0 qy OK.out (by omega) hK hlt4 h8 hD0
            obtain ⟨e1, e2, e3⟩ := EN.out t hlt4
            obtain ⟨⟨⟨x1, x2⟩, f⟩, hx⟩ : ∃ x, relaxQ s T K t D0 = x := ⟨_, rfl⟩
            rw [hx] at rx e1 e2
            simp only at e1 e2
            obtain ⟨l, hl⟩ : ∃ l, (s.ls t).flatten.length = l := ⟨_, rfl⟩
            have HL : Hid _ := hl
            rw [hl] at e3
            have lK : ¬ (K : Int) < (l : Int) := by omega
            have rx' : Calls Tryz.prog 18 #[ptr A.B, .int .i64 t, .int .u64 D0] wr fun r w' => r = .returned (.tuple #[.agg #[.int .u64 x1, .int .i64 x2], .bool f]) ∧ Below wr.heap.size wr w' := rx
            clear rx hx qy hl
            by_cases n0 : 0 < n
            · rw [decide_eq_true n0] at e1
              subst e1
              obtain ⟨sm, ha⟩ := e2 rfl
              have SM : Aside (smal D (x1, x2) ≤ M0 + T) := sm
              have HA : Hid (hasL D x2 = true) := ha
              obtain ⟨sn, hsn⟩ : ∃ m, smal D (x1, x2) = m := ⟨_, rfl⟩
              have snl : ¬ (M0 : Int) + (T : Int) < (sn : Int) := by rw [hsn] at sm; omega
              have HSN : Hid _ := hsn
              have n1 : (0 : Int) < (n : Int) := by omega
              have n2 : decide ((0 : Int) < (n : Int)) = true := decide_eq_true n1
              clear e2 sm ha hsn
              go_wp2_with fail
              refine rx'.mono ?_
              rintro r w5 ⟨rfl, d5⟩
              obtain ⟨R, hR⟩ : ∃ R, w5.heap.size = R := ⟨_, rfl⟩
              obtain ⟨v, hv⟩ : ∃ u, w5.alloc (.cells #[.int .u64 x1, .int .i64 x2] 34) = u := ⟨_, rfl⟩
              have bv : Below wr.heap.size wr v := by rw [← hv]; exact d5.alloc d5.size _
              have vs : v.heap[R]? = some (.cells #[.int .u64 x1, .int .i64 x2] 34 (0, 0)) := by rw [← hv, ← hR]; exact heap_alloc_new w5 _
              have DV : Aside (Below w4.heap.size w4 v) := DY.out.trans (bv.mono szy)
              obtain ⟨z0, z1⟩ := ent0 vs
              have VS : Aside (v.heap[R]? = some (.cells #[.int .u64 x1, .int .i64 x2] 34 (0, 0))) := vs
              have pl := refPlace_any a4 c4 D (x1, x2) v (IL.out.below DV.out)
              rw [DL.out, HSN.out] at pl
              have HV : Hid _ := hv
              clear hv bv vs d5 rx'
              go_wp2_with fail
              rw [HV.out]
              refine pl.mono ?_
              rintro r w6 ⟨rfl, g6⟩
              have v6 := (g6.below.block R (lt_of_block VS.out)).trans VS.out
              obtain ⟨p0, p1⟩ := ent0 v6
              have D6 : Aside (Below w4.heap.size w4 w6) := DV.out.trans (g6.below.mono DV.out.size)
              have hs := has_any a4 c4 D x2 w6 (IL.out.below D6.out)
              rw [DL.out, HA.out] at hs
              clear pl g6 v6
              go_wp2_with fail
              refine hs.mono ?_
              rintro r w7 ⟨rfl, hw7⟩
              subst hw7
              have lc := qlocal_in w7 S A T K i s t l (Q4.out.below D6.out) OK.out hK hlt4 h8 HL.out
              clear hs
              go_wp2_with fail
              refine lc.mono ?_
              rintro r w8 ⟨a8, c8, rfl, o8, d8⟩
              have D8 : Aside (Below w4.heap.size w4 w8) := D6.out.trans (d8.mono D6.out.size)
              clear lc o8 d8
              go_wp2
              go_roundg (T - (t + 1))
              case measure => omega
              case rel => exact ⟨t + 1, by go_num, by omega, Nat.le_refl _, D8⟩
            · rw [decide_eq_false n0] at e1
              subst e1
              have n1 : ¬ (0 : Int) < (n : Int) := by omega
              have n2 : decide ((0 : Int) < (n : Int)) = false := decide_eq_false n1
              clear e2
              go_wp2_with fail
              refine rx'.mono ?_
              rintro r w5 ⟨rfl, d5⟩
              obtain ⟨v, hv⟩ : ∃ u, w5.alloc (.cells #[.int .u64 x1, .int .i64 x2] 34) = u := ⟨_, rfl⟩
              have bv : Below wr.heap.size wr v := by rw [← hv]; exact d5.alloc d5.size _
              have DV : Aside (Below w4.heap.size w4 v) := DY.out.trans (bv.mono szy)
              have lc := qlocal_in v S A T K i s t l (Q4.out.below DV.out) OK.out hK hlt4 h8 HL.out
              have HV : Hid _ := hv
              clear hv bv d5 rx'
              go_wp2_with fail
              rw [HV.out]
              refine lc.mono ?_
              rintro r w8 ⟨a8, c8, rfl, o8, d8⟩
              have D8 : Aside (Below w4.heap.size w4 w8) := DV.out.trans (d8.mono DV.out.size)
              clear lc o8 d8
              go_wp2
              go_roundg (T - (t + 1))
              case measure => omega
              case rel => exact ⟨t + 1, by go_num, by omega, Nat.le_refl _, D8⟩
          · have hy4 : ¬ (t : Int) < (T : Int) := by omega
            have L5 : Aside (Below S w wr) := L4.out.trans (DY.out.mono S4)
            have S5 : S ≤ wr.heap.size := Nat.le_trans S4 szy
            have aw := qawake_any wr
            clear DY
            go_wp2_with fail
            refine aw.mono ?_
            rintro r_ w9 ⟨rfl, b9⟩
            have D9 : Aside (Below S w w9) := L5.out.trans (b9.mono S5)
            clear aw b9
            go_wp2
            go_ret
            exact ⟨rfl, by first | exact D9.out | (rw [HS.out]; exact D9.out)⟩
end Go.Proofs.YtdcacbjmbfppeaaGreat

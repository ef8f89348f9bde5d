/- The walk of 'QueueDraws'. -/
import Derived.Test.YtdcacbjmbfppeaaQueueSpillsWalk
namespace Go.Proofs.Ytdcacbjmbfppeaa
open Go.RowKit Go.Lib Go.Sort
set_option linter.unusedVariables false

/-- What stands there behind i Puts that were settled. -/
def DrI (K i : Nat) (s : QSt) : Prop := ∃ (o h : List Ent), View 2 s (fun _ => []) (lset (fun _ => []) 0 o) h ∧ o.length = i % (K + 1) ∧ h.length = i - i % (K + 1) ∧ QOk K 2 (2 * i) s
theorem dr_new (K : Nat) : DrI K 0 newQ := ⟨[], [], by rw [lset_nil]; exact View.new 2, by simp, rfl, newQ_ok K 2⟩
theorem dr_put {K i : Nat} {s : QSt} (h : DrI K i s) (hK : K ≤ 16) (e : Ent) : QOk K 2 (2 * i + 1) (putQ K s 0 e) ∧ ((putQ K s 0 e).g 0).f = true ∧ DrI K (i + 1) (settleQ K (putQ K s 0 e) 0) := by
  obtain ⟨o, hh, v, lo, lh, ok⟩ := h
  have ok1 := put_ok ok (show 0 < 2 by omega) hK e
  have e0 := v.settle_no (K := K) (t := 0) (by omega) rfl
  have v1 : View 2 (settleQ K s 0) (fun _ => []) (lset (fun _ => []) 0 o) hh := by rw [e0]; exact v
  have v2 := v1.put e
  refine ⟨ok1, by rw [v2.f (by omega), lset_same]; rfl, ?_⟩
  have ok2 := settle_ok ok1 (show 0 < 2 by omega) hK
  have m := mod_step i (K + 1) (by omega)
  have lt := Nat.mod_lt i (show 0 < K + 1 by omega)
  have le := Nat.mod_le i (K + 1)
  by_cases c : i % (K + 1) + 1 < K + 1
  · have v3 := v2.settle_fit (K := K) (t := 0) (by omega) (e := e) (lset_same _ _ _) (by rw [lset_same]; omega)
    rw [lset_lset, lset_lset, lset_nil, lset_same] at v3
    have e1 := m.1 c
    exact ⟨_, _, v3, by rw [sortE_len, List.length_append]; simp; omega, by rw [lh]; omega, ok2.mono (by omega)⟩
  · have v3 := v2.settle_spill (K := K) (t := 0) (by omega) (e := e) (lset_same _ _ _) (by rw [lset_same]; omega)
    rw [lset_lset, lset_lset, lset_nil, lset_same] at v3
    have e1 := m.2 (by omega)
    exact ⟨[], _, by rw [lset_nil]; exact v3, by rw [e1]; rfl, by rw [sortE_len, List.length_append, List.length_append, lo, lh]; simp; omega, ok2.mono (by omega)⟩
theorem dr_relax {K n : Nat} {s : QSt} {h : List Ent} (v : View 2 s (fun _ => []) (fun _ => []) h) (hl : h.length = n) (hn : K + 1 ≤ n) (d : Nat) (hd : d % (K + 1) < h.length) : relaxQ s 2 K 1 d = (h[d % (K + 1)], true) := by
  have e1 : own1 s 1 = [] := by unfold own1; rw [v.ow 1 (by omega)]; rfl
  have dn : drawN K s.hs.flatten.length = K + 1 := by unfold drawN; rw [v.hlen, hl]; simp; omega
  have e2 : candL s K d = [h[d % (K + 1)]] := by
    unfold candL
    rw [dn, v.sh, List.getElem?_eq_getElem hd]
    show (if s.hs.flatten.length = 0 then [] else _) = _
    rw [if_neg (by rw [v.hlen]; omega)]
  have e3 : nearQ s K 1 d = some (1, h[d % (K + 1)]) := by unfold nearQ; rw [e1, e2]; rfl
  unfold relaxQ
  rw [e3]
  rfl

set_option maxHeartbeats 8000000 in
set_option maxRecDepth 100000 in
theorem queueDraws_walk (b c : Int) (w : World) (wb : (Lit.int .i64 b).wf = true) (wc : (Lit.int .i64 c).wf = true) :
    Calls Try.prog 5 #[.int .i64 b, .int .i64 c] w fun r w' => r = .returned (.bool true) ∧ Below w.heap.size w w' := by
  obtain ⟨S, hS⟩ : ∃ S, w.heap.size = S := ⟨_, rfl⟩
  obtain ⟨K, hK0, K15⟩ : ∃ N : Nat, bits .and .i64 b 15 = (N : Int) ∧ N < 16 := by
    have := mask_i64 b 4 15 16 (by omega) rfl rfl
    exact ⟨(b % 16).toNat, by rw [this]; omega, by omega⟩
  obtain ⟨n1, hn0, n7⟩ : ∃ N : Nat, bits .and .i64 c 7 = (N : Int) ∧ N < 8 := by
    have := mask_i64 c 3 7 8 (by omega) rfl rfl
    exact ⟨(c % 8).toNat, by rw [this]; omega, by omega⟩
  obtain ⟨n, hn⟩ : ∃ n : Nat, (n1 + 1) * (K + 1) = n := ⟨_, rfl⟩
  have n128 : n ≤ 128 := by rw [← hn]; exact Nat.mul_le_mul (show n1 + 1 ≤ 8 by omega) (show K + 1 ≤ 16 by omega)
  have nK : K + 1 ≤ n := by rw [← hn]; exact Nat.le_mul_of_pos_left _ (by omega)
  have nM : n % (K + 1) = 0 := by rw [← hn]; exact Nat.mul_mod_left _ _
  have hK : K ≤ 16 := by omega
  have w1 : IntKind.i64.wrap ((n1 : Int) + 1) = (n1 : Int) + 1 := by rw [IntKind.wrap_i64]; omega
  have w2 : IntKind.i64.wrap ((K : Int) + 1) = (K : Int) + 1 := by rw [IntKind.wrap_i64]; omega
  have en : ((n1 : Int) + 1) * ((K : Int) + 1) = (n : Int) := by
    rw [← hn]
    push_cast
    rfl
  have w3 : IntKind.i64.wrap (((n1 : Int) + 1) * ((K : Int) + 1)) = (n : Int) := by rw [en, IntKind.wrap_i64]; omega
  have nw := qnew_in 2 K w (by omega) (by omega) hK
  have HS : Hid _ := hS
  have NM : Hid _ := nM
  clear wb wc hn en nM
  go_enter Try.func5, Try.ntmps5
  go_wp2_with fail
  refine nw.mono ?_
  rintro r wA ⟨A, rfl, q1, b1⟩
  rw [hS] at q1 b1
  have I0 : Aside (∃ s, Que wA S A 2 K s ∧ DrI K 0 s) := ⟨newQ, q1, dr_new K⟩
  have B0 : Aside (Below S w wA) := b1
  clear nw q1 b1 hK0 hn0 hS w1 w3
  go_wp2_with fail
  go_loopg [7] n (fun kx s7 wr => ∃ (j : Nat), s7 = .int .i64 j ∧ 1 ≤ j ∧ j ≤ n + 1 ∧ n + 1 - j ≤ kx ∧ Aside (∃ s, Que wr S A 2 K s ∧ DrI K (j - 1) s) ∧ Aside (Below S w wr))
  case atStart => exact ⟨1, rfl, by omega, by omega, by omega, I0, B0⟩
  case round =>
    clear I0 B0
    obtain ⟨j, rfl, hj1, hj2, hkx, I, B⟩ := hrel
    obtain ⟨s, q, di⟩ := I.out
    have Sw : S ≤ wr.heap.size := by have := B.out.size; have := HS.out; omega
    by_cases hlt : j ≤ n
    · have hz : (j : Int) ≤ (n : Int) := by omega
      obtain ⟨y, hy⟩ : ∃ y : Nat, (j * 17) % 151 = y := ⟨_, rfl⟩
      have wj : IntKind.i64.wrap ((j : Int) * 17) = (j : Int) * 17 := by rw [IntKind.wrap_i64]; omega
      have rj : ((j : Int) * 17).tmod 151 = (y : Int) := by rw [Int.tmod_eq_emod_of_nonneg (by omega)]; omega
      have uy : IntKind.u64.wrap (y : Int) = (y : Int) := by rw [IntKind.wrap_u64, Int.emod_eq_of_lt (by omega) (by omega)]
      obtain ⟨d1, d2, d3⟩ := dr_put di hK ((y : Int), (j : Int))
      obtain ⟨o, hh, v, lo, lh, ok⟩ := di
      have p1 := put_in wr S A 2 K (2 * (j - 1)) s 0 y j q ok (by omega) hK (by omega) Sw
      rw [show j - 1 + 1 = j by omega] at d3
      have D1 : Aside (QOk K 2 (2 * (j - 1) + 1) (putQ K s 0 ((y : Int), (j : Int)))) := d1
      have D2 : Hid (((putQ K s 0 ((y : Int), (j : Int))).g 0).f = true) := d2
      have D3 : Aside (DrI K j (settleQ K (putQ K s 0 ((y : Int), (j : Int))) 0)) := d3
      clear ok v lo lh d1 d2 d3 q I hy
      go_wp2_with fail
      refine p1.mono ?_
      rintro r w2 ⟨rfl, q2, wt2⟩
      have B2 : Aside (Below S w w2) := B.out.trans wt2.low
      have Sw2 : S ≤ w2.heap.size := Nat.le_trans Sw wt2.size
      have st := settle_in w2 S A 2 K (2 * (j - 1) + 1) (putQ K s 0 ((y : Int), (j : Int))) 0 true q2 D1.out (by omega) hK (by omega) D2.out Sw2
      clear p1 q2 wt2
      go_wp2_with fail
      refine st.mono ?_
      rintro r w3 ⟨rfl, q3, wt3⟩
      have B3 : Aside (Below S w w3) := B2.out.trans wt3.low
      have I3 : Aside (∃ s, Que w3 S A 2 K s ∧ DrI K (j + 1 - 1) s) := ⟨_, q3, by rw [show j + 1 - 1 = j by omega]; exact D3.out⟩
      clear st q3 wt3
      go_wp2
      go_roundg (n + 1 - (j + 1))
      case measure => omega
      case rel => exact ⟨j + 1, by go_num, by omega, by omega, Nat.le_refl _, I3, B3⟩
    · have hz : ¬ (j : Int) ≤ (n : Int) := by omega
      rw [show j - 1 = n by omega] at di
      obtain ⟨o, h, v, lo, lh, ok⟩ := di
      rw [NM.out] at lo lh
      obtain rfl : o = [] := List.eq_nil_of_length_eq_zero lo
      rw [lset_nil] at v
      have shr := qshared_any wr S A 2 K (2 * n) s n q ok (by omega) (by rw [v.hlen, lh]; omega)
      rw [v.sh] at shr
      have V : Aside (View 2 s (fun _ => []) (fun _ => []) h) := v
      have OK : Aside (QOk K 2 (2 * n) s) := ok
      have Q : Aside (Que wr S A 2 K s) := q
      have hl : h.length = n := by omega
      have HL : Hid _ := hl
      clear q ok v lo lh I hl
      obtain ⟨wo, hwo⟩ : ∃ x, x = wr := ⟨_, rfl⟩
      subst hwo
      go_wp2_with fail
      refine shr.mono ?_
      rintro r w2 ⟨xa, ya, rfl, o2, d2⟩
      have Q2 : Aside (Que w2 S A 2 K s) := Q.out.below d2
      have B2 : Aside (Below S w w2) := B.out.trans (d2.mono Sw)
      have il : IsL w2 xa ya h := by rw [← HL.out] at o2; exact o2.is
      obtain ⟨g, off, ga, gl, _, _⟩ := il.elem 0 (h[0]'(by rw [HL.out]; omega)) (List.getElem?_eq_getElem _)
      subst ga
      have IL : Aside (IsL w2 (some ⟨g, off, none⟩) ya h) := il
      have lc := qlocal_in w2 S A 2 K (2 * n) s 0 0 Q2.out OK.out hK (by omega) (by omega) (by rw [V.out.len (by omega)]; rfl)
      clear shr o2 d2 il
      go_wp2_with fail
      refine lc.mono ?_
      rintro r w3 ⟨xb, yb, rfl, o3, d3⟩
      have D3 : Aside (Below w2.heap.size w2 w3) := d3
      clear lc o3 d3
      have k2 : IntKind.i64.wrap (2 * (K : Int)) = 2 * (K : Int) := by rw [IntKind.wrap_i64]; omega
      have k3 : IntKind.i64.wrap (2 * (K : Int) + 2) = 2 * (K : Int) + 2 := by rw [IntKind.wrap_i64]; omega
      go_wp2_with fail
      go_loopg [9] (2 * K + 2) (fun kx s9 wr => ∃ (d : Nat), s9 = .int .i64 d ∧ d ≤ 2 * K + 2 ∧ 2 * K + 2 - d ≤ kx ∧ Aside (Below w2.heap.size w2 wr))
      case atStart => exact ⟨0, rfl, by omega, by omega, D3⟩
      case round =>
        clear D3
        obtain ⟨d, rfl, hd, hkx2, D⟩ := hrel
        by_cases hdl : d < 2 * K + 2
        · have hz2 : (d : Int) < 2 * (K : Int) + 2 := by omega
          have ud : IntKind.u64.wrap (d : Int) = (d : Int) := by rw [IntKind.wrap_u64, Int.emod_eq_of_lt (by omega) (by omega)]
          obtain ⟨i, hi⟩ : ∃ i, d % (K + 1) = i := ⟨_, rfl⟩
          have iK : i < K + 1 := by rw [← hi]; exact Nat.mod_lt _ (by omega)
          have iL : i < h.length := by rw [HL.out]; omega
          have rx := relaxed_in wr S A 2 K (2 * n) s 1 d (Q2.out.below D.out) OK.out (by omega) hK (by omega) (by omega) (by omega)
          rw [dr_relax V.out HL.out nK d (by rw [hi]; exact iL)] at rx
          simp only [hi] at rx
          obtain ⟨x, hx⟩ : ∃ x, h[i] = x := ⟨_, rfl⟩
          obtain ⟨g', off', ga', _, gc0, gc1⟩ := IL.out.elem i h[i] (List.getElem?_eq_getElem iL)
          injection ga' with ga'
          injection ga' with ga1 ga2
          subst ga1 ga2
          rw [hx] at rx gc0 gc1
          obtain ⟨x1, x2⟩ := x
          have rx' : Calls Try.prog 16 #[ptr A.B, .int .i64 1, .int .u64 d] wr fun r w' => r = .returned (.tuple #[.agg #[.int .u64 x1, .int .i64 x2], .bool true]) ∧ Below wr.heap.size wr w' := rx
          have rm : (d : Int).tmod ((K : Int) + 1) = (i : Int) := by
            rw [show (K : Int) + 1 = ((K + 1 : Nat) : Int) by omega, Int.tmod_eq_emod_of_nonneg (by omega), ← hi, Int.natCast_emod]
          have kn : ¬ ((K : Int) + 1 = 0) := by omega
          have iN : (i : Int) < (n : Int) := by omega
          have GC : Aside (∀ W, Below w2.heap.size w2 W → W.cell? ⟨g, off + i * 2, none⟩ = some (.int .u64 x1) ∧ W.cell? ⟨g, off + i * 2 + 1, none⟩ = some (.int .i64 x2)) := fun W hW => ⟨(hW.cell (p := ⟨g, off + i * 2, none⟩) gl).trans gc0, (hW.cell (p := ⟨g, off + i * 2 + 1, none⟩) gl).trans gc1⟩
          clear rx hx hi gc0 gc1
          go_wp2_with fail
          refine rx'.mono ?_
          rintro r w4 ⟨rfl, d4⟩
          obtain ⟨R, hR⟩ : ∃ R, w4.heap.size = R := ⟨_, rfl⟩
          obtain ⟨u, hu⟩ : ∃ u, w4.alloc (.cells #[.int .u64 x1, .int .i64 x2] 29) = u := ⟨_, rfl⟩
          have bu : Below w4.heap.size w4 u := by rw [← hu]; exact (Below.refl _ _).alloc (Nat.le_refl _) _
          have us : u.heap[R]? = some (.cells #[.int .u64 x1, .int .i64 x2] 29 (0, 0)) := by rw [← hu, ← hR]; exact heap_alloc_new w4 _
          have D4 : Below w2.heap.size w2 u := (D.out.trans (d4.mono D.out.size)).trans (bu.mono (Nat.le_trans D.out.size d4.size))
          have DU : Aside (Below w2.heap.size w2 u.drew) := D4.drew
          obtain ⟨y0, y1⟩ := ent0 us
          obtain ⟨y2, y3⟩ := GC.out u D4
          have z0 : u.drew.cell? ⟨R, 0, none⟩ = some (.int .u64 x1) := y0
          have z1 : u.drew.cell? ⟨R, 1, none⟩ = some (.int .i64 x2) := y1
          have z2 : u.drew.cell? ⟨g, off + i * 2, none⟩ = some (.int .u64 x1) := y2
          have z3 : u.drew.cell? ⟨g, off + i * 2 + 1, none⟩ = some (.int .i64 x2) := y3
          have e1 := eqE (x1, x2) (x1, x2)
          have e2 := guardE
          have e3 : decide ((x1, x2) = ((x1, x2) : Ent)) = true := decide_eq_true rfl
          have HU : Hid _ := hu
          have mx := mixed
          clear hu bu us D4 d4 rx' GC
          go_wp2_with fail
          rw [HU.out]
          go_region_held3 (fun W => W.cell? ⟨R, 0, none⟩ = some (.int .u64 x1) ∧ W.cell? ⟨R, 1, none⟩ = some (.int .i64 x2) ∧ W.cell? ⟨g, off + i * 2, none⟩ = some (.int .u64 x1) ∧ W.cell? ⟨g, off + i * 2 + 1, none⟩ = some (.int .i64 x2)) (first | exact ⟨y0, y1, y2, y3⟩ | exact ⟨z0, z1, z2, z3⟩)
            (fail)
          go_wp2
          go_roundg (2 * K + 2 - (d + 1))
          case measure => omega
          case rel => exact ⟨d + 1, by go_num, by omega, Nat.le_refl _, DU⟩
        · have hz2 : ¬ (d : Int) < 2 * (K : Int) + 2 := by omega
          have so := refSorted_any (some ⟨g, off, none⟩) ya h wr (IL.out.below D.out)
          have sb : srtB h = true := (srtB_iff h).2 V.out.ssrt
          rw [HL.out, sb] at so
          have B4 : Aside (Below S w wr) := B2.out.trans (D.out.mono (by have := B2.out.size; have := HS.out; omega))
          clear sb
          go_wp2_with fail
          refine so.mono ?_
          rintro r w5 ⟨rfl, d5⟩
          have B5 : Aside (Below S w w5) := B4.out.trans (d5.below.mono (by have := B4.out.size; have := HS.out; omega))
          have aw := qawake_any w5
          clear so d5
          go_wp2_with fail
          refine aw.mono ?_
          rintro r w6 ⟨rfl, d6⟩
          have B6 : Aside (Below S w w6) := B5.out.trans (d6.mono (by have := B5.out.size; have := HS.out; omega))
          clear aw d6
          go_wp2
          go_ret
          exact ⟨rfl, by rw [HS.out]; exact B6.out⟩
end Go.Proofs.Ytdcacbjmbfppeaa

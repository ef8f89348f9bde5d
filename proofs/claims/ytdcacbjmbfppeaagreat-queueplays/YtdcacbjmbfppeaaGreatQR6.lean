/- The document's own queue: Relaxed. -/
import Derived.Test.YtdcacbjmbfppeaaGreatQR5
namespace Go.Proofs.YtdcacbjmbfppeaaGreat
open Go.RowKit Go.Lib Go.Sort
set_option linter.unusedVariables false

set_option maxHeartbeats 2000000 in
theorem rrelaxed_out (w : World) (base B SR LR T K : Nat) (r : RSt) (t dr : Int) (h : RQ w base B SR LR T K r.g r.ow r.sh) (hT : T ≤ 8) (ht : t < 0 ∨ (T : Int) ≤ t) :
    Calls Tryz.prog 12 #[ptr B, .int .i64 t, .int .u64 dr] w (EntIs w (0, 0) false) := by
  obtain ⟨S, hS⟩ : ∃ S, w.heap.size = S := ⟨_, rfl⟩
  obtain ⟨u, hu⟩ : ∃ u, w.alloc (.cells #[.int .u64 0, .int .i64 0] 34) = u := ⟨_, rfl⟩
  have bu : Below w.heap.size w u := by rw [← hu]; exact (Below.refl _ _).alloc (Nat.le_refl _) _
  have us : u.heap[S]? = some (.cells #[.int .u64 0, .int .i64 0] 34 (0, 0)) := by rw [← hu, ← hS]; exact heap_alloc_new w _
  have th := there_any u base B SR LR T K r.g r.ow r.sh t (h.below bu) hT
  have e : (decide (0 ≤ t) && decide (t < (T : Int))) = false := by
    rcases ht with ht | ht
    · rw [decide_eq_false (by omega)]; rfl
    · rw [decide_eq_false (show ¬ t < (T : Int) by omega), Bool.and_false]
  rw [e] at th
  have FB : Aside (Below w.heap.size w ((u.setCell ⟨S, 0, none⟩ (.int .u64 0)).setCell ⟨S, 1, none⟩ (.int .i64 0))) := below_box bu (by omega) _ _
  obtain ⟨y0, y1⟩ := ent0 us
  have z0 := entf us 0
  have z1 := entf us 1
  have Sl : S < u.heap.size := lt_of_block us
  obtain ⟨v0, v1⟩ := slBox us (.int .u64 0) (.int .i64 0)
  have HU : Hid _ := hu
  clear h e ht hu bu us
  go_enter Tryz.func12, Tryz.ntmps12
  go_wp2_with fail
  rw [HU.out]
  refine th.mono ?_
  rintro x w1 ⟨rfl, hw⟩
  obtain rfl : u = w1 := hw.symm
  clear th
  go_wp2_with fail
  refine bodyPost_ret (v := .tuple #[.agg #[.int .u64 0, .int .i64 0], .bool false]) (by simp [results, Tryz.results12, go_sem, v0, v1]) rfl ⟨rfl, FB.out⟩

/-- What the walk of Relaxed reads, in whatever new memory. -/
structure RlxA (w : World) (B LR T K t ns n0 : Nat) (a b : Option Addr) (cap bc : Nat) (W : World) : Prop where
  c0 : W.cell? ⟨B, 0, none⟩ = some (.int .i64 K)
  c2 : W.cell? ⟨B, 2, none⟩ = some (.slice (some ⟨LR, 0, none⟩) T T)
  c3 : W.cell? ⟨B, 3, none⟩ = some (.slice a ns cap)
  o0 : W.cell? ⟨LR, t, none⟩ = some (.slice b n0 bc)
set_option maxHeartbeats 8000000 in
set_option maxRecDepth 100000 in
theorem rrelaxed_in (w : World) (base B SR LR T K : Nat) (r : RSt) (t dr : Nat) (h : RQ w base B SR LR T K r.g r.ow r.sh) (hT : T ≤ 8) (ht : t < T) (hK : K ≤ 16) (hdr : dr < 18446744073709551616) (ho : ∀ i, i < T → (r.ow i).length ≤ 1000) (hs : r.sh.length ≤ 5000) :
    Calls Tryz.prog 12 #[ptr B, .int .i64 t, .int .u64 dr] w (EntIs w (rRelax r T K t dr).1 (rRelax r T K t dr).2) := by
  obtain ⟨S, hS⟩ : ∃ S, w.heap.size = S := ⟨_, rfl⟩
  obtain ⟨u, hu⟩ : ∃ u, w.alloc (.cells #[.int .u64 0, .int .i64 0] 34) = u := ⟨_, rfl⟩
  have bu : Below w.heap.size w u := by rw [← hu]; exact (Below.refl _ _).alloc (Nat.le_refl _) _
  have us : u.heap[S]? = some (.cells #[.int .u64 0, .int .i64 0] 34 (0, 0)) := by rw [← hu, ← hS]; exact heap_alloc_new w _
  have th := there_any u base B SR LR T K r.g r.ow r.sh t (h.below bu) hT
  have e : (decide (0 ≤ (t : Int)) && decide ((t : Int) < (T : Int))) = true := by rw [decide_eq_true (by omega), decide_eq_true (by omega)]; rfl
  rw [e] at th
  have H : Aside (RQ w base B SR LR T K r.g r.ow r.sh) := h
  obtain ⟨a, cap, c0, c1, c2, c3, il⟩ := h.cells
  obtain ⟨b, bc, o0, io⟩ := h.own ht
  obtain ⟨ns, hns⟩ : ∃ n, r.sh.length = n := ⟨_, rfl⟩
  obtain ⟨n0, hn0⟩ : ∃ n, (r.ow t).length = n := ⟨_, rfl⟩
  rw [hns] at c3 hs
  rw [hn0] at o0
  have HNS : Hid _ := hns
  have HN0 : Hid _ := hn0
  have IL : Aside (IsL w a cap r.sh) := il
  have IOw : Aside (IsL w b bc (r.ow t)) := io
  have KC : Aside (∀ W, Below w.heap.size w W → W.cell? ⟨B, 0, none⟩ = some (.int .i64 K) ∧ W.cell? ⟨B, 2, none⟩ = some (.slice (some ⟨LR, 0, none⟩) T T) ∧ W.cell? ⟨B, 3, none⟩ = some (.slice a ns cap) ∧ W.cell? ⟨LR, t, none⟩ = some (.slice b n0 bc)) := fun W hW => ⟨(hW.cell (p := ⟨B, 0, none⟩) h.lt.1).trans c0, (hW.cell (p := ⟨B, 2, none⟩) h.lt.1).trans c2, (hW.cell (p := ⟨B, 3, none⟩) h.lt.1).trans c3, (hW.cell (p := ⟨LR, t, none⟩) h.lt.2.2).trans o0⟩
  obtain ⟨N, hN⟩ : ∃ N, min (K + 1) ns = N := ⟨_, rfl⟩
  have hmin : min ((K : Int) + 1) (ns : Int) = (N : Int) := by omega
  have kw : IntKind.i64.wrap ((K : Int) + 1) = (K : Int) + 1 := by rw [IntKind.wrap_i64]; omega
  have tz : (t : Int) < (T : Int) := by omega
  have US : Aside (u.heap[S]? = some (.cells #[.int .u64 0, .int .i64 0] 34 (0, 0))) := us
  have BU : Aside (Below w.heap.size w u) := bu
  have HU : Hid _ := hu
  have hb0 : Below w.heap.size w u := bu
  have hb1 : Below w.heap.size w u.drew := bu.drew
  have mx := mixed
  obtain ⟨d0, d2, d3, d4⟩ := KC.out _ hb1
  clear h e hu bu us c0 c1 c2 c3 o0 il io hns hn0
  go_enter Tryz.func12, Tryz.ntmps12
  go_wp2_with fail
  rw [HU.out]
  refine th.mono ?_
  rintro x w1 ⟨rfl, hw⟩
  obtain rfl : u = w1 := hw.symm
  clear th
  go_wp2_with fail
  go_region_held3 (fun W => W.cell? ⟨B, 0, none⟩ = some (.int .i64 K) ∧ W.cell? ⟨B, 2, none⟩ = some (.slice (some ⟨LR, 0, none⟩) T T) ∧ W.cell? ⟨B, 3, none⟩ = some (.slice a ns cap) ∧ W.cell? ⟨LR, t, none⟩ = some (.slice b n0 bc)) (first | with_reducible exact KC.out _ hb0 | with_reducible exact KC.out _ hb1)
    (fail)
  clear hmin kw
  have ub : Below u.heap.size u u.drew := (Below.refl _ _).drew
  by_cases hN0 : 0 < N
  · have p1 : (0 : Int) < (N : Int) := by omega
    have p2 : decide ((0 : Int) < (N : Int)) = true := decide_eq_true p1
    have p3 : ¬ N = 0 := by omega
    have nN : N ≤ ns := by omega
    obtain ⟨j, hj⟩ : ∃ j, dr % N = j := ⟨_, rfl⟩
    have jN : j < N := by rw [← hj]; exact Nat.mod_lt _ hN0
    have uN : IntKind.u64.wrap (N : Int) = (N : Int) := by rw [IntKind.wrap_u64, Int.emod_eq_of_lt (by omega) (by omega)]
    have rm : (dr : Int).tmod (N : Int) = (j : Int) := by rw [Int.tmod_eq_emod_of_nonneg (by omega), ← hj, Int.natCast_emod]
    have wj : IntKind.i64.wrap (j : Int) = (j : Int) := by rw [IntKind.wrap_i64]; omega
    have jl : (j : Int) < (ns : Int) := by omega
    have jS : j < r.sh.length := by rw [HNS.out]; omega
    obtain ⟨gA, offA, ga, gl, e0, e1⟩ := IL.out.elem j r.sh[j] (List.getElem?_eq_getElem jS)
    subst ga
    obtain ⟨⟨x1, x2⟩, hx⟩ : ∃ x, r.sh[j] = x := ⟨_, rfl⟩
    rw [hx] at e0 e1
    have rd : rDraw r K dr = (x1, x2) := by
      unfold rDraw
      rw [HNS.out, hN, hj, List.getD_eq_getElem?_getD, List.getElem?_eq_getElem jS, hx]; rfl
    have RD : Hid _ := rd
    have KE : Aside (∀ W, Below w.heap.size w W → W.cell? ⟨B, 3, none⟩ = some (.slice (some ⟨gA, offA, none⟩) ns cap) ∧ W.cell? ⟨gA, offA + j * 2, none⟩ = some (.int .u64 x1) ∧ W.cell? ⟨gA, offA + j * 2 + 1, none⟩ = some (.int .i64 x2)) := fun W hW => ⟨(KC.out W hW).2.2.1, (hW.cell (p := ⟨gA, offA + j * 2, none⟩) gl).trans e0, (hW.cell (p := ⟨gA, offA + j * 2 + 1, none⟩) gl).trans e1⟩
    have HNN : Hid (0 < min (K + 1) r.sh.length) := by show 0 < _; rw [HNS.out, hN]; exact hN0
    have hb2 : Below w.heap.size w u.drew.drew := hb1.drew
    clear hj rd hx e0 e1
    by_cases hn0 : 0 < n0
    · have p4 : (0 : Int) < (n0 : Int) := by omega
      have p5 : decide ((0 : Int) < (n0 : Int)) = true := decide_eq_true p4
      have nO : 0 < (r.ow t).length := by rw [HN0.out]; exact hn0
      obtain ⟨gO, offO, ga, go, e0, e1⟩ := IOw.out.elem 0 (r.ow t)[0] (List.getElem?_eq_getElem nO)
      subst ga
      obtain ⟨⟨y1, y2⟩, hx⟩ : ∃ x, (r.ow t)[0] = x := ⟨_, rfl⟩
      rw [hx] at e0 e1
      simp only [Nat.zero_mul, Nat.add_zero] at e0 e1
      have hd : headO (r.ow t) = ((y1, y2), true) := by
        cases hc : r.ow t with
        | nil => rw [hc] at nO; simp at nO
        | cons y d => simp only [hc] at hx; simp at hx; rw [hx]; rfl
      have rr : rRelax r T K t dr = (if ltE (y1, y2) (x1, x2) then (y1, y2) else (x1, x2), true) := by unfold rRelax; rw [if_pos HNN.out, if_pos nO, hd, RD.out]
      have RR0 : Hid _ := rr
      have KO : Aside (∀ W, Below w.heap.size w W → W.cell? ⟨gO, offO, none⟩ = some (.int .u64 y1) ∧ W.cell? ⟨gO, offO + 1, none⟩ = some (.int .i64 y2)) := fun W hW => ⟨(hW.cell (p := ⟨gO, offO, none⟩) go).trans e0, (hW.cell (p := ⟨gO, offO + 1, none⟩) go).trans e1⟩
      obtain ⟨R, hR⟩ : ∃ R, u.heap.size = R := ⟨_, rfl⟩
      have hb3 : Below w.heap.size w (u.alloc (.cells #[.int .u64 0, .int .i64 0] 34)).drew.drew := (hb0.alloc hb0.size _).drew.drew
      have hb4 : Below w.heap.size w (u.alloc (.cells #[.int .u64 x1, .int .i64 x2] 34)).drew.drew := (hb0.alloc hb0.size _).drew.drew
      clear rr hd hx e0 e1
      go_wp2_with fail
      go_region_held3 (fun W => W.cell? ⟨B, 3, none⟩ = some (.slice (some ⟨gA, offA, none⟩) ns cap) ∧ W.cell? ⟨gA, offA + j * 2, none⟩ = some (.int .u64 x1) ∧ W.cell? ⟨gA, offA + j * 2 + 1, none⟩ = some (.int .i64 x2)) (first | with_reducible exact KE.out _ hb1 | with_reducible exact KE.out _ hb2 | with_reducible exact KE.out _ hb3 | with_reducible exact KE.out _ hb4)
        (fail)
      obtain ⟨u2, hu2⟩ : ∃ x, (u.alloc (.cells #[.int .u64 x1, .int .i64 x2] 34)).drew.drew = x := ⟨_, rfl⟩
      have us2 : u2.heap[R]? = some (.cells #[.int .u64 x1, .int .i64 x2] 34 (0, 0)) := by rw [← hu2, ← hR]; exact heap_alloc_new u _
      have ss2 : u2.heap[S]? = some (.cells #[.int .u64 0, .int .i64 0] 34 (0, 0)) := by
        have : Below u.heap.size u u2 := by rw [← hu2]; exact ((Below.refl _ _).alloc (Nat.le_refl _) _).drew.drew
        exact (this.block S (lt_of_block US.out)).trans US.out
      rw [hu2] at hb4
      rw [hu2]
      have US2 : Aside (u2.heap[R]? = some (.cells #[.int .u64 x1, .int .i64 x2] 34 (0, 0))) := us2
      have SS2 : Aside (u2.heap[S]? = some (.cells #[.int .u64 0, .int .i64 0] 34 (0, 0))) := ss2
      have B4 : Aside (Below w.heap.size w u2) := hb4
      have SR' : S < R := by rw [← hR]; exact lt_of_block US.out
      have KF : Aside (∀ W, Below u2.heap.size u2 W → W.cell? ⟨gO, offO, none⟩ = some (.int .u64 y1) ∧ W.cell? ⟨gO, offO + 1, none⟩ = some (.int .i64 y2) ∧ W.cell? ⟨R, 0, none⟩ = some (.int .u64 x1) ∧ W.cell? ⟨R, 1, none⟩ = some (.int .i64 x2)) := fun W hW => by
        have k1 := KO.out W (B4.out.trans (hW.mono B4.out.size))
        have k2 := ent0 ((hW.block R (lt_of_block US2.out)).trans US2.out)
        exact ⟨k1.1, k1.2, k2.1, k2.2⟩
      have x0 : Below u2.heap.size u2 u2 := Below.refl _ _
      have x1' : Below u2.heap.size u2 u2.drew := x0.drew
      have le := refLess_any (y1, y2) (x1, x2) u2.drew
      obtain ⟨F, hF⟩ : ∃ f, ltE (y1, y2) (x1, x2) = f := ⟨_, rfl⟩
      rw [hF] at le
      have HF : Hid _ := hF
      have LE : Aside (Calls Tryz.prog 40 #[.agg #[.int .u64 y1, .int .i64 y2], .agg #[.int .u64 x1, .int .i64 x2]] u2.drew fun e w' => e = .returned (.bool F) ∧ Grown u2.drew w') := le
      clear hb3 hb4 us2 ss2 hu2 le hF hb0 hb1 hb2 ub hR KE KC d0 d2 d3 d4
      go_wp2_with fail
      go_region_held3 (fun W => W.cell? ⟨gO, offO, none⟩ = some (.int .u64 y1) ∧ W.cell? ⟨gO, offO + 1, none⟩ = some (.int .i64 y2) ∧ W.cell? ⟨R, 0, none⟩ = some (.int .u64 x1) ∧ W.cell? ⟨R, 1, none⟩ = some (.int .i64 x2)) (first | with_reducible exact KF.out _ x0 | with_reducible exact KF.out _ x1' | with_reducible exact KF.out _ x2')
        ((go_at_call 40; (with_reducible refine Calls.mono LE.out ?_); rintro r_ w5 ⟨rfl, g5⟩; have x2' : Below u2.heap.size u2 w5 := x1'.trans (g5.below.mono x1'.size)))
      have s5 := (x2'.block S (lt_of_block SS2.out)).trans SS2.out
      have r5 := (x2'.block R (lt_of_block US2.out)).trans US2.out
      have B5 : Below w.heap.size w w5 := B4.out.trans (x2'.mono B4.out.size)
      obtain ⟨k0, k1, k2, k3⟩ := KF.out _ x2'
      cases F with
      | false =>
        have RR : Hid (rRelax r T K t dr = ((x1, x2), true)) := by show _ = _; rw [RR0.out, HF.out]; rfl
        obtain ⟨yy0, yy1⟩ := ent0 s5
        have zz0 := entf s5 0
        have zz1 := entf s5 1
        have Su : S < w5.heap.size := lt_of_block s5
        obtain ⟨v0, v1⟩ := slBox s5 (.int .u64 x1) (.int .i64 x2)
        have FBA : Aside (Below w.heap.size w ((w5.setCell ⟨S, 0, none⟩ (.int .u64 x1)).setCell ⟨S, 1, none⟩ (.int .i64 x2))) := below_box B5 (by omega) _ _
        clear s5 r5 B5 x0 x1' x2' g5
        go_wp2_with fail
        refine bodyPost_ret (v := .tuple #[.agg #[.int .u64 x1, .int .i64 x2], .bool true]) (by simp [results, Tryz.results12, go_sem, v0, v1]) rfl ⟨by rw [RR.out], FBA.out⟩
      | true =>
        have RR : Hid (rRelax r T K t dr = ((y1, y2), true)) := by show _ = _; rw [RR0.out, HF.out]; rfl
        have zr0 := entf r5 0
        have zr1 := entf r5 1
        have Rl : R < w5.heap.size := lt_of_block r5
        have r6 := entSet2 r5 (.int .u64 y1) (.int .i64 y2)
        have B6 : Below w.heap.size w ((w5.setCell ⟨R, 0, none⟩ (.int .u64 y1)).setCell ⟨R, 1, none⟩ (.int .i64 y2)) := below_box B5 (by omega) _ _
        have s6 : ((w5.setCell ⟨R, 0, none⟩ (.int .u64 y1)).setCell ⟨R, 1, none⟩ (.int .i64 y2)).heap[S]? = some (.cells #[.int .u64 0, .int .i64 0] 34 (0, 0)) := by
          have e : ¬ R = S := by omega
          simp [World.setCell, Array.getElem?_modify, e, s5]
        obtain ⟨w6, hw6⟩ : ∃ x, (w5.setCell ⟨R, 0, none⟩ (.int .u64 y1)).setCell ⟨R, 1, none⟩ (.int .i64 y2) = x := ⟨_, rfl⟩
        rw [hw6] at r6 B6 s6
        obtain ⟨q0, q1⟩ := ent0 r6
        obtain ⟨yy0, yy1⟩ := ent0 s6
        have zz0 := entf s6 0
        have zz1 := entf s6 1
        have Su : S < w6.heap.size := lt_of_block s6
        obtain ⟨v0, v1⟩ := slBox s6 (.int .u64 y1) (.int .i64 y2)
        have FBA : Aside (Below w.heap.size w ((w6.setCell ⟨S, 0, none⟩ (.int .u64 y1)).setCell ⟨S, 1, none⟩ (.int .i64 y2))) := below_box B6 (by omega) _ _
        have HW6 : Hid _ := hw6
        clear s5 r5 B5 x0 x1' x2' g5 s6 B6 hw6
        go_upto_region 9 with fail
        rw [HW6.out]
        go_wp2_with fail
        refine bodyPost_ret (v := .tuple #[.agg #[.int .u64 y1, .int .i64 y2], .bool true]) (by simp [results, Tryz.results12, go_sem, v0, v1]) rfl ⟨by rw [RR.out], FBA.out⟩
    · have p4 : ¬ (0 : Int) < (n0 : Int) := by omega
      have p5 : decide ((0 : Int) < (n0 : Int)) = false := decide_eq_false p4
      have rr : rRelax r T K t dr = ((x1, x2), true) := by unfold rRelax; rw [if_pos HNN.out, HN0.out, if_neg hn0, RD.out]
      have RR : Hid _ := rr
      obtain ⟨yy0, yy1⟩ := ent0 US.out
      have zz0 := entf US.out 0
      have zz1 := entf US.out 1
      have Su : S < u.heap.size := lt_of_block US.out
      obtain ⟨v0, v1⟩ := slBox US.out (.int .u64 x1) (.int .i64 x2)
      have FB : Below w.heap.size w ((u.setCell ⟨S, 0, none⟩ (.int .u64 x1)).setCell ⟨S, 1, none⟩ (.int .i64 x2)).drew.drew := (below_box BU.out (by omega) _ _).drew.drew
      have FBA : Aside _ := FB
      clear rr
      go_wp2_with fail
      go_region_held3 (fun W => W.cell? ⟨B, 3, none⟩ = some (.slice (some ⟨gA, offA, none⟩) ns cap) ∧ W.cell? ⟨gA, offA + j * 2, none⟩ = some (.int .u64 x1) ∧ W.cell? ⟨gA, offA + j * 2 + 1, none⟩ = some (.int .i64 x2)) (first | with_reducible exact KE.out _ hb1 | with_reducible exact KE.out _ hb2 | with_reducible exact KE.out _ FB)
        (fail)
      clear FB
      go_wp2_with fail
      refine bodyPost_ret (v := .tuple #[.agg #[.int .u64 x1, .int .i64 x2], .bool true]) (by simp [results, Tryz.results12, go_sem, v0, v1]) rfl ⟨by rw [RR.out], FBA.out⟩
  · have p1 : ¬ (0 : Int) < (N : Int) := by omega
    have p2 : decide ((0 : Int) < (N : Int)) = false := decide_eq_false p1
    have HNN : Hid (¬ 0 < min (K + 1) r.sh.length) := by show ¬ 0 < _; rw [HNS.out, hN]; exact hN0
    by_cases hn0 : 0 < n0
    · have p4 : (0 : Int) < (n0 : Int) := by omega
      have p5 : decide ((0 : Int) < (n0 : Int)) = true := decide_eq_true p4
      have nO : 0 < (r.ow t).length := by rw [HN0.out]; exact hn0
      obtain ⟨gO, offO, ga, gl, e0, e1⟩ := IOw.out.elem 0 (r.ow t)[0] (List.getElem?_eq_getElem nO)
      subst ga
      obtain ⟨⟨x1, x2⟩, hx⟩ : ∃ x, (r.ow t)[0] = x := ⟨_, rfl⟩
      rw [hx] at e0 e1
      simp only [Nat.zero_mul, Nat.add_zero] at e0 e1
      have hd : headO (r.ow t) = ((x1, x2), true) := by
        cases hc : r.ow t with
        | nil => rw [hc] at nO; simp at nO
        | cons y d => simp only [hc] at hx; simp at hx; rw [hx]; rfl
      have rr : rRelax r T K t dr = ((x1, x2), true) := by unfold rRelax; rw [if_neg HNN.out, if_pos nO, hd]
      have RR : Hid _ := rr
      have f0 := (hb1.cell (p := ⟨gO, offO, none⟩) gl).trans e0
      have f1 := (hb1.cell (p := ⟨gO, offO + 1, none⟩) gl).trans e1
      obtain ⟨yy0, yy1⟩ := ent0 US.out
      have zz0 := entf US.out 0
      have zz1 := entf US.out 1
      have Su : S < u.heap.size := lt_of_block US.out
      obtain ⟨v0, v1⟩ := slBox US.out (.int .u64 x1) (.int .i64 x2)
      have FB : Below w.heap.size w ((u.setCell ⟨S, 0, none⟩ (.int .u64 x1)).setCell ⟨S, 1, none⟩ (.int .i64 x2)).drew := (below_box BU.out (by omega) _ _).drew
      have FBA : Aside _ := FB
      clear rr hd hx e0 e1 FB
      go_wp2_with fail
      refine bodyPost_ret (v := .tuple #[.agg #[.int .u64 x1, .int .i64 x2], .bool true]) (by simp [results, Tryz.results12, go_sem, v0, v1]) rfl ⟨by rw [RR.out], FBA.out⟩
    · have p4 : ¬ (0 : Int) < (n0 : Int) := by omega
      have p5 : decide ((0 : Int) < (n0 : Int)) = false := decide_eq_false p4
      have rf : rRelax r T K t dr = rFar r T t := by unfold rRelax; rw [if_neg HNN.out, HN0.out, if_neg hn0]
      have RF : Hid _ := rf
      have T0 : ¬ T = 0 := by omega
      have UB : Aside (Below u.heap.size u u.drew) := ub
      clear rf
      go_wp2_with fail
      go_loopg [11, 12] T (fun kx s11 s12 wr => ∃ (i : Nat), s11 = .int .i64 i ∧ 1 ≤ i ∧ i ≤ T ∧ T - i ≤ kx ∧ Aside (∀ j, j + 1 < i → decide (0 < (r.ow ((t + 1 + j) % T)).length) = false) ∧ Aside (Below u.heap.size u wr))
      case atStart => exact ⟨1, rfl, by omega, by omega, by omega, fun j hj => by omega, UB⟩
      case round =>
        obtain ⟨i, rfl, hi1, hi, hkx, NO, D⟩ := hrel
        have bw : Below w.heap.size w wr := BU.out.trans (D.out.mono BU.out.size)
        obtain ⟨_, k2, _, _⟩ := KC.out _ bw
        by_cases hlt : i < T
        · have hz : (i : Int) < (T : Int) := by omega
          obtain ⟨k, hk⟩ : ∃ k, (t + i) % T = k := ⟨_, rfl⟩
          have kT : k < T := by rw [← hk]; exact Nat.mod_lt _ (by omega)
          have kz : (k : Int) < (T : Int) := by omega
          have wti : IntKind.i64.wrap ((t : Int) + (i : Int)) = (t : Int) + (i : Int) := by rw [IntKind.wrap_i64]; omega
          have rmk : ((t : Int) + (i : Int)).tmod (T : Int) = (k : Int) := by rw [show (t : Int) + (i : Int) = ((t + i : Nat) : Int) by omega, Int.tmod_eq_emod_of_nonneg (by omega), ← hk, Int.natCast_emod]
          have hk1 : (t + 1 + (i - 1)) % T = k := by rw [show t + 1 + (i - 1) = t + i by omega]; exact hk
          obtain ⟨b3, bc3, q0, iq⟩ := (H.out.below bw).own kT
          obtain ⟨n3, hn3⟩ : ∃ n, (r.ow k).length = n := ⟨_, rfl⟩
          rw [hn3] at q0
          have HN3 : Hid _ := hn3
          have IQ : Aside (IsL wr b3 bc3 (r.ow k)) := iq
          have g0 : wr.cell? ⟨B, 2, none⟩ = some (.slice (some ⟨LR, 0, none⟩) T T) ∧ wr.cell? ⟨LR, k, none⟩ = some (.slice b3 n3 bc3) := ⟨k2, q0⟩
          have g1 : wr.drew.cell? ⟨B, 2, none⟩ = some (.slice (some ⟨LR, 0, none⟩) T T) ∧ wr.drew.cell? ⟨LR, k, none⟩ = some (.slice b3 n3 bc3) := ⟨k2, q0⟩
          have HK1 : Hid _ := hk1
          have D1 : Aside (Below u.heap.size u wr.drew) := D.out.drew
          clear hk hk1 iq hn3
          go_wp2_with fail
          go_region_held3 (fun W => W.cell? ⟨B, 2, none⟩ = some (.slice (some ⟨LR, 0, none⟩) T T) ∧ W.cell? ⟨LR, k, none⟩ = some (.slice b3 n3 bc3)) (first | with_reducible exact g0 | with_reducible exact g1)
            (fail)
          clear g0 g1 q0 wti rmk k2
          by_cases hn3 : 0 < n3
          · have m4 : (0 : Int) < (n3 : Int) := by omega
            have nO : 0 < (r.ow k).length := by rw [HN3.out]; exact hn3
            obtain ⟨gO, offO, ga, gl, e0, e1⟩ := IQ.out.elem 0 (r.ow k)[0] (List.getElem?_eq_getElem nO)
            subst ga
            obtain ⟨⟨x1, x2⟩, hx⟩ : ∃ x, (r.ow k)[0] = x := ⟨_, rfl⟩
            rw [hx] at e0 e1
            simp only [Nat.zero_mul, Nat.add_zero] at e0 e1
            have hd : headO (r.ow k) = ((x1, x2), true) := by
              cases hc : r.ow k with
              | nil => rw [hc] at nO; simp at nO
              | cons y d => simp only [hc] at hx; simp at hx; rw [hx]; rfl
            have rr : rRelax r T K t dr = ((x1, x2), true) := by
              rw [RF.out]
              unfold rFar
              rw [find_range (p := fun i => decide (0 < (r.ow ((t + 1 + i) % T)).length)) (show i - 1 < T - 1 by omega) (by show decide _ = true; rw [HK1.out]; exact decide_eq_true nO) (fun j hj => NO.out j (by omega))]
              show headO (r.ow ((t + 1 + (i - 1)) % T)) = _
              rw [HK1.out, hd]
            have RR : Hid _ := rr
            have f0 : wr.drew.cell? ⟨gO, offO, none⟩ = some (.int .u64 x1) := e0
            have f1 : wr.drew.cell? ⟨gO, offO + 1, none⟩ = some (.int .i64 x2) := e1
            have s9 := (D.out.block S (lt_of_block US.out)).trans US.out
            obtain ⟨yy0, yy1⟩ := ent0 s9
            have zz0 := entf s9 0
            have zz1 := entf s9 1
            have Su : S < wr.heap.size := lt_of_block s9
            obtain ⟨v0, v1⟩ := slBox s9 (.int .u64 x1) (.int .i64 x2)
            have FBA : Aside (Below w.heap.size w ((wr.setCell ⟨S, 0, none⟩ (.int .u64 x1)).setCell ⟨S, 1, none⟩ (.int .i64 x2)).drew) := (below_box (BU.out.trans (D.out.mono BU.out.size)) (by omega) _ _).drew
            clear rr hd hx e0 e1 s9
            go_wp2_with fail
            refine bodyPost_ret (v := .tuple #[.agg #[.int .u64 x1, .int .i64 x2], .bool true]) (by simp [results, Tryz.results12, go_sem, v0, v1]) rfl ⟨by rw [RR.out], FBA.out⟩
          · have m4 : ¬ (0 : Int) < (n3 : Int) := by omega
            have N2 : Aside (∀ j, j + 1 < i + 1 → decide (0 < (r.ow ((t + 1 + j) % T)).length) = false) := fun j hj => by
              by_cases c : j + 1 < i
              · exact NO.out j c
              · rw [show j = i - 1 by omega, HK1.out, HN3.out]
                exact decide_eq_false hn3
            go_wp2
            go_roundg (T - (i + 1))
            case measure => omega
            case rel => exact ⟨i + 1, by go_num, by omega, by omega, Nat.le_refl _, N2, D1⟩
        · have hz : ¬ (i : Int) < (T : Int) := by omega
          have rr0 : rFar r T t = headO (sortE (rsAll r.g T)) := by
            unfold rFar
            rw [find_range_none (p := fun i => decide (0 < (r.ow ((t + 1 + i) % T)).length)) (fun j hj => NO.out j (by omega))]
          obtain ⟨m, hm⟩ : ∃ m, (rsAll r.g T).length = m := ⟨_, rfl⟩
          have ml := rsAll_len r.g T
          have sl := rslots_any wr base B SR LR T K r.g r.ow r.sh m (H.out.below bw) hT hm
          obtain ⟨E, hE⟩ : ∃ E, sortE (rsAll r.g T) = E := ⟨_, rfl⟩
          have el : E.length = m := by rw [← hE, sortE_len]; exact hm
          rw [hE] at rr0
          have RR0 : Hid (rFar r T t = headO E) := rr0
          have HM : Hid _ := hm
          have HE : Hid _ := hE
          have EL : Hid _ := el
          rw [hm] at ml
          clear rr0 hm hE el
          go_wp2_with fail
          refine sl.mono ?_
          rintro x w5 ⟨a5, c5, rfl, o5, d5⟩
          have i5 : IsL w5 a5 c5 (rsAll r.g T) := by rw [← HM.out] at o5; exact o5.is
          have so := refSort_made a5 c5 (rsAll r.g T) w5 i5 (by rw [HM.out]; omega)
          rw [HM.out, HE.out] at so
          have D5 : Aside (Below u.heap.size u w5) := D.out.trans (d5.mono D.out.size)
          clear sl o5 d5 i5
          go_wp2_with fail
          refine so.mono ?_
          rintro x w6 ⟨a6, c6, rfl, o6, d6⟩
          have D6 : Aside (Below u.heap.size u w6) := D5.out.trans (d6.mono D5.out.size)
          have i6 := o6.is
          rw [EL.out]
          clear so o6 d6
          cases E with
          | nil =>
            obtain rfl : m = 0 := by have := EL.out; simpa using this.symm
            have RR : Hid (rRelax r T K t dr = (((0 : Int), (0 : Int)), false)) := by show _ = _; rw [RF.out, RR0.out]; rfl
            have s9 := (D6.out.block S (lt_of_block US.out)).trans US.out
            obtain ⟨yy0, yy1⟩ := ent0 s9
            have zz0 := entf s9 0
            have zz1 := entf s9 1
            have Su : S < w6.heap.size := lt_of_block s9
            obtain ⟨v0, v1⟩ := slBox s9 (.int .u64 0) (.int .i64 0)
            have FBA : Aside (Below w.heap.size w ((w6.setCell ⟨S, 0, none⟩ (.int .u64 0)).setCell ⟨S, 1, none⟩ (.int .i64 0))) := (below_box (BU.out.trans (D6.out.mono BU.out.size)) (by omega) _ _)
            clear s9 i6
            go_wp2_with fail
            refine bodyPost_ret (v := .tuple #[.agg #[.int .u64 0, .int .i64 0], .bool false]) (by simp [results, Tryz.results12, go_sem, v0, v1]) rfl ⟨by rw [RR.out], FBA.out⟩
          | cons y d =>
            obtain ⟨x1, x2⟩ := y
            have mz : ¬ (m : Int) = 0 := by have := EL.out; simp at this; omega
            have mp : (0 : Int) < (m : Int) := by have := EL.out; simp at this; omega
            have mn : ¬ m = 0 := by omega
            obtain ⟨gO, offO, ga, gl, e0, e1⟩ := i6.elem 0 (x1, x2) rfl
            subst ga
            simp only [Nat.zero_mul, Nat.add_zero] at e0 e1
            have RR : Hid (rRelax r T K t dr = ((x1, x2), true)) := by show _ = _; rw [RF.out, RR0.out]; rfl
            have s9 := (D6.out.block S (lt_of_block US.out)).trans US.out
            obtain ⟨yy0, yy1⟩ := ent0 s9
            have zz0 := entf s9 0
            have zz1 := entf s9 1
            have Su : S < w6.heap.size := lt_of_block s9
            obtain ⟨v0, v1⟩ := slBox s9 (.int .u64 x1) (.int .i64 x2)
            have FBA : Aside (Below w.heap.size w ((w6.setCell ⟨S, 0, none⟩ (.int .u64 x1)).setCell ⟨S, 1, none⟩ (.int .i64 x2))) := (below_box (BU.out.trans (D6.out.mono BU.out.size)) (by omega) _ _)
            clear s9 i6
            go_wp2_with fail
            refine bodyPost_ret (v := .tuple #[.agg #[.int .u64 x1, .int .i64 x2], .bool true]) (by simp [results, Tryz.results12, go_sem, v0, v1]) rfl ⟨by rw [RR.out], FBA.out⟩
end Go.Proofs.YtdcacbjmbfppeaaGreat

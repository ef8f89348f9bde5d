/- queue: Settle, Put. -/
import Derived.Test.YtdcacbjmbfppeaaGreatQP
namespace Go.Proofs.YtdcacbjmbfppeaaGreat
open Go.RowKit Go.Lib Go.Sort
set_option linter.unusedVariables false

set_option maxHeartbeats 2000000 in
set_option maxRecDepth 100000 in
theorem settle_no (w : World) (base : Nat) (A : QAd) (T K : Nat) (s : QSt) (t : Nat) (h : Que w base A T K s) (ht : t < T) (hf : (s.g t).f = false) :
    Calls Tryz.prog 10 #[ptr A.B, .int .i64 t] w fun r w' => r = .returned (.bool false) ∧ Below w.heap.size w w' := by
  obtain ⟨ra, sa, h⟩ := h
  obtain ⟨c0, c1, c2, c3, c4⟩ := h.fix.cells
  obtain ⟨k, d, v, e'⟩ : ∃ k d v, s.g t = ⟨(k, d), v, false⟩ := ⟨_, _, _, by rw [← hf]⟩
  have gt := slGet_in w A.SB A.SR T s.g t k d v false h.slt ht e'
  have H : Aside (QueA w base A T K s ra sa) := h
  have HF : Hid _ := hf
  clear h c0 c2 c3 c4 e' hf
  go_enter Tryz.func10, Tryz.ntmps10
  go_wp2_with fail
  refine gt.mono ?_
  rintro r w1 ⟨rfl, b1⟩
  have h1 := H.out.below b1
  obtain ⟨_, d1, _, _, _⟩ := h1.fix.cells
  have bl := h1.fix.blt
  obtain ⟨u, hu⟩ : ∃ u, w1.alloc (.cells #[.int .u64 k, .int .i64 d] 34) = u := ⟨_, rfl⟩
  have bu : Below w1.heap.size w1 u := by rw [← hu]; exact (Below.refl _ _).alloc (Nat.le_refl _) _
  have tk := slTake_no u A.SB A.SR T s.g t v (h1.below bu).slt ht (.inl HF.out)
  have BU : Aside (Below w.heap.size w u) := b1.trans (bu.mono b1.size)
  have HU : Hid _ := hu
  clear hu bu b1 h1 gt c1
  go_wp2_with fail
  rw [HU.out]
  refine tk.mono ?_
  rintro r w2 ⟨rfl, b2⟩
  have B2 : Aside (Below w.heap.size w w2) := BU.out.trans (b2.mono BU.out.size)
  clear b2 tk d1 bl
  go_wp2
  go_ret
  exact ⟨rfl, B2.out.alloc B2.out.size _⟩

/-- What Settle leaves where there is one. -/
def SettleIs (w : World) (base : Nat) (A : QAd) (T K : Nat) (s' : QSt) (r : Ending) (w' : World) : Prop := r = .returned (.bool true) ∧ Que w' base A T K s' ∧ Went base w w'
set_option maxHeartbeats 8000000 in
set_option maxRecDepth 100000 in
theorem settle_yes (w : World) (base : Nat) (A : QAd) (T K N : Nat) (s : QSt) (t : Nat) (h : Que w base A T K s) (ok : QOk K T N s) (hN : N ≤ 1000) (hK : K ≤ 16) (ht : t < T) (hf : (s.g t).f = true) (hbase : base ≤ w.heap.size) :
    Calls Tryz.prog 10 #[ptr A.B, .int .i64 t] w (SettleIs w base A T K (settleQ K s t)) := by
  obtain ⟨ra, sa, h⟩ := h
  obtain ⟨c0, c1, c2, c3, c4⟩ := h.fix.cells
  obtain ⟨k, d, v, e'⟩ : ∃ k d v, s.g t = ⟨(k, d), v, true⟩ := ⟨_, _, _, by rw [← hf]⟩
  have gt := slGet_in w A.SB A.SR T s.g t k d v true h.slt ht e'
  have hv := ok.ver t ht
  rw [e'] at hv
  simp only at hv
  have sq : settleQ K s t = if K < (putL (s.ls t) (k, d)).flatten.length then ⟨slSet s.g t ⟨(0, 0), v + 1, false⟩, lset s.ls t [], s.v + 1, addS s.hs (sortE (putL (s.ls t) (k, d)).flatten)⟩
    else ⟨slSet s.g t ⟨(0, 0), v + 1, false⟩, lset s.ls t (putL (s.ls t) (k, d)), s.v, s.hs⟩ := by
    unfold settleQ
    rw [if_pos hf, e']
  have SQ : Hid _ := sq
  have H : Aside (QueA w base A T K s ra sa) := h
  have HE : Hid _ := e'
  have OK : Aside (QOk K T N s) := ok
  have t8 := h.slt.most
  have tT : (t : Int) < (T : Int) := by omega
  clear h c0 c2 c3 c4 e' hf sq ok
  go_enter Tryz.func10, Tryz.ntmps10
  go_wp2_with fail
  refine gt.mono ?_
  rintro r w1 ⟨rfl, b1⟩
  have h1 := H.out.below b1
  obtain ⟨_, d1, _, _, _⟩ := h1.fix.cells
  have bl := h1.fix.blt
  obtain ⟨u, hu⟩ : ∃ u, w1.alloc (.cells #[.int .u64 k, .int .i64 d] 34) = u := ⟨_, rfl⟩
  have bu : Below w1.heap.size w1 u := by rw [← hu]; exact (Below.refl _ _).alloc (Nat.le_refl _) _
  have tk := slTake_ok u A.SB A.SR T s.g t k d v (h1.below bu).slt ht HE.out (by omega)
  have BU : Aside (Below w.heap.size w u) := b1.trans (bu.mono b1.size)
  have QU : Aside (QueA u base A T K s ra sa) := h1.below bu
  have HU : Hid _ := hu
  clear hu bu b1 h1 gt c1
  go_wp2_with fail
  rw [HU.out]
  refine tk.mono ?_
  rintro r w2 ⟨rfl, s2, g2⟩
  obtain ⟨q2, b2⟩ := QU.out.slots s2 g2
  have B2 : Aside (Went base w w2) := (Went.below BU.out hbase).trans b2
  obtain ⟨_, _, x2, _, _⟩ := q2.fix.cells
  have y2 := q2.fix.own ht
  have bl2 := q2.fix.blt
  have ol2 := q2.fix.olt
  obtain ⟨S2, hS2⟩ : ∃ S, w2.heap.size = S := ⟨_, rfl⟩
  obtain ⟨u2, hu2⟩ : ∃ u, w2.alloc (.cells #[.int .u64 k, .int .i64 d] 34) = u := ⟨_, rfl⟩
  have bu2 : Below w2.heap.size w2 u2 := by rw [← hu2]; exact (Below.refl _ _).alloc (Nat.le_refl _) _
  have BU2 : Aside (Went base w u2) := B2.out.trans (Went.below bu2 (Nat.le_trans hbase B2.out.size))
  have QU2 : Aside (QueA u2 base A T K { s with g := slSet s.g t ⟨(0, 0), v + 1, false⟩ } ra sa) := q2.below bu2
  have lp := lput_any (A.L t) base (ra t) (s.ls t) (k, d) u2 (QU2.out.own t ht) (by have := OK.out.count ht; omega) (by have := OK.out.len t ht; omega) (Nat.le_trans hbase BU2.out.size)
  have HU2 : Hid _ := hu2
  clear hu2 bu2 q2 b2 s2 g2 tk d1 bl hS2 B2
  go_wp2_with fail
  rw [HU2.out]
  refine lp.mono ?_
  rintro r w3 ⟨rfl, t3⟩
  obtain ⟨ra3, q3, b3⟩ := QU2.out.turn ht t3
  have B3 : Aside (Went base w w3) := BU2.out.trans b3
  have Q3 : Aside (QueA w3 base A T K { g := slSet s.g t ⟨(0, 0), v + 1, false⟩, ls := lset s.ls t (putL (s.ls t) (k, d)), v := s.v, hs := s.hs } ra3 sa) := q3
  obtain ⟨x3, _, _, _, _⟩ := q3.fix.cells
  have bl3 := q3.fix.blt
  have nl := putL_len (s.ls t) (k, d)
  have ll := OK.out.len t ht
  obtain ⟨n, hn⟩ : ∃ n, (putL (s.ls t) (k, d)).flatten.length = n := ⟨_, rfl⟩
  rw [hn] at nl
  have HN : Hid _ := hn
  have n17 : n ≤ 17 := by omega
  have n1 : 0 < n := by omega
  clear nl ll
  have ln : ∀ W, Below w3.heap.size w3 W → Calls Tryz.prog 35 #[ptr (A.L t)] W fun r w' => r = .returned (.int .i64 n) ∧ Below W.heap.size W w' := fun W hW => by
    have l := ((Q3.out.below hW).own t ht).t
    have e : (lset s.ls t (putL (s.ls t) (k, d))) t = putL (s.ls t) (k, d) := lset_same _ _ _
    have := llen_any (A.L t) base (putL (s.ls t) (k, d)) W (by rw [← e]; exact l) (by rw [HN.out]; omega)
    rw [HN.out] at this
    exact this
  have LN : Aside (∀ W, Below w3.heap.size w3 W → Calls Tryz.prog 35 #[ptr (A.L t)] W fun r w' => r = .returned (.int .i64 n) ∧ Below W.heap.size W w') := ln
  have KC : Aside (∀ W, Below w3.heap.size w3 W → W.cell? ⟨A.B, 0, none⟩ = some (.int .i64 K)) := fun W hW => ((Q3.out.fix).below hW).cells.1
  have hb0 : Below w3.heap.size w3 w3 := Below.refl _ _
  have hb1 : Below w3.heap.size w3 w3.drew := hb0.drew
  have mx := mixed
  clear t3 q3 b3 lp x2 y2 bl2 ol2 hn ln
  go_wp2_with fail
  go_region_held3 (fun W => W.cell? ⟨A.B, 0, none⟩ = some (.int .i64 K)) (first | with_reducible exact KC.out _ hb0 | with_reducible exact KC.out _ hb1 | with_reducible exact KC.out _ hb2)
    ((go_at_call 35; (with_reducible refine Calls.mono (LN.out _ hb1) ?_); rintro r w4 ⟨rfl, d4⟩; have hb2 : Below w3.heap.size w3 w4 := hb1.trans (d4.mono hb1.size)))
  have B4 : Aside (Went base w w4) := B3.out.trans (Went.below hb2 (Nat.le_trans hbase B3.out.size))
  have Q4 : Aside (QueA w4 base A T K { g := slSet s.g t ⟨(0, 0), v + 1, false⟩, ls := lset s.ls t (putL (s.ls t) (k, d)), v := s.v, hs := s.hs } ra3 sa) := Q3.out.below hb2
  clear hb0 hb1 hb2 d4 KC LN x3 bl3 Q3 B3
  by_cases hs : K < n
  · have hs' : (K : Int) < (n : Int) := by omega
    have sq := SQ.out
    rw [HN.out, if_pos hs] at sq
    have SQ2 : Hid _ := sq
    have l4 := Q4.out.own t ht
    have e4 : (lset s.ls t (putL (s.ls t) (k, d))) t = putL (s.ls t) (k, d) := lset_same _ _ _
    have ld : ∀ W, Below w4.heap.size w4 W → Calls Tryz.prog 37 #[ptr (A.L t)] W (Drained W base (A.L t) (ra3 t) (sortE (putL (s.ls t) (k, d)).flatten)) := fun W hW =>
      ldrain_any (A.L t) base (ra3 t) (putL (s.ls t) (k, d)) W (by rw [← e4]; exact (Q4.out.below hW).own t ht) (by rw [HN.out]; omega) (Nat.le_trans hbase (Nat.le_trans B4.out.size hW.size))
    have LD : Aside (∀ W, Below w4.heap.size w4 W → Calls Tryz.prog 37 #[ptr (A.L t)] W (Drained W base (A.L t) (ra3 t) (sortE (putL (s.ls t) (k, d)).flatten))) := ld
    have hb0 : Below w4.heap.size w4 w4 := Below.refl _ _
    have hb1 : Below w4.heap.size w4 w4.drew := hb0.drew
    have KC : Aside (∀ (W : World) (st : QSt) (r1 : Nat → Option Addr) (r2 : Option Addr), QueA W base A T K st r1 r2 → W.cell? ⟨A.B, 3, none⟩ = some (ptr A.HB)) := fun W st r1 r2 hq => hq.fix.cells.2.2.2.1
    have q40 := Q4.out
    have q41 := Q4.out.below hb1
    have x4 := q40.fix.cells.2.2.2.1
    have bl4 := q40.fix.blt
    have sl : (sortE (putL (s.ls t) (k, d)).flatten).length = n := by rw [sortE_len]; exact HN.out
    have SL : Hid _ := sl
    have AD : Aside (∀ (W : World) (r1 : Nat → Option Addr) (g' : Nat → Pl) (l' : Nat → List (List Ent)) (a1 : Option Addr) (c1 : Nat), QueA W base A T K ⟨g', l', s.v, s.hs⟩ r1 sa → OwnE W base (.slice a1 n c1) (sortE (putL (s.ls t) (k, d)).flatten) → Calls Tryz.prog 36 #[ptr A.HB, .slice a1 n c1] W fun r w' => r = .returned (.tuple #[]) ∧ ShrN W.heap.size w' A.HB (s.v + 1) (addS s.hs (sortE (putL (s.ls t) (k, d)).flatten)) ∧ W.grownBy w' (some A.HB)) := fun W r1 g' l' a1 c1 hq ho => by
      have il : IsL W a1 c1 (sortE (putL (s.ls t) (k, d)).flatten) := by rw [← SL.out] at ho; exact ho.is
      exact sadd_some A.HB s.v s.hs a1 n c1 _ W hq.shr.s il SL.out (by omega) (by have := OK.out.hlen; omega) (by have := OK.out.hsum; omega) OK.out.hsrt (by have := OK.out.sv; omega)
    clear l4 e4 ld sl sq
    go_wp2_with fail
    go_region_held3 (fun W => W.cell? ⟨A.B, 3, none⟩ = some (ptr A.HB)) (first | with_reducible exact KC.out _ _ _ _ q40 | with_reducible exact KC.out _ _ _ _ q41 | with_reducible exact KC.out _ _ _ _ q5 | with_reducible exact KC.out _ _ _ _ q6)
      ((first
        | (go_at_call 36; (with_reducible refine Calls.mono (AD.out w5 _ _ _ a1 c1 q5 o5) ?_); rintro r w6 ⟨rfl, ⟨sa6, s6, m6⟩, g6⟩; obtain ⟨q6, b6⟩ := q5.shared s6 (.inr m6) g6)
        | (go_at_call 37; (with_reducible refine Calls.mono (LD.out _ hb1) ?_); rintro r w5 ⟨a1, c1, rfl, o5, t5⟩; rw [SL.out] at o5 ⊢; obtain ⟨ra5, q5, b5⟩ := q41.turn ht t5)))
    have e6 : lset (lset s.ls t (putL (s.ls t) (k, d))) t ([] : List (List Ent)) = lset s.ls t [] := by
      funext i
      by_cases e : i = t
      · subst e; rw [lset_same, lset_same]
      · rw [lset_ne _ _ e, lset_ne _ _ e, lset_ne _ _ e]
    have FIN : Aside (SettleIs w base A T K (settleQ K s t) (.returned (.bool true)) w6) := by
      refine ⟨rfl, ?_, B4.out.trans ((Went.below hb1 (Nat.le_trans hbase B4.out.size)).trans (b5.trans b6))⟩
      rw [SQ2.out, ← e6]
      exact ⟨_, _, q6⟩
    clear q6 g6 s6 m6 b6 q5 b5 t5 o5 q40 q41 x4 e6 hb0 hb1
    go_wp2
    go_ret
    exact FIN.out
  · have hs' : ¬ (K : Int) < (n : Int) := by omega
    have sq := SQ.out
    rw [HN.out, if_neg hs] at sq
    have FIN : Aside (SettleIs w base A T K (settleQ K s t) (.returned (.bool true)) w4) := ⟨rfl, by rw [sq]; exact ⟨_, _, Q4.out⟩, B4.out⟩
    clear sq
    go_wp2
    go_ret
    exact FIN.out
theorem settle_in (w : World) (base : Nat) (A : QAd) (T K N : Nat) (s : QSt) (t : Nat) (f : Bool) (h : Que w base A T K s) (ok : QOk K T N s) (hN : N ≤ 1000) (hK : K ≤ 16) (ht : t < T) (hf : (s.g t).f = f) (hbase : base ≤ w.heap.size) :
    Calls Tryz.prog 10 #[ptr A.B, .int .i64 t] w fun r w' => r = .returned (.bool f) ∧ Que w' base A T K (settleQ K s t) ∧ Went base w w' := by
  cases f with
  | true => exact settle_yes w base A T K N s t h ok hN hK ht hf hbase
  | false =>
    refine (settle_no w base A T K s t h ht hf).mono fun r w' ⟨h1, h2⟩ => ⟨h1, ?_, Went.below h2 hbase⟩
    have : settleQ K s t = s := by unfold settleQ; rw [if_neg (by rw [hf]; simp)]
    rw [this]
    exact h.below h2
theorem ent0 {w : World} {B : Nat} {x y : Value} {U : TypeId} (h : w.heap[B]? = some (.cells #[x, y] U (0, 0))) : w.cell? ⟨B, 0, none⟩ = some x ∧ w.cell? ⟨B, 1, none⟩ = some y := ⟨by rw [cell_of_row _ _ _ _ _ _ h]; rfl, by rw [cell_of_row _ _ _ _ _ _ h]; rfl⟩
set_option maxHeartbeats 2000000 in
set_option maxRecDepth 100000 in
theorem put_in (w : World) (base : Nat) (A : QAd) (T K N : Nat) (s : QSt) (t : Nat) (k d : Int) (h : Que w base A T K s) (ok : QOk K T N s) (hN : N ≤ 1000) (hK : K ≤ 16) (ht : t < T) (hbase : base ≤ w.heap.size) :
    Calls Tryz.prog 9 #[ptr A.B, .int .i64 t, .agg #[.int .u64 k, .int .i64 d]] w fun r w' => r = .returned (.int .i64 0) ∧ Que w' base A T K (putQ K s t (k, d)) ∧ Went base w w' := by
  obtain ⟨S, hS⟩ : ∃ S, w.heap.size = S := ⟨_, rfl⟩
  obtain ⟨u, hu⟩ : ∃ u, w.alloc (.cells #[.int .u64 k, .int .i64 d] 34) = u := ⟨_, rfl⟩
  have bu : Below w.heap.size w u := by rw [← hu]; exact (Below.refl _ _).alloc (Nat.le_refl _) _
  have us : u.heap[S]? = some (.cells #[.int .u64 k, .int .i64 d] 34 (0, 0)) := by rw [← hu, ← hS]; exact heap_alloc_new w _
  have st := settle_in u base A T K N s t _ (h.below bu) ok hN hK ht rfl (Nat.le_trans hbase bu.size)
  obtain ⟨f, hf⟩ : ∃ f, (s.g t).f = f := ⟨_, rfl⟩
  rw [hf] at st
  have BU : Aside (Below w.heap.size w u) := bu
  have US : Aside (u.heap[S]? = some (.cells #[.int .u64 k, .int .i64 d] 34 (0, 0))) := us
  have HU : Hid _ := hu
  have OK : Aside (QOk K T N s) := ok
  clear hu bu us h ok hf
  go_enter Tryz.func9, Tryz.ntmps9
  go_wp2_with fail
  rw [HU.out]
  refine st.mono ?_
  rintro r w1 ⟨rfl, ⟨ra, sa, q1⟩, b1⟩
  have W1 : Aside (Went base w w1) := (Went.below BU.out hbase).trans b1
  have s1 := b1.block US.out mq_ent
  have vv := (settle_ok1 OK.out ht hK).2 t ht
  have sp := slPut_ok w1.drew A.SB A.SR T (settleQ K s t).g t k d ((settleQ K s t).g t).v q1.slt.drew ht (settle_f K s t) rfl (by omega)
  have Q1 : Aside (QueA w1.drew base A T K (settleQ K s t) ra sa) := q1.below (Below.refl _ _).drew
  obtain ⟨e0, e1⟩ := ent0 s1
  have c1 := q1.fix.cells.2.1
  have Sl : S < w1.heap.size := lt_of_block s1
  have bl := q1.fix.blt
  have KC : Aside (∀ (W : World) (st : QSt), QueA W base A T K st ra sa → W.heap[S]? = some (.cells #[.int .u64 k, .int .i64 d] 34 (0, 0)) → W.cell? ⟨A.B, 1, none⟩ = some (ptr A.SB) ∧ W.cell? ⟨S, 0, none⟩ = some (.int .u64 k) ∧ W.cell? ⟨S, 1, none⟩ = some (.int .i64 d)) := fun W st hq hs => ⟨hq.fix.cells.2.1, (ent0 hs).1, (ent0 hs).2⟩
  have q0 := q1
  have q1d : QueA w1.drew base A T K (settleQ K s t) ra sa := Q1.out
  have s1d : w1.drew.heap[S]? = some (.cells #[.int .u64 k, .int .i64 d] 34 (0, 0)) := s1
  have mx := mixed
  clear st b1 vv q1
  go_wp2_with fail
  go_region_held3 (fun W => W.cell? ⟨A.B, 1, none⟩ = some (ptr A.SB) ∧ W.cell? ⟨S, 0, none⟩ = some (.int .u64 k) ∧ W.cell? ⟨S, 1, none⟩ = some (.int .i64 d)) (first | with_reducible exact KC.out _ _ q0 s1 | with_reducible exact KC.out _ _ q1d s1d | with_reducible exact KC.out _ _ q2 s2)
    ((go_at_call 31; (with_reducible refine Calls.mono sp ?_); rintro r w2 ⟨rfl, x2, g2⟩; obtain ⟨q2, b2⟩ := Q1.out.slots x2 g2; have s2 := b2.block s1d mq_ent))
  have FIN : Aside (Que w2 base A T K (putQ K s t (k, d)) ∧ Went base w w2) := ⟨⟨_, _, q2⟩, (W1.out.trans (Went.below (Below.refl _ _).drew (Nat.le_trans hbase W1.out.size))).trans b2⟩
  clear q2 b2 s2 x2 g2 q0 q1d s1d s1 sp
  go_wp2
  go_ret
  exact ⟨rfl, FIN.out⟩
end Go.Proofs.YtdcacbjmbfppeaaGreat

/- The walk of 'EntryLeast'. -/
import Derived.Test.YtefkgljpocfpfaaEntAwake
import Derived.Test.YtefkgljpocfpfaaRefS
import Derived.Test.YtefkgljpocfpfaaRefL
import Derived.Test.YtefkgljpocfpfaaOwnS
namespace Go.Proofs.Ytefkgljpocfpfaa
open Go.RowKit Go.Lib Go.Sort
set_option linter.unusedVariables false

set_option maxHeartbeats 4000000 in
set_option maxRecDepth 100000 in
theorem entryLeast_walk (a : Option Addr) (cap : Nat) (ls : List (List Ent)) (w : World) (h : IsLL w a ls) :
    Calls Try.prog 7 #[.slice a ls.length cap] w fun r w' => r = .returned (.bool true) ∧ Below w.heap.size w w' := by
  have mx := mixed
  have hl := h.len
  have H : Aside (IsLL w a ls) := h
  clear h
  by_cases hs : ls.length ≤ 20
  · have hz : ¬ (20 : Int) < (ls.length : Int) := by omega
    go_enter Try.func7, Try.ntmps7
    go_wp2
    clear hz
    go_loopg [3, 4] ls.length (fun kx s3 s4 wr => ∃ (k : Nat) (r : Option Addr) (t : Nat), s4 = .int .i64 k ∧ s3 = .slice r k t ∧ k ≤ ls.length ∧ ls.length - k ≤ kx ∧ Aside (OwnS wr w.heap.size (.slice r k t) ((ls.take k).map sortE)) ∧ Aside (Below w.heap.size w wr))
    case atStart => exact ⟨0, none, 0, rfl, rfl, by omega, by omega, OwnS.nil w _, Below.refl _ _⟩
    case round =>
      obtain ⟨k, r, t, rfl, rfl, hk, hkx, O, B⟩ := hrel
      have HN : Hid (((ls.take k).map sortE).length = k) := by show _ = _; simp; omega
      by_cases hlt : k < ls.length
      · have hz : (k : Int) < (ls.length : Int) := by omega
        obtain ⟨d, hd⟩ : ∃ d, ls[k]? = some d := ⟨_, List.getElem?_eq_getElem hlt⟩
        obtain ⟨b, off, p, q, rfl, hb, cc, L⟩ := (H.out.below B.out).elem k d hd
        have hdl := L.len
        by_cases h50 : d.length ≤ 50
        · have hz2 : ¬ (50 : Int) < (d.length : Int) := by omega
          have sr := refSort_made p q d wr L (by omega)
          obtain ⟨E, hE⟩ : ∃ E, sortE d = E := ⟨_, rfl⟩
          rw [hE] at sr
          have NX : Hid ((ls.take k).map sortE ++ [E] = (ls.take (k + 1)).map sortE) := by
            show _ = _
            have e : ls[k] = d := (List.getElem?_eq_some_iff.1 hd).2
            rw [List.take_succ_eq_append_getElem hlt, List.map_append, e, ← hE]; rfl
          clear hE hd L
          go_wp2_with fail
          refine sr.mono ?_
          rintro rr w1 ⟨p1, q1, rfl, o1, b1⟩
          have b2 : Below w1.heap.size w1 (w1.alloc (.cells #[.slice p1 E.length q1] 22)) := (Below.refl _ _).alloc (Nat.le_refl _) _
          have bs := B.out.size
          have B1 : Below w.heap.size w w1 := Below.trans B.out (Below.mono b1 bs)
          have B2 : Below w.heap.size w (w1.alloc (.cells #[.slice p1 E.length q1] 22)) := Below.trans B1 (Below.mono b2 B1.size)
          obtain ⟨r2, t2, w2, hr, o2, g2⟩ := apps_run (g := w1.heap.size) (p := p1) (q := q1) (d := E) (OwnS.below (OwnS.below O.out b1) b2) (OwnE.below (OwnE.low o1 bs) b2) (cell_new w1 #[.slice p1 E.length q1] 22 0) (by rw [HN.out]; omega) B2.size 42
          rw [HN.out] at hr o2
          rw [NX.out] at o2
          have B3 : Aside (Below w.heap.size w w2) := g2 w B2
          have O3 : Aside (OwnS w2 w.heap.size (.slice r2 (k + 1) t2) ((ls.take (k + 1)).map sortE)) := o2
          clear o2 g2 B1 B2 b1 b2 o1 O B cc sr bs
          go_wp2_with (at_builtin; refine Lib.wpList_append_run (w1.alloc (.cells #[.slice p1 E.length q1] 22)) rfl _ _ 42 42 rfl (.slice r k t) (.slice (some ⟨w1.heap.size, 0, none⟩) 1 1) rfl rfl (.slice r2 (k + 1) t2) w2 hr ?_)
          clear hr
          go_wp2
          go_roundg (ls.length - (k + 1))
          case measure => omega
          case rel => exact ⟨k + 1, r2, t2, by go_num, rfl, by omega, Nat.le_refl _, O3, B3⟩
        · have hz2 : (50 : Int) < (d.length : Int) := by omega
          clear L
          go_wp2_with fail
          refine (awake_any _).mono ?_
          rintro rr v ⟨rfl, dv⟩
          have DV : Aside (Below w.heap.size w v) := Below.trans B.out (Below.mono dv B.out.size)
          clear dv
          go_wp2
          go_ret
          exact ⟨rfl, DV.out⟩
      · have hz : ¬ (k : Int) < (ls.length : Int) := by omega
        obtain rfl : k = ls.length := by omega
        rw [List.take_length] at O HN
        obtain ⟨M, hM⟩ : ∃ M, ls.map sortE = M := ⟨_, rfl⟩
        rw [hM] at O HN
        clear hM
        obtain ⟨r', t', e, LL⟩ := O.out.isLL
        injection e with e1 e2 e3
        subst e1 e3
        have LL : Aside (IsLL wr r M) := LL
        clear O e2
        obtain ⟨st, hst⟩ : ∃ st, leastL M M.length = st := ⟨_, rfl⟩
        have la := least_any r t M wr LL.out
        unfold LeastIs at la
        rw [hst, HN.out] at la
        obtain ⟨y, hy⟩ : ∃ y, unl st = y := ⟨_, rfl⟩
        obtain ⟨j, hj⟩ : ∃ j, unj st = j := ⟨_, rfl⟩
        obtain ⟨T, hT⟩ : ∃ T, unb st = T := ⟨_, rfl⟩
        rw [hy, hj, hT] at la
        have LB : Aside (∀ W, IsLL W r M → Calls Try.prog 28 #[.slice r ls.length t] W fun e w' => e = .returned (.tuple #[.agg #[.int .u64 y.1, .int .i64 y.2], .int .i64 j, .bool T]) ∧ Below W.heap.size W w') := by
          intro W hW
          have lb := refLeast_any r t M W hW
          unfold LeastIs at lb
          rw [hst, HN.out, hy, hj, hT] at lb
          exact lb
        clear hy hj hT hst
        go_wp2_with fail
        refine la.mono ?_
        rintro rr w4 ⟨rfl, d4⟩
        have L4 : Aside (IsLL w4 r M) := LL.out.below d4
        have D4 : Aside (Below w.heap.size w w4) := Below.trans B.out (Below.mono d4 B.out.size)
        clear la d4 B LL
        go_wp2_with fail
        have d5 : Below w4.heap.size w4 (w4.alloc (.cells #[.int .u64 y.1, .int .i64 y.2] 31)) := (Below.refl _ _).alloc (Nat.le_refl _) _
        have t0 := cell_new w4 #[.int .u64 y.1, .int .i64 y.2] 31 0
        have t1 := cell_new w4 #[.int .u64 y.1, .int .i64 y.2] 31 1
        have t2 : w4.heap.size < (w4.alloc (.cells #[.int .u64 y.1, .int .i64 y.2] 31)).heap.size := by simp
        have D5 : Aside (Below w.heap.size w (w4.alloc (.cells #[.int .u64 y.1, .int .i64 y.2] 31))) := Below.trans D4.out (Below.mono d5 D4.out.size)
        have L5 : Aside (IsLL (w4.alloc (.cells #[.int .u64 y.1, .int .i64 y.2] 31)) r M) := L4.out.below d5
        clear d5 D4 L4
        generalize w4.alloc (.cells #[.int .u64 y.1, .int .i64 y.2] 31) = w5 at t0 t1 t2 D5 L5 ⊢
        generalize w4.heap.size = S at t0 t1 t2 ⊢
        refine (LB.out w5 L5.out).mono ?_
        rintro rr w6 ⟨rfl, d6⟩
        have d7 : Below w6.heap.size w6 (w6.alloc (.cells #[.int .u64 y.1, .int .i64 y.2] 31)) := (Below.refl _ _).alloc (Nat.le_refl _) _
        have d8 : Below w5.heap.size w5 (w6.alloc (.cells #[.int .u64 y.1, .int .i64 y.2] 31)) := Below.trans d6 (Below.mono d7 d6.size)
        have c0 := (d8.cell (p := ⟨S, 0, none⟩) t2).trans t0
        have c1 := (d8.cell (p := ⟨S, 1, none⟩) t2).trans t1
        have c2 := cell_new w6 #[.int .u64 y.1, .int .i64 y.2] 31 0
        have c3 := cell_new w6 #[.int .u64 y.1, .int .i64 y.2] 31 1
        have D6 : Aside (Below w.heap.size w (w6.alloc (.cells #[.int .u64 y.1, .int .i64 y.2] 31))) := Below.trans D5.out (Below.mono d8 D5.out.size)
        clear d6 d7 d8 t0 t1 t2 D5 L5 LB
        go_upto_region 12 with fail
        generalize w6.alloc (.cells #[.int .u64 y.1, .int .i64 y.2] 31) = w7 at c0 c1 c2 c3 D6 ⊢
        generalize w6.heap.size = S2 at c2 c3 ⊢
        simp only [List.getElem?_toArray, List.getElem?_cons_zero, List.getElem?_cons_succ] at c0 c1 c2 c3
        have q1 := eqE y y
        simp only [decide_true] at q1
        have q2 := guardE
        go_wp2_with fail
        refine (awake_any _).mono ?_
        rintro rr v ⟨rfl, dv⟩
        have DV : Aside (Below w.heap.size w v) := Below.trans D6.out (Below.mono dv D6.out.size)
        clear dv
        go_wp2
        go_ret
        exact ⟨rfl, DV.out⟩
  · have hz : (20 : Int) < (ls.length : Int) := by omega
    go_enter Try.func7, Try.ntmps7
    go_wp2_with fail
    refine (awake_any _).mono ?_
    rintro r v ⟨rfl, dv⟩
    go_wp2
    go_ret
    exact ⟨rfl, dv⟩
end Go.Proofs.Ytefkgljpocfpfaa

/- The walk of 'BlockPivots'. -/
import Derived.Test.YtoknpinlphbeoaaBlkQ
import Derived.Test.YtoknpinlphbeoaaBlkO
import Derived.Test.YtoknpinlphbeoaaOwnS
namespace Go.Proofs.Ytoknpinlphbeoaa
open Go.RowKit Go.Lib Go.Sort
set_option linter.unusedVariables false

theorem map_take {ls : List (List Ent)} {k : Nat} (h : k < ls.length) : (ls.take (k + 1)).map sortE = (ls.take k).map sortE ++ [sortE ls[k]] := by
  rw [List.take_succ_eq_append_getElem h, List.map_append]
  rfl

set_option maxHeartbeats 4000000 in
set_option maxRecDepth 100000 in
theorem blockPivots_walk (a0 : Option Addr) (p0 : Nat) (ls : List (List Ent)) (n : Int) (w : World) (h : IsLL w a0 ls) (hw : (Lit.int .i64 n).wf = true) :
    Calls Try.prog 7 #[.slice a0 ls.length p0, .int .i64 n] w fun r w' => r = .returned (.bool true) ∧ Below w.heap.size w w' := by
  have H : Aside (IsLL w a0 ls) := h
  have hl := h.len
  obtain ⟨L, hL⟩ : ∃ L, ls.length = L := ⟨_, rfl⟩
  have HL : Hid _ := hL
  obtain ⟨S, hS⟩ : ∃ S, w.heap.size = S := ⟨_, rfl⟩
  have HS : Hid _ := hS
  rw [hL] at hl ⊢
  clear h hL hw hS
  by_cases hc : L ≤ 12
  · have hz : ¬ (12 : Int) < (L : Int) := by omega
    go_enter Try.func7, Try.ntmps7
    go_wp2_with fail
    go_loopg [5, 6, 7] L (fun kx s5 s6 s7 wr => ∃ (k : Nat) (r1 : Option Addr) (t1 : Nat) (r2 : Option Addr) (t2 : Nat), s7 = .int .i64 k ∧ s5 = .slice r1 k t1 ∧ s6 = .slice r2 k t2 ∧ k ≤ L ∧ L - k ≤ kx ∧ Aside (OwnBs 26 wr S (.slice r1 k t1) ((ls.take k).map sortE)) ∧ Aside (OwnBs 45 wr S (.slice r2 k t2) ((ls.take k).map sortE)) ∧ Aside (Below S w wr) ∧ Aside (∀ d ∈ ls.take k, d.length ≤ 40))
    case atStart => exact ⟨0, none, 0, none, 0, rfl, rfl, rfl, by omega, by omega, OwnBs.nil _ _ _, OwnBs.nil _ _ _, Below.refl _ _, (fun d hd => by simp at hd : ∀ d ∈ ls.take 0, d.length ≤ 40)⟩
    case round =>
      obtain ⟨k, r1, t1, r2, t2, rfl, rfl, rfl, hk, hkx, X, Y, B, A⟩ := hrel
      have sz : S ≤ wr.heap.size := by have h1 := B.out.size; have h2 := HS.out; omega
      have mk : Hid (((ls.take k).map sortE).length = k) := by show _ = _; have := HL.out; simp; omega
      by_cases hlt : k < L
      · have hz1 : (k : Int) < (L : Int) := by omega
        have hlt' : k < ls.length := by rw [HL.out]; exact hlt
        obtain ⟨b, off, p, q, rfl, hb, cc0, LD0⟩ := H.out.elem k ls[k] (List.getElem?_eq_getElem hlt')
        rw [HS.out] at hb
        have cc := (B.out.cell (p := ⟨b, off + k, none⟩) hb).trans cc0
        have LD := LD0.below (by rw [HS.out]; exact B.out)
        have e1 := map_take hlt'
        have e2 := List.take_succ_eq_append_getElem hlt'
        obtain ⟨d, hd⟩ : ∃ d, ls[k] = d := ⟨_, rfl⟩
        rw [hd] at e1 e2 cc cc0 LD LD0
        obtain ⟨N, hN⟩ : ∃ N, d.length = N := ⟨_, rfl⟩
        rw [hN] at cc cc0
        have dl := LD.len
        rw [hN] at dl
        by_cases h40 : N ≤ 40
        · have hz2 : ¬ (40 : Int) < (N : Int) := by omega
          have A2 : Aside (∀ d ∈ ls.take (k + 1), d.length ≤ 40) := by
            show ∀ d ∈ ls.take (k + 1), d.length ≤ 40
            rw [e2]
            intro x hx
            rcases List.mem_append.1 hx with hx | hx
            · exact A.out x hx
            · simp at hx; subst hx; omega
          obtain ⟨s, hs⟩ : ∃ s, sortE d = s := ⟨_, rfl⟩
          obtain ⟨M, hM⟩ : ∃ M, lvl N = M := ⟨_, rfl⟩
          have sl : s.length = N := by rw [← hs, sortE_len, hN]
          have E1 : Aside ((ls.take (k + 1)).map sortE = (ls.take k).map sortE ++ [s]) := by rw [← hs]; exact e1
          have SL : Hid _ := sl
          have ofa := of_any p q d wr LD (by omega)
          unfold MadeB at ofa
          rw [hs, sl, hM, hN] at ofa
          have rof : ∀ W, Below S w W → Calls Try.prog 24 #[.slice p N q] W (fun r w' => ∃ a cap, r = .returned (.agg #[.int .i64 M, .slice a N cap]) ∧ OwnE w' W.heap.size (.slice a N cap) s ∧ Below W.heap.size W w') := fun W hW => by
            have := refOf_any p q d W (LD0.below (by rw [HS.out]; exact hW)) (by omega)
            unfold MadeB at this
            rw [hs, sl, hM, hN] at this
            exact this
          have CC0 : Hid _ := cc0
          clear e1 e2 hd LD LD0 A hs hM sl cc0
          go_wp2_with fail
          refine ofa.mono ?_
          rintro r w1 ⟨xa, xc, rfl, oA, dA⟩
          obtain ⟨G1, hG1⟩ : ∃ G, w1.heap.size = G := ⟨_, rfl⟩
          have bv : Below w1.heap.size w1 (w1.alloc (.cells #[.int .i64 M, .slice xa N xc] 26)) := (Below.refl _ _).alloc (Nat.le_refl _) _
          have bwv : Below wr.heap.size wr (w1.alloc (.cells #[.int .i64 M, .slice xa N xc] 26)) := dA.trans (bv.mono dA.size)
          have g0 : (w1.alloc (.cells #[.int .i64 M, .slice xa N xc] 26)).cell? ⟨G1, 0, none⟩ = some (.int .i64 M) := by rw [← hG1]; exact cell_new w1 _ _ 0
          have g1 : (w1.alloc (.cells #[.int .i64 M, .slice xa N xc] 26)).cell? ⟨G1, 1, none⟩ = some (.slice xa N xc) := by rw [← hG1]; exact cell_new w1 _ _ 1
          have zv : S ≤ (w1.alloc (.cells #[.int .i64 M, .slice xa N xc] 26)).heap.size := Nat.le_trans sz bwv.size
          obtain ⟨r1', t1', w2, hr, oX, bX, gX⟩ := appB (X.out.below bwv) ((oA.low sz).below bv) SL.out mk.out g0 g1 (by omega) zv 41
          rw [← E1.out] at oX
          have Y2 : Aside (OwnBs 45 w2 S (.slice r2 k t2) ((ls.take k).map sortE)) := (Y.out.below bwv).kept (X.out.below bwv) gX (by decide) (by decide)
          have X2 : Aside (OwnBs 26 w2 S (.slice r1' (k + 1) t1') ((ls.take (k + 1)).map sortE)) := oX
          have B2 : Aside (Below S w w2) := bX w (B.out.trans (bwv.mono sz))
          have cc2 : w2.cell? ⟨b, off + k, none⟩ = some (.slice p N q) := (B2.out.cell (p := ⟨b, off + k, none⟩) hb).trans CC0.out
          have s2 : S ≤ w2.heap.size := by have h1 := B2.out.size; have h2 := HS.out; omega
          have rf := rof w2 B2.out
          clear oX gX bX X Y B ofa oA dA bv bwv g0 g1 zv rof
          go_wp2_with (at_builtin; refine Lib.wpList_append_run (World.alloc w1 _) rfl _ _ 41 41 rfl _ _ rfl rfl _ w2 hr ?_)
          refine rf.mono ?_
          rintro r w3 ⟨ya, yc, rfl, oB, dB⟩
          obtain ⟨G3, hG3⟩ : ∃ G, w3.heap.size = G := ⟨_, rfl⟩
          have bv : Below w3.heap.size w3 (w3.alloc (.cells #[.int .i64 M, .slice ya N yc] 45)) := (Below.refl _ _).alloc (Nat.le_refl _) _
          have bwv : Below w2.heap.size w2 (w3.alloc (.cells #[.int .i64 M, .slice ya N yc] 45)) := dB.trans (bv.mono dB.size)
          have g0 : (w3.alloc (.cells #[.int .i64 M, .slice ya N yc] 45)).cell? ⟨G3, 0, none⟩ = some (.int .i64 M) := by rw [← hG3]; exact cell_new w3 _ _ 0
          have g1 : (w3.alloc (.cells #[.int .i64 M, .slice ya N yc] 45)).cell? ⟨G3, 1, none⟩ = some (.slice ya N yc) := by rw [← hG3]; exact cell_new w3 _ _ 1
          have zv : S ≤ (w3.alloc (.cells #[.int .i64 M, .slice ya N yc] 45)).heap.size := Nat.le_trans s2 bwv.size
          obtain ⟨r2', t2', w4, hr4, oY, bY, gY⟩ := appR (Y2.out.below bwv) ((oB.low s2).below bv) SL.out mk.out g0 g1 (by omega) zv 51
          rw [← E1.out] at oY
          have X4 : Aside (OwnBs 26 w4 S (.slice r1' (k + 1) t1') ((ls.take (k + 1)).map sortE)) := (X2.out.below bwv).kept (Y2.out.below bwv) gY (by decide) (by decide)
          have Y4 : Aside (OwnBs 45 w4 S (.slice r2' (k + 1) t2') ((ls.take (k + 1)).map sortE)) := oY
          have B4 : Aside (Below S w w4) := bY w (B2.out.trans (bwv.mono s2))
          clear oY gY bY X2 Y2 B2 oB dB bv bwv g0 g1 zv rf cc2 cc
          go_wp2_with (at_builtin; refine Lib.wpList_append_run (World.alloc w3 _) rfl _ _ 51 51 rfl _ _ rfl rfl _ w4 hr4 ?_)
          go_roundg (L - (k + 1))
          case measure => omega
          case rel => exact ⟨k + 1, r1', t1', r2', t2', by go_num, rfl, rfl, by omega, Nat.le_refl _, X4, Y4, B4, A2⟩
        · have hz2 : (40 : Int) < (N : Int) := by omega
          clear e1 e2 hd LD LD0 cc0
          go_wp2_with fail
          refine (awake_any _).mono ?_
          rintro r w2 ⟨rfl, d2⟩
          have D2 : Aside (Below S w w2) := B.out.trans (d2.mono sz)
          clear d2
          go_wp2
          go_ret
          exact ⟨rfl, by rw [HS.out]; exact D2.out⟩
      · have hz1 : ¬ (k : Int) < (L : Int) := by omega
        have e : ls.take k = ls := List.take_of_length_le (by rw [HL.out]; omega)
        rw [e] at X Y A mk
        obtain ⟨T, hT⟩ : ∃ T, (ls.map sortE).flatten.length = T := ⟨_, rfl⟩
        obtain ⟨K, hK⟩ : ∃ K, wth n T = K := ⟨_, rfl⟩
        obtain ⟨c, hd⟩ : ∃ c, (sortE (ls.map sortE).flatten).take K = c := ⟨_, rfl⟩
        have cl : c.length = K := by
          have := wth_le n T
          rw [← hd, List.length_take, sortE_len, hT]
          omega
        have T480 : T ≤ 480 := by
          have h1 := flat_le (ls.map sortE) (fun x hx => by
            obtain ⟨y, hy, rfl⟩ := List.mem_map.1 hx
            rw [sortE_len]
            exact A.out y hy)
          rw [mk.out] at h1
          omega
        have F : Aside ((ls.map sortE).flatten.length = T ∧ wth n T = K ∧ (sortE (ls.map sortE).flatten).take K = c ∧ c.length = K) := ⟨hT, hK, hd, cl⟩
        clear hT hK hd cl e A
        go_wp2_with fail
        refine (pivotN X.out.is mk.out F.out.1 (by omega) F.out.2.1 F.out.2.2.1).mono ?_
        rintro r w1 ⟨xa, xc, rfl, l1, d1⟩
        have B1 : Aside (Below S w w1) := B.out.trans (d1.mono sz)
        have Y1 : Aside (IsBs w1 r2 ((ls.map sortE))) := Y.out.is.below d1
        have z1 : S ≤ w1.heap.size := Nat.le_trans sz d1.size
        have L1 : Aside (IsL w1 xa xc c) := l1
        clear l1 d1 X Y B
        go_wp2_with fail
        refine (refPivotN Y1.out mk.out F.out.1 (by omega) F.out.2.1 F.out.2.2.1).mono ?_
        rintro r w2 ⟨ya, yc, rfl, l2, d2⟩
        have B2 : Aside (Below S w w2) := B1.out.trans (d2.mono z1)
        have z2 : S ≤ w2.heap.size := Nat.le_trans z1 d2.size
        have L2 : Aside (IsL w2 ya yc c) := l2
        have L3 : Aside (IsL w2 xa xc c) := L1.out.below d2
        clear l2 d2 Y1 B1 L1
        go_wp2_with fail
        refine (sameN (B := true) L3.out L2.out F.out.2.2.2 F.out.2.2.2 (decide_eq_true rfl)).mono ?_
        rintro r w3 ⟨rfl, d3⟩
        have B3 : Aside (Below S w w3) := B2.out.trans (d3.mono z2)
        have z3 : S ≤ w3.heap.size := Nat.le_trans z2 d3.size
        clear d3 B2 L2 L3
        go_wp2_with fail
        refine (awake_any _).mono ?_
        rintro r w4 ⟨rfl, d4⟩
        have B4 : Aside (Below S w w4) := B3.out.trans (d4.mono z3)
        clear d4 B3
        go_wp2
        go_ret
        exact ⟨rfl, by rw [HS.out]; exact B4.out⟩
  · have hz : (12 : Int) < (L : Int) := by omega
    go_enter Try.func7, Try.ntmps7
    go_wp2_with fail
    refine (awake_any _).mono ?_
    rintro r w2 ⟨rfl, d2⟩
    go_wp2
    go_ret
    exact ⟨rfl, d2⟩
end Go.Proofs.Ytoknpinlphbeoaa

/- The walk of 'LsmCounts'. -/
import Derived.Test.YtchephglapnloaaLsmK
import Derived.Test.YtchephglapnloaaMask
import Derived.Test.YtchephglapnloaaRowAt
import Derived.Deep.QuietTactic
import Derived.BigQuiet
namespace Go.Proofs.Ytchephglapnloaa
open Go.RowKit Go.Lib Go.Sort
set_option linter.unusedVariables false

/-- The entries that are put. -/
def cntE (zs : List Int) (len : Nat) (i : Nat) : Ent := (if i < len then zs.getD i 0 else ((i * 37 % 101 : Nat) : Int), (i : Int) + 1)

set_option maxHeartbeats 4000000 in
set_option maxRecDepth 100000 in
theorem lsmCounts_walk (n0 : Int) (a0 : Option Addr) (len0 cap0 : Nat) (zs : List Int) (w : World) (h1 : (Lit.int .i64 n0).wf = true) (h0 : IsRow .u64 w a0 len0 cap0 zs) :
    Calls Try.prog 6 #[.int .i64 n0, .slice a0 len0 cap0] w fun r w' => r = .returned (.bool true) ∧ Below w.heap.size w w' := by
  obtain ⟨S, hS⟩ : ∃ S, w.heap.size = S := ⟨_, rfl⟩
  have HS : Hid _ := hS
  have hl := h0.len_le
  have H0 : Aside (IsRow .u64 w a0 len0 cap0 zs) := h0
  obtain ⟨X, hX, X0, X1⟩ : ∃ X, bits .and .i64 n0 255 = X ∧ 0 ≤ X ∧ X < 256 := ⟨_, mask_i64 n0 8 255 256 (by omega) rfl rfl, by omega, by omega⟩
  obtain ⟨N, hN, n200⟩ : ∃ N : Nat, X % 200 = (N : Int) ∧ N < 200 := ⟨(X % 200).toNat, by omega, by omega⟩
  have nw := lnew_any w
  have L0 : Aside (Lsm (w.alloc (.cells #[.slice none 0 0] 60)) S S []) := by rw [← hS]; exact lsm_new w _ (Nat.le_refl _)
  have D0 : Aside (Below S w (w.alloc (.cells #[.slice none 0 0] 60))) := by rw [← hS]; exact (Below.refl _ _).alloc (Nat.le_refl _) _
  rw [hS] at nw
  clear h0 h1
  go_enter Try.func6, Try.ntmps6
  go_wp2_with fail
  refine nw.mono ?_
  rintro r w1 ⟨rfl, rfl⟩
  generalize w.alloc (.cells #[.slice none 0 0] 60) = w1 at L0 D0 ⊢
  clear nw
  go_wp2_with fail
  simp only [hN]
  clear hN hX
  go_loopg [6, 7] N (fun kx s6 s7 wr => ∃ (k : Nat), s6 = .int .i64 k ∧ k ≤ N ∧ N - k ≤ kx ∧ Aside (Lsm wr S S (putUp (cntE zs len0) k)) ∧ Aside (Below S w wr))
  case atStart => exact ⟨0, rfl, by omega, by omega, L0, D0⟩
  case round =>
    clear L0 D0
    obtain ⟨k, rfl, hk, hkx, L, D⟩ := hrel
    have sz := D.out.size
    by_cases hlt : k < N
    · have hz : (k : Int) < (N : Int) := by omega
      have pt := lput_any S S _ (cntE zs len0 k) wr L.out (by have := putUp_count (cntE zs len0) k; omega) (by rw [putUp_len]; omega) (by omega)
      obtain ⟨Q, hQ, hQ2⟩ : ∃ Q : Nat, (k : Int) * 37 % 101 = (Q : Int) ∧ k * 37 % 101 = Q := ⟨_, by omega, rfl⟩
      have Q1 : Q < 101 := by rw [← hQ2]; exact Nat.mod_lt _ (by omega)
      by_cases hkl : k < len0
      · have hz2 : (k : Int) < (len0 : Int) := by omega
        obtain ⟨b, off, ha, hb, hc, _⟩ := H0.out.at hkl
        have hc2 := (D.out.cell (p := ⟨b, off + k, none⟩) (by show b < S; omega)).trans hc
        unfold cntE at pt
        rw [if_pos hkl] at pt
        simp only at pt
        obtain ⟨z, hzz⟩ : ∃ z, zs.getD k 0 = z := ⟨_, rfl⟩
        rw [hzz] at pt hc2
        have HZ : Hid (cntE zs len0 k = (z, (k : Int) + 1)) := by show _ = _; unfold cntE; rw [if_pos hkl, hzz]
        subst ha
        clear hc hzz
        go_wp2_with fail
        refine pt.mono ?_
        rintro r w2 ⟨rfl, t2⟩
        have L2 : Aside (Lsm w2 S S (putUp (cntE zs len0) (k + 1))) := by have := t2.1; rw [← HZ.out] at this; exact this
        have D2 : Aside (Below S w w2) := D.out.trans t2.2.1
        clear t2 pt L D hc2
        go_wp2
        go_roundg (N - (k + 1))
        case measure => omega
        case rel => exact ⟨k + 1, by go_num, by omega, Nat.le_refl _, L2, D2⟩
      · have hz2 : ¬ (k : Int) < (len0 : Int) := by omega
        unfold cntE at pt
        rw [if_neg hkl, hQ2] at pt
        simp only at pt
        have HZ : Hid (cntE zs len0 k = ((Q : Int), (k : Int) + 1)) := by show _ = _; unfold cntE; rw [if_neg hkl, hQ2]
        go_wp2_with fail
        refine pt.mono ?_
        rintro r w2 ⟨rfl, t2⟩
        have L2 : Aside (Lsm w2 S S (putUp (cntE zs len0) (k + 1))) := by have := t2.1; rw [← HZ.out] at this; exact this
        have D2 : Aside (Below S w w2) := D.out.trans t2.2.1
        clear t2 pt L D
        go_wp2
        go_roundg (N - (k + 1))
        case measure => omega
        case rel => exact ⟨k + 1, by go_num, by omega, Nat.le_refl _, L2, D2⟩
    · obtain rfl : k = N := by omega
      have hz : ¬ (k : Int) < (k : Int) := by omega
      obtain ⟨ls, hls⟩ : ∃ ls, putUp (cntE zs len0) k = ls := ⟨_, rfl⟩
      rw [hls] at L
      have bt := putUp_bits (cntE zs len0) k (by omega)
      have fl := putUp_fall (cntE zs len0) k
      have ll := putUp_len (cntE zs len0) k
      have lc := putUp_count (cntE zs len0) k
      rw [hls] at bt fl ll lc
      have BT : Aside (ls.map lv = wantL k 8) := bt.trans (want_all k).symm
      have FL : Aside (Fall ls) := fl
      have LL : Hid _ := ll
      have LC : Hid _ := lc
      clear hls bt fl ll lc H0
      go_wp2_with fail
      go_loopg [8, 9] 9 (fun kx s8 s9 wr => ∃ (j n : Nat) (r : Option Addr) (t : Nat), s9 = .int .i64 (7 - (j : Int)) ∧ s8 = .slice r n t ∧ Hid ((wantL k j).length = n) ∧ j ≤ 8 ∧ 9 - j ≤ kx ∧ Aside (OwnI wr S (.slice r n t) (wantL k j)) ∧ Aside (Lsm wr S S ls) ∧ Aside (Below S w wr))
      case atStart => exact ⟨0, 0, none, 0, rfl, rfl, rfl, by omega, by omega, World.ownsRow_nil _ _ _ _, L, D⟩
      case round =>
        clear L D sz
        obtain ⟨j, n, r, t, rfl, rfl, HN, hj, hjx, O, L, D⟩ := hrel
        have sz := D.out.size
        by_cases hlt2 : j < 8
        · obtain ⟨c, hc, hc2⟩ : ∃ c : Nat, 7 - (j : Int) = (c : Int) ∧ 7 - j = c := ⟨7 - j, by omega, rfl⟩
          have hy : (0 : Int) ≤ (c : Int) := by omega
          obtain ⟨V, hV, hV2⟩ : ∃ V : Nat, (k : Int) / 2 ^ c = (V : Int) ∧ k / 2 ^ c = V := ⟨_, by rw [Int.natCast_ediv, Int.natCast_pow]; rfl, rfl⟩
          have hv3 : V ≤ k := by rw [← hV2]; exact Nat.div_le_self _ _
          have e1 : wantL k (j + 1) = wantL k j ++ (if k.testBit c then [c] else []) := by rw [wantL, hc2]
          have lr : Aside (wantL k (j + 1) = wantL k j ++ (if k.testBit c then [c] else [])) := e1
          have wl := want_len k j
          rw [HN.out] at wl
          have c63 : c ≤ 7 := by omega
          by_cases ht : k.testBit c = true
          · have q1 : bits .and .i64 (V : Int) 1 = 1 := by
              rw [mask_i64 (V : Int) 1 1 2 (by omega) rfl rfl]
              have := (bit_test k c).2 ht
              rw [hV2] at this
              omega
            obtain ⟨r', t', w2, hr, o2, b2, k2⟩ := app_int c O.out HN.out (by omega) (by omega)
            have E1 : Hid (wantL k (j + 1) = wantL k j ++ [c]) := by show _ = _; have := lr.out; rw [if_pos ht] at this; exact this
            have O2 : Aside (OwnI w2 S (.slice r' (n + 1) t') (wantL k (j + 1))) := by rw [E1.out]; exact o2
            have HN2 : Hid ((wantL k (j + 1)).length = n + 1) := by show _ = _; rw [E1.out, List.length_append, HN.out]; rfl
            have L2 : Aside (Lsm w2 S S ls) := L.out.kept k2 (by decide) (by decide) (by decide)
            have D2 : Aside (Below S w w2) := D.out.trans b2
            clear o2 b2 k2 lr e1 O L D hV2 hc2
            go_wp2_with (at_builtin; refine Lib.wpList_append_run (World.alloc wr _) rfl _ _ 48 48 rfl _ _ rfl rfl _ w2 hr ?_)
            go_roundg (9 - (j + 1))
            case measure => omega
            case rel => exact ⟨j + 1, n + 1, r', t', by go_num, rfl, HN2, by omega, Nat.le_refl _, O2, L2, D2⟩
          · have q1 : bits .and .i64 (V : Int) 1 = 0 := by
              rw [mask_i64 (V : Int) 1 1 2 (by omega) rfl rfl]
              have := mt (bit_test k c).1 ht
              rw [hV2] at this
              omega
            have E1 : Hid (wantL k (j + 1) = wantL k j) := by show _ = _; have := lr.out; rw [if_neg ht, List.append_nil] at this; exact this
            have O2 : Aside (OwnI wr S (.slice r n t) (wantL k (j + 1))) := by rw [E1.out]; exact O.out
            have HN2 : Hid ((wantL k (j + 1)).length = n) := by show _ = _; rw [E1.out, HN.out]
            clear lr e1 O hV2 hc2 ht
            go_wp2
            go_roundg (9 - (j + 1))
            case measure => omega
            case rel => exact ⟨j + 1, n, r, t, by go_num, rfl, HN2, by omega, Nat.le_refl _, O2, L, D⟩
        · obtain rfl : j = 8 := by omega
          have hy : ¬ (0 : Int) ≤ 7 - ((8 : Nat) : Int) := by omega
          have hn : ls.length = n := by rw [← HN.out, ← BT.out, List.length_map]
          have lvs := llevels_any S S ls wr L.out (by have := LC.out; omega)
          obtain ⟨G, hG⟩ : ∃ G, wr.heap.size = G := ⟨_, rfl⟩
          rw [hG, hn] at lvs
          have HNL : Hid _ := hn
          have n8 : n ≤ 8 := by have := want_len k 8; rw [HN.out] at this; exact this
          clear hn
          go_wp2_with fail
          refine lvs.mono ?_
          rintro r3 w3 ⟨rfl, lv3, d3⟩
          have d3' : Below wr.heap.size wr w3 := by rw [hG]; exact d3
          have V3 : Aside (LevIs w3 G ls) := lv3
          have O3 : Aside (OwnI w3 S (.slice r n t) (wantL k 8)) := O.out.below d3'
          have L3 : Aside (Lsm w3 S S ls) := L.out.below d3'
          have D3 : Aside (Below S w w3) := D.out.trans (d3'.mono (by omega))
          have ln := llen_any S S ls w3 L3.out (by rw [LL.out]; omega)
          rw [LL.out] at ln
          clear lvs d3 d3' lv3 O L D
          go_wp2_with fail
          refine ln.mono ?_
          rintro r4 w4 ⟨rfl, d4⟩
          have V4 : Aside (LevIs w4 G ls) := V3.out.below d4
          have O4 : Aside (OwnI w4 S (.slice r n t) (wantL k 8)) := O3.out.below d4
          have L4 : Aside (Lsm w4 S S ls) := L3.out.below d4
          have D4 : Aside (Below S w w4) := D3.out.trans (d4.mono (by have := D3.out.size; omega))
          have ck := lcheck_any S S ls w4 L4.out FL.out (by have := LC.out; omega) (by rw [LL.out]; omega)
          clear ln d4 V3 O3 L3 D3
          go_wp2_with fail
          refine ck.mono ?_
          rintro r5 w5 ⟨rfl, d5⟩
          have V5 : Aside (LevIs w5 G ls) := V4.out.below d5
          have O5 : Aside (OwnI w5 S (.slice r n t) (wantL k 8)) := O4.out.below d5
          have D5 : Aside (Below S w w5) := D4.out.trans (d5.mono (by have := D4.out.size; omega))
          clear ck d5 V4 O4 L4 D4
          go_wp2_with fail
          go_loopg [11] n (fun kx s11 wq => ∃ (i : Nat), s11 = .int .i64 i ∧ i ≤ n ∧ n - i ≤ kx ∧ Aside (LevIs wq G ls) ∧ Aside (OwnI wq S (.slice r n t) (wantL k 8)) ∧ Aside (Below S w wq))
          case atStart => exact ⟨0, rfl, by omega, by omega, V5, O5, D5⟩
          case round =>
            clear V5 O5 D5
            obtain ⟨i, rfl, hi, hix, V, O, D⟩ := hrel
            have szq := D.out.size
            by_cases hlt3 : i < n
            · have hz3 : (i : Int) < (n : Int) := by omega
              have hil : i < ls.length := by rw [HNL.out]; exact hlt3
              have hiw : i < (wantL k 8).length := by rw [HN.out]; exact hlt3
              obtain ⟨c0, sG⟩ := V.out.at hil
              obtain ⟨g, hr, hg, c1⟩ := O.out.at hiw
              have eq : (wantL k 8)[i] = lv ls[i] := by
                have h1 : (wantL k 8)[i]? = (ls.map lv)[i]? := by rw [BT.out]
                rw [List.getElem?_eq_getElem hiw, List.getElem?_map, List.getElem?_eq_getElem hil] at h1
                simpa using h1
              rw [eq] at c1
              obtain ⟨m, hm⟩ : ∃ m, lv ls[i] = m := ⟨_, rfl⟩
              rw [hm] at c0 c1
              have HR : Hid _ := hr
              have c0' : ∀ q, (wr.drewN q).cell? ⟨G, i, none⟩ = some (.int .i64 m) := fun q => c0
              have c1' : ∀ q, (wr.drewN q).cell? ⟨g, i, none⟩ = some (.int .i64 m) := fun q => c1
              subst hr
              clear eq hm
              go_wp2_with fail
              go_quiet (fail)
              have VQ : Aside (LevIs (wr.drewN nq) G ls) := V.out.below (Grown.below ⟨nq, #[], by rw [grow_empty]⟩)
              have OQ : Aside (OwnI (wr.drewN nq) S (.slice (some ⟨g, 0, none⟩) n t) (wantL k 8)) := O.out.below (Grown.below ⟨nq, #[], by rw [grow_empty]⟩)
              have DQ : Aside (Below S w (wr.drewN nq)) := D.out.trans (Below.mono (Grown.below ⟨nq, #[], by rw [grow_empty]⟩) (by omega))
              go_wp2
              go_roundg (n - (i + 1))
              case measure => omega
              case rel => exact ⟨i + 1, by go_num, by omega, Nat.le_refl _, VQ, OQ, DQ⟩
            · have hz3 : ¬ (i : Int) < (n : Int) := by omega
              have aw := lawake_any wr
              go_wp2_with fail
              refine aw.mono ?_
              rintro r9 w9 ⟨rfl, d9⟩
              have D9 : Aside (Below S w w9) := D.out.trans (d9.mono (by omega))
              clear aw d9
              go_wp2
              go_ret
              exact ⟨rfl, by rw [HS.out]; exact D9.out⟩
end Go.Proofs.Ytchephglapnloaa

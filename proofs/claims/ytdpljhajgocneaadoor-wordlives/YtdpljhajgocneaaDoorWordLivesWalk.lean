/- The walk of 'WordLives'. -/
import Derived.Test.YtdpljhajgocneaaDoorLives
import Derived.Test.YtdpljhajgocneaaDoorRow
import Derived.Maps.Own
namespace Go.Proofs.YtdpljhajgocneaaDoor
open Go.RowKit
set_option linter.unusedVariables false

theorem lives_none (a : Option Addr) (cap : Nat) (w : World) (hN : Named w) :
    Calls Tryd.prog 4 #[.slice a 0 cap] w fun e w' => e = .returned (.bool true) ∧ Below w.heap.size w w' := by
  go_enter Tryd.func4, Tryd.ntmps4
  go_wp2_with fail
  refine wp_loop_rounds 1 ?_
  rw [rounds_succ]
  go_wp2_with fail
  refine (awake_any _ hN).mono ?_
  rintro e w1 ⟨rfl, b1⟩
  go_wp2_with fail
  go_ret
  exact ⟨rfl, b1⟩

theorem below_grown {w w' : World} (h : Below w.heap.size w w') : w.grownBy w' none := ⟨h.os, h.tape, h.output, h.size, fun k hk _ => h.block k hk⟩
theorem info3 : (Tryd.prog.info? 3).map (fun i => (i.zero, i.size, i.bytes)) = some (some (.int .i64 0), 1, 8) := by kernel_rfl
set_option maxRecDepth 100000 in
set_option maxHeartbeats 1000000 in
theorem lives_some (b off len cap : Nat) (zs : List Int) (w : World) (hN : Named w) (h0 : 0 < w.heap.size) (hbl : b < w.heap.size) (hl : len ≤ maxLen) (hz : len ≤ zs.length)
    (hcell : ∀ j, j < zs.length → w.cell? ⟨b, off + j, none⟩ = some (.int .i64 (zs.getD j 0))) :
    Calls Tryd.prog 4 #[.slice (some ⟨b, off, none⟩) len cap] w fun e w' => e = .returned (.bool true) ∧ Below w.heap.size w w' := by
  unfold maxLen at hl
  obtain ⟨i0, hi, hz0, hz1, hz2⟩ := info_parts info3
  go_enter Tryd.func4, Tryd.ntmps4
  go_wp2_with fail
  go_loopw [3, 4, 5, 6] (fun s t a i wr => ∃ (S : Int) (T A I : Nat), 0 ≤ S ∧ S ≤ 6 ∧ T ≤ I ∧ A ≤ T ∧ I ≤ 60 ∧ (T : Int) ≤ phi S + 3 * (A : Int) ∧ s = .int .i64 S ∧ t = .int .i64 T ∧ a = .int .i64 A ∧ i = .int .i64 I ∧ Below w.heap.size w wr)
    (fun _ _ _ i _ => 60 - (intOf i).toNat)
  case atStart => exact ⟨0, 0, 0, 0, by omega, by omega, by omega, by omega, by omega, by simp [phi], rfl, rfl, rfl, rfl, Below.refl _ _⟩
  case round =>
    obtain ⟨S, T, A, I, s0, s6, hTI, hAT, hI, hph, rfl, rfl, rfl, rfl, hb⟩ := hrel
    have hsz := hb.size
    by_cases hgo : I < len ∧ I < 60
    · obtain ⟨g1, g2⟩ := hgo
      have g1' : (I : Int) < (len : Int) := by omega
      have g2' : (I : Int) < 60 := by omega
      go_wp2_with fail
      go_loopw [7, 8] (fun v k wi => ∃ j : Nat, j ≤ 7 ∧ k = .int .i64 j ∧ wi.ownsRow w.heap.size 3 1 v (nextTo S j).length ((nextTo S j).map (Value.int .i64)) ∧ Below w.heap.size w wi) (fun _ k _ => 7 - (intOf k).toNat)
      case atStart => exact ⟨0, by omega, rfl, World.ownsRow_nil _ _ _ _, hb⟩
      case round =>
        obtain ⟨j, hj, rfl, hown, hbi⟩ := hrel
        have hsi := hbi.size
        by_cases hj7 : j < 7
        · have hj' : (j : Int) ≤ 6 := by omega
          have hnl := nextTo_len S j
          go_wp2_with fail
          refine (can_any _ _ _ (WalkArith.wf_i64 (by omega)) (WalkArith.wf_i64 (by omega))).mono ?_
          rintro e w1 ⟨rfl, b1⟩
          have hown1 := hown.kept (below_grown b1) (by cases u7.ownBlock <;> simp)
          have hb1 := hbi.trans (b1.mono hsi)
          have hs1 := hb1.size
          clear hown b1
          cases hc : canB S j
          · have HS : Hid (nextTo S (j + 1) = nextTo S j) := by
              show nextTo S (j + 1) = nextTo S j
              rw [nextTo_succ, hc]; simp
            go_wp2_with fail
            go_roundw
            case rel => exact ⟨j + 1, by omega, by go_num, by rw [HS.out]; exact hown1, hb1⟩
            case measure => simp [intOf]; omega
          · have HS : Hid (nextTo S (j + 1) = nextTo S j ++ [(j : Int)]) := by
              show nextTo S (j + 1) = _
              rw [nextTo_succ, hc]; simp
            go_wp2_with (at_builtin; refine wpList_append_own _ rfl _ _ 26 rfl w.heap.size 3 i0 (.int .i64 0) 1 8 Tryd.underlying26 hi hz0 hz1 hz2 rfl (by decide) _ _ _ rfl (hown1.alloc _) ⟨w1.heap.size, 0, none⟩ 1 1 [.int .i64 (j : Int)] rfl rfl (cell_one_new _ _ _) (ints_oneCell .i64 [(j : Int)]) (by unfold maxLen; omega) (by omega) (by simp; omega) ?_; intro v' w2 hown2 hgrow2 hnil2)
            have hb2 : Below w.heap.size w w2 := (hb1.alloc hs1 _).grown hgrow2 (by simp; omega) (fun k hk => (hown1.lt k hk).1)
            clear hgrow2 hnil2
            go_roundw
            case rel => exact ⟨j + 1, by omega, by go_num, by rw [HS.out, List.map_append, List.length_append]; exact hown2, hb2⟩
            case measure => simp [intOf]; omega
        · obtain rfl : j = 7 := by omega
          have hover := nextTo_nil S s0 s6
          have hmem := fun b => nextTo_mem (s := S) (k := 7) (b := b)
          have hnl := nextTo_len S 7
          generalize nextTo S 7 = L at *
          clear hb hsz
          rcases hown.2 with ⟨hv, hn⟩ | ⟨g, cp, cur, hv, hg1, hg2, hg3, hg4, hg5, hg6⟩
          · rw [hn] at hover
            have ho : overB S = true := hover
            clear hover
            subst hv
            go_wp2_with fail
            refine (over_any _ _).mono ?_
            rw [ho]
            rintro e w1 ⟨rfl, rfl⟩
            have hfin : (T : Int) ≤ 4 + 3 * (A : Int) := by have := phi_le S; omega
            have N1 := hN.below hbi h0
            go_wp2_with fail
            refine (awake_any _ N1).mono ?_
            rintro e w2 ⟨rfl, b2⟩
            go_wp2_with fail
            go_ret
            exact ⟨rfl, hbi.trans (b2.mono hsi)⟩
          · by_cases hL0 : L.length = 0
            · rw [hL0] at hover hv
              have ho : overB S = true := hover
              clear hover
              subst hv
              go_wp2_with fail
              refine (over_any _ _).mono ?_
              rw [ho]
              rintro e w1 ⟨rfl, rfl⟩
              have hfin : (T : Int) ≤ 4 + 3 * (A : Int) := by have := phi_le S; omega
              have N1 := hN.below hbi h0
              go_wp2_with fail
              refine (awake_any _ N1).mono ?_
              rintro e w2 ⟨rfl, b2⟩
              go_wp2_with fail
              go_ret
              exact ⟨rfl, hbi.trans (b2.mono hsi)⟩
            · have ho : overB S = false := by rw [hover]; simp [hL0]
              clear hover
              obtain ⟨Z, hZ⟩ : ∃ Z, Z = zs.getD I 0 := ⟨_, rfl⟩
              have hci : wr.cell? ⟨b, off + I, none⟩ = some (.int .i64 Z) := by rw [hZ]; exact (hbi.cell (by exact hbl)).trans (hcell I (by omega))
              obtain ⟨X, hX, hX2⟩ : ∃ X : Nat, bits .and .i64 Z 255 = (X : Int) ∧ X < 256 := ⟨(Z % 256).toNat, by rw [and255_i64]; omega, by omega⟩
              obtain ⟨n, hn⟩ : ∃ n, n = L.length := ⟨_, rfl⟩
              obtain ⟨m, hm, hm2⟩ : ∃ m : Nat, (X : Int) % (n : Int) = (m : Int) ∧ m < n := ⟨X % n, by simp, Nat.mod_lt _ (by omega)⟩
              have hmL : m < L.length := by omega
              have hs' := hown.cells (g := g) (by rw [hv]; rfl) m (.int .i64 L[m]) (by simp [hmL])
              obtain ⟨hc, c0, c7⟩ := hmem L[m] (List.getElem_mem hmL)
              generalize L[m] = S' at hs' hc c0 c7
              rw [Addr.add_lit] at hs'
              simp only [Nat.zero_add] at hs'
              rw [← hn] at hv hnl
              clear hZ hcell hmem hmL hown hg1 hg2 hg3 hg4 hg5 hg6
              have hn0 : 0 < (n : Int) := by omega
              have hn1 : ((n : Int) == 0) = false := by simp; omega
              have hn7 : (n : Int) ≤ 7 := by omega
              have hm3 : (m : Int) < (n : Int) := by omega
              clear hL0 hn
              subst hv
              by_cases hag : S = 3 ∧ S' = 1
              · obtain ⟨rfl, rfl⟩ := hag
                have hst := phi_again (T : Int) (A : Int) hph
                go_wp2_with fail
                refine (over_any _ _).mono ?_
                rw [ho]
                rintro e w1 ⟨rfl, rfl⟩
                go_wp2_with fail
                go_roundw
                case rel => exact ⟨1, T + 1, A + 1, I + 1, by omega, by omega, by omega, by omega, by omega, by simpa using hst, rfl, by go_num, by go_num, by go_num, hbi⟩
                case measure => simp [intOf]; omega
              · have hor : (S == 3) = false ∨ (S' == 1) = false := by
                  by_cases h3 : S = 3
                  · exact Or.inr (by simp; intro h1; exact hag ⟨h3, h1⟩)
                  · exact Or.inl (by simp [h3])
                have hst := phi_step S S' (T : Int) (A : Int) hc hph hor
                clear hag
                cases h3 : (S == 3)
                · clear hor
                  go_wp2_with fail
                  refine (over_any _ _).mono ?_
                  rw [ho]
                  rintro e w1 ⟨rfl, rfl⟩
                  go_wp2_with fail
                  go_roundw
                  case rel => exact ⟨S', T + 1, A, I + 1, c0, by omega, by omega, by omega, by omega, by simpa using hst, rfl, by go_num, by go_num, by go_num, hbi⟩
                  case measure => simp [intOf]; omega
                · have h1 : (S' == 1) = false := by
                    rcases hor with h | h
                    · rw [h3] at h; cases h
                    · exact h
                  clear hor
                  go_wp2_with fail
                  refine (over_any _ _).mono ?_
                  rw [ho]
                  rintro e w1 ⟨rfl, rfl⟩
                  go_wp2_with fail
                  go_roundw
                  case rel => exact ⟨S', T + 1, A, I + 1, c0, by omega, by omega, by omega, by omega, by simpa using hst, rfl, by go_num, by go_num, by go_num, hbi⟩
                  case measure => simp [intOf]; omega
    · have hfin : (T : Int) ≤ 4 + 3 * (A : Int) := by have := phi_le S; omega
      have N1 := hN.below hb h0
      by_cases g1 : I < len
      · have g1' : (I : Int) < (len : Int) := by omega
        have g2' : ¬ (I : Int) < 60 := by omega
        go_wp2_with fail
        refine (awake_any _ N1).mono ?_
        rintro e w2 ⟨rfl, b2⟩
        go_wp2_with fail
        go_ret
        exact ⟨rfl, hb.trans (b2.mono hsz)⟩
      · have g1' : ¬ (I : Int) < (len : Int) := by omega
        go_wp2_with fail
        refine (awake_any _ N1).mono ?_
        rintro e w2 ⟨rfl, b2⟩
        go_wp2_with fail
        go_ret
        exact ⟨rfl, hb.trans (b2.mono hsz)⟩

theorem wordLives_walk (a : Option Addr) (len cap : Nat) (zs : List Int) (w : World) (h : IsRow .i64 w a len cap zs) (hN : Named w ∧ 0 < w.heap.size) :
    Calls Tryd.prog 4 #[.slice a len cap] w fun e w' => e = .returned (.bool true) ∧ Below w.heap.size w w' := by
  rcases h with ⟨rfl, rfl, rfl, rfl⟩ | ⟨x, rfl, hl, hm, hz, hcell, hwz⟩
  · exact lives_none _ _ _ hN.1
  · by_cases h0 : len = 0
    · subst h0
      exact lives_none _ _ _ hN.1
    · obtain ⟨b, off, spot⟩ := x
      have hc := hcell 0 (by omega)
      have hspot : spot = none := by simpa [Addr.add] using World.cell?_spot hc
      subst hspot
      have hc2 : ∀ j, j < zs.length → w.cell? ⟨b, off + j, none⟩ = some (.int .i64 (zs.getD j 0)) := fun j hj => by
        have := hcell j hj
        rw [Addr.add_lit] at this
        exact this
      exact lives_some b off len cap zs w hN.1 hN.2 (World.block_lt_of_cell? w _ (hc2 0 (by omega))) (by omega) (by omega) hc2
end Go.Proofs.YtdpljhajgocneaaDoor

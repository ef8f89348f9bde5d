/- The walk of 'WordRises'. -/
import Derived.Test.YtdpljhajgocneabDoorWords
import Derived.Test.YtdpljhajgocneabDoorRow
import Derived.Maps.Own
import Derived.Deep.QuietTactic
import Derived.BigQuiet
import Derived.WalkSmall
namespace Go.Proofs.YtdpljhajgocneabDoor
open Go.RowKit
set_option linter.unusedVariables false

theorem below_grown {w w' : World} (h : Below w.heap.size w w') : w.grownBy w' none := ⟨h.os, h.tape, h.output, h.size, fun k hk _ => h.block k hk⟩
theorem and60_u64 (n : Int) (h0 : 0 ≤ n) (h1 : n < 18446744073709551616) : bits .and .u64 n 1152921504606846975 = n % 1152921504606846976 := by
  rw [u64_and n _ h0 h1 (by decide) (by decide)]
  have e : (1152921504606846975 : Int).toNat = 2 ^ 60 - 1 := by decide
  rw [e, Nat.and_two_pow_sub_one_eq_mod]
  have e2 : (2 : Nat) ^ 60 = 1152921504606846976 := by decide
  rw [e2]
  omega
theorem rises_none (a : Option Addr) (cap : Nat) (f : Int) (w : World) (hN : Named w) :
    Calls Tryd.prog 3 #[.slice a 0 cap, .int .u64 f] w fun e w' => e = .returned (.bool true) ∧ Below w.heap.size w w' := by
  go_enter Tryd.func3, Tryd.ntmps3
  go_wp2_with fail
  refine (pack_any _ _ _).mono ?_
  rintro e w1 ⟨rfl, rfl⟩
  go_wp2_with fail
  refine wp_loop_rounds 1 ?_
  rw [rounds_succ]
  go_wp2_with fail
  refine (awake_any _ hN).mono ?_
  rintro e w1 ⟨rfl, b1⟩
  go_wp2_with fail
  go_ret
  exact ⟨rfl, b1⟩
theorem infoU64 : (Tryd.prog.info? 23).map (fun i => (i.zero, i.size, i.bytes)) = some (some (.int .u64 0), 1, 8) := by kernel_rfl
theorem rise_num (S V F I : Int) (hV : V = F + I + 1) (f0 : 0 ≤ F) (f1 : F < 1152921504606846976) (i0 : 0 ≤ I) (i1 : I < 50) (s0 : 0 ≤ S) (s1 : S < 8) :
    packI S V / 8 = F + I + 1 ∧ packI S V % 8 = S := by
  rw [packI_version, packI_state]
  omega
theorem snoc_div {L : List Int} {I : Nat} {F W : Int} (hL : L.length = I) (hLv : ∀ j : Nat, j < I → L.getD j 0 / 8 = F + j) (hW : W / 8 = F + I) : ∀ j : Nat, j < I + 1 → (L ++ [W]).getD j 0 / 8 = F + j := by
  intro j hj
  by_cases hjI : j < I
  · have := hLv j hjI
    rw [List.getD, List.getElem?_append_left (by omega)]
    exact this
  · obtain rfl : j = I := by omega
    rw [List.getD, List.getElem?_append_right (by omega), hL]
    simpa using hW
set_option maxRecDepth 100000 in
set_option maxHeartbeats 1000000 in
theorem rises_some (b off len cap : Nat) (zs : List Int) (f : Int) (w : World) (f0 : 0 ≤ f) (f1 : f < 18446744073709551616) (hN : Named w) (h0 : 0 < w.heap.size) (hbl : b < w.heap.size) (hl : len ≤ maxLen) (hz : len ≤ zs.length)
    (hcell : ∀ j, j < zs.length → w.cell? ⟨b, off + j, none⟩ = some (.int .i64 (zs.getD j 0))) :
    Calls Tryd.prog 3 #[.slice (some ⟨b, off, none⟩) len cap, .int .u64 f] w fun e w' => e = .returned (.bool true) ∧ Below w.heap.size w w' := by
  unfold maxLen at hl
  obtain ⟨i0, hi, hz0, hz1, hz2⟩ := info_parts infoU64
  obtain ⟨F, hF, F0, F1⟩ : ∃ F, bits .and .u64 f 1152921504606846975 = F ∧ 0 ≤ F ∧ F < 1152921504606846976 := ⟨_, and60_u64 f f0 f1, by omega, by omega⟩
  clear f0 f1
  go_enter Tryd.func3, Tryd.ntmps3
  go_wp2_with fail
  refine (pack_any _ _ _).mono ?_
  rintro e w1 ⟨rfl, rfl⟩
  have p1 := packI_bound 0 F
  have p2 : packI 0 F / 8 = F := by rw [packI_version]; omega
  generalize packI 0 F = P0 at *
  go_wp2_with fail
  go_loopw [5, 6, 7] (fun x v i wr => ∃ (W : Int) (I : Nat) (L : List Int), 0 ≤ W ∧ W < 18446744073709551616 ∧ W / 8 = F + I ∧ I ≤ 50 ∧ L.length = I ∧ (∀ j, j < I → L.getD j 0 / 8 = F + j) ∧ x = .int .u64 W ∧ i = .int .i64 I ∧
      wr.ownsRow w1.heap.size 23 1 v I (L.map (Value.int .u64)) ∧ Below w1.heap.size w1 wr)
    (fun _ _ i _ => 50 - (intOf i).toNat)
  case atStart => exact ⟨P0, 0, [], p1.1, p1.2, by simpa using p2, by omega, rfl, fun j hj => by omega, rfl, rfl, World.ownsRow_nil _ _ _ _, Below.refl _ _⟩
  case round =>
    obtain ⟨W, I, L, W0, W1, hW, hI, hL, hLv, rfl, rfl, hown, hb⟩ := hrel
    have hsz := hb.size
    by_cases hgo : I < len ∧ I < 50
    · obtain ⟨g1, g2⟩ := hgo
      have g1' : (I : Int) < (len : Int) := by omega
      have g2' : (I : Int) < 50 := by omega
      clear p1 p2
      obtain ⟨Z, hZ⟩ : ∃ Z, Z = zs.getD I 0 := ⟨_, rfl⟩
      obtain ⟨S, hS, S0, S1⟩ : ∃ S, bits .and .i64 Z 7 = S ∧ 0 ≤ S ∧ S < 8 := ⟨_, and7_i64 Z, by omega, by omega⟩
      rcases hown.2 with ⟨hv, hn⟩ | ⟨g, cp, cur, hv, _⟩
      · have hn' : I ≤ 0 := by omega
        clear hn
        subst hv
        go_wp2_with fail
        refine wp_loop_rounds 1 ?_
        rw [rounds_succ]
        go_wp2_with (at_builtin; refine wpList_append_own _ rfl _ _ 25 rfl w1.heap.size 23 i0 (.int .u64 0) 1 8 Tryd.underlying25 hi hz0 hz1 hz2 rfl (by decide) _ _ _ rfl (hown.alloc _) ⟨wr.heap.size, 0, none⟩ 1 1 [.int .u64 W] rfl rfl (cell_one_new _ _ _) (ints_oneCell .u64 [W]) (by unfold maxLen; omega) (by omega) (by simp; omega) ?_; intro v' w2 hown2 hgrow2 hnil2; have hb2 : Below w1.heap.size w1 w2 := (hb.alloc hsz _).grown hgrow2 (by simp; omega) (fun k hk => (hown.lt k hk).1); have hci : w2.cell? ⟨b, off + I, none⟩ = some (.int .i64 Z) := (by rw [hZ]; exact (hb2.cell (by exact hbl)).trans (hcell I (by omega))); clear hgrow2 hnil2 hown hb hZ hcell)
        have hsz2 := hb2.size
        refine (next_any _ _ _ W0 W1).mono ?_
        rintro e w3 ⟨rfl, rfl⟩
        obtain ⟨n1, n2⟩ := rise_num S (W / 8 + 1) F I (by omega) F0 F1 (by omega) g2' S0 S1
        obtain ⟨q0, q1⟩ := packI_bound S (W / 8 + 1)
        generalize packI S (W / 8 + 1) = W2 at *
        go_wp2_with fail
        go_quiet ((first | (go_at_call 6; exact Calls.quiet_of_same (version_any _ _)) | (go_at_call 7; exact Calls.quiet_of_same (state_any _ _ q0 q1))))
        go_wp2_with fail
        go_roundw
        case rel =>
          have h3 : w3.ownsRow w1.heap.size 23 1 v' (I + 1) ((L ++ [W]).map (Value.int .u64)) := by simpa using hown2
          exact ⟨W2, I + 1, L ++ [W], q0, q1, by rw [n1]; omega, by omega, by simp [hL], snoc_div hL hLv hW, rfl, by go_num, h3, below_drewN hb2 _⟩
        case measure => simp [intOf]; omega
      · have hcs := hown.cells (g := g) (by rw [hv]; rfl)
        subst hv
        go_wp2_with fail
        go_loop [8] (fun k => ∃ m : Nat, m ≤ I ∧ k = .int .i64 m) (fun k => I - (intOf k).toNat)
        case atStart => exact ⟨0, by omega, rfl⟩
        case round =>
          obtain ⟨m, hm, rfl⟩ := hrel
          by_cases hmI : m < I
          · have hc1 := hcs m (.int .u64 (L.getD m 0)) (by simp [List.getElem?_eq_getElem (show m < L.length by omega), List.getD])
            rw [Addr.add_lit] at hc1
            simp only [Nat.zero_add] at hc1
            have hlm := hLv m hmI
            generalize L.getD m 0 = Y at hc1 hlm
            have hne : (Y == W) = false := by simp; omega
            have hm1 : (m : Int) < (I : Int) := by omega
            clear hcs hLv hown
            go_wp2_with fail
            go_round
            case rel => exact ⟨m + 1, by omega, by go_num⟩
            case measure => simp [intOf]; omega
          · obtain rfl : I = m := by omega
            clear hcs
            go_wp2_with (at_builtin; refine wpList_append_own _ rfl _ _ 25 rfl w1.heap.size 23 i0 (.int .u64 0) 1 8 Tryd.underlying25 hi hz0 hz1 hz2 rfl (by decide) _ _ _ rfl (hown.alloc _) ⟨wr.heap.size, 0, none⟩ 1 1 [.int .u64 W] rfl rfl (cell_one_new _ _ _) (ints_oneCell .u64 [W]) (by unfold maxLen; omega) (by omega) (by simp; omega) ?_; intro v' w2 hown2 hgrow2 hnil2; have hb2 : Below w1.heap.size w1 w2 := (hb.alloc hsz _).grown hgrow2 (by simp; omega) (fun k hk => (hown.lt k hk).1); have hci : w2.cell? ⟨b, off + I, none⟩ = some (.int .i64 Z) := (by rw [hZ]; exact (hb2.cell (by exact hbl)).trans (hcell I (by omega))); clear hgrow2 hnil2 hown hb hZ hcell)
            have hsz2 := hb2.size
            refine (next_any _ _ _ W0 W1).mono ?_
            rintro e w3 ⟨rfl, rfl⟩
            obtain ⟨n1, n2⟩ := rise_num S (W / 8 + 1) F I (by omega) F0 F1 (by omega) g2' S0 S1
            obtain ⟨q0, q1⟩ := packI_bound S (W / 8 + 1)
            generalize packI S (W / 8 + 1) = W2 at *
            go_wp2_with fail
            go_quiet ((first | (go_at_call 6; exact Calls.quiet_of_same (version_any _ _)) | (go_at_call 7; exact Calls.quiet_of_same (state_any _ _ q0 q1))))
            go_wp2_with fail
            go_roundw
            case rel =>
              have h3 : w3.ownsRow w1.heap.size 23 1 v' (I + 1) ((L ++ [W]).map (Value.int .u64)) := by simpa using hown2
              exact ⟨W2, I + 1, L ++ [W], q0, q1, by rw [n1]; omega, by omega, by simp [hL], snoc_div hL hLv hW, rfl, by go_num, h3, below_drewN hb2 _⟩
            case measure => simp [intOf]; omega
    · have N1 := hN.below hb h0
      by_cases g1 : I < len
      · have g1' : (I : Int) < (len : Int) := by omega
        have g2' : ¬ (I : Int) < 50 := by omega
        go_wp2_with fail
        refine (awake_any _ N1).mono ?_
        rintro e w2 ⟨rfl, b2⟩
        go_wp2_with fail
        go_ret
        exact ⟨rfl, hb.trans (b2.mono hsz)⟩
      · have g1' : ¬ (I : Int) < (len : Int) := by omega
        go_wp2_with fail
        refine (awake_any _ N1).mono ?_
        rintro e w2 ⟨rfl, b2⟩
        go_wp2_with fail
        go_ret
        exact ⟨rfl, hb.trans (b2.mono hsz)⟩
theorem wordRises_walk (a : Option Addr) (len cap : Nat) (zs : List Int) (f : Int) (w : World) (h : IsRow .i64 w a len cap zs) (wf : (Lit.int .u64 f).wf = true) (hN : Named w ∧ 0 < w.heap.size) :
    Calls Tryd.prog 3 #[.slice a len cap, .int .u64 f] w fun e w' => e = .returned (.bool true) ∧ Below w.heap.size w w' := by
  obtain ⟨f0, f1⟩ := bounds_u64 wf
  rcases h with ⟨rfl, rfl, rfl, rfl⟩ | ⟨x, rfl, hl, hm, hz, hcell, hwz⟩
  · exact rises_none _ _ _ _ hN.1
  · by_cases h0 : len = 0
    · subst h0
      exact rises_none _ _ _ _ hN.1
    · obtain ⟨b, off, spot⟩ := x
      have hc := hcell 0 (by omega)
      have hspot : spot = none := by simpa [Addr.add] using World.cell?_spot hc
      subst hspot
      have hc2 : ∀ j, j < zs.length → w.cell? ⟨b, off + j, none⟩ = some (.int .i64 (zs.getD j 0)) := fun j hj => by
        have := hcell j hj
        rw [Addr.add_lit] at this
        exact this
      exact rises_some b off len cap zs f w f0 f1 hN.1 hN.2 (World.block_lt_of_cell? w _ (hc2 0 (by omega))) (by omega) (by omega) hc2
end Go.Proofs.YtdpljhajgocneabDoor

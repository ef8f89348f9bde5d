/- entry.Smaller and entry.Place. -/
import Derived.Test.YtefkgljpocfpfaaEntR2
namespace Go.Proofs.Ytefkgljpocfpfaa
open Go.RowKit Go.Lib Go.Sort
set_option linter.unusedVariables false

set_option maxHeartbeats 2000000 in
set_option maxRecDepth 100000 in
theorem smaller_any (a : Option Addr) (cap : Nat) (d : List Ent) (e : Ent) (w : World) (h : IsL w a cap d) :
    Calls Try.prog 26 #[.slice a d.length cap, .agg #[.int .u64 e.1, .int .i64 e.2]] w fun r w' => r = .returned (.int .i64 (smal d e)) ∧ Grown w w' := by
  have hl := h.len
  have H : Aside _ := h
  have mx := mixed
  clear h
  obtain ⟨S, hS⟩ : ∃ S, w.heap.size = S := ⟨_, rfl⟩
  have HS : Hid _ := hS
  go_enter Try.func26, Try.ntmps26
  go_wp2
  clear hS
  go_loopg [5, 10] d.length (fun kx s5 s10 wr => ∃ k : Nat, s10 = .int .i64 k ∧ s5 = .int .i64 (smal (d.take k) e) ∧ k ≤ d.length ∧ d.length - k ≤ kx ∧ Aside (Grown (w.alloc (.cells #[.int .u64 e.1, .int .i64 e.2] 31)) wr))
  case atStart => exact ⟨0, rfl, rfl, by omega, by omega, Grown.refl _⟩
  case round =>
    obtain ⟨k, rfl, rfl, hk, hkx, G⟩ := hrel
    obtain ⟨m, hm⟩ : ∃ m, smal (d.take k) e = m := ⟨_, rfl⟩
    have hmk : m ≤ k := by rw [← hm]; exact Nat.le_trans (smal_le _ _) (List.length_take_le _ _)
    have HM : Hid _ := hm
    rw [hm]
    clear hm
    by_cases hlt : k < d.length
    · have hz : (k : Int) < (d.length : Int) := by omega
      obtain ⟨b, off, ha, hc⟩ := H.out.at hlt
      subst ha
      have G0 : Grown w wr := ((Grown.refl w).alloc _).trans G.out
      have c1 := (hc wr G0 0 #[]).1
      have c2 := (hc wr G0 0 #[]).2
      have c3 := (box_at w e 31 G.out 0 #[]).1
      have c4 := (box_at w e 31 G.out 0 #[]).2
      simp only [HS.out, grow_empty, show wr.drewN 0 = wr from rfl] at c1 c2 c3 c4
      have hS2 : S < wr.heap.size := by have := G.out.below.size; simp [HS.out] at this; omega
      clear hc G0
      obtain ⟨x, hx⟩ : ∃ x, d[k] = x := ⟨_, rfl⟩
      rw [hx] at c1 c2
      have HX : Hid _ := hx
      clear hx
      have lg := less_any x e
      cases hL : ltE x e with
      | true =>
        simp only [hL] at lg
        go_wp2_with fail
        refine (lg _).mono ?_
        rintro r w1 ⟨rfl, g1⟩
        have G2 : Aside (Grown (w.alloc (.cells #[.int .u64 e.1, .int .i64 e.2] 31)) w1) := (G.out.alloc _).trans g1
        clear c1 c2 c3 c4 G lg g1
        go_wp2
        go_roundg (d.length - (k + 1))
        case measure => omega
        case rel => exact ⟨k + 1, by go_num, by rw [smal_take d e k hlt, HM.out, HX.out, hL]; go_num, by omega, Nat.le_refl _, G2⟩
      | false =>
        simp only [hL] at lg
        go_wp2_with fail
        refine (lg _).mono ?_
        rintro r w1 ⟨rfl, g1⟩
        have G2 : Aside (Grown (w.alloc (.cells #[.int .u64 e.1, .int .i64 e.2] 31)) w1) := (G.out.alloc _).trans g1
        clear c1 c2 c3 c4 G lg g1
        go_wp2
        go_roundg (d.length - (k + 1))
        case measure => omega
        case rel => exact ⟨k + 1, by go_num, by rw [smal_take d e k hlt, HM.out, HX.out, hL]; rfl, by omega, Nat.le_refl _, G2⟩
    · have hz : ¬ (k : Int) < (d.length : Int) := by omega
      go_wp2
      go_ret
      have e1 : smal d e = m := by rw [← HM.out, List.take_of_length_le (by omega)]
      exact ⟨by rw [e1]; rfl, ((Grown.refl w).alloc _).trans G.out⟩

set_option maxHeartbeats 2000000 in
set_option maxRecDepth 100000 in
theorem placeFn_any (a : Option Addr) (cap S T : Nat) (d : List Ent) (e : Ent) (W : World) (h : IsL W a cap d) (k : Nat) (hk : k < d.length)
    (s1 : S < W.heap.size) (t1 : T < W.heap.size) (cS : W.cell? ⟨S, 0, none⟩ = some (.slice a d.length cap)) (cT0 : W.cell? ⟨T, 0, none⟩ = some (.int .u64 e.1)) (cT1 : W.cell? ⟨T, 1, none⟩ = some (.int .i64 e.2)) :
    Calls Try.prog 34 #[.int .i64 k, .pointer (some ⟨S, 0, none⟩), .pointer (some ⟨T, 0, none⟩)] W fun r w' => r = .returned (.bool (!ltE d[k] e)) ∧ Grown W w' := by
  have hl := h.len
  have mx := mixed
  obtain ⟨b, off, ha, hc⟩ := h.at hk
  subst ha
  have c1 := fun n os => (hc W (Grown.refl W) n os).1
  have c2 := fun n os => (hc W (Grown.refl W) n os).2
  have c3 : ∀ n os, (grow (W.drewN n) os).cell? ⟨S, 0, none⟩ = some (.slice (some ⟨b, off, none⟩) d.length cap) := fun n os => cell_grown s1 cS n os
  have c4 : ∀ n os, (grow (W.drewN n) os).cell? ⟨T, 0, none⟩ = some (.int .u64 e.1) := fun n os => cell_grown t1 cT0 n os
  have c5 : ∀ n os, (grow (W.drewN n) os).cell? ⟨T, 1, none⟩ = some (.int .i64 e.2) := fun n os => cell_grown t1 cT1 n os
  clear hc cS cT0 cT1 h
  have hz : (k : Int) < (d.length : Int) := by omega
  obtain ⟨x, hx⟩ : ∃ x, d[k] = x := ⟨_, rfl⟩
  rw [hx] at c1 c2 ⊢
  clear hx
  have lg := less_grown x e W
  obtain ⟨B, hB⟩ : ∃ B, ltE x e = B := ⟨_, rfl⟩
  simp only [hB] at lg ⊢
  clear hB
  go_enter Try.func34, Try.ntmps34
  go_wp2_with fail
  go_quiet_grown (first | (go_at_call 21; exact lg _ _))
  go_wp2
  go_ret
  exact ⟨rfl, ⟨nq, osq, rfl⟩⟩

set_option maxHeartbeats 2000000 in
set_option maxRecDepth 100000 in
theorem place_any (a : Option Addr) (cap : Nat) (d : List Ent) (e : Ent) (w : World) (h : IsL w a cap d) (hs : Srt d) (hd : d.length < 4611686018427387904) :
    Calls Try.prog 16 #[.slice a d.length cap, .agg #[.int .u64 e.1, .int .i64 e.2]] w fun r w' => r = .returned (.int .i64 (smal d e)) ∧ Grown w w' := by
  have hl := h.len
  obtain ⟨S, hS⟩ : ∃ S, w.heap.size = S := ⟨_, rfl⟩
  obtain ⟨u, hu⟩ : ∃ u, (w.alloc (.cells #[.slice a d.length cap] 22)).alloc (.cells #[.int .u64 e.1, .int .i64 e.2] 31) = u := ⟨_, rfl⟩
  have gu : Grown w u := by rw [← hu]; exact ((Grown.refl w).alloc _).alloc _
  have hw : u.heap.size = S + 2 := by rw [← hu, ← hS]; simp
  have c0 : u.cell? ⟨S, 0, none⟩ = some (.slice a d.length cap) := by rw [← hu, ← hS]; simp
  have c1 : u.cell? ⟨S + 1, 0, none⟩ = some (.int .u64 e.1) := by rw [← hu, ← hS]; simp
  have c2 : u.cell? ⟨S + 1, 1, none⟩ = some (.int .i64 e.2) := by rw [← hu, ← hS]; simp
  have sr := search_any d.length 34 #[.pointer (some ⟨S, 0, none⟩), .pointer (some ⟨S + 1, 0, none⟩)] (fun k => !ltE (d.getD k (0, 0)) e) u hd (enters_of Try.func34 (by kernel_rfl) rfl)
    (fun k W hk hW => by
      have g : Grown w W := gu.trans hW
      have hk' : d.getD k (0, 0) = d[k] := by rw [List.getD_eq_getElem?_getD, List.getElem?_eq_getElem hk]; rfl
      simp only [hk']
      exact placeFn_any a cap S (S + 1) d e W (h.below g.below) k hk (by have := hW.below.size; omega) (by have := hW.below.size; omega) ((hW.cells _ _ (by omega)).trans c0) ((hW.cells _ _ (by omega)).trans c1) ((hW.cells _ _ (by omega)).trans c2))
  have GU : Aside (Grown w u) := gu
  have HU : Aside _ := hu
  clear gu hu c1 c2 hw h
  go_enter Try.func16, Try.ntmps16
  go_wp2_with fail
  rw [HU.out]
  refine sr.mono ?_
  rintro r w1 ⟨i, rfl, h1, h2, h3, g1⟩
  have E : Hid (smal d e = i) := by
    show smal d e = i
    refine smal_place hs e i h1 ?_ ?_
    · rcases h2 with h2 | h2
      · exact .inl h2
      · by_cases z : i = 0
        · exact .inl z
        · refine .inr ⟨by omega, ?_⟩
          rw [List.getD_eq_getElem?_getD, List.getElem?_eq_getElem (show i - 1 < d.length by omega)] at h2
          simpa using h2
    · rcases h3 with h3 | h3
      · exact .inl h3
      · by_cases z : i = d.length
        · exact .inl z
        · refine .inr ⟨by omega, ?_⟩
          rw [List.getD_eq_getElem?_getD, List.getElem?_eq_getElem (show i < d.length by omega)] at h3
          simpa using h3
  have G2 : Aside (Grown w w1) := GU.out.trans g1
  clear h1 h2 h3 g1 hs
  go_wp2
  go_ret
  exact ⟨by rw [E.out]; rfl, G2.out⟩
end Go.Proofs.Ytefkgljpocfpfaa

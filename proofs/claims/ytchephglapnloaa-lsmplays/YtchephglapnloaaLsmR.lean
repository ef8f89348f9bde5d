/- lsm: New, Put, Len, All, Drain. -/
import Derived.Deep.RegionHeld3
import Derived.Test.YtchephglapnloaaLsmL
namespace Go.Proofs.Ytchephglapnloaa
open Go.RowKit Go.Lib Go.Sort
set_option linter.unusedVariables false

set_option maxHeartbeats 400000 in
theorem lnew_any (w : World) : Calls Try.prog 8 #[] w fun r w' => r = .returned (.pointer (some ⟨w.heap.size, 0, none⟩)) ∧ w' = w.alloc (.cells #[.slice none 0 0] 60) := by
  go_enter Try.func8, Try.ntmps8
  go_wp2
  go_ret
  exact ⟨rfl, rfl⟩
theorem lsm_new (w : World) (base : Nat) (h : base ≤ w.heap.size) : Lsm (w.alloc (.cells #[.slice none 0 0] 60)) base w.heap.size [] :=
  ⟨none, 0, [], rfl, h, heap_alloc_new w _, RowB.nil _ _ _⟩

set_option maxHeartbeats 4000000 in
set_option maxRecDepth 100000 in
theorem lput_any (B base : Nat) (ls : List (List Ent)) (e : Ent) (w : World) (h : Lsm w base B ls) (hlen : ls.length ≤ 10000) (hsum : ls.flatten.length ≤ 10000) (hbase : base ≤ w.heap.size) :
    Calls Try.prog 9 #[.pointer (some ⟨B, 0, none⟩), .agg #[.int .u64 e.1, .int .i64 e.2]] w fun r w' => r = .returned (.tuple #[]) ∧ Turned w base B (putL ls e) w' := by
  obtain ⟨S, hS⟩ : ∃ S, w.heap.size = S := ⟨_, rfl⟩
  obtain ⟨u0, hu0⟩ : ∃ u, w.alloc (.cells #[.int .u64 e.1, .int .i64 e.2] 28) = u := ⟨_, rfl⟩
  obtain ⟨u, hu⟩ : ∃ v, u0.alloc (.cells #[.int .u64 e.1, .int .i64 e.2] 28) = v := ⟨_, rfl⟩
  have z0 : u0.heap.size = S + 1 := by rw [← hu0, ← hS]; simp
  have b0 : Below w.heap.size w u0 := by rw [← hu0]; exact (Below.refl _ _).alloc (Nat.le_refl _) _
  have b1 : Below u0.heap.size u0 u := by rw [← hu]; exact (Below.refl _ _).alloc (Nat.le_refl _) _
  have bu : Below w.heap.size w u := b0.trans (b1.mono b0.size)
  have L : IsL u (some ⟨S + 1, 0, none⟩) 1 [e] := by rw [← hu, ← z0]; exact IsL.one u0 e
  have ofa := of_any (some ⟨S + 1, 0, none⟩) 1 [e] u L (by simp)
  have es : sortE [e] = [e] := sortE_id (by simp [Srt])
  rw [es] at ofa
  obtain ⟨m, hm⟩ : ∃ m, lv [e] = m := ⟨_, rfl⟩
  obtain ⟨cap, hc⟩ := h.below bu |>.c
  have HM : Hid _ := hm
  have LU : Aside (Lsm u base B ls) := h.below bu
  have BU : Aside (Below w.heap.size w u) := bu
  have HU : Hid ((w.alloc (.cells #[.int .u64 e.1, .int .i64 e.2] 28)).alloc (.cells #[.int .u64 e.1, .int .i64 e.2] 28) = u) := by show _ = _; rw [hu0, hu]
  simp only [List.length_singleton] at ofa
  have SB : base ≤ S := by omega
  clear hu0 hu z0 b0 b1 bu L es hm h hc
  go_enter Try.func9, Try.ntmps9
  go_wp2_with fail
  rw [HU.out]
  refine ofa.mono ?_
  rintro r w1 ⟨a1, c1, rfl, o1, b1⟩
  obtain ⟨cap1, l1⟩ := (LU.out.below b1).c
  have s1 : base ≤ u.heap.size := by have := BU.out.size; omega
  have ly := lay_any B base cap1 ls [e] a1 c1 w1 l1 (o1.low s1) (.inr fun x hx => by rw [show lv [e] = 0 from lvl_zero (by simp)]; exact Nat.zero_le _) (by omega) (by have : [e].length = 1 := rfl; omega) (by have := b1.size; omega)
  rw [show lvl [e].length = m from HM.out]
  rw [HM.out] at ly
  simp only [List.length_singleton] at ly ⊢
  have B1 : Aside (Below w.heap.size w w1) := BU.out.trans (b1.mono BU.out.size)
  clear o1 b1 l1 ofa
  go_wp2_with fail
  refine ly.mono ?_
  rintro r w2 ⟨rfl, t2⟩
  have D : Aside (Turned w base B (putL ls e) w2) := ⟨t2.1, (B1.out.mono hbase).trans t2.2.1, (Kept.of_below B1.out).trans t2.2.2⟩
  clear t2 ly
  go_wp2
  go_end0
  exact ⟨rfl, D.out⟩

set_option maxHeartbeats 4000000 in
set_option maxRecDepth 100000 in
theorem llen_any (B base : Nat) (ls : List (List Ent)) (w : World) (h : Lsm w base B ls) (hsum : ls.flatten.length ≤ 100000) :
    Calls Try.prog 12 #[.pointer (some ⟨B, 0, none⟩)] w fun r w' => r = .returned (.int .i64 ls.flatten.length) ∧ Below w.heap.size w w' := by
  obtain ⟨a, cap, cB, hc1, hc2, hB, _, IB, _⟩ := h.open
  unfold maxLen at hc2
  have H : Aside (IsBs w a ls) := IB
  obtain ⟨T, hT⟩ : ∃ T, ls.flatten.length = T := ⟨_, rfl⟩
  have HT : Hid _ := hT
  rw [hT] at hsum ⊢
  have hl : ls.length ≤ 9223372036854775807 := by omega
  clear IB h hT
  go_enter Try.func12, Try.ntmps12
  go_wp2
  go_loopg [3, 11] ls.length (fun kx s3 s11 wr => ∃ (k n : Nat), s11 = .int .i64 k ∧ s3 = .int .i64 n ∧ Hid ((ls.take k).flatten.length = n) ∧ n ≤ 100000 ∧ k ≤ ls.length ∧ ls.length - k ≤ kx ∧ Aside (Below w.heap.size w wr))
  case atStart => exact ⟨0, 0, rfl, rfl, rfl, by omega, by omega, by omega, Below.refl _ _⟩
  case round =>
    obtain ⟨k, z, rfl, rfl, HN, hz1, hk, hkx, D⟩ := hrel
    by_cases hlt : k < ls.length
    · have hz : (k : Int) < (ls.length : Int) := by omega
      obtain ⟨b, off, p, q, m, rfl, hb, c0, c1, L⟩ := (H.out.below D.out).elem k ls[k] (List.getElem?_eq_getElem hlt)
      have e1 := flat_take hlt
      have e2 := flat_take_le ls (k + 1)
      obtain ⟨d, hdk⟩ : ∃ d, ls[k] = d := ⟨_, rfl⟩
      rw [hdk] at e1 c1
      obtain ⟨n1, hn1⟩ : ∃ n, d.length = n := ⟨_, rfl⟩
      rw [hn1] at c1
      have e3 : (ls.take (k + 1)).flatten.length = z + n1 := by rw [e1, List.length_append, HN.out, hn1]
      have hz2 : z + n1 ≤ 100000 := by have := HT.out; omega
      have HN2 : Hid _ := e3
      have D2 : Aside (Below w.heap.size w (wr.alloc (.cells #[.int .i64 m, .slice p n1 q] 62))) := D.out.trans (((Below.refl _ _).alloc (Nat.le_refl _) _).mono D.out.size)
      clear e1 e2 e3 hdk L hn1
      go_wp2
      go_roundg (ls.length - (k + 1))
      case measure => omega
      case rel => exact ⟨k + 1, z + n1, by go_num, by go_num, HN2, hz2, by omega, Nat.le_refl _, D2⟩
    · have hz : ¬ (k : Int) < (ls.length : Int) := by omega
      have e : (ls.take k).flatten = ls.flatten := by rw [List.take_of_length_le (by omega)]
      rw [e] at HN
      go_wp2
      go_ret
      have e2 : T = z := by rw [← HT.out, HN.out]
      exact ⟨by rw [e2]; rfl, D.out⟩

set_option maxHeartbeats 4000000 in
set_option maxRecDepth 100000 in
theorem lall_any (B base : Nat) (ls : List (List Ent)) (w : World) (h : Lsm w base B ls) (hsum : ls.flatten.length ≤ 100000) :
    Calls Try.prog 17 #[.pointer (some ⟨B, 0, none⟩)] w (PivO w ls.flatten.length (sortE ls.flatten)) := by
  obtain ⟨a, cap, cB, hc1, hc2, hB, _, IB, _⟩ := h.open
  have H : Aside (Lsm w base B ls) := h
  have HB : Aside (IsBs w a ls) := IB
  obtain ⟨T, hT⟩ : ∃ T, ls.flatten.length = T := ⟨_, rfl⟩
  have ln : ∀ W, Below w.heap.size w W → Calls Try.prog 12 #[.pointer (some ⟨B, 0, none⟩)] W fun r w' => r = .returned (.int .i64 T) ∧ Below W.heap.size W w' := fun W hW => by
    have := llen_any B base ls W (H.out.below hW) hsum
    rw [hT] at this
    exact this
  have pv : ∀ W, Below w.heap.size w W → Calls Try.prog 33 #[.slice a ls.length cap, .int .i64 T] W (PivO W T (sortE ls.flatten)) := fun W hW => by
    have := pivotO_any a cap ls T W (HB.out.below hW) (by omega)
    have e : wth (T : Int) ls.flatten.length = T := by unfold wth; omega
    rw [e, List.take_of_length_le (by rw [sortE_len]; omega)] at this
    exact this
  rw [hT]
  have KC : Aside (∀ v, Below w.heap.size w v → v.cell? ⟨B, 0, none⟩ = some (.slice a ls.length cap)) := fun v hv => (hv.cell (p := ⟨B, 0, none⟩) hB).trans cB
  have hb0 : Below w.heap.size w w := Below.refl _ _
  have hb1 : Below w.heap.size w w.drew := hb0.drew
  have PV : Aside (∀ W, Below w.heap.size w W → Calls Try.prog 33 #[.slice a ls.length cap, .int .i64 T] W (PivO W T (sortE ls.flatten))) := pv
  have LN : Aside (∀ W, Below w.heap.size w W → Calls Try.prog 12 #[.pointer (some ⟨B, 0, none⟩)] W fun r w' => r = .returned (.int .i64 T) ∧ Below W.heap.size W w') := ln
  clear ln pv h IB
  have mx := mixed
  go_enter Try.func17, Try.ntmps17
  go_wp2_with fail
  go_region_held3 (fun v => v.cell? ⟨B, 0, none⟩ = some (.slice a ls.length cap)) (first | with_reducible exact KC.out _ hb0 | with_reducible exact KC.out _ hb1 | with_reducible exact KC.out _ hb2 | with_reducible exact KC.out _ hb3)
    ((first
      | (go_at_call 33; (with_reducible refine Calls.mono (PV.out _ hb2) ?_); rintro r w3 ⟨x, y, rfl, o3, d3⟩; have hb3 : Below w.heap.size w w3 := hb2.trans (d3.mono hb2.size))
      | (go_at_call 12; (with_reducible refine Calls.mono (LN.out _ hb1) ?_); rintro r w2 ⟨rfl, d2⟩; have hb2 : Below w.heap.size w w2 := hb1.trans (d2.mono hb1.size))))
  have O3 : Aside (OwnE w3 w.heap.size (.slice x T y) (sortE ls.flatten)) := o3.low hb2.size
  have D3 : Aside (Below w.heap.size w w3) := hb3
  clear o3 hb3 d3 hb2 d2
  go_wp2
  go_ret
  exact ⟨x, y, rfl, O3.out, D3.out⟩

/-- A list that Drain gave: of the caller's own; the own list is empty. -/
def Drained (w : World) (base B : Nat) (d : List Ent) (r : Ending) (w' : World) : Prop := ∃ a cap, r = .returned (.slice a d.length cap) ∧ OwnE w' base (.slice a d.length cap) d ∧ Turned w base B [] w'

set_option maxHeartbeats 4000000 in
set_option maxRecDepth 100000 in
theorem ldrain_any (B base : Nat) (ls : List (List Ent)) (w : World) (h : Lsm w base B ls) (hsum : ls.flatten.length ≤ 100000) (hbase : base ≤ w.heap.size) :
    Calls Try.prog 10 #[.pointer (some ⟨B, 0, none⟩)] w (Drained w base B (sortE ls.flatten)) := by
  have al := lall_any B base ls w h hsum
  have sl := sortE_len ls.flatten
  obtain ⟨T, hT⟩ : ∃ T, ls.flatten.length = T := ⟨_, rfl⟩
  rw [hT] at al sl
  have SL : Hid _ := sl
  have H : Aside (Lsm w base B ls) := h
  clear h sl
  go_enter Try.func10, Try.ntmps10
  go_wp2_with fail
  refine al.mono ?_
  rintro r w1 ⟨a1, c1, rfl, o1, b1⟩
  have h1 := H.out.below b1
  obtain ⟨a, cap, bs, e1, hB, cell, row⟩ := h1
  have yB := lsm_cell cell
  have fB := lsm_fro cell
  have kp : Kept LB w1 (w1.setCell ⟨B, 0, none⟩ (.slice none 0 0)) := Kept.set cell (.inl rfl) _
  have fin : Aside (Drained w base B (sortE ls.flatten) (.returned (.slice a1 T c1)) (w1.setCell ⟨B, 0, none⟩ (.slice none 0 0))) := by
    refine ⟨a1, c1, by rw [SL.out], ?_, ?_, (b1.mono hbase).setCell hB _, (Kept.of_below b1).trans kp⟩
    · rw [SL.out]; exact kp.own lb_ent (o1.low hbase)
    · exact ⟨none, 0, [], rfl, hB, by rw [setCell_row cell]; rfl, RowB.nil _ _ _⟩
  clear kp cell row o1 b1 al
  go_wp2
  go_ret
  exact fin.out
end Go.Proofs.Ytchephglapnloaa

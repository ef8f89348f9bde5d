/- Contracts: slices.Equal at ops, body.Same; the document's SameBody, Steps, OpOk, BodyOk. -/
import Derived.Test.YtoidkiodlfpefaaDoorBdA
namespace Go.Proofs.YtoidkiodlfpefaaDoor
open Go.RowKit Go.Lib Go.Shelf Go.Sort
set_option linter.unusedVariables false

set_option maxHeartbeats 4000000 in
set_option maxRecDepth 100000 in
theorem equal_any (a1 a2 : Option Addr) (c1 c2 : Nat) (d e : List OpR) (w : World) (h1 : IsG rO w a1 c1 d) (h2 : IsG rO w a2 c2 e) :
    Calls Tryd.prog 27 #[.slice a1 d.length c1, .slice a2 e.length c2] w fun r w' => r = .returned (.bool (decide (d = e))) ∧ Below w.heap.size w w' := by
  have hl1 := h1.len
  have hl2 := h2.len
  by_cases hL : d.length = e.length
  · have hL' : (d.length : Int) = (e.length : Int) := by omega
    have H1 : Aside (IsG rO w a1 c1 d) := h1
    have H2 : Aside (IsG rO w a2 c2 e) := h2
    clear h1 h2
    go_enter Tryd.func27, Tryd.ntmps27
    go_wp2
    go_loopg [13] d.length (fun kx s13 wr => ∃ k : Nat, s13 = .int .i64 k ∧ k ≤ d.length ∧ d.length - k ≤ kx ∧ Aside (Below w.heap.size w wr) ∧ Aside (d.take k = e.take k))
    case atStart => exact ⟨0, rfl, by omega, by omega, Below.refl _ w, (rfl : d.take 0 = e.take 0)⟩
    case round =>
      obtain ⟨k, rfl, hk, hkx, G, A⟩ := hrel
      by_cases hlt : k < d.length
      · have hz : (k : Int) < (d.length : Int) := by omega
        have hlt2 : k < e.length := by omega
        obtain ⟨⟨xk, xa, xb⟩, hx⟩ : ∃ x, d[k] = x := ⟨_, rfl⟩
        obtain ⟨⟨yk, ya, yb⟩, hy⟩ : ∃ y, e[k] = y := ⟨_, rfl⟩
        obtain ⟨b1, o1, ha1, hb1, x0, x1, x2⟩ := opAt (H1.out.below G.out) (i := k) (x := (xk, xa, xb)) (by rw [List.getElem?_eq_getElem hlt, hx])
        obtain ⟨b2, o2, ha2, hb2, y0, y1, y2⟩ := opAt (H2.out.below G.out) (i := k) (x := (yk, ya, yb)) (by rw [List.getElem?_eq_getElem hlt2, hy])
        simp only at x0 x1 x2 y0 y1 y2
        subst ha1 ha2
        have HX : Hid _ := hx
        have HY : Hid _ := hy
        clear hx hy
        by_cases e1 : xk = yk
        · subst e1
          by_cases e2 : xa = ya
          · subst e2
            by_cases e3 : xb = yb
            · subst e3
              have A2 : Aside (d.take (k + 1) = e.take (k + 1)) := by
                have q1 : d.take (k + 1) = d.take k ++ [d[k]] := List.take_succ_eq_append_getElem hlt
                have q2 : e.take (k + 1) = e.take k ++ [e[k]] := List.take_succ_eq_append_getElem hlt2
                exact (q1.trans (by rw [HX.out, HY.out, A.out])).trans q2.symm
              go_upto_region 6 with fail
              go_region_held3 (fun W => (W.cell? ⟨b1, o1 + k * 3, none⟩ = some (.int .i64 xk) ∧ W.cell? ⟨b1, o1 + k * 3 + 1, none⟩ = some (.int .i64 xa) ∧ W.cell? ⟨b1, o1 + k * 3 + 2, none⟩ = some (.int .i64 xb)) ∧ W.cell? ⟨b2, o2 + k * 3, none⟩ = some (.int .i64 xk) ∧ W.cell? ⟨b2, o2 + k * 3 + 1, none⟩ = some (.int .i64 xa) ∧ W.cell? ⟨b2, o2 + k * 3 + 2, none⟩ = some (.int .i64 xb)) (exact ⟨⟨x0, x1, x2⟩, y0, y1, y2⟩) (fail)
              have G2 : Aside (Below w.heap.size w wr.drew) := Below.drew G.out
              clear HX HY A G x0 x1 x2 y0 y1 y2
              go_wp2
              go_roundg (d.length - (k + 1))
              case measure => omega
              case rel => exact ⟨k + 1, by go_num, by omega, Nat.le_refl _, G2, A2⟩
            · have e3' : (xb == yb) = false := by simp [e3]
              go_upto_region 6 with fail
              go_region_held3 (fun W => (W.cell? ⟨b1, o1 + k * 3, none⟩ = some (.int .i64 xk) ∧ W.cell? ⟨b1, o1 + k * 3 + 1, none⟩ = some (.int .i64 xa) ∧ W.cell? ⟨b1, o1 + k * 3 + 2, none⟩ = some (.int .i64 xb)) ∧ W.cell? ⟨b2, o2 + k * 3, none⟩ = some (.int .i64 xk) ∧ W.cell? ⟨b2, o2 + k * 3 + 1, none⟩ = some (.int .i64 xa) ∧ W.cell? ⟨b2, o2 + k * 3 + 2, none⟩ = some (.int .i64 yb)) (exact ⟨⟨x0, x1, x2⟩, y0, y1, y2⟩) (fail)
              go_wp2
              go_ret
              refine ⟨?_, Below.drew G.out⟩
              rw [decide_eq_false (fun h => ?_)]
              · rfl
              · subst h
                have := HX.out.symm.trans HY.out
                simp at this
                exact e3 this
          · have e2' : (xa == ya) = false := by simp [e2]
            go_upto_region 6 with fail
            go_region_held3 (fun W => (W.cell? ⟨b1, o1 + k * 3, none⟩ = some (.int .i64 xk) ∧ W.cell? ⟨b1, o1 + k * 3 + 1, none⟩ = some (.int .i64 xa) ∧ W.cell? ⟨b1, o1 + k * 3 + 2, none⟩ = some (.int .i64 xb)) ∧ W.cell? ⟨b2, o2 + k * 3, none⟩ = some (.int .i64 xk) ∧ W.cell? ⟨b2, o2 + k * 3 + 1, none⟩ = some (.int .i64 ya) ∧ W.cell? ⟨b2, o2 + k * 3 + 2, none⟩ = some (.int .i64 yb)) (exact ⟨⟨x0, x1, x2⟩, y0, y1, y2⟩) (fail)
            go_wp2
            go_ret
            refine ⟨?_, Below.drew G.out⟩
            rw [decide_eq_false (fun h => ?_)]
            · rfl
            · subst h
              have := HX.out.symm.trans HY.out
              simp at this
              exact (fun h => e2 h.1) this
        · have e1' : (xk == yk) = false := by simp [e1]
          go_upto_region 6 with fail
          go_region_held3 (fun W => (W.cell? ⟨b1, o1 + k * 3, none⟩ = some (.int .i64 xk) ∧ W.cell? ⟨b1, o1 + k * 3 + 1, none⟩ = some (.int .i64 xa) ∧ W.cell? ⟨b1, o1 + k * 3 + 2, none⟩ = some (.int .i64 xb)) ∧ W.cell? ⟨b2, o2 + k * 3, none⟩ = some (.int .i64 yk) ∧ W.cell? ⟨b2, o2 + k * 3 + 1, none⟩ = some (.int .i64 ya) ∧ W.cell? ⟨b2, o2 + k * 3 + 2, none⟩ = some (.int .i64 yb)) (exact ⟨⟨x0, x1, x2⟩, y0, y1, y2⟩) (fail)
          go_wp2
          go_ret
          refine ⟨?_, Below.drew G.out⟩
          rw [decide_eq_false (fun h => ?_)]
          · rfl
          · subst h
            have := HX.out.symm.trans HY.out
            simp at this
            exact (fun h => e1 h.1) this
      · have hz : ¬ (k : Int) < (d.length : Int) := by omega
        have e0 : k = d.length := by omega
        go_wp2
        go_ret
        refine ⟨?_, G.out⟩
        rw [decide_eq_true (p := d = e)]
        · rfl
        · have := A.out
          rw [e0, List.take_length, hL, List.take_length] at this
          exact this
  · have hL' : ¬ (d.length : Int) = (e.length : Int) := by omega
    go_enter Tryd.func27, Tryd.ntmps27
    go_wp2
    go_ret
    exact ⟨by rw [decide_eq_false (fun h => hL (by rw [h]))]; rfl, Below.refl _ _⟩
set_option maxHeartbeats 4000000 in
set_option maxRecDepth 100000 in
theorem sameB_any (a1 a2 : Option Addr) (c1 c2 : Nat) (d e : List OpR) (w : World) (h1 : IsG rO w a1 c1 d) (h2 : IsG rO w a2 c2 e) :
    Calls Tryd.prog 11 #[.slice a1 d.length c1, .slice a2 e.length c2] w fun r w' => r = .returned (.bool (decide (d = e))) ∧ Below w.heap.size w w' := by
  have hl1 := h1.len
  have hl2 := h2.len
  by_cases hL : d.length = e.length
  · have hL' : (d.length : Int) = (e.length : Int) := by omega
    have H1 : Aside (IsG rO w a1 c1 d) := h1
    have H2 : Aside (IsG rO w a2 c2 e) := h2
    clear h1 h2
    go_enter Tryd.func11, Tryd.ntmps11
    go_wp2
    go_loopg [5] d.length (fun kx s13 wr => ∃ k : Nat, s13 = .int .i64 k ∧ k ≤ d.length ∧ d.length - k ≤ kx ∧ Aside (Below w.heap.size w wr) ∧ Aside (d.take k = e.take k))
    case atStart => exact ⟨0, rfl, by omega, by omega, Below.refl _ w, (rfl : d.take 0 = e.take 0)⟩
    case round =>
      obtain ⟨k, rfl, hk, hkx, G, A⟩ := hrel
      by_cases hlt : k < d.length
      · have hz : (k : Int) < (d.length : Int) := by omega
        have hlt2 : k < e.length := by omega
        obtain ⟨⟨xk, xa, xb⟩, hx⟩ : ∃ x, d[k] = x := ⟨_, rfl⟩
        obtain ⟨⟨yk, ya, yb⟩, hy⟩ : ∃ y, e[k] = y := ⟨_, rfl⟩
        obtain ⟨b1, o1, ha1, hb1, x0, x1, x2⟩ := opAt (H1.out.below G.out) (i := k) (x := (xk, xa, xb)) (by rw [List.getElem?_eq_getElem hlt, hx])
        obtain ⟨b2, o2, ha2, hb2, y0, y1, y2⟩ := opAt (H2.out.below G.out) (i := k) (x := (yk, ya, yb)) (by rw [List.getElem?_eq_getElem hlt2, hy])
        simp only at x0 x1 x2 y0 y1 y2
        subst ha1 ha2
        have HX : Hid _ := hx
        have HY : Hid _ := hy
        clear hx hy
        by_cases e1 : xk = yk
        · subst e1
          by_cases e2 : xa = ya
          · subst e2
            by_cases e3 : xb = yb
            · subst e3
              have A2 : Aside (d.take (k + 1) = e.take (k + 1)) := by
                have q1 : d.take (k + 1) = d.take k ++ [d[k]] := List.take_succ_eq_append_getElem hlt
                have q2 : e.take (k + 1) = e.take k ++ [e[k]] := List.take_succ_eq_append_getElem hlt2
                exact (q1.trans (by rw [HX.out, HY.out, A.out])).trans q2.symm
              go_upto_region 6 with fail
              go_region_held3 (fun W => (W.cell? ⟨b1, o1 + k * 3, none⟩ = some (.int .i64 xk) ∧ W.cell? ⟨b1, o1 + k * 3 + 1, none⟩ = some (.int .i64 xa) ∧ W.cell? ⟨b1, o1 + k * 3 + 2, none⟩ = some (.int .i64 xb)) ∧ W.cell? ⟨b2, o2 + k * 3, none⟩ = some (.int .i64 xk) ∧ W.cell? ⟨b2, o2 + k * 3 + 1, none⟩ = some (.int .i64 xa) ∧ W.cell? ⟨b2, o2 + k * 3 + 2, none⟩ = some (.int .i64 xb)) (exact ⟨⟨x0, x1, x2⟩, y0, y1, y2⟩) (fail)
              have G2 : Aside (Below w.heap.size w wr.drew) := Below.drew G.out
              clear HX HY A G x0 x1 x2 y0 y1 y2
              go_wp2
              go_roundg (d.length - (k + 1))
              case measure => omega
              case rel => exact ⟨k + 1, by go_num, by omega, Nat.le_refl _, G2, A2⟩
            · have e3' : (xb == yb) = false := by simp [e3]
              go_upto_region 6 with fail
              go_region_held3 (fun W => (W.cell? ⟨b1, o1 + k * 3, none⟩ = some (.int .i64 xk) ∧ W.cell? ⟨b1, o1 + k * 3 + 1, none⟩ = some (.int .i64 xa) ∧ W.cell? ⟨b1, o1 + k * 3 + 2, none⟩ = some (.int .i64 xb)) ∧ W.cell? ⟨b2, o2 + k * 3, none⟩ = some (.int .i64 xk) ∧ W.cell? ⟨b2, o2 + k * 3 + 1, none⟩ = some (.int .i64 xa) ∧ W.cell? ⟨b2, o2 + k * 3 + 2, none⟩ = some (.int .i64 yb)) (exact ⟨⟨x0, x1, x2⟩, y0, y1, y2⟩) (fail)
              go_wp2
              go_ret
              refine ⟨?_, Below.drew G.out⟩
              rw [decide_eq_false (fun h => ?_)]
              · rfl
              · subst h
                have := HX.out.symm.trans HY.out
                simp at this
                exact e3 this
          · have e2' : (xa == ya) = false := by simp [e2]
            go_upto_region 6 with fail
            go_region_held3 (fun W => (W.cell? ⟨b1, o1 + k * 3, none⟩ = some (.int .i64 xk) ∧ W.cell? ⟨b1, o1 + k * 3 + 1, none⟩ = some (.int .i64 xa) ∧ W.cell? ⟨b1, o1 + k * 3 + 2, none⟩ = some (.int .i64 xb)) ∧ W.cell? ⟨b2, o2 + k * 3, none⟩ = some (.int .i64 xk) ∧ W.cell? ⟨b2, o2 + k * 3 + 1, none⟩ = some (.int .i64 ya) ∧ W.cell? ⟨b2, o2 + k * 3 + 2, none⟩ = some (.int .i64 yb)) (exact ⟨⟨x0, x1, x2⟩, y0, y1, y2⟩) (fail)
            go_wp2
            go_ret
            refine ⟨?_, Below.drew G.out⟩
            rw [decide_eq_false (fun h => ?_)]
            · rfl
            · subst h
              have := HX.out.symm.trans HY.out
              simp at this
              exact (fun h => e2 h.1) this
        · have e1' : (xk == yk) = false := by simp [e1]
          go_upto_region 6 with fail
          go_region_held3 (fun W => (W.cell? ⟨b1, o1 + k * 3, none⟩ = some (.int .i64 xk) ∧ W.cell? ⟨b1, o1 + k * 3 + 1, none⟩ = some (.int .i64 xa) ∧ W.cell? ⟨b1, o1 + k * 3 + 2, none⟩ = some (.int .i64 xb)) ∧ W.cell? ⟨b2, o2 + k * 3, none⟩ = some (.int .i64 yk) ∧ W.cell? ⟨b2, o2 + k * 3 + 1, none⟩ = some (.int .i64 ya) ∧ W.cell? ⟨b2, o2 + k * 3 + 2, none⟩ = some (.int .i64 yb)) (exact ⟨⟨x0, x1, x2⟩, y0, y1, y2⟩) (fail)
          go_wp2
          go_ret
          refine ⟨?_, Below.drew G.out⟩
          rw [decide_eq_false (fun h => ?_)]
          · rfl
          · subst h
            have := HX.out.symm.trans HY.out
            simp at this
            exact (fun h => e1 h.1) this
      · have hz : ¬ (k : Int) < (d.length : Int) := by omega
        have e0 : k = d.length := by omega
        go_wp2
        go_ret
        refine ⟨?_, G.out⟩
        rw [decide_eq_true (p := d = e)]
        · rfl
        · have := A.out
          rw [e0, List.take_length, hL, List.take_length] at this
          exact this
  · have hL' : ¬ (d.length : Int) = (e.length : Int) := by omega
    go_enter Tryd.func11, Tryd.ntmps11
    go_wp2
    go_ret
    exact ⟨by rw [decide_eq_false (fun h => hL (by rw [h]))]; rfl, Below.refl _ _⟩
theorem same_any (a1 a2 : Option Addr) (c1 c2 : Nat) (d e : List OpR) (w : World) (h1 : IsG rO w a1 c1 d) (h2 : IsG rO w a2 c2 e) :
    Calls Tryd.prog 13 #[.slice a1 d.length c1, .slice a2 e.length c2] w fun r w' => r = .returned (.bool (decide (d = e))) ∧ Below w.heap.size w w' := by
  have q := equal_any a1 a2 c1 c2 d e w h1 h2
  go_enter Tryd.func13, Tryd.ntmps13
  go_wp2_with fail
  refine q.mono ?_
  rintro r w1 ⟨rfl, hb⟩
  go_wp2
  go_ret
  exact ⟨rfl, hb⟩
set_option maxHeartbeats 4000000 in
set_option maxRecDepth 100000 in
theorem vsteps_any (a : Option Addr) (cap : Nat) (d : List OpR) (w : World) (h : IsG rO w a cap d) :
    Calls Tryd.prog 16 #[.slice a d.length cap] w fun r w' => r = .returned (.int .i64 (stp d)) ∧ Below w.heap.size w w' := by
  have hl := h.len
  have H : Aside (IsG rO w a cap d) := h
  clear h
  go_enter Tryd.func16, Tryd.ntmps16
  go_wp2
  go_loopg [3] d.length (fun kx s3 wr => ∃ k : Nat, s3 = .int .i64 k ∧ k ≤ d.length ∧ d.length - k ≤ kx ∧ wr = w ∧ Aside (∀ i (hi : i < d.length), i < k → decide (d[i].1 = 5) = false))
  case atStart => exact ⟨0, rfl, by omega, by omega, rfl, (fun i _ h => absurd h (by omega) : ∀ i (hi : i < d.length), i < 0 → decide (d[i].1 = 5) = false)⟩
  case round =>
    obtain ⟨k, rfl, hk, hkx, rfl, A⟩ := hrel
    by_cases hlt : k < d.length
    · have hz : (k : Int) < (d.length : Int) := by omega
      obtain ⟨x, hx⟩ : ∃ x, d[k] = x := ⟨_, rfl⟩
      obtain ⟨b, off, ha, hb, c0, c1, c2⟩ := opAt H.out (i := k) (x := x) (by rw [List.getElem?_eq_getElem hlt, hx])
      subst ha
      have HX : Hid _ := hx
      clear hx
      by_cases c : x.1 = 5
      · have E : Aside ((stp d : Int) = (k : Int) + 1) := by
          have := firstStp (d := d) (z := (k : Int)) (.inr ⟨k, hlt, rfl, by rw [HX.out]; exact decide_eq_true c, fun i hi => A.out i (by omega) hi⟩)
          rw [if_neg (by omega)] at this
          exact this
        go_wp2
        go_ret
        exact ⟨by rw [E.out]; rfl, Below.refl _ _⟩
      · go_wp2
        go_roundg (d.length - (k + 1))
        case measure => omega
        case rel =>
          refine ⟨k + 1, by go_num, by omega, Nat.le_refl _, rfl, (fun i hi hik => ?_ : ∀ i (hi : i < d.length), i < k + 1 → decide (d[i].1 = 5) = false)⟩
          by_cases e : i = k
          · subst e; rw [HX.out]; exact decide_eq_false c
          · exact A.out i hi (by omega)
    · have hz : ¬ (k : Int) < (d.length : Int) := by omega
      have E : Aside ((stp d : Int) = (d.length : Int)) := by
        have := firstStp (d := d) (z := -1) (.inl ⟨rfl, fun i hi => A.out i hi (by omega)⟩)
        exact this
      go_wp2
      go_ret
      exact ⟨by rw [E.out]; rfl, Below.refl _ _⟩
set_option maxHeartbeats 4000000 in
set_option maxRecDepth 100000 in
theorem opOk_any (k a b : Int) (w : World) : Calls Tryd.prog 29 #[.agg #[.int .i64 k, .int .i64 a, .int .i64 b]] w fun e w' => e = .returned (.bool (okO (k, a, b))) ∧ Below w.heap.size w w' := by
  have hd := okO_doc k a b
  obtain ⟨B, hB⟩ : ∃ B, okO (k, a, b) = B := ⟨_, rfl⟩
  rw [hB] at hd ⊢
  have HD : Hid _ := hd
  clear hd hB
  have yes : ∀ x : Bool, (x = true ↔ B = true) → x = B := fun x h => by cases x <;> cases B <;> simp_all
  go_enter Tryd.func29, Tryd.ntmps29
  go_wp2
  all_goals go_ret
  all_goals refine ⟨?_, bel1 _ _⟩
  all_goals refine congrArg (fun b => Ending.returned (Value.bool b)) (yes _ ?_)
  all_goals refine Iff.trans ?_ HD.out.symm
  all_goals (simp only [beq_iff_eq, beq_eq_false_iff_ne, ne_eq, decide_eq_true_eq, Bool.false_eq_true, false_iff] at *; omega)
set_option maxHeartbeats 2000000 in
set_option maxRecDepth 100000 in
theorem bodyOk_any (a : Option Addr) (cap : Nat) (d : List OpR) (w : World) (h : IsG rO w a cap d) :
    Calls Tryd.prog 15 #[.slice a d.length cap] w fun r w' => r = .returned (.bool (okL d)) ∧ Below w.heap.size w w' := by
  have hl := h.len
  by_cases h16 : d.length ≤ 16
  · have h16' : ¬ (d.length : Int) > 16 := by omega
    have E : Aside (okL d = d.all okO) := by
      show okL d = d.all okO
      unfold okL
      rw [decide_eq_true h16, Bool.true_and]
    have H : Aside (IsG rO w a cap d) := h
    clear h
    go_enter Tryd.func15, Tryd.ntmps15
    go_wp2
    go_loopg [3] d.length (fun kx s3 wr => ∃ k : Nat, s3 = .int .i64 k ∧ k ≤ d.length ∧ d.length - k ≤ kx ∧ Aside (Below w.heap.size w wr) ∧ Aside (∀ i (hi : i < d.length), i < k → okO d[i] = true))
    case atStart => exact ⟨0, rfl, by omega, by omega, Below.refl _ w, (fun i _ h => absurd h (by omega) : ∀ i (hi : i < d.length), i < 0 → okO d[i] = true)⟩
    case round =>
      obtain ⟨k, rfl, hk, hkx, G, A⟩ := hrel
      by_cases hlt : k < d.length
      · have hz : (k : Int) < (d.length : Int) := by omega
        obtain ⟨x, hx⟩ : ∃ x, d[k] = x := ⟨_, rfl⟩
        obtain ⟨b, off, ha, hb, c0, c1, c2⟩ := opAt (H.out.below G.out) (i := k) (x := x) (by rw [List.getElem?_eq_getElem hlt, hx])
        subst ha
        have HX : Hid _ := hx
        clear hx
        obtain ⟨B, hB⟩ : ∃ B, okO x = B := ⟨_, rfl⟩
        have HB : Hid _ := hB
        have pc := opOk_any x.1 x.2.1 x.2.2 wr
        rw [show okO (x.1, x.2.1, x.2.2) = B from hB] at pc
        clear hB
        go_wp2_with fail
        refine pc.mono ?_
        rintro r w1 ⟨rfl, g1⟩
        have G2 : Aside (Below w.heap.size w w1) := Below.tr G.out g1
        clear g1 G c0 c1 c2 pc
        cases B with
        | true =>
          go_wp2
          go_roundg (d.length - (k + 1))
          case measure => omega
          case rel =>
            refine ⟨k + 1, by go_num, by omega, Nat.le_refl _, G2, (fun i hi hik => ?_ : ∀ i (hi : i < d.length), i < k + 1 → okO d[i] = true)⟩
            by_cases e : i = k
            · subst e; rw [HX.out]; exact HB.out
            · exact A.out i hi (by omega)
        | false =>
          go_wp2
          go_ret
          refine ⟨?_, G2.out⟩
          rw [E.out, List.all_eq_false.2 ⟨x, by rw [← HX.out]; exact List.getElem_mem hlt, by rw [HB.out]; simp⟩]; rfl
      · have hz : ¬ (k : Int) < (d.length : Int) := by omega
        go_wp2
        go_ret
        refine ⟨?_, G.out⟩
        rw [E.out, List.all_eq_true.2 (fun x hx => ?_)]
        · rfl
        · obtain ⟨i, hi, rfl⟩ := List.getElem_of_mem hx
          exact A.out i hi (by omega)
  · have h16' : (d.length : Int) > 16 := by omega
    have E : okL d = false := by
      unfold okL
      rw [decide_eq_false h16, Bool.false_and]
    go_enter Tryd.func15, Tryd.ntmps15
    go_wp2
    go_ret
    exact ⟨by rw [E]; rfl, Below.refl _ _⟩

end Go.Proofs.YtoidkiodlfpefaaDoor

/- The law's own 'same'. -/
import Derived.Test.YtdcacbjmbfppeaaGreatQR7
import Derived.Test.YtdcacbjmbfppeaaGreatQW
import Derived.Deep.RegionHeld3
namespace Go.Proofs.YtdcacbjmbfppeaaGreat
open Go.RowKit Go.Lib Go.Sort
set_option linter.unusedVariables false

theorem sameO {W : World} {b1 b2 n : Nat} {x y : Option Addr} {c d : Nat} {l m : List Ent} (o1 : OwnE W b1 (.slice x n c) l) (o2 : OwnE W b2 (.slice y n d) m) (h1 : l.length = n) (e : l = m) :
    Calls Tryz.prog 53 #[.slice x n c, .slice y n d] W fun r w' => r = .returned (.bool true) ∧ Below W.heap.size W w' := by
  have i1 : IsL W x c l := by rw [← h1] at o1; exact o1.is
  have h2 : m.length = n := by rw [← e]; exact h1
  have i2 : IsL W y d m := by rw [← h2] at o2; exact o2.is
  exact sameN i1 i2 h1 h2 (decide_eq_true e)
theorem sameI {W : World} {b1 n : Nat} {x y : Option Addr} {c d : Nat} {l m : List Ent} (o1 : OwnE W b1 (.slice x n c) l) (i2 : IsL W y d m) (h1 : l.length = n) (e : l = m) :
    Calls Tryz.prog 53 #[.slice x n c, .slice y n d] W fun r w' => r = .returned (.bool true) ∧ Below W.heap.size W w' := by
  have i1 : IsL W x c l := by rw [← h1] at o1; exact o1.is
  have h2 : m.length = n := by rw [← e]; exact h1
  exact sameN i1 i2 h1 h2 (decide_eq_true e)
set_option maxHeartbeats 8000000 in
set_option maxRecDepth 100000 in
theorem qsame_any (w : World) (base b2 : Nat) (A : QAd) (T K N B SR LR : Nat) (s : QSt) (r : RSt) (q : Que w base A T K s) (ok : QOk K T N s) (hN : N ≤ 1000) (hK : K ≤ 16) (h1 : 1 ≤ T) (h8 : T ≤ 8) (h : RQ w b2 B SR LR T K r.g r.ow r.sh) (tw : Twin T s r) (hf : (listsQ s T).flatten.length ≤ 1000) :
    Calls Tryz.prog 19 #[ptr A.B, ptr B] w fun e w' => e = .returned (.bool true) ∧ Below w.heap.size w w' := by
  have Q : Aside (Que w base A T K s) := q
  have OK : Aside (QOk K T N s) := ok
  have H : Aside (RQ w b2 B SR LR T K r.g r.ow r.sh) := h
  have TW : Aside (Twin T s r) := tw
  obtain ⟨n1, hn1⟩ : ∃ n, (slAll s.g T).length = n := ⟨_, rfl⟩
  obtain ⟨ns, hns⟩ : ∃ n, r.sh.length = n := ⟨_, rfl⟩
  obtain ⟨n, hn⟩ : ∃ n, (listsQ s T).flatten.length = n := ⟨_, rfl⟩
  obtain ⟨D, hD⟩ : ∃ D, rAllK r.g r.ow r.sh T T = D := ⟨_, rfl⟩
  have e1 : slAll s.g T = rsAll r.g T := twin_slots tw
  have e2 : sortE s.hs.flatten = r.sh := tw.sh
  have e3 : sortE (listsQ s T).flatten = D := by rw [← hD]; exact twin_all tw
  have e4 : s.hs.flatten.length = ns := by rw [View.hlen tw, hns]
  have Dn : D.length = n := by rw [← e3, sortE_len]; exact hn
  have e5 : lenQ s T = n := by rw [View.lenAll tw, ← View.flatten tw]; exact hn
  have e6 : rAllN r.g r.ow r.sh T T ≤ 10000 := by rw [← rAllK_len, hD, Dn]; omega
  have n1' : (rsAll r.g T).length = n1 := by rw [← e1]; exact hn1
  obtain ⟨a, cap, c0, c1, c2, c3, il⟩ := h.cells
  rw [hns] at c3
  have KC : Aside (∀ W, Below w.heap.size w W → W.cell? ⟨B, 3, none⟩ = some (.slice a ns cap)) := fun W hW => (hW.cell (p := ⟨B, 3, none⟩) h.lt.1).trans c3
  have CC : Aside (∀ W, Below w.heap.size w W → W.cell? ⟨B, 2, none⟩ = some (.slice (some ⟨LR, 0, none⟩) T T)) := fun W hW => (hW.cell (p := ⟨B, 2, none⟩) h.lt.1).trans c2
  have SL : Aside (∀ W, Below w.heap.size w W → Calls Tryz.prog 54 #[ptr A.B] W (PivO W n1 (slAll s.g T))) := fun W hW => qslots_any W base A T K s n1 (Q.out.below hW) hn1
  have RL : Aside (∀ W, Below w.heap.size w W → Calls Tryz.prog 42 #[ptr B] W (PivO W n1 (rsAll r.g T))) := fun W hW => rslots_any W b2 B SR LR T K r.g r.ow r.sh n1 (H.out.below hW) h8 n1'
  have SH : Aside (∀ W, Below w.heap.size w W → Calls Tryz.prog 55 #[ptr A.B] W (PivO W ns (sortE s.hs.flatten))) := fun W hW => qshared_any W base A T K N s ns (Q.out.below hW) OK.out hN e4
  have AL : Aside (∀ W, Below w.heap.size w W → Calls Tryz.prog 20 #[ptr A.B] W (PivO W n (sortE (listsQ s T).flatten))) := fun W hW => qall_any W base A T K N s n (Q.out.below hW) OK.out hN hK h1 h8 (by omega) hn
  have RA : Aside (∀ W, Below w.heap.size w W → Calls Tryz.prog 43 #[ptr B] W (PivO W n D)) := fun W hW => by
    have := rall_any W b2 B SR LR T K r.g r.ow r.sh (H.out.below hW) h8 e6
    rw [hD] at this
    refine this.mono ?_
    rintro e w' ⟨x, y, rfl, o, b⟩
    rw [Dn] at o ⊢
    exact ⟨x, y, rfl, o, b⟩
  have LN : Aside (∀ W, Below w.heap.size w W → Calls Tryz.prog 29 #[ptr A.B] W fun e w' => e = .returned (.int .i64 n) ∧ Below W.heap.size W w') := fun W hW => by
    have := qlen_any W base A T K N s (Q.out.below hW) OK.out hN hK h8
    rw [e5] at this
    exact this
  have IL : Aside (IsL w a cap r.sh) := il
  have E1 : Hid _ := e1
  have E2 : Hid _ := e2
  have E3 : Hid _ := e3
  have L1 : Hid _ := hn1
  have L2 : Hid ((sortE s.hs.flatten).length = ns) := by show _ = _; rw [sortE_len]; exact e4
  have L3 : Hid ((sortE (listsQ s T).flatten).length = n) := by show _ = _; rw [sortE_len]; exact hn
  have HNS : Hid _ := hns
  have hb0 : Below w.heap.size w w := Below.refl _ _
  have hb1 : Below w.heap.size w w.drew := hb0.drew
  have mx := mixed
  have nn : n ≤ 1000 := by omega
  have tl := twin_least tw
  have E6 : Hid _ := e6
  have HD : Hid _ := hD
  have TL : Hid _ := tl
  clear q ok h tw hn1 hns hn hD e1 e2 e3 e4 Dn e5 e6 n1' c0 c1 c2 c3 il hf tl
  go_enter Tryz.func19, Tryz.ntmps19
  go_wp2_with fail
  go_region_held3 (fun W => W.cell? ⟨B, 3, none⟩ = some (.slice a ns cap)) (first | with_reducible exact KC.out _ hb0 | with_reducible exact KC.out _ hb1 | with_reducible exact KC.out _ x1 | with_reducible exact KC.out _ x2 | with_reducible exact KC.out _ x3 | with_reducible exact KC.out _ x4 | with_reducible exact KC.out _ x5 | with_reducible exact KC.out _ x6 | with_reducible exact KC.out _ x7 | with_reducible exact KC.out _ x8 | with_reducible exact KC.out _ x9 | with_reducible exact KC.out _ x10)
    ((first
      | (go_at_call 43; (with_reducible refine Calls.mono (RA.out _ x9) ?_); rintro e w10 ⟨a10, b10, rfl, o10, d10⟩; have x10 : Below w.heap.size w w10 := x9.trans (d10.mono x9.size))
      | (go_at_call 29; (with_reducible refine Calls.mono (LN.out _ x8) ?_); rintro e w9 ⟨rfl, d9⟩; have x9 : Below w.heap.size w w9 := x8.trans (d9.mono x8.size))
      | (go_at_call 53; (with_reducible refine Calls.mono (sameO (o6.below d7) o7 L3.out E3.out) ?_); rintro e w8 ⟨rfl, d8⟩; have x8 : Below w.heap.size w w8 := x7.trans (d8.mono x7.size))
      | (go_at_call 43; (with_reducible refine Calls.mono (RA.out _ x6) ?_); rintro e w7 ⟨a7, b7, rfl, o7, d7⟩; have x7 : Below w.heap.size w w7 := x6.trans (d7.mono x6.size))
      | (go_at_call 20; (with_reducible refine Calls.mono (AL.out _ x5) ?_); rintro e w6 ⟨a6, b6, rfl, o6, d6⟩; have x6 : Below w.heap.size w w6 := x5.trans (d6.mono x5.size))
      | (go_at_call 53; (with_reducible refine Calls.mono (sameI o4 (IL.out.below x4) L2.out E2.out) ?_); rintro e w5 ⟨rfl, d5⟩; have x5 : Below w.heap.size w w5 := x4.trans (d5.mono x4.size))
      | (go_at_call 55; (with_reducible refine Calls.mono (SH.out _ x3) ?_); rintro e w4 ⟨a4, b4, rfl, o4, d4⟩; have x4 : Below w.heap.size w w4 := x3.trans (d4.mono x3.size))
      | (go_at_call 53; (with_reducible refine Calls.mono (sameO (o1.below d2) o2 L1.out E1.out) ?_); rintro e w3 ⟨rfl, d3⟩; have x3 : Below w.heap.size w w3 := x2.trans (d3.mono x2.size))
      | (go_at_call 42; (with_reducible refine Calls.mono (RL.out _ x1) ?_); rintro e w2 ⟨a2, b2', rfl, o2, d2⟩; have x2 : Below w.heap.size w w2 := x1.trans (d2.mono x1.size))
      | (go_at_call 54; (with_reducible refine Calls.mono (SL.out _ hb1) ?_); rintro e w1 ⟨a1, b1, rfl, o1, d1⟩; have x1 : Below w.heap.size w w1 := hb1.trans (d1.mono hb1.size))))
  have X : Aside (Below w.heap.size w w10) := x10
  clear x1 x2 x3 x4 x5 x6 x7 x8 x9 x10 o1 o2 o4 o6 o7 o10 d1 d2 d3 d4 d5 d6 d7 d8 d9 d10 hb0 hb1 SL RL SH AL RA LN
  go_wp2_with fail
  go_loopg [5, 6] (T + 2) (fun kx s5 s6 wr => ∃ (i : Nat), s5 = .int .i64 ((i : Int) - 1) ∧ i ≤ T + 2 ∧ T + 2 - i ≤ kx ∧ Aside (Below w.heap.size w wr))
  case atStart => exact ⟨0, rfl, by omega, by omega, X⟩
  case round =>
    clear X
    obtain ⟨i, rfl, hi, hkx, X⟩ := hrel
    have k2 := CC.out _ X.out
    have iw : IntKind.i64.wrap ((i : Int) - 1 + 1) = (i : Int) - 1 + 1 := by rw [IntKind.wrap_i64]; omega
    by_cases hlt : i ≤ T + 1
    · have hz : (i : Int) - 1 ≤ (T : Int) := by omega
      by_cases ho : i = 0 ∨ i = T + 1
      · have lc := qlocal_out wr base A T K s ((i : Int) - 1) (Q.out.below X.out) (by omega) (by unfold wfI; simp [Lit.wf, IntKind.min, IntKind.max, IntKind.bits, IntKind.signed]; omega)
        by_cases hi0 : (i : Int) - 1 < 0
        · have g0 : decide ((i : Int) - 1 < 0) = true := decide_eq_true hi0
          clear ho
          go_wp2_with fail
          refine lc.mono ?_
          rintro e w3 ⟨a3, b3, rfl, o3, d3⟩
          have X3 : Aside (Below w.heap.size w w3) := X.out.trans (d3.mono X.out.size)
          have k3 := CC.out _ X3.out
          clear lc o3 d3
          go_wp2
          go_roundg (T + 2 - (i + 1))
          case measure => omega
          case rel => exact ⟨i + 1, by congr 1; omega, by omega, Nat.le_refl _, X3⟩
        · have g0 : decide ((i : Int) - 1 < 0) = false := decide_eq_false hi0
          have g2 : (T : Int) ≤ (i : Int) - 1 := by omega
          have g1 : decide ((T : Int) ≤ (i : Int) - 1) = true := decide_eq_true g2
          clear ho
          go_wp2_with fail
          refine lc.mono ?_
          rintro e w3 ⟨a3, b3, rfl, o3, d3⟩
          have X3 : Aside (Below w.heap.size w w3) := X.out.trans (d3.mono X.out.size)
          have k3 := CC.out _ X3.out
          clear lc o3 d3
          go_wp2
          go_roundg (T + 2 - (i + 1))
          case measure => omega
          case rel => exact ⟨i + 1, by congr 1; omega, by omega, Nat.le_refl _, X3⟩
      · obtain ⟨j, rfl⟩ : ∃ j, i = j + 1 := ⟨i - 1, by omega⟩
        have jT : j < T := by omega
        have ej : ((j + 1 : Nat) : Int) - 1 = (j : Int) := by omega
        rw [ej] at hz iw ⊢
        have g0 : ¬ (j : Int) < 0 := by omega
        have g0' : decide ((j : Int) < 0) = false := decide_eq_false g0
        have g2 : ¬ (T : Int) ≤ (j : Int) := by omega
        have g1 : decide ((T : Int) ≤ (j : Int)) = false := decide_eq_false g2
        have jz : (j : Int) < (T : Int) := by omega
        obtain ⟨m, hm⟩ : ∃ m, (s.ls j).flatten.length = m := ⟨_, rfl⟩
        have lc := qlocal_in wr base A T K N s j m (Q.out.below X.out) OK.out hK jT h8 hm
        have eo : sortE (s.ls j).flatten = r.ow j := TW.out.ow j jT
        have EO : Hid _ := eo
        have ml : (sortE (s.ls j).flatten).length = m := by rw [sortE_len]; exact hm
        have ML : Hid _ := ml
        clear ho eo ml hm ej
        go_wp2_with fail
        refine lc.mono ?_
        rintro e w3 ⟨a3, b3, rfl, o3, d3⟩
        have X3 : Aside (Below w.heap.size w w3) := X.out.trans (d3.mono X.out.size)
        have k3 := CC.out _ X3.out
        obtain ⟨b4, c4, q0, iq⟩ := (H.out.below X3.out).own jT
        have ol : (r.ow j).length = m := by rw [← EO.out]; exact ML.out
        rw [ol] at q0
        have sm := sameI o3 iq ML.out EO.out
        clear lc d3 o3 iq ol
        go_wp2_with fail
        refine sm.mono ?_
        rintro e w4 ⟨rfl, d4⟩
        have X4 : Aside (Below w.heap.size w w4) := X3.out.trans (d4.mono X3.out.size)
        clear sm d4
        go_wp2
        go_roundg (T + 2 - (j + 1 + 1))
        case measure => omega
        case rel => exact ⟨j + 1 + 1, by congr 1; omega, by omega, Nat.le_refl _, X4⟩
    · have hz : ¬ (i : Int) - 1 ≤ (T : Int) := by omega
      have ql := qleast_any wr base A T K N s (Q.out.below X.out) OK.out hN hK h1 h8
      obtain ⟨⟨⟨x1, x2⟩, f⟩, hx⟩ : ∃ x, headO (rAllK r.g r.ow r.sh T T) = x := ⟨_, rfl⟩
      have tl := TL.out
      rw [hx] at tl
      injection tl with t1 t2
      rw [t1, t2] at ql
      have HX : Hid _ := hx
      have ql' : Calls Tryz.prog 28 #[ptr A.B] wr fun e w' => e = .returned (.tuple #[.agg #[.int .u64 x1, .int .i64 x2], .bool f]) ∧ Below wr.heap.size wr w' := ql
      clear ql hx t1 t2 iw
      go_wp2_with fail
      refine ql'.mono ?_
      rintro e w3 ⟨rfl, d3⟩
      obtain ⟨R, hR⟩ : ∃ R, w3.heap.size = R := ⟨_, rfl⟩
      obtain ⟨u, hu⟩ : ∃ u, w3.alloc (.cells #[.int .u64 x1, .int .i64 x2] 34) = u := ⟨_, rfl⟩
      have bu : Below wr.heap.size wr u := by rw [← hu]; exact d3.alloc d3.size _
      have us : u.heap[R]? = some (.cells #[.int .u64 x1, .int .i64 x2] 34 (0, 0)) := by rw [← hu, ← hR]; exact heap_alloc_new w3 _
      have XU : Aside (Below w.heap.size w u) := X.out.trans (bu.mono X.out.size)
      have US : Aside (u.heap[R]? = some (.cells #[.int .u64 x1, .int .i64 x2] 34 (0, 0))) := us
      have rl := rleast_any u b2 B SR LR T K r.g r.ow r.sh (H.out.below XU.out) h8 E6.out
      rw [HX.out] at rl
      have rl' : Calls Tryz.prog 13 #[ptr B] u fun e w' => e = .returned (.tuple #[.agg #[.int .u64 x1, .int .i64 x2], .bool f]) ∧ Below u.heap.size u w' := rl
      have HU : Hid _ := hu
      clear hu bu us d3 ql' rl
      go_wp2_with fail
      rw [HU.out]
      refine rl'.mono ?_
      rintro e w4 ⟨rfl, d4⟩
      have s4 := (d4.block R (lt_of_block US.out)).trans US.out
      obtain ⟨y0, y1⟩ := ent0 s4
      have Rl : R < w4.heap.size := lt_of_block s4
      have nR : ¬ R = w4.heap.size := by omega
      have n0 := (cell_old w4 (.cells #[.int .u64 x1, .int .i64 x2] 34) 0 (b := R) Rl).trans y0
      have n1' := (cell_old w4 (.cells #[.int .u64 x1, .int .i64 x2] 34) 1 (b := R) Rl).trans y1
      have X5 : Aside (∀ o, Below w.heap.size w (w4.alloc o)) := fun o => by
        have d5 := d4.alloc d4.size o
        exact XU.out.trans (d5.mono XU.out.size)
      have ee := eqE (x1, x2) (x1, x2)
      have ge := guardE
      have e3 : decide ((x1, x2) = ((x1, x2) : Ent)) = true := decide_eq_true rfl
      have fe : (f == f) = true := by simp
      clear rl' d4 s4
      go_wp2
      go_ret
      exact ⟨by simp, X5.out _⟩
end Go.Proofs.YtdcacbjmbfppeaaGreat

/- The document's opOf. -/
import Derived.Test.YtoidkiodlfpefaaDoorBdX
namespace Go.Proofs.YtoidkiodlfpefaaDoor
open Go.RowKit Go.Lib Go.Shelf Go.Sort
set_option linter.unusedVariables false
set_option maxRecDepth 10000

/-- What opOf answers. -/
def OpfIs (w : World) (l : List UInt8) (e : Ending) (w' : World) : Prop :=
  (∃ x : OpR, e = .returned (.tuple #[.agg #[.int .i64 x.1, .int .i64 x.2.1, .int .i64 x.2.2], .bool (opB l)]) ∧ (opB l = true → x = opO l)) ∧ Below w.heap.size w w'
/-- The numbers of the first so many. -/
def nms (p : List (List UInt8)) (I : Nat) : List Int := (p.tail.take I).map fun x => (numV x : Int)
theorem nms_len (p : List (List UInt8)) (I : Nat) (h : I ≤ p.tail.length) : (nms p I).length = I := by unfold nms; simp at *; omega
theorem nms_next (p : List (List UInt8)) (I : Nat) (h : I < p.tail.length) : nms p (I + 1) = nms p I ++ [(numV p.tail[I] : Int)] := by
  unfold nms
  rw [List.take_succ_eq_append_getElem h, List.map_append]
  rfl
set_option maxHeartbeats 1600000 in
set_option maxRecDepth 100000 in
theorem opOf_any (s : ByteArray) (l : List UInt8) (hs : s.data.toList = l) (hl : l.length ≤ 400) (w : World) : Calls Tryd.prog 31 #[.string s] w (OpfIs w l) := by
  obtain ⟨u1, hu1⟩ : ∃ u, w.alloc (.cells #[.int .i64 0, .int .i64 0, .int .i64 0] 23) = u := ⟨_, rfl⟩
  have bu1 : Below w.heap.size w u1 := by rw [← hu1]; exact bel1 _ _
  have su1 : u1.heap.size = w.heap.size + 1 := by rw [← hu1, alloc_sz]
  have hS0 : u1.heap[w.heap.size]? = some (.cells #[.int .i64 0, .int .i64 0, .int .i64 0] 23 (0, 0)) := by rw [← hu1]; exact heap_alloc_new _ _
  have sp := words_any s l hs 32 hl u1
  obtain ⟨p, hp⟩ : ∃ p, wds 32 l = p := ⟨_, rfl⟩
  have hpp : 0 < p.length := by rw [← hp]; exact wds_pos 32 l
  have hpl : p.length ≤ 401 := by rw [← hp]; have := wds_len 32 l; omega
  rw [hp] at sp
  unfold OpfIs
  obtain ⟨B, hB⟩ : ∃ B, opB l = B := ⟨_, rfl⟩
  have hob : B = (p.tail.all (numB 9) && okO (opO l)) := by rw [← hB]; unfold opB; rw [hp]
  have hoo : opO l = if shapeB p = true then opP p else (0, 0, 0) := by unfold opO; rw [hp]
  rw [hB]
  obtain ⟨O, hO⟩ : ∃ o, opO l = o := ⟨_, rfl⟩
  rw [hO] at hob hoo ⊢
  have HOB : Aside (B = (p.tail.all (numB 9) && okO O)) := hob
  have HOO : Aside (O = if shapeB p = true then opP p else (0, 0, 0)) := hoo
  have HU1 : Hid _ := hu1
  have B1 : Aside (Below w.heap.size w u1) := bu1
  have HS0 : Aside (u1.heap[w.heap.size]? = some (.cells #[.int .i64 0, .int .i64 0, .int .i64 0] 23 (0, 0))) := hS0
  clear hob hoo hu1 bu1 hS0 hp hB hO hs
  go_enter Tryd.func31, Tryd.ntmps31
  go_upto_region 1 with fail
  rw [HU1.out]
  clear HU1
  go_wp2_with fail
  refine sp.mono ?_
  rintro r w2 ⟨v, rfl, o2, b2⟩
  obtain ⟨a, cap, rfl, L⟩ := o2.isG
  have L2 : Aside (IsG rS w2 a cap p) := L
  have B2 : Aside (Below w.heap.size w w2) := Below.tr B1.out b2
  have S2 : Aside (w2.heap[w.heap.size]? = some (.cells #[.int .i64 0, .int .i64 0, .int .i64 0] 23 (0, 0))) := (b2.block _ (by omega)).trans HS0.out
  have s2 : w.heap.size < w2.heap.size := lt_of_block S2.out
  clear o2 b2 L sp HS0 B1 su1
  go_wp2_with fail
  go_loopg [5, 6] p.length (fun kx s5 s6 wr => ∃ I : Nat, s6 = .int .i64 ((I : Int) + 1) ∧ I + 1 ≤ p.length ∧ p.length - (I + 1) ≤ kx ∧ Aside (OwnG rI wr w2.heap.size s5 (nms p I)) ∧ Aside (Below w2.heap.size w2 wr) ∧ Aside ((p.tail.take I).all (numB 9) = true))
  case atStart => exact ⟨0, rfl, by omega, by omega, OwnG.nil rI w2 _, Below.refl _ w2, (rfl : (p.tail.take 0).all (numB 9) = true)⟩
  case round =>
    obtain ⟨I, rfl, hI, hkx, OW, G, AL⟩ := hrel
    by_cases hlt : I + 1 < p.length
    · have hz : (I : Int) + 1 < (p.length : Int) := by omega
      have hpt : I < p.tail.length := by rw [List.length_tail]; omega
      obtain ⟨x, hx⟩ : ∃ x, p.tail[I] = x := ⟨_, rfl⟩
      have hx1 : p[I + 1]? = some x := by
        rw [← hx, ← List.getElem?_tail, List.getElem?_eq_getElem hpt]
      obtain ⟨b, off, ha, hb, hc⟩ := strAt (L2.out.below G.out) hx1
      subst ha
      unfold sV at hc
      obtain ⟨X, hX⟩ : ∃ X : ByteArray, ⟨x.toArray⟩ = X := ⟨_, rfl⟩
      rw [hX] at hc
      have nm := vnumber_any X x (by rw [← hX]) wr
      obtain ⟨NB, hNB⟩ : ∃ NB, numB 9 x = NB := ⟨_, rfl⟩
      obtain ⟨NV, hNV⟩ : ∃ V : Int, (if numB 9 x then (numV x : Int) else 0) = V := ⟨_, rfl⟩
      have nv1 : 0 ≤ NV ∧ NV < 1000000000 := by
        rw [← hNV]
        split
        · rename_i hn
          have := numV_lt hn
          omega
        · omega
      obtain ⟨nv1, nv2⟩ := nv1
      rw [hNV, hNB] at nm
      have HNB : Hid _ := hNB
      have HNV : Aside ((if numB 9 x then (numV x : Int) else 0) = NV) := hNV
      have HX : Hid _ := hx
      clear hx hNB hNV hX hx1
      go_wp2_with fail
      refine nm.mono ?_
      rintro r w5 ⟨rfl, b5⟩
      have G5 : Aside (Below w2.heap.size w2 w5) := Below.tr G.out b5
      obtain ⟨v7, w7, hr7, o7, b7⟩ := own_pushI (OW.out.below b5) NV (by rw [nms_len _ _ (by omega)]; omega) G5.out.size
      have O7 : Aside (OwnG rI w7 w2.heap.size v7 (nms p I ++ [NV])) := o7
      have G7 : Aside (Below w2.heap.size w2 w7) := G5.out.trans b7
      clear o7 b7 b5 OW G nm hc
      cases NB with
      | true =>
        have AL2 : Aside ((p.tail.take (I + 1)).all (numB 9) = true) := by
          show (p.tail.take (I + 1)).all (numB 9) = true
          rw [List.take_succ_eq_append_getElem hpt, List.all_append, AL.out]
          simp [HX.out, HNB.out]
        have O8 : Aside (OwnG rI w7 w2.heap.size v7 (nms p (I + 1))) := by
          show OwnG rI w7 w2.heap.size v7 (nms p (I + 1))
          have e : NV = (numV p.tail[I] : Int) := by
            rw [← HNV.out, HNB.out, if_pos rfl, HX.out]
          rw [nms_next p I hpt, ← e]
          exact O7.out
        go_wp2_with (at_builtin; refine wpList_app _ rfl _ _ 59 rfl _ _ rfl rfl v7 w7 hr7 ?_; clear hr7)
        go_roundg (p.length - (I + 1 + 1))
        case measure => omega
        case rel => exact ⟨I + 1, by go_num, by omega, Nat.le_refl _, O8, G7, AL2⟩
      | false =>
        have hB' : B = false := by
          rw [HOB.out, List.all_eq_false.2 ⟨x, by rw [← HX.out]; exact List.getElem_mem hpt, by rw [HNB.out]; simp⟩, Bool.false_and]
        clear HOB hr7
        subst hB'
        have S5 := (G5.out.block _ s2).trans S2.out
        have s5 : w.heap.size < w5.heap.size := lt_of_block S5
        obtain ⟨⟨z0, z1, z2⟩, _⟩ := cells3 S5
        have z3 := (cells3 S5).2 0
        have z4 := (cells3 S5).2 1
        have z5 := (cells3 S5).2 2
        obtain ⟨⟨r0, r1, r2⟩, _⟩ := cells3 (set3 S5 (.int .i64 0) (.int .i64 0) (.int .i64 0))
        clear S5
        go_wp2
        refine bodyPost_ret (v := .tuple #[.agg #[.int .i64 0, .int .i64 0, .int .i64 0], .bool false]) (by simp [results, Tryd.results31, go_sem, r0, r1, r2]) rfl ⟨⟨(0, 0, 0), rfl, fun h => by cases h⟩, below_set3 (Below.tr B2.out G5.out) (Nat.le_refl _) _ _ _⟩
    · have hz : ¬ (I : Int) + 1 < (p.length : Int) := by omega
      have e0 : I = p.tail.length := by rw [List.length_tail]; omega
      have AL' : p.tail.all (numB 9) = true := by
        have := AL.out
        rw [e0, List.take_length] at this
        exact this
      have hOB : Aside (B = okO O) := by
        show B = okO O
        rw [HOB.out, AL', Bool.true_and]
      obtain ⟨m, hm⟩ : ∃ m, p.tail.length = m := ⟨_, rfl⟩
      have hm4 : m ≤ 400 := by rw [← hm, List.length_tail]; omega
      obtain ⟨an, cn, hv, LN⟩ := OW.out.isG
      rw [nms_len _ _ (by omega), e0, hm] at hv
      subst hv
      obtain ⟨p0, hp0⟩ : ∃ x, p.headD [] = x := ⟨_, rfl⟩
      have hp0' : p[0]? = some p0 := by
        rw [← hp0]
        cases p with
        | nil => simp at hpp
        | cons a r => rfl
      obtain ⟨N0, hN0⟩ : ∃ n : Int, (numV (p.tail.getD 0 []) : Int) = n := ⟨_, rfl⟩
      obtain ⟨N1, hN1⟩ : ∃ n : Int, (numV (p.tail.getD 1 []) : Int) = n := ⟨_, rfl⟩
      have n0 : m ≤ 0 → N0 = 0 := fun h => by rw [← hN0, List.getD, List.getElem?_eq_none (by omega)]; rfl
      have n1 : m ≤ 1 → N1 = 0 := fun h => by rw [← hN1, List.getD, List.getElem?_eq_none (by omega)]; rfl
      have g0 : 0 < m → (nms p I)[0]? = some N0 := fun h => by
        unfold nms
        rw [e0, List.take_length, List.getElem?_map, List.getElem?_eq_getElem (by omega), ← hN0, List.getD, List.getElem?_eq_getElem (by omega)]
        rfl
      have g1 : 1 < m → (nms p I)[1]? = some N1 := fun h => by
        unfold nms
        rw [e0, List.take_length, List.getElem?_map, List.getElem?_eq_getElem (by omega), ← hN1, List.getD, List.getElem?_eq_getElem (by omega)]
        rfl
      have hOO : O = if (kindOf p0 ≠ 0 ∧ m = toK (kindOf p0)) then (kindOf p0, N0, N1) else (0, 0, 0) := by
        rw [HOO.out]
        unfold shapeB opP
        rw [hp0, hm, hN0, hN1]
        by_cases c : kindOf p0 ≠ 0 ∧ m = toK (kindOf p0)
        · rw [if_pos c, if_pos (by rw [decide_eq_true c.1, decide_eq_true c.2]; rfl)]
        · rw [if_neg c, if_neg (fun h => c (by simpa using h))]
      obtain ⟨C, hC⟩ : ∃ C, wr.heap.size = C := ⟨_, rfl⟩
      obtain ⟨u3, hu3⟩ : ∃ u, wr.alloc (.cells #[.int .i64 0, .int .i64 0, .int .i64 0] 23) = u := ⟨_, rfl⟩
      have b3 : Below wr.heap.size wr u3 := by rw [← hu3]; exact bel1 _ _
      have hC3 : u3.heap[C]? = some (.cells #[.int .i64 0, .int .i64 0, .int .i64 0] 23 (0, 0)) := by rw [← hu3, ← hC]; exact heap_alloc_new _ _
      obtain ⟨b, off, ha, hb, hc⟩ := strAt ((L2.out.below G.out).below b3) hp0'
      subst ha
      unfold sV at hc
      obtain ⟨P0, hP0⟩ : ∃ X : ByteArray, ⟨p0.toArray⟩ = X := ⟨_, rfl⟩
      rw [hP0, Nat.add_zero] at hc
      have hPl : P0.toList = p0 := by rw [ByteArray.toList_eq, ← hP0]
      have LN3 : Aside (IsG rI wr an cn (nms p I)) := LN
      have B3 : Aside (Below wr.heap.size wr u3) := b3
      have HC3 : Aside (u3.heap[C]? = some (.cells #[.int .i64 0, .int .i64 0, .int .i64 0] 23 (0, 0))) := hC3
      have HU3 : Hid _ := hu3
      have HC : Hid _ := hC
      have G0 : Aside (0 < m → (nms p I)[0]? = some N0) := g0
      have G1 : Aside (1 < m → (nms p I)[1]? = some N1) := g1
      have HOO' : Aside (O = if (kindOf p0 ≠ 0 ∧ m = toK (kindOf p0)) then (kindOf p0, N0, N1) else (0, 0, 0)) := hOO
      have Z0 : Aside (m ≤ 0 → N0 = 0) := n0
      have Z1 : Aside (m ≤ 1 → N1 = 0) := n1
      have hC3' : C < u3.heap.size := lt_of_block hC3
      clear hP0 hC3 b3 hu3 LN OW hOO g0 g1 n0 n1 hN0 hN1 hp0' hp0 AL' AL e0 HOB HOO hm
      go_upto_block 2 with fail
      rw [HU3.out]
      clear HU3 hC
      -- SWITCH
      go_cut [] (fun wx => Below wr.heap.size wr wx ∧ wx.heap[C]? = some (.cells #[.int .i64 O.1, .int .i64 O.2.1, .int .i64 O.2.2] 23 (0, 0)))
      case first =>
        obtain ⟨⟨z0, z1, z2⟩, _⟩ := cells3 HC3.out
        have z3 := (cells3 HC3.out).2 0
        have z4 := (cells3 HC3.out).2 1
        have z5 := (cells3 HC3.out).2 2
        by_cases q1 : p0 = [110, 111, 112]
        · subst q1
          have hk : kindOf [110, 111, 112] = 1 := by decide
          rw [hk] at HOO'
          by_cases hmt : m = 0
          · have hO : O = (1, N0, N1) := HOO'.out.trans (if_pos ⟨by decide, hmt⟩)
            clear HOO'
            subst hmt hO
            obtain rfl : N0 = 0 := Z0.out (by omega)
            obtain rfl : N1 = 0 := Z1.out (by omega)
            have r9 := (set3 HC3.out (.int .i64 1) (.int .i64 0) (.int .i64 0))
            go_wp2
            go_meet
            exact ⟨Below.setCell B3.out (Nat.le_of_eq HC.out) _, heap_setCell_same _ _ _ _ _ _ HC3.out⟩
          · have hmt' : ¬ (m : Int) = 0 := by omega
            have hmt2 : ((m : Int) == 0) = false := by simpa using hmt'
            have hO : O = (0, 0, 0) := HOO'.out.trans (if_neg (by exact fun h => hmt h.2))
            subst hO
            clear HOO' z0 z1 z2 z3 z4 z5
            go_wp2
            go_meet
            exact ⟨B3.out, HC3.out⟩
        have x1 : (p0 == [110, 111, 112]) = false := by simpa using q1
        by_cases q2 : p0 = [115, 117, 98, 109, 105, 116]
        · subst q2
          have hk : kindOf [115, 117, 98, 109, 105, 116] = 2 := by decide
          rw [hk] at HOO'
          by_cases hmt : m = 1
          · have hO : O = (2, N0, N1) := HOO'.out.trans (if_pos ⟨by decide, hmt⟩)
            clear HOO'
            subst hmt hO
            obtain rfl : N1 = 0 := Z1.out (by omega)
            obtain ⟨nb, no, hna, hnb, nc0⟩ := intAt LN3.out (G0.out (by omega))
            subst hna
            rw [Nat.add_zero] at nc0
            have nne : nb ≠ C := by have := HC.out; omega
            have nd0 := (B3.out.cell (p := ⟨nb, no, none⟩) hnb).trans nc0
            have st0 : ∀ (W : World) (o j : Nat) (v y : Value), W.cell? ⟨nb, j, none⟩ = some y → (W.setCell ⟨C, o, none⟩ v).cell? ⟨nb, j, none⟩ = some y := fun W o j v y h => by
              rw [World.cell?_of_block (heap_setCell_other W ⟨C, o, none⟩ nb v nne)]; exact h
            have nd0a := st0 u3.drew 0 no (.int .i64 2) _ nd0
            have f1 : (u3.drew.setCell ⟨C, 0, none⟩ (.int .i64 2)).heap[C]? = some (.cells #[.int .i64 2, .int .i64 0, .int .i64 0] 23 (0, 0)) := heap_setCell_same _ _ _ _ _ _ HC3.out
            have F1 := f1
            obtain ⟨⟨_, y1, y2⟩, _⟩ := cells3 f1
            have y4 := (cells3 f1).2 1
            have y5 := (cells3 f1).2 2
            have f2 : ((u3.drew.setCell ⟨C, 0, none⟩ (.int .i64 2)).setCell ⟨C, 1, none⟩ (.int .i64 N0)).heap[C]? = some (.cells #[.int .i64 2, .int .i64 N0, .int .i64 0] 23 (0, 0)) := heap_setCell_same _ _ _ _ _ _ f1
            obtain ⟨⟨_, _, v2⟩, _⟩ := cells3 f2
            have v5 := (cells3 f2).2 2
            have F3 : Aside _ := f2
            have BB : Aside (Below wr.heap.size wr ((u3.drew.setCell ⟨C, 0, none⟩ (.int .i64 2)).setCell ⟨C, 1, none⟩ (.int .i64 N0))) := Below.setCell (Below.setCell (Below.drew B3.out) (Nat.le_of_eq HC.out) _) (Nat.le_of_eq HC.out) _
            clear st0 f1 f2  F1
            go_upto_region 14 with fail
            go_region
            all_goals go_wp2
            all_goals go_meet
            all_goals exact ⟨BB.out, F3.out⟩
          · have hmt' : ¬ (m : Int) = 1 := by omega
            have hmt2 : ((m : Int) == 1) = false := by simpa using hmt'
            have hO : O = (0, 0, 0) := HOO'.out.trans (if_neg (by exact fun h => hmt h.2))
            subst hO
            clear HOO' z0 z1 z2 z3 z4 z5
            go_wp2
            go_meet
            exact ⟨B3.out, HC3.out⟩
        have x2 : (p0 == [115, 117, 98, 109, 105, 116]) = false := by simpa using q2
        by_cases q3 : p0 = [97, 102, 116, 101, 114]
        · subst q3
          have hk : kindOf [97, 102, 116, 101, 114] = 3 := by decide
          rw [hk] at HOO'
          by_cases hmt : m = 2
          · have hO : O = (3, N0, N1) := HOO'.out.trans (if_pos ⟨by decide, hmt⟩)
            clear HOO'
            subst hmt hO
            obtain ⟨nb, no, hna, hnb, nc0⟩ := intAt LN3.out (G0.out (by omega))
            subst hna
            rw [Nat.add_zero] at nc0
            have nne : nb ≠ C := by have := HC.out; omega
            have nd0 := (B3.out.cell (p := ⟨nb, no, none⟩) hnb).trans nc0
            have st0 : ∀ (W : World) (o j : Nat) (v y : Value), W.cell? ⟨nb, j, none⟩ = some y → (W.setCell ⟨C, o, none⟩ v).cell? ⟨nb, j, none⟩ = some y := fun W o j v y h => by
              rw [World.cell?_of_block (heap_setCell_other W ⟨C, o, none⟩ nb v nne)]; exact h
            have nd0a := st0 u3.drew 0 no (.int .i64 3) _ nd0
            have f1 : (u3.drew.setCell ⟨C, 0, none⟩ (.int .i64 3)).heap[C]? = some (.cells #[.int .i64 3, .int .i64 0, .int .i64 0] 23 (0, 0)) := heap_setCell_same _ _ _ _ _ _ HC3.out
            have F1 := f1
            obtain ⟨⟨_, y1, y2⟩, _⟩ := cells3 f1
            have y4 := (cells3 f1).2 1
            have y5 := (cells3 f1).2 2
            have f2 : ((u3.drew.setCell ⟨C, 0, none⟩ (.int .i64 3)).setCell ⟨C, 1, none⟩ (.int .i64 N0)).heap[C]? = some (.cells #[.int .i64 3, .int .i64 N0, .int .i64 0] 23 (0, 0)) := heap_setCell_same _ _ _ _ _ _ f1
            obtain ⟨⟨_, _, v2⟩, _⟩ := cells3 f2
            have v5 := (cells3 f2).2 2
            obtain ⟨nb', no', hna', hnb', nc1⟩ := intAt LN3.out (G1.out (by omega))
            cases hna'
            have nd1 := (B3.out.cell (p := ⟨nb, no + 1, none⟩) hnb).trans nc1
            have nd1a := st0 u3.drew 0 (no + 1) (.int .i64 3) _ nd1
            have nd1b := st0 (u3.drew.setCell ⟨C, 0, none⟩ (.int .i64 3)) 1 (no + 1) (.int .i64 N0) _ nd1a
            have f3 : (((u3.drew.setCell ⟨C, 0, none⟩ (.int .i64 3)).setCell ⟨C, 1, none⟩ (.int .i64 N0)).setCell ⟨C, 2, none⟩ (.int .i64 N1)).heap[C]? = some (.cells #[.int .i64 3, .int .i64 N0, .int .i64 N1] 23 (0, 0)) := heap_setCell_same _ _ _ _ _ _ f2
            have F3 : Aside _ := f3
            have BB : Aside (Below wr.heap.size wr (((u3.drew.setCell ⟨C, 0, none⟩ (.int .i64 3)).setCell ⟨C, 1, none⟩ (.int .i64 N0)).setCell ⟨C, 2, none⟩ (.int .i64 N1))) := Below.setCell (Below.setCell (Below.setCell (Below.drew B3.out) (Nat.le_of_eq HC.out) _) (Nat.le_of_eq HC.out) _) (Nat.le_of_eq HC.out) _
            clear st0 f1 f2 f3 F1
            go_upto_region 16 with fail
            go_region
            all_goals go_wp2
            all_goals go_meet
            all_goals exact ⟨BB.out, F3.out⟩
          · have hmt' : ¬ (m : Int) = 2 := by omega
            have hmt2 : ((m : Int) == 2) = false := by simpa using hmt'
            have hO : O = (0, 0, 0) := HOO'.out.trans (if_neg (by exact fun h => hmt h.2))
            subst hO
            clear HOO' z0 z1 z2 z3 z4 z5
            go_wp2
            go_meet
            exact ⟨B3.out, HC3.out⟩
        have x3 : (p0 == [97, 102, 116, 101, 114]) = false := by simpa using q3
        by_cases q4 : p0 = [99, 97, 110, 99, 101, 108]
        · subst q4
          have hk : kindOf [99, 97, 110, 99, 101, 108] = 4 := by decide
          rw [hk] at HOO'
          by_cases hmt : m = 1
          · have hO : O = (4, N0, N1) := HOO'.out.trans (if_pos ⟨by decide, hmt⟩)
            clear HOO'
            subst hmt hO
            obtain rfl : N1 = 0 := Z1.out (by omega)
            obtain ⟨nb, no, hna, hnb, nc0⟩ := intAt LN3.out (G0.out (by omega))
            subst hna
            rw [Nat.add_zero] at nc0
            have nne : nb ≠ C := by have := HC.out; omega
            have nd0 := (B3.out.cell (p := ⟨nb, no, none⟩) hnb).trans nc0
            have st0 : ∀ (W : World) (o j : Nat) (v y : Value), W.cell? ⟨nb, j, none⟩ = some y → (W.setCell ⟨C, o, none⟩ v).cell? ⟨nb, j, none⟩ = some y := fun W o j v y h => by
              rw [World.cell?_of_block (heap_setCell_other W ⟨C, o, none⟩ nb v nne)]; exact h
            have nd0a := st0 u3.drew 0 no (.int .i64 4) _ nd0
            have f1 : (u3.drew.setCell ⟨C, 0, none⟩ (.int .i64 4)).heap[C]? = some (.cells #[.int .i64 4, .int .i64 0, .int .i64 0] 23 (0, 0)) := heap_setCell_same _ _ _ _ _ _ HC3.out
            have F1 := f1
            obtain ⟨⟨_, y1, y2⟩, _⟩ := cells3 f1
            have y4 := (cells3 f1).2 1
            have y5 := (cells3 f1).2 2
            have f2 : ((u3.drew.setCell ⟨C, 0, none⟩ (.int .i64 4)).setCell ⟨C, 1, none⟩ (.int .i64 N0)).heap[C]? = some (.cells #[.int .i64 4, .int .i64 N0, .int .i64 0] 23 (0, 0)) := heap_setCell_same _ _ _ _ _ _ f1
            obtain ⟨⟨_, _, v2⟩, _⟩ := cells3 f2
            have v5 := (cells3 f2).2 2
            have F3 : Aside _ := f2
            have BB : Aside (Below wr.heap.size wr ((u3.drew.setCell ⟨C, 0, none⟩ (.int .i64 4)).setCell ⟨C, 1, none⟩ (.int .i64 N0))) := Below.setCell (Below.setCell (Below.drew B3.out) (Nat.le_of_eq HC.out) _) (Nat.le_of_eq HC.out) _
            clear st0 f1 f2  F1
            go_upto_region 18 with fail
            go_region
            all_goals go_wp2
            all_goals go_meet
            all_goals exact ⟨BB.out, F3.out⟩
          · have hmt' : ¬ (m : Int) = 1 := by omega
            have hmt2 : ((m : Int) == 1) = false := by simpa using hmt'
            have hO : O = (0, 0, 0) := HOO'.out.trans (if_neg (by exact fun h => hmt h.2))
            subst hO
            clear HOO' z0 z1 z2 z3 z4 z5
            go_wp2
            go_meet
            exact ⟨B3.out, HC3.out⟩
        have x4 : (p0 == [99, 97, 110, 99, 101, 108]) = false := by simpa using q4
        by_cases q5 : p0 = [112, 97, 110, 105, 99]
        · subst q5
          have hk : kindOf [112, 97, 110, 105, 99] = 5 := by decide
          rw [hk] at HOO'
          by_cases hmt : m = 0
          · have hO : O = (5, N0, N1) := HOO'.out.trans (if_pos ⟨by decide, hmt⟩)
            clear HOO'
            subst hmt hO
            obtain rfl : N0 = 0 := Z0.out (by omega)
            obtain rfl : N1 = 0 := Z1.out (by omega)
            have r9 := (set3 HC3.out (.int .i64 5) (.int .i64 0) (.int .i64 0))
            go_wp2
            go_meet
            exact ⟨Below.setCell B3.out (Nat.le_of_eq HC.out) _, heap_setCell_same _ _ _ _ _ _ HC3.out⟩
          · have hmt' : ¬ (m : Int) = 0 := by omega
            have hmt2 : ((m : Int) == 0) = false := by simpa using hmt'
            have hO : O = (0, 0, 0) := HOO'.out.trans (if_neg (by exact fun h => hmt h.2))
            subst hO
            clear HOO' z0 z1 z2 z3 z4 z5
            go_wp2
            go_meet
            exact ⟨B3.out, HC3.out⟩
        have x5 : (p0 == [112, 97, 110, 105, 99]) = false := by simpa using q5
        have hO : O = (0, 0, 0) := HOO'.out.trans (if_neg (by unfold kindOf; rw [if_neg q1, if_neg q2, if_neg q3, if_neg q4, if_neg q5]; exact fun h => h.1 rfl))
        subst hO
        clear HOO' z0 z1 z2 z3 z4 z5
        go_wp2
        go_meet
        exact ⟨B3.out, HC3.out⟩
      case rest =>
        obtain ⟨hx, hcx⟩ := hcut
        have SX := ((G.out.block _ s2).trans S2.out)
        have SX' : Aside (wc.heap[w.heap.size]? = some (.cells #[.int .i64 0, .int .i64 0, .int .i64 0] 23 (0, 0))) := (hx.block _ (lt_of_block SX)).trans SX
        have BX : Aside (Below w.heap.size w wc) := Below.tr B2.out (Below.tr G.out hx)
        obtain ⟨⟨y0, y1, y2⟩, _⟩ := cells3 hcx
        have hCl : C < wc.heap.size := lt_of_block hcx
        have OK := opOk_any O.1 O.2.1 O.2.2
        have hok : okO (O.1, O.2.1, O.2.2) = B := hOB.out.symm
        rw [hok] at OK
        clear hcx hx SX G1 G0 Z0 Z1 HC3 B3 HOO' hc LN3 hok hOB hPl
        go_upto_region 21 with fail
        go_region_with ((go_at_call 29; refine (OK _).mono ?_; rintro r w5 ⟨rfl, b5⟩; have b5' : Below wc.heap.size wc w5 := Below.tr (Below.drew (Below.refl _ wc)) b5; have y0' := (b5'.cell (p := ⟨C, 0, none⟩) hCl).trans y0; have y1' := (b5'.cell (p := ⟨C, 1, none⟩) hCl).trans y1; have y2' := (b5'.cell (p := ⟨C, 2, none⟩) hCl).trans y2; have S5 := (b5'.block _ (lt_of_block SX'.out)).trans SX'.out; have s5 : w.heap.size < w5.heap.size := lt_of_block S5; have z0 := (cells3 S5).1.1; have z1 := (cells3 S5).1.2.1; have z2 := (cells3 S5).1.2.2; have z3 := (cells3 S5).2 0; have z4 := (cells3 S5).2 1; have z5 := (cells3 S5).2 2))
        all_goals obtain ⟨⟨r0, r1, r2⟩, _⟩ := cells3 (set3 S5 (.int .i64 O.1) (.int .i64 O.2.1) (.int .i64 O.2.2))
        all_goals have BF := below_set3 (Below.tr BX.out b5') (Nat.le_refl w.heap.size) (.int .i64 O.1) (.int .i64 O.2.1) (.int .i64 O.2.2)
        all_goals have BG : Aside _ := BF
        all_goals clear BF z0 z1 z2 z3 z4 z5 y0 y1 y2 y0' y1' y2' b5 b5' S5
        all_goals go_wp2
        all_goals exact bodyPost_ret (v := .tuple #[.agg #[.int .i64 O.1, .int .i64 O.2.1, .int .i64 O.2.2], .bool B]) (by simp [results, Tryd.results31, go_sem, r0, r1, r2]) rfl ⟨⟨O, rfl, fun _ => rfl⟩, BG.out⟩

end Go.Proofs.YtoidkiodlfpefaaDoor

/- The document's BodyOf. -/
import Derived.Test.YtoidkiodlfpefaaDoorBdY
namespace Go.Proofs.YtoidkiodlfpefaaDoor
open Go.RowKit Go.Lib Go.Shelf Go.Sort
set_option linter.unusedVariables false
set_option maxRecDepth 10000

theorem opO_rdO {x : List UInt8} (h : opB x = true) : opO x = rdO x := by
  rw [opB_eq, Bool.and_eq_true] at h
  exact opO_eq h.1
set_option maxHeartbeats 1600000 in
set_option maxRecDepth 100000 in
theorem bodyOf_any (s : ByteArray) (l : List UInt8) (hs : s.data.toList = l) (w : World) : Calls Tryd.prog 17 #[.string s] w (ParseIs w l) := by
  have ht : s.toList = l := by rw [ByteArray.toList_eq, hs]
  have hz : s.size = l.length := by rw [size_eq, hs]
  unfold ParseIs
  by_cases h400 : 400 < l.length
  · have hb : (400 : Int) < (s.size : Int) := by omega
    have e1 : codeL l = 2 := by unfold codeL; rw [if_pos h400]
    have e2 : opsL l = [] := by unfold opsL; rw [if_pos h400]
    rw [e1, e2]
    clear hz
    go_enter Tryd.func17, Tryd.ntmps17
    go_wp2
    go_ret2
    exact ⟨_, rfl, OwnG.nil _ _ _, Below.refl _ _⟩
  · have hb : ¬ (400 : Int) < (s.size : Int) := by omega
    by_cases h45 : l = [45]
    · have e1 : codeL l = 0 := by unfold codeL; rw [if_neg h400, if_pos h45]
      have e2 : opsL l = [] := by unfold opsL; rw [if_neg h400, if_pos h45]
      rw [e1, e2]
      rw [h45] at ht
      clear hz
      go_enter Tryd.func17, Tryd.ntmps17
      go_wp2
      go_ret2
      exact ⟨_, rfl, OwnG.nil _ _ _, Below.refl _ _⟩
    · have h45' : (l == [45]) = false := by simp [h45]
      have E1 : Aside (codeL l = if prsB l = true then 0 else 3) := by show _ = _; unfold codeL; rw [if_neg h400, if_neg h45]
      have E2 : Aside (opsL l = if prsB l = true then prs l else []) := by show _ = _; unfold opsL; rw [if_neg h400, if_neg h45]
      have hl4 : l.length ≤ 400 := by omega
      have sp := words_any s l hs 59 hl4 w
      obtain ⟨CO, hCO⟩ : ∃ c, codeL l = c := ⟨_, rfl⟩
      obtain ⟨OP, hOP⟩ : ∃ c, opsL l = c := ⟨_, rfl⟩
      rw [hCO, hOP]
      rw [hCO] at E1
      rw [hOP] at E2
      obtain ⟨p, hp⟩ : ∃ p, wds 59 l = p := ⟨_, rfl⟩
      have hpp : 0 < p.length := by rw [← hp]; exact wds_pos 59 l
      have hpl : p.length ≤ 401 := by rw [← hp]; have := wds_len 59 l; omega
      have hpm : ∀ x ∈ p, x.length ≤ 400 := by rw [← hp]; exact fun x hx => Nat.le_trans (wds_mem_len 59 l x hx) hl4
      have EP : Aside (prsB l = (decide (p.length ≤ 16) && p.all opB) ∧ prs l = p.map rdO) := by
        show _ ∧ _
        rw [prsB_doc]
        unfold prs
        rw [hp]
        exact ⟨rfl, rfl⟩
      have HPM : Aside (∀ x ∈ p, x.length ≤ 400) := hpm
      rw [hp] at sp
      clear hz hs hCO hOP h400 hpm hp
      go_enter Tryd.func17, Tryd.ntmps17
      go_wp2_with fail
      refine sp.mono ?_
      rintro r w2 ⟨v, rfl, o2, b2⟩
      obtain ⟨a, cap, rfl, L⟩ := o2.isG
      have L2 : Aside (IsG rS w2 a cap p) := L
      have B2 : Aside (Below w.heap.size w w2) := b2
      clear o2 b2 L sp
      go_wp2_with fail
      go_loopg [4, 6] p.length (fun kx s4 s6 wr => ∃ I : Nat, s6 = .int .i64 I ∧ I ≤ p.length ∧ I ≤ 16 ∧ p.length - I ≤ kx ∧ Aside (OwnG rO wr w2.heap.size s4 ((p.take I).map opO)) ∧ Aside (Below w2.heap.size w2 wr) ∧ Aside ((p.take I).all opB = true))
      case atStart => exact ⟨0, rfl, by omega, by omega, by omega, OwnG.nil rO w2 _, Below.refl _ w2, (rfl : (p.take 0).all opB = true)⟩
      case round =>
        obtain ⟨I, rfl, hI, hI16, hkx, OW, G, AL⟩ := hrel
        by_cases hlt : I < p.length
        · have hzI : (I : Int) < (p.length : Int) := by omega
          obtain ⟨x, hx⟩ : ∃ x, p[I] = x := ⟨_, rfl⟩
          have hx1 : p[I]? = some x := by rw [List.getElem?_eq_getElem hlt, hx]
          obtain ⟨b, off, ha, hb', hc⟩ := strAt (L2.out.below G.out) hx1
          subst ha
          unfold sV at hc
          obtain ⟨X, hX⟩ : ∃ X : ByteArray, ⟨x.toArray⟩ = X := ⟨_, rfl⟩
          rw [hX] at hc
          have rq := opOf_any X x (by rw [← hX]) (HPM.out x (List.mem_of_getElem? hx1)) wr
          have HX : Hid _ := hx
          unfold OpfIs at rq
          obtain ⟨RB, hRB⟩ : ∃ b, opB x = b := ⟨_, rfl⟩
          rw [hRB] at rq
          have HRB : Hid _ := hRB
          clear hx hX hx1 hRB
          go_wp2_with fail
          refine rq.mono ?_
          rintro r w5 ⟨⟨y, rfl, hy⟩, b5⟩
          have HY : Aside (RB = true → y = opO x) := hy
          obtain ⟨w6, hw6⟩ : ∃ u, w5.alloc (.cells #[.int .i64 y.1, .int .i64 y.2.1, .int .i64 y.2.2] 23) = u := ⟨_, rfl⟩
          have b6 : Below w5.heap.size w5 w6 := by rw [← hw6]; exact bel1 _ _
          have b56 : Below wr.heap.size wr w6 := Below.tr b5 b6
          have G6 : Aside (Below w2.heap.size w2 w6) := Below.tr G.out b56
          have d0 : w6.cell? ⟨w5.heap.size, 0, none⟩ = some (.int .i64 y.1) := by rw [← hw6, cell_fresh]; rfl
          have d1 : w6.cell? ⟨w5.heap.size, 1, none⟩ = some (.int .i64 y.2.1) := by rw [← hw6, cell_fresh]; rfl
          have d2 : w6.cell? ⟨w5.heap.size, 2, none⟩ = some (.int .i64 y.2.2) := by rw [← hw6, cell_fresh]; rfl
          obtain ⟨v7, w7, hr7, o7, b7⟩ := own_push (OW.out.below b56) y (by simp; omega) G6.out.size
          have O7 : Aside (OwnG rO w7 w2.heap.size v7 ((p.take I).map opO ++ [y])) := o7
          have G7 : Aside (Below w2.heap.size w2 w7) := (G6.out).trans b7
          have HW6 : Hid _ := hw6
          clear hw6 b6 b5 b56 hy o7 b7 rq hc G
          go_upto_region 11 with fail
          rw [HW6.out]
          cases RB with
          | false =>
            have F : prsB l = false := by
              rw [EP.out.1, List.all_eq_false.2 ⟨x, by rw [← HX.out]; exact List.getElem_mem hlt, by rw [HRB.out]; simp⟩, Bool.and_false]
            have c1 : CO = 3 := by rw [E1.out, F]; rfl
            have c2 : OP = [] := by rw [E2.out, F]; rfl
            clear E1 E2 F
            subst c1 c2
            clear hr7 d0 d1 d2
            go_wp2
            go_ret2
            exact ⟨_, rfl, OwnG.nil _ _ _, Below.tr B2.out G6.out⟩
          | true =>
            by_cases h16 : I < 16
            · have h16' : ¬ (I : Int) ≥ 16 := by omega
              have AL2 : Aside ((p.take (I + 1)).all opB = true) := by
                show (p.take (I + 1)).all opB = true
                rw [List.take_succ_eq_append_getElem hlt, List.all_append, AL.out]
                simp [HX.out, HRB.out]
              have O8 : Aside (OwnG rO w7 w2.heap.size v7 ((p.take (I + 1)).map opO)) := by
                show OwnG rO w7 w2.heap.size v7 ((p.take (I + 1)).map opO)
                have := O7.out
                rw [HY.out rfl] at this
                rw [List.take_succ_eq_append_getElem hlt, List.map_append, List.map_singleton, HX.out]
                exact this
              go_wp2_with (at_builtin; refine wpList_app _ rfl _ _ 24 rfl _ _ rfl rfl v7 w7 hr7 ?_; clear hr7)
              go_roundg (p.length - (I + 1))
              case measure => omega
              case rel => exact ⟨I + 1, by go_num, by omega, by omega, Nat.le_refl _, O8, G7, AL2⟩
            · have h16' : (I : Int) ≥ 16 := by omega
              have F : prsB l = false := by
                rw [EP.out.1, decide_eq_false (show ¬ p.length ≤ 16 by omega), Bool.false_and]
              have c1 : CO = 3 := by rw [E1.out, F]; rfl
              have c2 : OP = [] := by rw [E2.out, F]; rfl
              clear E1 E2 F
              subst c1 c2
              clear hr7 d0 d1 d2
              go_wp2
              go_ret2
              exact ⟨_, rfl, OwnG.nil _ _ _, Below.tr B2.out G6.out⟩
        · have hzI : ¬ (I : Int) < (p.length : Int) := by omega
          have e0 : I = p.length := by omega
          subst e0
          have OW' := OW.out
          have AL' := AL.out
          rw [List.take_length] at OW' AL'
          have F : prsB l = true := by rw [EP.out.1, AL', decide_eq_true hI16]; rfl
          have em : p.map opO = p.map rdO := List.map_congr_left fun x hx => opO_rdO (List.all_eq_true.1 AL' x hx)
          have c1 : CO = 0 := by rw [E1.out, F, if_pos rfl]
          have c2 : OP = p.map opO := by rw [E2.out, F, if_pos rfl, EP.out.2, em]
          have O8 := OW'.low B2.out.size
          rw [← c2] at O8
          have O9 : Aside _ := O8
          clear OW OW' AL AL' E1 E2 F em c2 O8
          subst c1
          go_wp2
          go_ret2
          exact ⟨_, rfl, O9.out, Below.tr B2.out G.out⟩

end Go.Proofs.YtoidkiodlfpefaaDoor
